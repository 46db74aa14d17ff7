/- Plain mathematics of a book at work: what a cancel or a replace does, and a command as a whole. No function of the program here. The walks of the specification's small questions over orders: may it meet, which is less, and how an order is shown. -/
import Derived.Test.YtfagldipjpaceaaJoined3
import Derived.Test.YtfagldipjpaceaaOldSeat
import Derived.Test.YtfagldipjpaceaaDoMath
import Derived.Test.YtfagldipjpaceaaOldBook
namespace Go.Proofs.Ytfagldipjpaceaa
namespace Dm
/-- the first place of an Id -/
def seek (L : List Or.E) (id : Int) : Option Nat := if L.findIdx (fun f => decide (f.1 = id)) < L.length then some (L.findIdx (fun f => decide (f.1 = id))) else none
theorem seek_hit {L : List Or.E} {id : Int} {k : Nat} (h : Ob.hits L id k) : seek L id = some k := by
  obtain ⟨hk, he, hb⟩ := h
  have e : L.findIdx (fun f => decide (f.1 = id)) = k := by
    rw [List.findIdx_eq hk]
    refine ⟨?_, fun j hj => ?_⟩
    · have : (Ob.at' L k).1 = id := he
      rw [show Ob.at' L k = L[k] from Rk.at_get L k hk] at this
      simp [this]
    · have := hb j hj
      rw [show Ob.at' L j = L[j]'(by omega) from Rk.at_get L j (by omega)] at this
      simpa using this
  unfold seek
  rw [e, if_pos hk]
theorem seek_miss {L : List Or.E} {id : Int} (h : Ob.lacks L id L.length) : seek L id = none := by
  have e : L.findIdx (fun f => decide (f.1 = id)) = L.length := by
    rw [List.findIdx_eq_length]
    intro f hf
    obtain ⟨j, hj, rfl⟩ := List.getElem_of_mem hf
    have := h j hj
    rw [show Ob.at' L j = L[j] from Rk.at_get L j hj] at this
    simpa using this
  unfold seek
  rw [e, if_neg (Nat.lt_irrefl _)]
def out (L : List Or.E) (k : Nat) : List Or.E := L.take k ++ L.drop (k + 1)
def left (o : Or.E) : Int := o.2.2.2.1 + o.2.2.2.2.2.2.1
def again (o : Or.E) (c : Cm.C) : Or.E := (o.1, o.2.1, c.price, o.2.2.2.1, o.2.2.2.2.1, min o.2.2.2.2.2.1 c.amount, o.2.2.2.2.2.2.1, o.2.2.2.2.2.2.2)
def changeAt (c : Cm.C) (X : Bk) (buy : Bool) (k : Nat) : Int × Bk :=
  if (Ob.at' (X.side buy) k).2.1 ≠ c.owner then (6, X)
  else if c.kind = 3 then (0, (X.put buy (out (X.side buy) k)).tell (3, (Ob.at' (X.side buy) k).1, 0, 0, left (Ob.at' (X.side buy) k)))
  else if c.price = (Ob.at' (X.side buy) k).2.2.1 ∧ c.amount < left (Ob.at' (X.side buy) k) then (0, (X.tell (4, (Ob.at' (X.side buy) k).1, 0, c.price, c.amount)).put buy ((X.side buy).set k (shown (Ob.at' (X.side buy) k) c.amount)))
  else (0, come (again (Ob.at' (X.side buy) k) c) buy c.price c.amount true ((X.tell (4, (Ob.at' (X.side buy) k).1, 0, c.price, c.amount)).put buy (out (X.side buy) k)))
theorem changeAt_no {c : Cm.C} {X : Bk} {buy : Bool} {k : Nat} {o : Or.E} (ho : Ob.at' (X.side buy) k = o) (h1 : o.2.1 ≠ c.owner) : changeAt c X buy k = (6, X) := by
  subst ho
  exact if_pos h1
theorem changeAt_cancel {c : Cm.C} {X : Bk} {buy : Bool} {k : Nat} {o : Or.E} (ho : Ob.at' (X.side buy) k = o) (h1 : o.2.1 = c.owner) (h2 : c.kind = 3) : changeAt c X buy k = (0, (X.put buy (out (X.side buy) k)).tell (3, o.1, 0, 0, left o)) := by
  subst ho
  unfold changeAt
  rw [if_neg (by simpa using h1), if_pos h2]
theorem changeAt_stay {c : Cm.C} {X : Bk} {buy : Bool} {k : Nat} {o : Or.E} (ho : Ob.at' (X.side buy) k = o) (h1 : o.2.1 = c.owner) (h2 : c.kind ≠ 3) (h3 : c.price = o.2.2.1 ∧ c.amount < left o) : changeAt c X buy k = (0, (X.tell (4, o.1, 0, c.price, c.amount)).put buy ((X.side buy).set k (shown o c.amount))) := by
  subst ho
  unfold changeAt
  rw [if_neg (by simpa using h1), if_neg h2, if_pos h3]
theorem changeAt_come {c : Cm.C} {X : Bk} {buy : Bool} {k : Nat} {o : Or.E} (ho : Ob.at' (X.side buy) k = o) (h1 : o.2.1 = c.owner) (h2 : c.kind ≠ 3) (h3 : ¬ (c.price = o.2.2.1 ∧ c.amount < left o)) : changeAt c X buy k = (0, come (again o c) buy c.price c.amount true ((X.tell (4, o.1, 0, c.price, c.amount)).put buy (out (X.side buy) k))) := by
  subst ho
  unfold changeAt
  rw [if_neg (by simpa using h1), if_neg h2, if_neg h3]
def change (c : Cm.C) (X : Bk) : Int × Bk :=
  match seek X.b c.id with
  | some k => changeAt c X true k
  | none => match seek X.a c.id with
    | some k => changeAt c X false k
    | none => (6, X)
theorem change_found {c : Cm.C} {X : Bk} {buy : Bool} {k : Int} (h : Ob.Found X.b X.a c.id buy k) : (k = -1 ∧ change c X = (6, X)) ∨ ∃ j : Nat, k = j ∧ j < (X.side buy).length ∧ change c X = changeAt c X buy j := by
  rcases h with ⟨rfl, j, rfl, hj⟩ | ⟨rfl, hB, ⟨j, rfl, hj⟩ | ⟨rfl, hA⟩⟩
  · exact .inr ⟨j, rfl, hj.1, by simp [change, seek_hit hj]⟩
  · exact .inr ⟨j, rfl, hj.1, by simp [change, seek_miss hB, seek_hit hj]⟩
  · exact .inl ⟨rfl, by simp [change, seek_miss hB, seek_miss hA]⟩
/-- what a right command does -/
def doo (c : Cm.C) (X : Bk) : Int × Bk := if c.kind = 1 ∨ c.kind = 2 then order c X else if c.kind = 3 ∨ c.kind = 4 then change c X else (0, roll X)
theorem out_length (L : List Or.E) (k : Nat) (hk : k < L.length) : (out L k).length + 1 = L.length := by simp [out]; omega
end Dm
end Go.Proofs.Ytfagldipjpaceaa

namespace Go.Proofs.Ytfagldipjpaceaa
open Go.RowKit
set_option linter.unusedVariables false
set_option linter.unusedSimpArgs false
set_option maxHeartbeats 2000000 in
theorem l06Meets_any (buy : Bool) (p q : Int) (w : World) :
    Calls Try.prog 97 #[.bool buy, .int .i64 p, .int .i64 q] w fun e w' => e = .returned (.bool (Dm.meets buy p q)) ∧ w' = w := by
  have HP : Hid (Dm.meets buy p q = (decide (p = 0) || (if buy then decide (q ≤ p) else decide (p ≤ q)))) := rfl
  by_cases h0 : p = 0
  · subst h0
    go_enter Try.func97, Try.ntmps97
    go_wp2_with fail
    go_ret
    exact ⟨by rw [HP.out]; simp, rfl⟩
  · have d0 : decide (p = 0) = false := decide_eq_false h0
    have b0 : (p == 0) = false := by simpa using h0
    cases buy
    · by_cases h1 : p ≤ q
      · have d1 : decide (p ≤ q) = true := decide_eq_true h1
        go_enter Try.func97, Try.ntmps97
        go_wp2_with fail
        go_ret
        exact ⟨by rw [HP.out]; simp [h1], rfl⟩
      · have d1 : decide (p ≤ q) = false := decide_eq_false h1
        go_enter Try.func97, Try.ntmps97
        go_wp2_with fail
        go_ret
        exact ⟨by rw [HP.out]; simp [h0, h1], rfl⟩
    · by_cases h1 : q ≤ p
      · have d1 : decide (q ≤ p) = true := decide_eq_true h1
        go_enter Try.func97, Try.ntmps97
        go_wp2_with fail
        go_ret
        exact ⟨by rw [HP.out]; simp [h1], rfl⟩
      · have d1 : decide (q ≤ p) = false := decide_eq_false h1
        go_enter Try.func97, Try.ntmps97
        go_wp2_with fail
        go_ret
        exact ⟨by rw [HP.out]; simp [h0, h1], rfl⟩
set_option maxHeartbeats 1000000 in
theorem l01Min_any (a b : Int) (w : World) :
    Calls Try.prog 105 #[.int .i64 a, .int .i64 b] w fun e w' => e = .returned (.int .i64 (min a b)) ∧ w' = w := by
  by_cases h : a < b
  · have HM : Hid (min a b = a) := by show _ = _; omega
    go_enter Try.func105, Try.ntmps105
    go_wp2_with fail
    go_ret
    exact ⟨by rw [HM.out]; rfl, rfl⟩
  · have HM : Hid (min a b = b) := by show _ = _; omega
    go_enter Try.func105, Try.ntmps105
    go_wp2_with fail
    go_ret
    exact ⟨by rw [HM.out]; rfl, rfl⟩
/-- an order as a value -/
def Or.vl (o : Or.E) : Value := .agg #[.int .i64 o.1, .int .i64 o.2.1, .int .i64 o.2.2.1, .int .i64 o.2.2.2.1, .bool o.2.2.2.2.1, .int .i64 o.2.2.2.2.2.1, .int .i64 o.2.2.2.2.2.2.1, .bool o.2.2.2.2.2.2.2]
set_option maxRecDepth 100000 in
set_option maxHeartbeats 4000000 in
theorem l06Show_any (i ow p a : Int) (d : Bool) (pk h : Int) (g : Bool) (left : Int) (hl : 0 ≤ left ∧ left ≤ 1000000000) (hp : 0 ≤ pk ∧ pk ≤ 1000000000) (w : World) :
    Calls Try.prog 104 #[.agg #[.int .i64 i, .int .i64 ow, .int .i64 p, .int .i64 a, .bool d, .int .i64 pk, .int .i64 h, .bool g], .int .i64 left] w fun e w' => e = .returned (Or.vl (Dm.shown (i, ow, p, a, d, pk, h, g) left)) ∧ Below w.heap.size w w' := by
  have HB0 : Hid (Below w.heap.size w w) := Below.refl _ _
  go_enter Try.func104, Try.ntmps104
  by_cases h1 : left < pk
  · by_cases h2 : 0 < left
    · have HM : min left left = left := by omega
      have HS : Hid (Dm.shown (i, ow, p, a, d, pk, h, g) left = (i, ow, p, left, d, left, 0, g)) := by show _ = _; simp [Dm.shown, h1, h2]
      go_wp2_with (go_at_call 105; refine (l01Min_any _ _ _).mono ?_; rintro e w' ⟨rfl, rfl⟩)
      refine bodyPost_ret (v := Or.vl (i, ow, p, left, d, left, 0, g)) (by simp [results, Try.results104, go_sem, Or.vl] <;> rfl) rfl ⟨by rw [HS.out], ?_⟩
      repeat (first | exact HB0.out | refine Below.alloc ?_ (by simp <;> omega) _ | refine Below.setCell ?_ (by simp <;> omega) _)
    · have HS : Hid (Dm.shown (i, ow, p, a, d, pk, h, g) left = (i, ow, p, left, d, left, 0, g)) := by show _ = _; simp [Dm.shown, h1, h2]
      go_wp2_with (go_at_call 105; refine (l01Min_any _ _ _).mono ?_; rintro e w' ⟨rfl, rfl⟩)
      refine bodyPost_ret (v := Or.vl (i, ow, p, left, d, left, 0, g)) (by simp [results, Try.results104, go_sem, Or.vl] <;> rfl) rfl ⟨by rw [HS.out], ?_⟩
      repeat (first | exact HB0.out | refine Below.alloc ?_ (by simp <;> omega) _ | refine Below.setCell ?_ (by simp <;> omega) _)
  · by_cases h2 : 0 < pk
    · have HM : min pk left = pk := by omega
      have h3 : ¬ left < pk := h1
      have HS : Hid (Dm.shown (i, ow, p, a, d, pk, h, g) left = (i, ow, p, pk, d, pk, left - pk, g)) := by show _ = _; simp [Dm.shown, h1, h2, HM]
      go_wp2_with (go_at_call 105; refine (l01Min_any _ _ _).mono ?_; rintro e w' ⟨rfl, rfl⟩)
      refine bodyPost_ret (v := Or.vl (i, ow, p, pk, d, pk, left - pk, g)) (by simp [results, Try.results104, go_sem, Or.vl] <;> rfl) rfl ⟨by rw [HS.out], ?_⟩
      repeat (first | exact HB0.out | refine Below.alloc ?_ (by simp <;> omega) _ | refine Below.setCell ?_ (by simp <;> omega) _)
    · have HS : Hid (Dm.shown (i, ow, p, a, d, pk, h, g) left = (i, ow, p, left, d, pk, 0, g)) := by show _ = _; simp [Dm.shown, h1, h2]
      go_wp2_with (go_at_call 105; refine (l01Min_any _ _ _).mono ?_; rintro e w' ⟨rfl, rfl⟩)
      refine bodyPost_ret (v := Or.vl (i, ow, p, left, d, pk, 0, g)) (by simp [results, Try.results104, go_sem, Or.vl] <;> rfl) rfl ⟨by rw [HS.out], ?_⟩
      repeat (first | exact HB0.out | refine Below.alloc ?_ (by simp <;> omega) _ | refine Below.setCell ?_ (by simp <;> omega) _)
end Go.Proofs.Ytfagldipjpaceaa

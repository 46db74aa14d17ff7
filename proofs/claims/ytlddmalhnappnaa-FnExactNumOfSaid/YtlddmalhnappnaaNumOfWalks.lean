/- The walks of both NumOf: each answers 'numOf'. -/
import Derived.Test.YtlddmalhnappnaaFieldOfWalks
import Derived.Test.YtlddmalhnappnaaGetNumSpec
import Derived.Test.YtlddmalhnappnaaDecMore
namespace Go.Proofs.Ytlddmalhnappnaa
open Go.RowKit
set_option linter.unusedVariables false
set_option linter.unusedSimpArgs false
namespace Rc
/-- what NumOf tells: a number and a code -/
def numOf (K : Int) (L : List Fd.E) (id : Int) : Int × Int :=
  if (fieldOf K L id).2 = 0 then
    (if (Dc.getNum (fieldOf K L id).1 0).2.2 = 0 ∧ (Dc.getNum (fieldOf K L id).1 0).2.1 = ((fieldOf K L id).1.size : Int) then ((Dc.getNum (fieldOf K L id).1 0).1, 0) else (0, 3))
  else (0, (fieldOf K L id).2)
theorem numOf_code {K : Int} {L : List Fd.E} {id : Int} {t : ByteArray} {c : Int} (h : fieldOf K L id = (t, c)) (hc : c ≠ 0) : numOf K L id = (0, c) := by simp [numOf, h, hc]
theorem numOf_ok {K : Int} {L : List Fd.E} {id : Int} {t : ByteArray} {n x : Int} (h : fieldOf K L id = (t, 0)) (hg : Dc.getNum t 0 = (n, x, 0)) (hx : x = t.size) : numOf K L id = (n, 0) := by simp [numOf, h, hg, hx]
theorem numOf_ill {K : Int} {L : List Fd.E} {id : Int} {t : ByteArray} {n x e : Int} (h : fieldOf K L id = (t, 0)) (hg : Dc.getNum t 0 = (n, x, e)) (hx : e ≠ 0 ∨ x ≠ t.size) : numOf K L id = (0, 3) := by
  have : ¬ (e = 0 ∧ x = (t.size : Int)) := by rcases hx with h | h <;> simp [h]
  simp [numOf, h, hg, this]
theorem fieldOf_size {K : Int} {L : List Fd.E} {id : Int} {t : ByteArray} {c : Int} (h : fieldOf K L id = (t, c)) : t.size ≤ 500 := by
  unfold fieldOf at h
  cases hr : right K L with
  | false => rw [hr] at h; simp at h; rw [← h.1]; decide
  | true =>
    rw [hr] at h
    simp only [if_true] at h
    split at h
    · simp at h; rw [← h.1]; exact textAt_small hr _
    · simp at h; rw [← h.1]; decide
end Rc

set_option maxHeartbeats 2000000 in
theorem numOf_impl (K id : Int) (v : Value) (L : List Fd.E) (w : World) (hv : Rk.View Fd.S w v L) (hL : ∀ f ∈ L, Fd.Fit f) (hl : L.length ≤ maxLen) :
    Calls Try.prog 20 #[.agg #[.int .i64 K, v], .int .i64 id] w fun e w' => e = .returned (.agg #[.int .i64 (Rc.numOf K L id).1, .int .i64 0, .int .i64 (Rc.numOf K L id).2]) ∧ Below w.heap.size w w' := by
  obtain ⟨W, hW⟩ : ∃ W, W = (w.alloc (.cells #[.int .i64 K, v] 29)).alloc (.cells #[.int .i64 0, .int .i64 0, .int .i64 0] 40) := ⟨_, rfl⟩
  have b0 : Below w.heap.size w W := by
    rw [hW]
    repeat (first | exact Below.refl _ _ | refine Below.alloc ?_ (by simp <;> omega) _)
  have hv' := hv.below b0
  have q0 : W.cell? ⟨w.heap.size + 1, 0, none⟩ = some (.int .i64 0) := by rw [hW, Fk.cellTop _ _ _ _ _ (by simp)]; rfl
  have q1 : W.cell? ⟨w.heap.size + 1, 1, none⟩ = some (.int .i64 0) := by rw [hW, Fk.cellTop _ _ _ _ _ (by simp)]; rfl
  have q2 : W.cell? ⟨w.heap.size + 1, 2, none⟩ = some (.int .i64 0) := by rw [hW, Fk.cellTop _ _ _ _ _ (by simp)]; rfl
  have qf : ∀ j, W.frozen? ⟨w.heap.size + 1, j, none⟩ = false := fun j => by rw [hW, Fk.frozTop _ _ _ _ _ (by simp)]
  have hsz : W.heap.size = w.heap.size + 2 := by rw [hW]; simp
  have HW := Fk.hide hW
  clear hW hv
  have HV := Fk.hide hv'
  obtain ⟨a, cap, rfl, hs⟩ := hv'
  clear hs
  go_enter Try.func20, Try.ntmps20
  go_wp2_with fail
  rw [← HW.out]
  refine (fieldOf_impl K id _ L _ HV.out hL hl).mono ?_
  rintro e w1 ⟨rfl, b1⟩
  obtain ⟨⟨t, c⟩, hr⟩ : ∃ r, r = Rc.fieldOf K L id := ⟨_, rfl⟩
  rw [← hr]
  have HR := Fk.hide hr.symm
  have hts : t.size ≤ 500 := Rc.fieldOf_size hr.symm
  clear hr
  obtain ⟨W2, hW2⟩ : ∃ W2, W2 = w1.alloc (.cells #[.string t, .int .i64 0, .int .i64 c] 35) := ⟨_, rfl⟩
  have b2 : Below w1.heap.size w1 W2 := by rw [hW2]; exact (Below.refl _ _).alloc (Nat.le_refl _) _
  have hz1 := b1.size
  have hz2 : W2.heap.size = w1.heap.size + 1 := by rw [hW2]; simp
  have B2 := Fk.hide ((b0.trans (b1.mono b0.size)).trans (b2.mono (Nat.le_trans b0.size b1.size)))
  have p0 : W2.cell? ⟨w.heap.size + 1, 0, none⟩ = some (.int .i64 0) := (b2.cell (by show w.heap.size + 1 < _; omega)).trans ((b1.cell (by show w.heap.size + 1 < _; omega)).trans q0)
  have p1 : W2.cell? ⟨w.heap.size + 1, 1, none⟩ = some (.int .i64 0) := (b2.cell (by show w.heap.size + 1 < _; omega)).trans ((b1.cell (by show w.heap.size + 1 < _; omega)).trans q1)
  have p2 : W2.cell? ⟨w.heap.size + 1, 2, none⟩ = some (.int .i64 0) := (b2.cell (by show w.heap.size + 1 < _; omega)).trans ((b1.cell (by show w.heap.size + 1 < _; omega)).trans q2)
  have pf : ∀ j, W2.frozen? ⟨w.heap.size + 1, j, none⟩ = false := fun j => (b2.frozen (by show w.heap.size + 1 < _; omega)).trans ((b1.frozen (by show w.heap.size + 1 < _; omega)).trans (qf j))
  have d0 : W2.cell? ⟨w1.heap.size, 0, none⟩ = some (.string t) := by rw [hW2, Fk.cellTop _ _ _ _ _ rfl]; rfl
  have d2 : W2.cell? ⟨w1.heap.size, 2, none⟩ = some (.int .i64 c) := by rw [hW2, Fk.cellTop _ _ _ _ _ rfl]; rfl
  have r0 := (b1.cell (p := ⟨w.heap.size + 1, 0, none⟩) (by show w.heap.size + 1 < _; omega)).trans q0
  have r1 := (b1.cell (p := ⟨w.heap.size + 1, 1, none⟩) (by show w.heap.size + 1 < _; omega)).trans q1
  have r2 := (b1.cell (p := ⟨w.heap.size + 1, 2, none⟩) (by show w.heap.size + 1 < _; omega)).trans q2
  have rf : ∀ j, w1.frozen? ⟨w.heap.size + 1, j, none⟩ = false := fun j => (b1.frozen (by show w.heap.size + 1 < _; omega)).trans (qf j)
  have hne : w.heap.size + 1 ≠ w1.heap.size := by omega
  have hlt : w.heap.size + 1 < w1.heap.size := by omega
  have HW2 := Fk.hide hW2
  clear hW2 b1 b2 q0 q1 q2 qf
  by_cases hc : c = 0
  · subst hc
    obtain ⟨⟨n, x, k⟩, hg⟩ : ∃ r, r = Dc.getNum t 0 := ⟨_, rfl⟩
    have HG := Fk.hide hg.symm
    clear hg
    go_wp2_with fail
    rw [← HW2.out]
    refine (readNum_any t 0 _ (by unfold maxLen; omega) (by decide)).mono ?_
    rintro e w3 ⟨rfl, rfl⟩
    rw [HG.out]
    by_cases hk : k = 0
    · subst hk
      rw [show readRes (n, x, 0) = .tuple #[.int .i64 n, .int .i64 x, .nilIface] from rfl]
      by_cases hx : x = (t.size : Int)
      · have HA : Hid (Rc.numOf K L id = (n, 0)) := Rc.numOf_ok HR.out HG.out hx
        subst hx
        go_wp2_with fail
        refine bodyPost_ret (v := .agg #[.int .i64 n, .int .i64 0, .int .i64 0]) (by simp [results, Try.results20, go_sem, p0, p1, p2] <;> rfl) rfl ⟨by rw [HA.out], ?_⟩
        exact ((B2.out.setCell (by simp) _).setCell (by simp) _).setCell (by simp) _
      · have HA : Hid (Rc.numOf K L id = (0, 3)) := Rc.numOf_ill HR.out HG.out (.inr hx)
        go_wp2_with fail
        refine bodyPost_ret (v := .agg #[.int .i64 0, .int .i64 0, .int .i64 3]) (by simp [results, Try.results20, go_sem, p0, p1, p2] <;> rfl) rfl ⟨by rw [HA.out], ?_⟩
        exact ((B2.out.setCell (by simp) _).setCell (by simp) _).setCell (by simp) _
    · have HA : Hid (Rc.numOf K L id = (0, 3)) := Rc.numOf_ill HR.out HG.out (.inl hk)
      rw [show readRes (n, x, k) = .tuple #[.int .i64 n, .int .i64 x, .iface 93 (.agg #[.int .i64 k])] by simp [readRes, hk]]
      go_wp2_with fail
      refine bodyPost_ret (v := .agg #[.int .i64 0, .int .i64 0, .int .i64 3]) (by simp [results, Try.results20, go_sem, p0, p1, p2] <;> rfl) rfl ⟨by rw [HA.out], ?_⟩
      exact ((B2.out.setCell (by simp) _).setCell (by simp) _).setCell (by simp) _
  · have HA : Hid (Rc.numOf K L id = (0, c)) := Rc.numOf_code HR.out hc
    have l0 : (w1.alloc (.cells #[.string t, .int .i64 0, .int .i64 c] 35)).cell? ⟨w.heap.size + 1, 0, none⟩ = some (.int .i64 0) := by rw [← HW2.out]; exact p0
    have l1 : (w1.alloc (.cells #[.string t, .int .i64 0, .int .i64 c] 35)).cell? ⟨w.heap.size + 1, 1, none⟩ = some (.int .i64 0) := by rw [← HW2.out]; exact p1
    have l2 : (w1.alloc (.cells #[.string t, .int .i64 0, .int .i64 c] 35)).cell? ⟨w.heap.size + 1, 2, none⟩ = some (.int .i64 0) := by rw [← HW2.out]; exact p2
    have lf : ∀ j, (w1.alloc (.cells #[.string t, .int .i64 0, .int .i64 c] 35)).frozen? ⟨w.heap.size + 1, j, none⟩ = false := fun j => by rw [← HW2.out]; exact pf j
    clear hne hlt r0 r1 r2 rf hz1 hz2 hsz
    go_wp2_with fail
    refine bodyPost_ret (v := .agg #[.int .i64 0, .int .i64 0, .int .i64 c]) (by simp [results, Try.results20, go_sem, l0, l1, l2] <;> rfl) rfl ⟨by rw [HA.out], ?_⟩
    rw [← HW2.out]
    exact ((B2.out.setCell (by simp) _).setCell (by simp) _).setCell (by simp) _

set_option maxHeartbeats 2000000 in
theorem numOf_spec (K id : Int) (v : Value) (L : List Fd.E) (w : World) (hv : Rk.View Fd.S w v L) (hL : ∀ f ∈ L, Fd.Fit f) (hl : L.length ≤ maxLen) :
    Calls Try.prog 19 #[.agg #[.int .i64 K, v], .int .i64 id] w fun e w' => e = .returned (.agg #[.int .i64 (Rc.numOf K L id).1, .int .i64 0, .int .i64 (Rc.numOf K L id).2]) ∧ Below w.heap.size w w' := by
  obtain ⟨W, hW⟩ : ∃ W, W = (w.alloc (.cells #[.int .i64 K, v] 29)).alloc (.cells #[.int .i64 0, .int .i64 0, .int .i64 0] 40) := ⟨_, rfl⟩
  have b0 : Below w.heap.size w W := by
    rw [hW]
    repeat (first | exact Below.refl _ _ | refine Below.alloc ?_ (by simp <;> omega) _)
  have hv' := hv.below b0
  have q0 : W.cell? ⟨w.heap.size + 1, 0, none⟩ = some (.int .i64 0) := by rw [hW, Fk.cellTop _ _ _ _ _ (by simp)]; rfl
  have q1 : W.cell? ⟨w.heap.size + 1, 1, none⟩ = some (.int .i64 0) := by rw [hW, Fk.cellTop _ _ _ _ _ (by simp)]; rfl
  have q2 : W.cell? ⟨w.heap.size + 1, 2, none⟩ = some (.int .i64 0) := by rw [hW, Fk.cellTop _ _ _ _ _ (by simp)]; rfl
  have qf : ∀ j, W.frozen? ⟨w.heap.size + 1, j, none⟩ = false := fun j => by rw [hW, Fk.frozTop _ _ _ _ _ (by simp)]
  have hsz : W.heap.size = w.heap.size + 2 := by rw [hW]; simp
  have HW := Fk.hide hW
  clear hW hv
  have HV := Fk.hide hv'
  obtain ⟨a, cap, rfl, hs⟩ := hv'
  clear hs
  go_enter Try.func19, Try.ntmps19
  go_wp2_with fail
  rw [← HW.out]
  refine (fieldOf_spec K id _ L _ HV.out hL hl).mono ?_
  rintro e w1 ⟨rfl, b1⟩
  obtain ⟨⟨t, c⟩, hr⟩ : ∃ r, r = Rc.fieldOf K L id := ⟨_, rfl⟩
  rw [← hr]
  have HR := Fk.hide hr.symm
  have hts : t.size ≤ 500 := Rc.fieldOf_size hr.symm
  clear hr
  obtain ⟨W2, hW2⟩ : ∃ W2, W2 = w1.alloc (.cells #[.string t, .int .i64 0, .int .i64 c] 35) := ⟨_, rfl⟩
  have b2 : Below w1.heap.size w1 W2 := by rw [hW2]; exact (Below.refl _ _).alloc (Nat.le_refl _) _
  have hz1 := b1.size
  have hz2 : W2.heap.size = w1.heap.size + 1 := by rw [hW2]; simp
  have B2 := Fk.hide ((b0.trans (b1.mono b0.size)).trans (b2.mono (Nat.le_trans b0.size b1.size)))
  have p0 : W2.cell? ⟨w.heap.size + 1, 0, none⟩ = some (.int .i64 0) := (b2.cell (by show w.heap.size + 1 < _; omega)).trans ((b1.cell (by show w.heap.size + 1 < _; omega)).trans q0)
  have p1 : W2.cell? ⟨w.heap.size + 1, 1, none⟩ = some (.int .i64 0) := (b2.cell (by show w.heap.size + 1 < _; omega)).trans ((b1.cell (by show w.heap.size + 1 < _; omega)).trans q1)
  have p2 : W2.cell? ⟨w.heap.size + 1, 2, none⟩ = some (.int .i64 0) := (b2.cell (by show w.heap.size + 1 < _; omega)).trans ((b1.cell (by show w.heap.size + 1 < _; omega)).trans q2)
  have pf : ∀ j, W2.frozen? ⟨w.heap.size + 1, j, none⟩ = false := fun j => (b2.frozen (by show w.heap.size + 1 < _; omega)).trans ((b1.frozen (by show w.heap.size + 1 < _; omega)).trans (qf j))
  have d0 : W2.cell? ⟨w1.heap.size, 0, none⟩ = some (.string t) := by rw [hW2, Fk.cellTop _ _ _ _ _ rfl]; rfl
  have d2 : W2.cell? ⟨w1.heap.size, 2, none⟩ = some (.int .i64 c) := by rw [hW2, Fk.cellTop _ _ _ _ _ rfl]; rfl
  have r0 := (b1.cell (p := ⟨w.heap.size + 1, 0, none⟩) (by show w.heap.size + 1 < _; omega)).trans q0
  have r1 := (b1.cell (p := ⟨w.heap.size + 1, 1, none⟩) (by show w.heap.size + 1 < _; omega)).trans q1
  have r2 := (b1.cell (p := ⟨w.heap.size + 1, 2, none⟩) (by show w.heap.size + 1 < _; omega)).trans q2
  have rf : ∀ j, w1.frozen? ⟨w.heap.size + 1, j, none⟩ = false := fun j => (b1.frozen (by show w.heap.size + 1 < _; omega)).trans (qf j)
  have hne : w.heap.size + 1 ≠ w1.heap.size := by omega
  have hlt : w.heap.size + 1 < w1.heap.size := by omega
  have HW2 := Fk.hide hW2
  clear hW2 b1 b2 q0 q1 q2 qf
  by_cases hc : c = 0
  · subst hc
    obtain ⟨⟨n, x, k⟩, hg⟩ : ∃ r, r = Dc.getNum t 0 := ⟨_, rfl⟩
    have HG := Fk.hide hg.symm
    clear hg
    go_wp2_with fail
    rw [← HW2.out]
    refine (specGetNum_any t 0 _ (by unfold maxLen; omega) (by decide)).mono ?_
    rintro e w3 ⟨rfl, b3⟩
    rw [HG.out, show numOut (n, x, k) = .agg #[.int .i64 n, .int .i64 x, .int .i64 k] from rfl]
    have B3 := Fk.hide (B2.out.trans (b3.mono B2.out.size))
    have hz3 := b3.size
    have s0 : w3.cell? ⟨w.heap.size + 1, 0, none⟩ = some (.int .i64 0) := (b3.cell (by show w.heap.size + 1 < _; omega)).trans p0
    have s1 : w3.cell? ⟨w.heap.size + 1, 1, none⟩ = some (.int .i64 0) := (b3.cell (by show w.heap.size + 1 < _; omega)).trans p1
    have s2 : w3.cell? ⟨w.heap.size + 1, 2, none⟩ = some (.int .i64 0) := (b3.cell (by show w.heap.size + 1 < _; omega)).trans p2
    have sf : ∀ j, w3.frozen? ⟨w.heap.size + 1, j, none⟩ = false := fun j => (b3.frozen (by show w.heap.size + 1 < _; omega)).trans (pf j)
    have e0 : w3.cell? ⟨w1.heap.size, 0, none⟩ = some (.string t) := (b3.cell (by show w1.heap.size < _; omega)).trans d0
    clear b3
    obtain ⟨W4, hW4⟩ : ∃ W4, W4 = w3.alloc (.cells #[.int .i64 n, .int .i64 x, .int .i64 k] 40) := ⟨_, rfl⟩
    have b4 : Below w3.heap.size w3 W4 := by rw [hW4]; exact (Below.refl _ _).alloc (Nat.le_refl _) _
    have HW4 := Fk.hide hW4
    have B4 := Fk.hide (B3.out.trans (b4.mono B3.out.size))
    have l0 : (w3.alloc (.cells #[.int .i64 n, .int .i64 x, .int .i64 k] 40)).cell? ⟨w.heap.size + 1, 0, none⟩ = some (.int .i64 0) := by rw [Fk.cellOld _ _ _ _ (by omega)]; exact s0
    have l1 : (w3.alloc (.cells #[.int .i64 n, .int .i64 x, .int .i64 k] 40)).cell? ⟨w.heap.size + 1, 1, none⟩ = some (.int .i64 0) := by rw [Fk.cellOld _ _ _ _ (by omega)]; exact s1
    have l2 : (w3.alloc (.cells #[.int .i64 n, .int .i64 x, .int .i64 k] 40)).cell? ⟨w.heap.size + 1, 2, none⟩ = some (.int .i64 0) := by rw [Fk.cellOld _ _ _ _ (by omega)]; exact s2
    have lf : ∀ j, (w3.alloc (.cells #[.int .i64 n, .int .i64 x, .int .i64 k] 40)).frozen? ⟨w.heap.size + 1, j, none⟩ = false := fun j => by rw [Fk.frozOld _ _ _ _ (by omega)]; exact sf j
    have l3 : (w3.alloc (.cells #[.int .i64 n, .int .i64 x, .int .i64 k] 40)).cell? ⟨w1.heap.size, 0, none⟩ = some (.string t) := by rw [Fk.cellOld _ _ _ _ (by omega)]; exact e0
    clear hW4 b4 p0 p1 p2 pf d0 d2 hne hlt r0 r1 r2 rf s0 s1 s2 sf e0 hz1 hz2 hz3 hsz
    by_cases hk : k = 0
    · subst hk
      by_cases hx : x = (t.size : Int)
      · have HA : Hid (Rc.numOf K L id = (n, 0)) := Rc.numOf_ok HR.out HG.out hx
        subst hx
        go_wp2_with fail
        refine bodyPost_ret (v := .agg #[.int .i64 n, .int .i64 0, .int .i64 0]) (by simp [results, Try.results19, go_sem, l0, l1, l2] <;> rfl) rfl ⟨by rw [HA.out], ?_⟩
        rw [← HW4.out]
        exact ((B4.out.setCell (by simp) _).setCell (by simp) _).setCell (by simp) _
      · have HA : Hid (Rc.numOf K L id = (0, 3)) := Rc.numOf_ill HR.out HG.out (.inr hx)
        go_wp2_with fail
        refine bodyPost_ret (v := .agg #[.int .i64 0, .int .i64 0, .int .i64 3]) (by simp [results, Try.results19, go_sem, l0, l1, l2] <;> rfl) rfl ⟨by rw [HA.out], ?_⟩
        rw [← HW4.out]
        exact ((B4.out.setCell (by simp) _).setCell (by simp) _).setCell (by simp) _
    · have HA : Hid (Rc.numOf K L id = (0, 3)) := Rc.numOf_ill HR.out HG.out (.inl hk)
      go_wp2_with fail
      refine bodyPost_ret (v := .agg #[.int .i64 0, .int .i64 0, .int .i64 3]) (by simp [results, Try.results19, go_sem, l0, l1, l2] <;> rfl) rfl ⟨by rw [HA.out], ?_⟩
      rw [← HW4.out]
      exact ((B4.out.setCell (by simp) _).setCell (by simp) _).setCell (by simp) _
  · have HA : Hid (Rc.numOf K L id = (0, c)) := Rc.numOf_code HR.out hc
    have l0 : (w1.alloc (.cells #[.string t, .int .i64 0, .int .i64 c] 35)).cell? ⟨w.heap.size + 1, 0, none⟩ = some (.int .i64 0) := by rw [← HW2.out]; exact p0
    have l1 : (w1.alloc (.cells #[.string t, .int .i64 0, .int .i64 c] 35)).cell? ⟨w.heap.size + 1, 1, none⟩ = some (.int .i64 0) := by rw [← HW2.out]; exact p1
    have l2 : (w1.alloc (.cells #[.string t, .int .i64 0, .int .i64 c] 35)).cell? ⟨w.heap.size + 1, 2, none⟩ = some (.int .i64 0) := by rw [← HW2.out]; exact p2
    have lf : ∀ j, (w1.alloc (.cells #[.string t, .int .i64 0, .int .i64 c] 35)).frozen? ⟨w.heap.size + 1, j, none⟩ = false := fun j => by rw [← HW2.out]; exact pf j
    clear hne hlt r0 r1 r2 rf hz1 hz2 hsz
    go_wp2_with fail
    refine bodyPost_ret (v := .agg #[.int .i64 0, .int .i64 0, .int .i64 c]) (by simp [results, Try.results19, go_sem, l0, l1, l2] <;> rfl) rfl ⟨by rw [HA.out], ?_⟩
    rw [← HW2.out]
    exact ((B2.out.setCell (by simp) _).setCell (by simp) _).setCell (by simp) _
end Go.Proofs.Ytlddmalhnappnaa

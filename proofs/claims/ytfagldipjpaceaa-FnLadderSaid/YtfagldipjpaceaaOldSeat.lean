/- The place of an order in a book, in plain words, and the specification's look for it. -/
import Derived.Test.YtfagldipjpaceaaOldBest
namespace Go.Proofs.Ytfagldipjpaceaa
open Go.RowKit
set_option linter.unusedVariables false
set_option linter.unusedSimpArgs false
namespace Ob
/-- no order of the first ones has the Id -/
def lacks (L : List Or.E) (id : Int) (k : Nat) : Prop := ∀ j, j < k → (at' L j).1 ≠ id
/-- the order at a place is the first of its Id -/
def hits (L : List Or.E) (id : Int) (k : Nat) : Prop := k < L.length ∧ (at' L k).1 = id ∧ lacks L id k
theorem hits_one {L : List Or.E} {id : Int} {j k : Nat} (h : hits L id j) (h' : hits L id k) : j = k := by
  rcases Nat.lt_trichotomy j k with c | c | c
  · exact absurd h.2.1 (h'.2.2 j c)
  · exact c
  · exact absurd h'.2.1 (h.2.2 k c)
/-- the order of an Id of a right book -/
noncomputable def find (B A : List Or.E) (n id : Int) : Or.E := by
  classical
  exact if right B A n then (if h : ∃ k, hits B id k then at' B h.choose else if h : ∃ k, hits A id k then at' A h.choose else Or.S.z) else Or.S.z
theorem find_ill {B A : List Or.E} {n id : Int} (h : right B A n = false) : find B A n id = Or.S.z := by simp [find, h]
theorem find_bid {B A : List Or.E} {n id : Int} {k : Nat} (h : right B A n = true) (hk : hits B id k) : find B A n id = at' B k := by
  have e : ∃ k, hits B id k := ⟨k, hk⟩
  simp only [find, h, if_true, dif_pos e]
  rw [hits_one e.choose_spec hk]
theorem find_ask {B A : List Or.E} {n id : Int} {k : Nat} (h : right B A n = true) (hB : lacks B id B.length) (hk : hits A id k) : find B A n id = at' A k := by
  have e0 : ¬ ∃ k, hits B id k := fun ⟨j, hj⟩ => hB j hj.1 hj.2.1
  have e : ∃ k, hits A id k := ⟨k, hk⟩
  simp only [find, h, if_true, dif_neg e0, dif_pos e]
  rw [hits_one e.choose_spec hk]
theorem find_none {B A : List Or.E} {n id : Int} (h : right B A n = true) (hB : lacks B id B.length) (hA : lacks A id A.length) : find B A n id = Or.S.z := by
  have e0 : ¬ ∃ k, hits B id k := fun ⟨j, hj⟩ => hB j hj.1 hj.2.1
  have e1 : ¬ ∃ k, hits A id k := fun ⟨j, hj⟩ => hA j hj.1 hj.2.1
  simp only [find, h, if_true, dif_neg e0, dif_neg e1]
/-- what a look for an Id finds: which side, and where -/
def Found (B A : List Or.E) (id : Int) (buy : Bool) (k : Int) : Prop :=
  (buy = true ∧ ∃ j : Nat, k = j ∧ hits B id j) ∨ (buy = false ∧ lacks B id B.length ∧ ((∃ j : Nat, k = j ∧ hits A id j) ∨ (k = -1 ∧ lacks A id A.length)))
end Ob

set_option maxHeartbeats 4000000 in
theorem find_spec (bb : Nat) (x y : Value) (id : Int) (B A : List Or.E) (w : World) (hb : bb < w.heap.size) (c0 : w.cell? ⟨bb, 0, none⟩ = some x) (c1 : w.cell? ⟨bb, 1, none⟩ = some y) (hx : Rk.View Or.S w x B) (hy : Rk.View Or.S w y A) (l0 : B.length ≤ 1048576) (l1 : A.length ≤ 1048576) :
    Calls Try.prog 48 #[.pointer (some ⟨bb, 0, none⟩), .int .i64 id] w fun e w' => (∃ buy k, e = .returned (.tuple #[.bool buy, .int .i64 k]) ∧ Ob.Found B A id buy k) ∧ Below w.heap.size w w' := by
  obtain ⟨a0, cap0, rfl, hs0⟩ := hx
  obtain ⟨a1, cap1, rfl, hs1⟩ := hy
  go_enter Try.func48, Try.ntmps48
  go_wp2_with fail
  go_loopw [6] (fun i wr => ∃ k : Nat, k ≤ B.length ∧ i = .int .i64 k ∧ Hid (Ob.lacks B id k) ∧ Below w.heap.size w wr) (fun i _ => B.length - (intOf i).toNat)
  case atStart => exact ⟨0, Nat.zero_le _, rfl, fun j hj => absurd hj (by omega), Below.refl _ _⟩
  case round =>
    obtain ⟨k, hk, rfl, HK, bel⟩ := hrel
    have d0 := (bel.cell (p := ⟨bb, 0, none⟩) (by show bb < _; omega)).trans c0
    have d1 := (bel.cell (p := ⟨bb, 1, none⟩) (by show bb < _; omega)).trans c1
    have HBD : Hid (Below w.heap.size w wr.drew) := bel.trans ((Below.drew (Below.refl wr.heap.size wr)).mono bel.size)
    by_cases hlt : k < B.length
    · obtain ⟨b, o, rfl, hb', hsB⟩ := hs0 (by omega)
      have q0 := Or.c0 (hsB.below hb' bel) hlt
      obtain ⟨f, hf⟩ : ∃ f, f = (Rk.at_ Or.S B k).1 := ⟨_, rfl⟩
      have HF := Fk.hide hf
      rw [← hf] at q0
      clear hf
      by_cases heq : f = id
      · have HH : Hid (Ob.hits B id k) := ⟨hlt, by unfold Ob.at'; rw [← HF.out, heq], HK.out⟩
        go_wp2_with fail
        first
          | (go_ret2; exact ⟨⟨_, _, rfl, .inl ⟨rfl, k, rfl, HH.out⟩⟩, bel⟩)
          | (go_region; all_goals (go_wp2_with fail; go_ret2; exact ⟨⟨_, _, rfl, .inl ⟨rfl, k, rfl, HH.out⟩⟩, HBD.out⟩))
      · go_wp2_with fail
        go_roundw
        case rel =>
          refine ⟨k + 1, by omega, by go_num, (fun j hj => ?_), bel⟩
          by_cases e : j = k
          · rw [e]; intro h; exact heq (by rw [HF.out]; exact h)
          · exact HK.out j (by omega)
        case measure => simp [intOf]; omega
    · have e : k = B.length := by omega
      subst e
      go_wp2_with fail
      go_loopw [7] (fun i wi => ∃ k : Nat, k ≤ A.length ∧ i = .int .i64 k ∧ Hid (Ob.lacks A id k) ∧ Below w.heap.size w wi) (fun i _ => A.length - (intOf i).toNat)
      case atStart => exact ⟨0, Nat.zero_le _, rfl, fun j hj => absurd hj (by omega), bel⟩
      case round =>
        obtain ⟨k, hk, rfl, HJ, beli⟩ := hrel
        have g0 := (beli.cell (p := ⟨bb, 0, none⟩) (by show bb < _; omega)).trans c0
        have g1 := (beli.cell (p := ⟨bb, 1, none⟩) (by show bb < _; omega)).trans c1
        by_cases hlt : k < A.length
        · obtain ⟨b, o, rfl, hb', hsA⟩ := hs1 (by omega)
          have q0 := Or.c0 (hsA.below hb' beli) hlt
          obtain ⟨f, hf⟩ : ∃ f, f = (Rk.at_ Or.S A k).1 := ⟨_, rfl⟩
          have HF := Fk.hide hf
          rw [← hf] at q0
          clear hf
          by_cases heq : f = id
          · have HH : Hid (Ob.hits A id k) := ⟨hlt, by unfold Ob.at'; rw [← HF.out, heq], HJ.out⟩
            go_wp2_with fail
            go_ret2
            exact ⟨⟨_, _, rfl, .inr ⟨rfl, HK.out, .inl ⟨k, rfl, HH.out⟩⟩⟩, beli⟩
          · go_wp2_with fail
            go_roundw
            case rel =>
              refine ⟨k + 1, by omega, by go_num, (fun j hj => ?_), beli⟩
              by_cases e : j = k
              · rw [e]; intro h; exact heq (by rw [HF.out]; exact h)
              · exact HJ.out j (by omega)
            case measure => simp [intOf]; omega
        · have e : k = A.length := by omega
          subst e
          go_wp2_with fail
          go_ret2
          exact ⟨⟨_, _, rfl, .inr ⟨rfl, HK.out, .inr ⟨rfl, HJ.out⟩⟩⟩, beli⟩
end Go.Proofs.Ytfagldipjpaceaa

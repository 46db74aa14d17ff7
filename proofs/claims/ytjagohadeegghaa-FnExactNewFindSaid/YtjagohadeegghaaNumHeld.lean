/- The walk of the law's own look at marks of numbers, and numbers as a list's elements. -/
import Derived.Test.YtjagohadeegghaaNumKit
import Derived.Test.YtjagohadeegghaaRowsKit
namespace Go.Proofs.Ytjagohadeegghaa
open Go.RowKit
set_option linter.unusedVariables false
set_option linter.unusedSimpArgs false
/-- a number as a list's element -/
def Iq.S : Rk.Shape Int where
  m := 1
  cs i := [.int .i64 i]
  z := 0
  pos := by decide
  len := fun _ => rfl
  one := fun a u hu => by
    simp at hu
    subst hu; rfl
theorem Iq.flat_tc (L : List Int) : Rk.flat Iq.S L = Ik.tc L := by
  induction L with
  | nil => rfl
  | cons f r ih => rw [Rk.flat_cons, ih]; rfl
theorem Iq.own {w : World} {base : Nat} {e : TypeId} {v : Value} {L : List Int} (h : Rk.Own Iq.S w base e v L) : Ik.Own w base e v L := by
  unfold Rk.Own at h
  rw [Iq.flat_tc] at h
  exact h
set_option maxHeartbeats 1000000 in
theorem heldInt64S_any (v : Value) (n k : Nat) (w : World) (hv : Ik.View w v (Ik.marks k n)) (hl : n ≤ 1048576) (hk0 : 0 < k) (hk : k ≤ 4194304) :
    Calls Try.prog 51 #[v, .int .i64 k] w fun e w' => e = .returned (.int .i64 ((k + n : Nat) : Int)) ∧ Below w.heap.size w w' := by
  have hv' := hv
  obtain ⟨a, cap, rfl, hs⟩ := hv
  rw [Ik.marks_length] at hs ⊢
  go_enter Try.func51, Try.ntmps51
  go_wp2_with fail
  go_loopw [1, 5] (fun q i wr => ∃ j m : Nat, j ≤ n ∧ q = .int .i64 (m : Int) ∧ i = .int .i64 j ∧ 0 < m ∧ m ≤ 99999990 ∧ Hid (m = k + j) ∧ Below w.heap.size w wr) (fun _ i _ => n - (intOf i).toNat)
  case atStart => exact ⟨0, k, Nat.zero_le _, rfl, rfl, hk0, by omega, rfl, Below.refl _ _⟩
  case round =>
    obtain ⟨j, m, hj, rfl, rfl, hm0, hm1, HM, bel⟩ := hrel
    by_cases hlt : j < n
    · obtain ⟨b, o, rfl, hb, hs1⟩ := hs (by omega)
      have q0 := (bel.cell (p := ⟨b, o + j, none⟩) (by exact hb)).trans (hs1 j hlt)
      rw [Ik.marks_at k n j hlt, ← HM.out] at q0
      go_wp2_with fail
      go_roundw
      case rel => exact ⟨j + 1, m + 1, by omega, by go_num, by go_num, by omega, (by have := HM.out; omega), (by show m + 1 = _; have := HM.out; omega), bel⟩
      case measure => simp [intOf]; omega
    · have e : j = n := by omega
      subst e
      obtain rfl := HM.out
      go_wp2_with fail
      go_ret
      exact ⟨rfl, bel⟩
end Go.Proofs.Ytjagohadeegghaa

/- The walks of a new newer book: the program's and the specification's. -/
import Derived.Test.YthafegeoniiogaaNewMark
namespace Go.Proofs.Ythafegeoniiogaa
open Go.RowKit
set_option linter.unusedVariables false
set_option linter.unusedSimpArgs false
set_option maxHeartbeats 1000000 in
theorem newNew_impl (w : World) : Calls Try.prog 40 #[] w fun e w' => e = .returned (.agg #[.slice none 0 0, .slice none 0 0, .int .i64 1]) ∧ Below w.heap.size w w' := by
  go_enter Try.func40, Try.ntmps40
  go_wp2_with fail
  refine bodyPost_ret (v := .agg #[.slice none 0 0, .slice none 0 0, .int .i64 1]) (by simp [results, Try.results40, go_sem] <;> rfl) rfl ⟨rfl, ?_⟩
  repeat (first | exact Below.refl _ _ | refine Below.alloc ?_ (by simp <;> omega) _ | refine Below.setCell ?_ (by simp <;> omega) _)
set_option maxHeartbeats 1000000 in
theorem newNew_spec (w : World) : Calls Try.prog 39 #[] w fun e w' => e = .returned (.agg #[.slice none 0 0, .slice none 0 0, .int .i64 1]) ∧ Below w.heap.size w w' := by
  go_enter Try.func39, Try.ntmps39
  go_wp2_with fail
  refine bodyPost_ret (v := .agg #[.slice none 0 0, .slice none 0 0, .int .i64 1]) (by simp [results, Try.results39, go_sem] <;> rfl) rfl ⟨rfl, ?_⟩
  repeat (first | exact Below.refl _ _ | refine Below.alloc ?_ (by simp <;> omega) _ | refine Below.setCell ?_ (by simp <;> omega) _)
set_option maxHeartbeats 1000000 in
theorem heldLevelS_nil (w : World) : Calls Try.prog 88 #[.slice none 0 0, .int .i64 1] w fun e w' => e = .returned (.int .i64 1) ∧ Below w.heap.size w w' := by
  go_enter Try.func88, Try.ntmps88
  go_wp2_with fail
  go_loopw [1, 5] (fun q i wr => q = .int .i64 1 ∧ i = .int .i64 0 ∧ wr = w) (fun _ _ _ => 0)
  case atStart => exact ⟨rfl, rfl, rfl⟩
  case round =>
    obtain ⟨rfl, rfl, rfl⟩ := hrel
    go_wp2_with fail
    go_ret
    exact ⟨rfl, Below.refl _ _⟩
set_option maxHeartbeats 1000000 in
theorem heldNew_nil (n : Int) (w : World) : Calls Try.prog 42 #[.agg #[.slice none 0 0, .slice none 0 0, .int .i64 n], .int .i64 1] w fun e w' => e = .returned (.int .i64 1) ∧ Below w.heap.size w w' := by
  obtain ⟨W, hW⟩ : ∃ W, W = w.alloc (.cells #[.slice none 0 0, .slice none 0 0, .int .i64 n] 61) := ⟨_, rfl⟩
  have b0 : Below w.heap.size w W := by rw [hW]; exact (Below.refl _ _).alloc (Nat.le_refl _) _
  have c1 : W.cell? ⟨w.heap.size, 1, none⟩ = some (.slice none 0 0) := by rw [hW, Fk.cellTop _ _ _ _ _ rfl]; rfl
  have hz : w.heap.size < W.heap.size := by rw [hW]; simp
  have HW := Fk.hide hW
  clear hW
  go_enter Try.func42, Try.ntmps42
  go_wp2_with fail
  rw [← HW.out]
  refine (heldLevelS_nil _).mono ?_
  rintro e w1 ⟨rfl, m1⟩
  have d1 := (m1.cell (p := ⟨w.heap.size, 1, none⟩) (by show w.heap.size < _; omega)).trans c1
  have HB1 : Hid (Below w.heap.size w w1) := b0.trans (m1.mono b0.size)
  clear m1 c1 b0
  go_wp2_with fail
  refine (heldLevelS_nil _).mono ?_
  rintro e w2 ⟨rfl, m2⟩
  have HB2 : Hid (Below w.heap.size w w2) := HB1.out.trans (m2.mono HB1.out.size)
  clear m2
  go_wp2_with fail
  go_ret
  exact ⟨rfl, HB2.out⟩
theorem markNew_nil (n : Int) (w : World) : Calls Try.prog 41 #[.agg #[.slice none 0 0, .slice none 0 0, .int .i64 n], .int .i64 1] w fun e w' => e = .returned (.int .i64 1) ∧ Below w.heap.size w w' := by
  have un : Lv.Under w.heap.size (.slice none 0 0) [] [] := ⟨fun k hk => (by cases hk), fun i hi => absurd hi (by simp)⟩
  refine (markNew_any _ _ n [] [] [] [] 1 w.heap.size w.heap.size w.heap.size w (Lv.own_nil _ _ _ _) (Lv.own_nil _ _ _ _) un un (Nat.le_refl _) (Nat.le_refl _) (Nat.le_refl _) (by decide) (by decide) (by decide) (by decide) (by decide) (by decide)).mono ?_
  rintro e w1 ⟨⟨q, rfl, hq⟩, g⟩
  have : q = 1 := by simpa [Nb.flat] using hq
  subst this
  exact ⟨rfl, g.below (Below.refl _ _) (Nat.le_refl _) (Nat.le_refl _)⟩
end Go.Proofs.Ythafegeoniiogaa

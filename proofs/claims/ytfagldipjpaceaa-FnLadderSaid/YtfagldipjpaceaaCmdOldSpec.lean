/- The walk of the specification's question whether a command is an old one. -/
import Derived.Test.YtfagldipjpaceaaCmdRightSpec
namespace Go.Proofs.Ytfagldipjpaceaa
open Go.RowKit
set_option linter.unusedVariables false
set_option linter.unusedSimpArgs false

set_option maxHeartbeats 4000000 in
theorem cmdOld_spec (c : Cm.C) (w : World) :
    Calls Try.prog 42 #[.agg #[.int .i64 c.kind, .int .i64 c.owner, .int .i64 c.id, .bool c.buy, .int .i64 c.price, .int .i64 c.amount, .int .i64 c.life, .bool c.post, .int .i64 c.peak, .bool c.guard]] w fun e w' => e = .returned (.bool (Cm.old c)) ∧ Below w.heap.size w w' := by
  obtain ⟨W, hW⟩ : ∃ W, W = w.alloc (.cells #[.int .i64 c.kind, .int .i64 c.owner, .int .i64 c.id, .bool c.buy, .int .i64 c.price, .int .i64 c.amount, .int .i64 c.life, .bool c.post, .int .i64 c.peak, .bool c.guard] 27) := ⟨_, rfl⟩
  have b0 : Below w.heap.size w W := by rw [hW]; exact (Below.refl _ _).alloc (Nat.le_refl _) _
  have hsz : w.heap.size < W.heap.size := by rw [hW]; simp
  have c7 : W.cell? ⟨w.heap.size, 7, none⟩ = some (.bool c.post) := by rw [hW, Fk.cellTop _ _ _ _ _ rfl]; rfl
  have c8 : W.cell? ⟨w.heap.size, 8, none⟩ = some (.int .i64 c.peak) := by rw [hW, Fk.cellTop _ _ _ _ _ rfl]; rfl
  have c9 : W.cell? ⟨w.heap.size, 9, none⟩ = some (.bool c.guard) := by rw [hW, Fk.cellTop _ _ _ _ _ rfl]; rfl
  have HW := Fk.hide hW
  have HB0 := Fk.hide b0
  clear hW b0
  have HO : Hid (Cm.old c = (Cm.right c && (!c.post && (decide (c.peak = 0) && !c.guard)))) := rfl
  have HC : Hid (∀ w', Calls Try.prog 41 #[.agg #[.int .i64 c.kind, .int .i64 c.owner, .int .i64 c.id, .bool c.buy, .int .i64 c.price, .int .i64 c.amount, .int .i64 c.life, .bool c.post, .int .i64 c.peak, .bool c.guard]] w' fun e w'' => e = .returned (.bool (Cm.right c)) ∧ Below w'.heap.size w' w'') := fun w' => cmdRight_spec c w'
  obtain ⟨kind, owner, id, buy, price, amount, life, post, peak, guard⟩ := c
  go_enter Try.func42, Try.ntmps42
  go_wp2_with fail
  rw [← HW.out]
  refine (HC.out _).mono ?_
  rintro e w1 ⟨rfl, b1⟩
  have HB1 : Hid (Below w.heap.size w w1) := HB0.out.trans (b1.mono HB0.out.size)
  have d7 := (b1.cell (p := ⟨w.heap.size, 7, none⟩) (by show w.heap.size < _; omega)).trans c7
  have d8 := (b1.cell (p := ⟨w.heap.size, 8, none⟩) (by show w.heap.size < _; omega)).trans c8
  have d9 := (b1.cell (p := ⟨w.heap.size, 9, none⟩) (by show w.heap.size < _; omega)).trans c9
  clear b1 c7 c8 c9 HC
  obtain ⟨r, hr⟩ : ∃ r, r = Cm.right ⟨kind, owner, id, buy, price, amount, life, post, peak, guard⟩ := ⟨_, rfl⟩
  rw [← hr] at HO ⊢
  clear hr
  have hp : (peak == 0) = true ∨ (peak == 0) = false := by cases peak == 0 <;> simp
  rcases hp with hp | hp <;> cases r <;> cases post <;> cases guard
  all_goals
    go_wp2_with fail
    go_ret
    refine ⟨?_, HB1.out⟩
    rw [HO.out]
    first
    | rfl
    | (rw [show decide (peak = 0) = true from by simpa using hp]; rfl)
    | (rw [show decide (peak = 0) = false from by simpa using hp]; rfl)
end Go.Proofs.Ytfagldipjpaceaa

/- The walk of the program's question whether an event is right. -/
import Derived.Test.YtficlppngnnpoaaEventNamed
import Derived.Deep.RegionHeld3
namespace Go.Proofs.Ytficlppngnnpoaa
open Go.RowKit
set_option linter.unusedVariables false
set_option linter.unusedSimpArgs false

set_option maxHeartbeats 8000000 in
theorem eventRight_impl1nother (id other price amount : Int) (g : other ≠ 0) (w : World) :
    Calls Try.prog 65 #[.agg #[.int .i64 1, .int .i64 id, .int .i64 other, .int .i64 price, .int .i64 amount]] w fun e w' => e = .returned (.bool (Ev.right ⟨1, id, other, price, amount⟩)) ∧ Below w.heap.size w w' := by
  obtain ⟨W0, hW⟩ : ∃ W, W = w.alloc (.cells #[.int .i64 1, .int .i64 id, .int .i64 other, .int .i64 price, .int .i64 amount] 68) := ⟨_, rfl⟩
  have B0 : Below w.heap.size w W0 := by rw [hW]; exact (Below.refl _ _).alloc (Nat.le_refl _) _
  have hz0 : Hid (w.heap.size < W0.heap.size) := by show _ < _; rw [hW]; simp
  have p0 : W0.cell? ⟨w.heap.size, 0, none⟩ = some (.int .i64 1) := by rw [hW, Fk.cellTop _ _ _ _ _ rfl]; rfl
  have p1 : W0.cell? ⟨w.heap.size, 1, none⟩ = some (.int .i64 id) := by rw [hW, Fk.cellTop _ _ _ _ _ rfl]; rfl
  have p2 : W0.cell? ⟨w.heap.size, 2, none⟩ = some (.int .i64 other) := by rw [hW, Fk.cellTop _ _ _ _ _ rfl]; rfl
  have p3 : W0.cell? ⟨w.heap.size, 3, none⟩ = some (.int .i64 price) := by rw [hW, Fk.cellTop _ _ _ _ _ rfl]; rfl
  have p4 : W0.cell? ⟨w.heap.size, 4, none⟩ = some (.int .i64 amount) := by rw [hW, Fk.cellTop _ _ _ _ _ rfl]; rfl
  have HW := Fk.hide hW
  have HB0 := Fk.hide B0
  clear hW B0
  go_enter Try.func65, Try.ntmps65
  go_wp2_with fail
  rw [← HW.out]
  go_region_held3 (fun w' => w'.cell? ⟨w.heap.size, 0, none⟩ = some (.int .i64 1) ∧ w'.cell? ⟨w.heap.size, 1, none⟩ = some (.int .i64 id) ∧ w'.cell? ⟨w.heap.size, 2, none⟩ = some (.int .i64 other) ∧ w'.cell? ⟨w.heap.size, 3, none⟩ = some (.int .i64 price) ∧ w'.cell? ⟨w.heap.size, 4, none⟩ = some (.int .i64 amount))
    (first | go_keep | (refine ⟨?_, ?_, ?_, ?_, ?_⟩ <;> assumption))
    (first
      | (go_at_call 68; refine (onlyNamed_1 _ _ _ _ _).mono ?_; rintro e W1 ⟨rfl, k1⟩; have hz9 : w.heap.size < W0.drew.heap.size := hz0.out; have q0 : W0.drew.cell? ⟨w.heap.size, 0, none⟩ = some (.int .i64 1) := p0; have q1 : W0.drew.cell? ⟨w.heap.size, 1, none⟩ = some (.int .i64 id) := p1; have q2 : W0.drew.cell? ⟨w.heap.size, 2, none⟩ = some (.int .i64 other) := p2; have q3 : W0.drew.cell? ⟨w.heap.size, 3, none⟩ = some (.int .i64 price) := p3; have q4 : W0.drew.cell? ⟨w.heap.size, 4, none⟩ = some (.int .i64 amount) := p4; have d0 := (k1.cell (p := ⟨w.heap.size, 0, none⟩) (by show w.heap.size < _; exact hz9)).trans q0; have d1 := (k1.cell (p := ⟨w.heap.size, 1, none⟩) (by show w.heap.size < _; exact hz9)).trans q1; have d2 := (k1.cell (p := ⟨w.heap.size, 2, none⟩) (by show w.heap.size < _; exact hz9)).trans q2; have d3 := (k1.cell (p := ⟨w.heap.size, 3, none⟩) (by show w.heap.size < _; exact hz9)).trans q3; have d4 := (k1.cell (p := ⟨w.heap.size, 4, none⟩) (by show w.heap.size < _; exact hz9)).trans q4; have HB1 : Hid (Below w.heap.size w W1) := (Below.drew HB0.out).trans (k1.mono (by exact Nat.le_of_lt hz0.out)); clear hz9 q0 q1 q2 q3 q4 k1))
  all_goals (clear p0 p1 p2 p3 p4)
  go_wp2_with (go_at_call 43; refine (within_ev _ _ _ _).mono ?_; rintro e w' ⟨rfl, rfl⟩)
  all_goals go_ret
  all_goals refine ⟨?_, HB1.out⟩
  all_goals first
    | (rw [show Ev.right _ = false from by simp_all [Ev.right, Ev.inn] <;> omega]; rfl)
    | (rw [show Ev.right _ = true from by simp_all [Ev.right, Ev.inn] <;> omega]; rfl)
    | (rw [show Ev.right _ = Ev.inn amount 1 1000 from by simp_all [Ev.right, Ev.inn] <;> omega]; rfl)
    | (rw [show Ev.right _ = Ev.inn id 1 1000000 from by simp_all [Ev.right, Ev.inn] <;> omega]; rfl)
    | (rw [show Ev.right _ = Ev.inn id 1 20 from by simp_all [Ev.right, Ev.inn] <;> omega]; rfl)
    | (have hne : ¬ id = other := fun e => (by assumption : ¬ other = id) e.symm; rw [show Ev.right _ = (other != id && Ev.inn amount 1 1000) from by simp_all [Ev.right, Ev.inn]]; rfl)

set_option maxHeartbeats 8000000 in
theorem eventRight_impl1nprice (id price amount : Int) (g : price ≠ 0) (w : World) :
    Calls Try.prog 65 #[.agg #[.int .i64 1, .int .i64 id, .int .i64 0, .int .i64 price, .int .i64 amount]] w fun e w' => e = .returned (.bool (Ev.right ⟨1, id, 0, price, amount⟩)) ∧ Below w.heap.size w w' := by
  obtain ⟨W0, hW⟩ : ∃ W, W = w.alloc (.cells #[.int .i64 1, .int .i64 id, .int .i64 0, .int .i64 price, .int .i64 amount] 68) := ⟨_, rfl⟩
  have B0 : Below w.heap.size w W0 := by rw [hW]; exact (Below.refl _ _).alloc (Nat.le_refl _) _
  have hz0 : Hid (w.heap.size < W0.heap.size) := by show _ < _; rw [hW]; simp
  have p0 : W0.cell? ⟨w.heap.size, 0, none⟩ = some (.int .i64 1) := by rw [hW, Fk.cellTop _ _ _ _ _ rfl]; rfl
  have p1 : W0.cell? ⟨w.heap.size, 1, none⟩ = some (.int .i64 id) := by rw [hW, Fk.cellTop _ _ _ _ _ rfl]; rfl
  have p2 : W0.cell? ⟨w.heap.size, 2, none⟩ = some (.int .i64 0) := by rw [hW, Fk.cellTop _ _ _ _ _ rfl]; rfl
  have p3 : W0.cell? ⟨w.heap.size, 3, none⟩ = some (.int .i64 price) := by rw [hW, Fk.cellTop _ _ _ _ _ rfl]; rfl
  have p4 : W0.cell? ⟨w.heap.size, 4, none⟩ = some (.int .i64 amount) := by rw [hW, Fk.cellTop _ _ _ _ _ rfl]; rfl
  have HW := Fk.hide hW
  have HB0 := Fk.hide B0
  clear hW B0
  go_enter Try.func65, Try.ntmps65
  go_wp2_with fail
  rw [← HW.out]
  go_region_held3 (fun w' => w'.cell? ⟨w.heap.size, 0, none⟩ = some (.int .i64 1) ∧ w'.cell? ⟨w.heap.size, 1, none⟩ = some (.int .i64 id) ∧ w'.cell? ⟨w.heap.size, 2, none⟩ = some (.int .i64 0) ∧ w'.cell? ⟨w.heap.size, 3, none⟩ = some (.int .i64 price) ∧ w'.cell? ⟨w.heap.size, 4, none⟩ = some (.int .i64 amount))
    (first | go_keep | (refine ⟨?_, ?_, ?_, ?_, ?_⟩ <;> assumption))
    (first
      | (go_at_call 68; refine (onlyNamed_1 _ _ _ _ _).mono ?_; rintro e W1 ⟨rfl, k1⟩; have hz9 : w.heap.size < W0.drew.heap.size := hz0.out; have q0 : W0.drew.cell? ⟨w.heap.size, 0, none⟩ = some (.int .i64 1) := p0; have q1 : W0.drew.cell? ⟨w.heap.size, 1, none⟩ = some (.int .i64 id) := p1; have q2 : W0.drew.cell? ⟨w.heap.size, 2, none⟩ = some (.int .i64 0) := p2; have q3 : W0.drew.cell? ⟨w.heap.size, 3, none⟩ = some (.int .i64 price) := p3; have q4 : W0.drew.cell? ⟨w.heap.size, 4, none⟩ = some (.int .i64 amount) := p4; have d0 := (k1.cell (p := ⟨w.heap.size, 0, none⟩) (by show w.heap.size < _; exact hz9)).trans q0; have d1 := (k1.cell (p := ⟨w.heap.size, 1, none⟩) (by show w.heap.size < _; exact hz9)).trans q1; have d2 := (k1.cell (p := ⟨w.heap.size, 2, none⟩) (by show w.heap.size < _; exact hz9)).trans q2; have d3 := (k1.cell (p := ⟨w.heap.size, 3, none⟩) (by show w.heap.size < _; exact hz9)).trans q3; have d4 := (k1.cell (p := ⟨w.heap.size, 4, none⟩) (by show w.heap.size < _; exact hz9)).trans q4; have HB1 : Hid (Below w.heap.size w W1) := (Below.drew HB0.out).trans (k1.mono (by exact Nat.le_of_lt hz0.out)); clear hz9 q0 q1 q2 q3 q4 k1))
  all_goals (clear p0 p1 p2 p3 p4)
  go_wp2_with (go_at_call 43; refine (within_ev _ _ _ _).mono ?_; rintro e w' ⟨rfl, rfl⟩)
  all_goals go_ret
  all_goals refine ⟨?_, HB1.out⟩
  all_goals first
    | (rw [show Ev.right _ = false from by simp_all [Ev.right, Ev.inn] <;> omega]; rfl)
    | (rw [show Ev.right _ = true from by simp_all [Ev.right, Ev.inn] <;> omega]; rfl)
    | (rw [show Ev.right _ = Ev.inn amount 1 1000 from by simp_all [Ev.right, Ev.inn] <;> omega]; rfl)
    | (rw [show Ev.right _ = Ev.inn id 1 1000000 from by simp_all [Ev.right, Ev.inn] <;> omega]; rfl)
    | (rw [show Ev.right _ = Ev.inn id 1 20 from by simp_all [Ev.right, Ev.inn] <;> omega]; rfl)
    | (have hne : ¬ id = other := fun e => (by assumption : ¬ other = id) e.symm; rw [show Ev.right _ = (0 != id && Ev.inn amount 1 1000) from by simp_all [Ev.right, Ev.inn]]; rfl)

set_option maxHeartbeats 8000000 in
theorem eventRight_impl1namount (id amount : Int) (g : amount ≠ 0) (w : World) :
    Calls Try.prog 65 #[.agg #[.int .i64 1, .int .i64 id, .int .i64 0, .int .i64 0, .int .i64 amount]] w fun e w' => e = .returned (.bool (Ev.right ⟨1, id, 0, 0, amount⟩)) ∧ Below w.heap.size w w' := by
  obtain ⟨W0, hW⟩ : ∃ W, W = w.alloc (.cells #[.int .i64 1, .int .i64 id, .int .i64 0, .int .i64 0, .int .i64 amount] 68) := ⟨_, rfl⟩
  have B0 : Below w.heap.size w W0 := by rw [hW]; exact (Below.refl _ _).alloc (Nat.le_refl _) _
  have hz0 : Hid (w.heap.size < W0.heap.size) := by show _ < _; rw [hW]; simp
  have p0 : W0.cell? ⟨w.heap.size, 0, none⟩ = some (.int .i64 1) := by rw [hW, Fk.cellTop _ _ _ _ _ rfl]; rfl
  have p1 : W0.cell? ⟨w.heap.size, 1, none⟩ = some (.int .i64 id) := by rw [hW, Fk.cellTop _ _ _ _ _ rfl]; rfl
  have p2 : W0.cell? ⟨w.heap.size, 2, none⟩ = some (.int .i64 0) := by rw [hW, Fk.cellTop _ _ _ _ _ rfl]; rfl
  have p3 : W0.cell? ⟨w.heap.size, 3, none⟩ = some (.int .i64 0) := by rw [hW, Fk.cellTop _ _ _ _ _ rfl]; rfl
  have p4 : W0.cell? ⟨w.heap.size, 4, none⟩ = some (.int .i64 amount) := by rw [hW, Fk.cellTop _ _ _ _ _ rfl]; rfl
  have HW := Fk.hide hW
  have HB0 := Fk.hide B0
  clear hW B0
  go_enter Try.func65, Try.ntmps65
  go_wp2_with fail
  rw [← HW.out]
  go_region_held3 (fun w' => w'.cell? ⟨w.heap.size, 0, none⟩ = some (.int .i64 1) ∧ w'.cell? ⟨w.heap.size, 1, none⟩ = some (.int .i64 id) ∧ w'.cell? ⟨w.heap.size, 2, none⟩ = some (.int .i64 0) ∧ w'.cell? ⟨w.heap.size, 3, none⟩ = some (.int .i64 0) ∧ w'.cell? ⟨w.heap.size, 4, none⟩ = some (.int .i64 amount))
    (first | go_keep | (refine ⟨?_, ?_, ?_, ?_, ?_⟩ <;> assumption))
    (first
      | (go_at_call 68; refine (onlyNamed_1 _ _ _ _ _).mono ?_; rintro e W1 ⟨rfl, k1⟩; have hz9 : w.heap.size < W0.drew.heap.size := hz0.out; have q0 : W0.drew.cell? ⟨w.heap.size, 0, none⟩ = some (.int .i64 1) := p0; have q1 : W0.drew.cell? ⟨w.heap.size, 1, none⟩ = some (.int .i64 id) := p1; have q2 : W0.drew.cell? ⟨w.heap.size, 2, none⟩ = some (.int .i64 0) := p2; have q3 : W0.drew.cell? ⟨w.heap.size, 3, none⟩ = some (.int .i64 0) := p3; have q4 : W0.drew.cell? ⟨w.heap.size, 4, none⟩ = some (.int .i64 amount) := p4; have d0 := (k1.cell (p := ⟨w.heap.size, 0, none⟩) (by show w.heap.size < _; exact hz9)).trans q0; have d1 := (k1.cell (p := ⟨w.heap.size, 1, none⟩) (by show w.heap.size < _; exact hz9)).trans q1; have d2 := (k1.cell (p := ⟨w.heap.size, 2, none⟩) (by show w.heap.size < _; exact hz9)).trans q2; have d3 := (k1.cell (p := ⟨w.heap.size, 3, none⟩) (by show w.heap.size < _; exact hz9)).trans q3; have d4 := (k1.cell (p := ⟨w.heap.size, 4, none⟩) (by show w.heap.size < _; exact hz9)).trans q4; have HB1 : Hid (Below w.heap.size w W1) := (Below.drew HB0.out).trans (k1.mono (by exact Nat.le_of_lt hz0.out)); clear hz9 q0 q1 q2 q3 q4 k1))
  all_goals (clear p0 p1 p2 p3 p4)
  go_wp2_with (go_at_call 43; refine (within_ev _ _ _ _).mono ?_; rintro e w' ⟨rfl, rfl⟩)
  all_goals go_ret
  all_goals refine ⟨?_, HB1.out⟩
  all_goals first
    | (rw [show Ev.right _ = false from by simp_all [Ev.right, Ev.inn] <;> omega]; rfl)
    | (rw [show Ev.right _ = true from by simp_all [Ev.right, Ev.inn] <;> omega]; rfl)
    | (rw [show Ev.right _ = Ev.inn amount 1 1000 from by simp_all [Ev.right, Ev.inn] <;> omega]; rfl)
    | (rw [show Ev.right _ = Ev.inn id 1 1000000 from by simp_all [Ev.right, Ev.inn] <;> omega]; rfl)
    | (rw [show Ev.right _ = Ev.inn id 1 20 from by simp_all [Ev.right, Ev.inn] <;> omega]; rfl)
    | (have hne : ¬ id = other := fun e => (by assumption : ¬ other = id) e.symm; rw [show Ev.right _ = (0 != id && Ev.inn amount 1 1000) from by simp_all [Ev.right, Ev.inn]]; rfl)

set_option maxHeartbeats 8000000 in
theorem eventRight_impl1z (id : Int) (w : World) :
    Calls Try.prog 65 #[.agg #[.int .i64 1, .int .i64 id, .int .i64 0, .int .i64 0, .int .i64 0]] w fun e w' => e = .returned (.bool (Ev.right ⟨1, id, 0, 0, 0⟩)) ∧ Below w.heap.size w w' := by
  obtain ⟨W0, hW⟩ : ∃ W, W = w.alloc (.cells #[.int .i64 1, .int .i64 id, .int .i64 0, .int .i64 0, .int .i64 0] 68) := ⟨_, rfl⟩
  have B0 : Below w.heap.size w W0 := by rw [hW]; exact (Below.refl _ _).alloc (Nat.le_refl _) _
  have hz0 : Hid (w.heap.size < W0.heap.size) := by show _ < _; rw [hW]; simp
  have p0 : W0.cell? ⟨w.heap.size, 0, none⟩ = some (.int .i64 1) := by rw [hW, Fk.cellTop _ _ _ _ _ rfl]; rfl
  have p1 : W0.cell? ⟨w.heap.size, 1, none⟩ = some (.int .i64 id) := by rw [hW, Fk.cellTop _ _ _ _ _ rfl]; rfl
  have p2 : W0.cell? ⟨w.heap.size, 2, none⟩ = some (.int .i64 0) := by rw [hW, Fk.cellTop _ _ _ _ _ rfl]; rfl
  have p3 : W0.cell? ⟨w.heap.size, 3, none⟩ = some (.int .i64 0) := by rw [hW, Fk.cellTop _ _ _ _ _ rfl]; rfl
  have p4 : W0.cell? ⟨w.heap.size, 4, none⟩ = some (.int .i64 0) := by rw [hW, Fk.cellTop _ _ _ _ _ rfl]; rfl
  have HW := Fk.hide hW
  have HB0 := Fk.hide B0
  clear hW B0
  go_enter Try.func65, Try.ntmps65
  go_wp2_with fail
  rw [← HW.out]
  go_region_held3 (fun w' => w'.cell? ⟨w.heap.size, 0, none⟩ = some (.int .i64 1) ∧ w'.cell? ⟨w.heap.size, 1, none⟩ = some (.int .i64 id) ∧ w'.cell? ⟨w.heap.size, 2, none⟩ = some (.int .i64 0) ∧ w'.cell? ⟨w.heap.size, 3, none⟩ = some (.int .i64 0) ∧ w'.cell? ⟨w.heap.size, 4, none⟩ = some (.int .i64 0))
    (first | go_keep | (refine ⟨?_, ?_, ?_, ?_, ?_⟩ <;> assumption))
    (first
      | (go_at_call 68; refine (onlyNamed_1 _ _ _ _ _).mono ?_; rintro e W1 ⟨rfl, k1⟩; have hz9 : w.heap.size < W0.drew.heap.size := hz0.out; have q0 : W0.drew.cell? ⟨w.heap.size, 0, none⟩ = some (.int .i64 1) := p0; have q1 : W0.drew.cell? ⟨w.heap.size, 1, none⟩ = some (.int .i64 id) := p1; have q2 : W0.drew.cell? ⟨w.heap.size, 2, none⟩ = some (.int .i64 0) := p2; have q3 : W0.drew.cell? ⟨w.heap.size, 3, none⟩ = some (.int .i64 0) := p3; have q4 : W0.drew.cell? ⟨w.heap.size, 4, none⟩ = some (.int .i64 0) := p4; have d0 := (k1.cell (p := ⟨w.heap.size, 0, none⟩) (by show w.heap.size < _; exact hz9)).trans q0; have d1 := (k1.cell (p := ⟨w.heap.size, 1, none⟩) (by show w.heap.size < _; exact hz9)).trans q1; have d2 := (k1.cell (p := ⟨w.heap.size, 2, none⟩) (by show w.heap.size < _; exact hz9)).trans q2; have d3 := (k1.cell (p := ⟨w.heap.size, 3, none⟩) (by show w.heap.size < _; exact hz9)).trans q3; have d4 := (k1.cell (p := ⟨w.heap.size, 4, none⟩) (by show w.heap.size < _; exact hz9)).trans q4; have HB1 : Hid (Below w.heap.size w W1) := (Below.drew HB0.out).trans (k1.mono (by exact Nat.le_of_lt hz0.out)); clear hz9 q0 q1 q2 q3 q4 k1))
  all_goals (clear p0 p1 p2 p3 p4)
  go_wp2_with (go_at_call 43; refine (within_ev _ _ _ _).mono ?_; rintro e w' ⟨rfl, rfl⟩)
  all_goals go_ret
  all_goals refine ⟨?_, HB1.out⟩
  all_goals first
    | (rw [show Ev.right _ = false from by simp_all [Ev.right, Ev.inn] <;> omega]; rfl)
    | (rw [show Ev.right _ = true from by simp_all [Ev.right, Ev.inn] <;> omega]; rfl)
    | (rw [show Ev.right _ = Ev.inn 0 1 1000 from by simp_all [Ev.right, Ev.inn] <;> omega]; rfl)
    | (rw [show Ev.right _ = Ev.inn id 1 1000000 from by simp_all [Ev.right, Ev.inn] <;> omega]; rfl)
    | (rw [show Ev.right _ = Ev.inn id 1 20 from by simp_all [Ev.right, Ev.inn] <;> omega]; rfl)
    | (have hne : ¬ id = other := fun e => (by assumption : ¬ other = id) e.symm; rw [show Ev.right _ = (0 != id && Ev.inn 0 1 1000) from by simp_all [Ev.right, Ev.inn]]; rfl)

theorem eventRight_impl1 (id other price amount : Int) (w : World) :
    Calls Try.prog 65 #[.agg #[.int .i64 1, .int .i64 id, .int .i64 other, .int .i64 price, .int .i64 amount]] w fun e w' => e = .returned (.bool (Ev.right ⟨1, id, other, price, amount⟩)) ∧ Below w.heap.size w w' := by
  rcases Decidable.em (other ≠ 0) with g | g
  · exact eventRight_impl1nother id other price amount g w
  obtain rfl : other = 0 := by omega
  rcases Decidable.em (price ≠ 0) with g | g
  · exact eventRight_impl1nprice id price amount g w
  obtain rfl : price = 0 := by omega
  rcases Decidable.em (amount ≠ 0) with g | g
  · exact eventRight_impl1namount id amount g w
  obtain rfl : amount = 0 := by omega
  exact eventRight_impl1z id w

set_option maxHeartbeats 8000000 in
theorem eventRight_impl2 (id other price amount : Int) (w : World) :
    Calls Try.prog 65 #[.agg #[.int .i64 2, .int .i64 id, .int .i64 other, .int .i64 price, .int .i64 amount]] w fun e w' => e = .returned (.bool (Ev.right ⟨2, id, other, price, amount⟩)) ∧ Below w.heap.size w w' := by
  obtain ⟨W0, hW⟩ : ∃ W, W = w.alloc (.cells #[.int .i64 2, .int .i64 id, .int .i64 other, .int .i64 price, .int .i64 amount] 68) := ⟨_, rfl⟩
  have B0 : Below w.heap.size w W0 := by rw [hW]; exact (Below.refl _ _).alloc (Nat.le_refl _) _
  have hz0 : Hid (w.heap.size < W0.heap.size) := by show _ < _; rw [hW]; simp
  have p0 : W0.cell? ⟨w.heap.size, 0, none⟩ = some (.int .i64 2) := by rw [hW, Fk.cellTop _ _ _ _ _ rfl]; rfl
  have p1 : W0.cell? ⟨w.heap.size, 1, none⟩ = some (.int .i64 id) := by rw [hW, Fk.cellTop _ _ _ _ _ rfl]; rfl
  have p2 : W0.cell? ⟨w.heap.size, 2, none⟩ = some (.int .i64 other) := by rw [hW, Fk.cellTop _ _ _ _ _ rfl]; rfl
  have p3 : W0.cell? ⟨w.heap.size, 3, none⟩ = some (.int .i64 price) := by rw [hW, Fk.cellTop _ _ _ _ _ rfl]; rfl
  have p4 : W0.cell? ⟨w.heap.size, 4, none⟩ = some (.int .i64 amount) := by rw [hW, Fk.cellTop _ _ _ _ _ rfl]; rfl
  have HW := Fk.hide hW
  have HB0 := Fk.hide B0
  clear hW B0
  go_enter Try.func65, Try.ntmps65
  go_wp2_with fail
  rw [← HW.out]
  go_region_held3 (fun w' => w'.cell? ⟨w.heap.size, 0, none⟩ = some (.int .i64 2) ∧ w'.cell? ⟨w.heap.size, 1, none⟩ = some (.int .i64 id) ∧ w'.cell? ⟨w.heap.size, 2, none⟩ = some (.int .i64 other) ∧ w'.cell? ⟨w.heap.size, 3, none⟩ = some (.int .i64 price) ∧ w'.cell? ⟨w.heap.size, 4, none⟩ = some (.int .i64 amount))
    (first | go_keep | (refine ⟨?_, ?_, ?_, ?_, ?_⟩ <;> assumption))
    (first
      | (go_at_call 68; refine (onlyNamed_2 _ _ _ _ _).mono ?_; rintro e W1 ⟨rfl, k1⟩; have hz9 : w.heap.size < W0.drew.heap.size := hz0.out; have q0 : W0.drew.cell? ⟨w.heap.size, 0, none⟩ = some (.int .i64 2) := p0; have q1 : W0.drew.cell? ⟨w.heap.size, 1, none⟩ = some (.int .i64 id) := p1; have q2 : W0.drew.cell? ⟨w.heap.size, 2, none⟩ = some (.int .i64 other) := p2; have q3 : W0.drew.cell? ⟨w.heap.size, 3, none⟩ = some (.int .i64 price) := p3; have q4 : W0.drew.cell? ⟨w.heap.size, 4, none⟩ = some (.int .i64 amount) := p4; have d0 := (k1.cell (p := ⟨w.heap.size, 0, none⟩) (by show w.heap.size < _; exact hz9)).trans q0; have d1 := (k1.cell (p := ⟨w.heap.size, 1, none⟩) (by show w.heap.size < _; exact hz9)).trans q1; have d2 := (k1.cell (p := ⟨w.heap.size, 2, none⟩) (by show w.heap.size < _; exact hz9)).trans q2; have d3 := (k1.cell (p := ⟨w.heap.size, 3, none⟩) (by show w.heap.size < _; exact hz9)).trans q3; have d4 := (k1.cell (p := ⟨w.heap.size, 4, none⟩) (by show w.heap.size < _; exact hz9)).trans q4; have HB1 : Hid (Below w.heap.size w W1) := (Below.drew HB0.out).trans (k1.mono (by exact Nat.le_of_lt hz0.out)); clear hz9 q0 q1 q2 q3 q4 k1))
  all_goals (clear p0 p1 p2 p3 p4)
  go_wp2_with (go_at_call 43; refine (within_ev _ _ _ _).mono ?_; rintro e w' ⟨rfl, rfl⟩)
  all_goals go_ret
  all_goals refine ⟨?_, HB1.out⟩
  all_goals first
    | (rw [show Ev.right _ = false from by simp_all [Ev.right, Ev.inn] <;> omega]; rfl)
    | (rw [show Ev.right _ = true from by simp_all [Ev.right, Ev.inn] <;> omega]; rfl)
    | (rw [show Ev.right _ = Ev.inn amount 1 1000 from by simp_all [Ev.right, Ev.inn] <;> omega]; rfl)
    | (rw [show Ev.right _ = Ev.inn id 1 1000000 from by simp_all [Ev.right, Ev.inn] <;> omega]; rfl)
    | (rw [show Ev.right _ = Ev.inn id 1 20 from by simp_all [Ev.right, Ev.inn] <;> omega]; rfl)
    | (have hne : ¬ id = other := fun e => (by assumption : ¬ other = id) e.symm; rw [show Ev.right _ = (other != id && Ev.inn amount 1 1000) from by simp_all [Ev.right, Ev.inn]]; rfl)

set_option maxHeartbeats 8000000 in
theorem eventRight_impl3nother (id other price amount : Int) (g : other ≠ 0) (w : World) :
    Calls Try.prog 65 #[.agg #[.int .i64 3, .int .i64 id, .int .i64 other, .int .i64 price, .int .i64 amount]] w fun e w' => e = .returned (.bool (Ev.right ⟨3, id, other, price, amount⟩)) ∧ Below w.heap.size w w' := by
  obtain ⟨W0, hW⟩ : ∃ W, W = w.alloc (.cells #[.int .i64 3, .int .i64 id, .int .i64 other, .int .i64 price, .int .i64 amount] 68) := ⟨_, rfl⟩
  have B0 : Below w.heap.size w W0 := by rw [hW]; exact (Below.refl _ _).alloc (Nat.le_refl _) _
  have hz0 : Hid (w.heap.size < W0.heap.size) := by show _ < _; rw [hW]; simp
  have p0 : W0.cell? ⟨w.heap.size, 0, none⟩ = some (.int .i64 3) := by rw [hW, Fk.cellTop _ _ _ _ _ rfl]; rfl
  have p1 : W0.cell? ⟨w.heap.size, 1, none⟩ = some (.int .i64 id) := by rw [hW, Fk.cellTop _ _ _ _ _ rfl]; rfl
  have p2 : W0.cell? ⟨w.heap.size, 2, none⟩ = some (.int .i64 other) := by rw [hW, Fk.cellTop _ _ _ _ _ rfl]; rfl
  have p3 : W0.cell? ⟨w.heap.size, 3, none⟩ = some (.int .i64 price) := by rw [hW, Fk.cellTop _ _ _ _ _ rfl]; rfl
  have p4 : W0.cell? ⟨w.heap.size, 4, none⟩ = some (.int .i64 amount) := by rw [hW, Fk.cellTop _ _ _ _ _ rfl]; rfl
  have HW := Fk.hide hW
  have HB0 := Fk.hide B0
  clear hW B0
  go_enter Try.func65, Try.ntmps65
  go_wp2_with fail
  rw [← HW.out]
  go_region_held3 (fun w' => w'.cell? ⟨w.heap.size, 0, none⟩ = some (.int .i64 3) ∧ w'.cell? ⟨w.heap.size, 1, none⟩ = some (.int .i64 id) ∧ w'.cell? ⟨w.heap.size, 2, none⟩ = some (.int .i64 other) ∧ w'.cell? ⟨w.heap.size, 3, none⟩ = some (.int .i64 price) ∧ w'.cell? ⟨w.heap.size, 4, none⟩ = some (.int .i64 amount))
    (first | go_keep | (refine ⟨?_, ?_, ?_, ?_, ?_⟩ <;> assumption))
    (first
      | (go_at_call 68; refine (onlyNamed_3 _ _ _ _ _).mono ?_; rintro e W1 ⟨rfl, k1⟩; have hz9 : w.heap.size < W0.drew.heap.size := hz0.out; have q0 : W0.drew.cell? ⟨w.heap.size, 0, none⟩ = some (.int .i64 3) := p0; have q1 : W0.drew.cell? ⟨w.heap.size, 1, none⟩ = some (.int .i64 id) := p1; have q2 : W0.drew.cell? ⟨w.heap.size, 2, none⟩ = some (.int .i64 other) := p2; have q3 : W0.drew.cell? ⟨w.heap.size, 3, none⟩ = some (.int .i64 price) := p3; have q4 : W0.drew.cell? ⟨w.heap.size, 4, none⟩ = some (.int .i64 amount) := p4; have d0 := (k1.cell (p := ⟨w.heap.size, 0, none⟩) (by show w.heap.size < _; exact hz9)).trans q0; have d1 := (k1.cell (p := ⟨w.heap.size, 1, none⟩) (by show w.heap.size < _; exact hz9)).trans q1; have d2 := (k1.cell (p := ⟨w.heap.size, 2, none⟩) (by show w.heap.size < _; exact hz9)).trans q2; have d3 := (k1.cell (p := ⟨w.heap.size, 3, none⟩) (by show w.heap.size < _; exact hz9)).trans q3; have d4 := (k1.cell (p := ⟨w.heap.size, 4, none⟩) (by show w.heap.size < _; exact hz9)).trans q4; have HB1 : Hid (Below w.heap.size w W1) := (Below.drew HB0.out).trans (k1.mono (by exact Nat.le_of_lt hz0.out)); clear hz9 q0 q1 q2 q3 q4 k1))
  all_goals (clear p0 p1 p2 p3 p4)
  go_wp2_with (go_at_call 43; refine (within_ev _ _ _ _).mono ?_; rintro e w' ⟨rfl, rfl⟩)
  all_goals go_ret
  all_goals refine ⟨?_, HB1.out⟩
  all_goals first
    | (rw [show Ev.right _ = false from by simp_all [Ev.right, Ev.inn] <;> omega]; rfl)
    | (rw [show Ev.right _ = true from by simp_all [Ev.right, Ev.inn] <;> omega]; rfl)
    | (rw [show Ev.right _ = Ev.inn amount 1 1000 from by simp_all [Ev.right, Ev.inn] <;> omega]; rfl)
    | (rw [show Ev.right _ = Ev.inn id 1 1000000 from by simp_all [Ev.right, Ev.inn] <;> omega]; rfl)
    | (rw [show Ev.right _ = Ev.inn id 1 20 from by simp_all [Ev.right, Ev.inn] <;> omega]; rfl)
    | (have hne : ¬ id = other := fun e => (by assumption : ¬ other = id) e.symm; rw [show Ev.right _ = (other != id && Ev.inn amount 1 1000) from by simp_all [Ev.right, Ev.inn]]; rfl)

set_option maxHeartbeats 8000000 in
theorem eventRight_impl3nprice (id price amount : Int) (g : price ≠ 0) (w : World) :
    Calls Try.prog 65 #[.agg #[.int .i64 3, .int .i64 id, .int .i64 0, .int .i64 price, .int .i64 amount]] w fun e w' => e = .returned (.bool (Ev.right ⟨3, id, 0, price, amount⟩)) ∧ Below w.heap.size w w' := by
  obtain ⟨W0, hW⟩ : ∃ W, W = w.alloc (.cells #[.int .i64 3, .int .i64 id, .int .i64 0, .int .i64 price, .int .i64 amount] 68) := ⟨_, rfl⟩
  have B0 : Below w.heap.size w W0 := by rw [hW]; exact (Below.refl _ _).alloc (Nat.le_refl _) _
  have hz0 : Hid (w.heap.size < W0.heap.size) := by show _ < _; rw [hW]; simp
  have p0 : W0.cell? ⟨w.heap.size, 0, none⟩ = some (.int .i64 3) := by rw [hW, Fk.cellTop _ _ _ _ _ rfl]; rfl
  have p1 : W0.cell? ⟨w.heap.size, 1, none⟩ = some (.int .i64 id) := by rw [hW, Fk.cellTop _ _ _ _ _ rfl]; rfl
  have p2 : W0.cell? ⟨w.heap.size, 2, none⟩ = some (.int .i64 0) := by rw [hW, Fk.cellTop _ _ _ _ _ rfl]; rfl
  have p3 : W0.cell? ⟨w.heap.size, 3, none⟩ = some (.int .i64 price) := by rw [hW, Fk.cellTop _ _ _ _ _ rfl]; rfl
  have p4 : W0.cell? ⟨w.heap.size, 4, none⟩ = some (.int .i64 amount) := by rw [hW, Fk.cellTop _ _ _ _ _ rfl]; rfl
  have HW := Fk.hide hW
  have HB0 := Fk.hide B0
  clear hW B0
  go_enter Try.func65, Try.ntmps65
  go_wp2_with fail
  rw [← HW.out]
  go_region_held3 (fun w' => w'.cell? ⟨w.heap.size, 0, none⟩ = some (.int .i64 3) ∧ w'.cell? ⟨w.heap.size, 1, none⟩ = some (.int .i64 id) ∧ w'.cell? ⟨w.heap.size, 2, none⟩ = some (.int .i64 0) ∧ w'.cell? ⟨w.heap.size, 3, none⟩ = some (.int .i64 price) ∧ w'.cell? ⟨w.heap.size, 4, none⟩ = some (.int .i64 amount))
    (first | go_keep | (refine ⟨?_, ?_, ?_, ?_, ?_⟩ <;> assumption))
    (first
      | (go_at_call 68; refine (onlyNamed_3 _ _ _ _ _).mono ?_; rintro e W1 ⟨rfl, k1⟩; have hz9 : w.heap.size < W0.drew.heap.size := hz0.out; have q0 : W0.drew.cell? ⟨w.heap.size, 0, none⟩ = some (.int .i64 3) := p0; have q1 : W0.drew.cell? ⟨w.heap.size, 1, none⟩ = some (.int .i64 id) := p1; have q2 : W0.drew.cell? ⟨w.heap.size, 2, none⟩ = some (.int .i64 0) := p2; have q3 : W0.drew.cell? ⟨w.heap.size, 3, none⟩ = some (.int .i64 price) := p3; have q4 : W0.drew.cell? ⟨w.heap.size, 4, none⟩ = some (.int .i64 amount) := p4; have d0 := (k1.cell (p := ⟨w.heap.size, 0, none⟩) (by show w.heap.size < _; exact hz9)).trans q0; have d1 := (k1.cell (p := ⟨w.heap.size, 1, none⟩) (by show w.heap.size < _; exact hz9)).trans q1; have d2 := (k1.cell (p := ⟨w.heap.size, 2, none⟩) (by show w.heap.size < _; exact hz9)).trans q2; have d3 := (k1.cell (p := ⟨w.heap.size, 3, none⟩) (by show w.heap.size < _; exact hz9)).trans q3; have d4 := (k1.cell (p := ⟨w.heap.size, 4, none⟩) (by show w.heap.size < _; exact hz9)).trans q4; have HB1 : Hid (Below w.heap.size w W1) := (Below.drew HB0.out).trans (k1.mono (by exact Nat.le_of_lt hz0.out)); clear hz9 q0 q1 q2 q3 q4 k1))
  all_goals (clear p0 p1 p2 p3 p4)
  go_wp2_with (go_at_call 43; refine (within_ev _ _ _ _).mono ?_; rintro e w' ⟨rfl, rfl⟩)
  all_goals go_ret
  all_goals refine ⟨?_, HB1.out⟩
  all_goals first
    | (rw [show Ev.right _ = false from by simp_all [Ev.right, Ev.inn] <;> omega]; rfl)
    | (rw [show Ev.right _ = true from by simp_all [Ev.right, Ev.inn] <;> omega]; rfl)
    | (rw [show Ev.right _ = Ev.inn amount 1 1000 from by simp_all [Ev.right, Ev.inn] <;> omega]; rfl)
    | (rw [show Ev.right _ = Ev.inn id 1 1000000 from by simp_all [Ev.right, Ev.inn] <;> omega]; rfl)
    | (rw [show Ev.right _ = Ev.inn id 1 20 from by simp_all [Ev.right, Ev.inn] <;> omega]; rfl)
    | (have hne : ¬ id = other := fun e => (by assumption : ¬ other = id) e.symm; rw [show Ev.right _ = (0 != id && Ev.inn amount 1 1000) from by simp_all [Ev.right, Ev.inn]]; rfl)

set_option maxHeartbeats 8000000 in
theorem eventRight_impl3z (id amount : Int) (w : World) :
    Calls Try.prog 65 #[.agg #[.int .i64 3, .int .i64 id, .int .i64 0, .int .i64 0, .int .i64 amount]] w fun e w' => e = .returned (.bool (Ev.right ⟨3, id, 0, 0, amount⟩)) ∧ Below w.heap.size w w' := by
  obtain ⟨W0, hW⟩ : ∃ W, W = w.alloc (.cells #[.int .i64 3, .int .i64 id, .int .i64 0, .int .i64 0, .int .i64 amount] 68) := ⟨_, rfl⟩
  have B0 : Below w.heap.size w W0 := by rw [hW]; exact (Below.refl _ _).alloc (Nat.le_refl _) _
  have hz0 : Hid (w.heap.size < W0.heap.size) := by show _ < _; rw [hW]; simp
  have p0 : W0.cell? ⟨w.heap.size, 0, none⟩ = some (.int .i64 3) := by rw [hW, Fk.cellTop _ _ _ _ _ rfl]; rfl
  have p1 : W0.cell? ⟨w.heap.size, 1, none⟩ = some (.int .i64 id) := by rw [hW, Fk.cellTop _ _ _ _ _ rfl]; rfl
  have p2 : W0.cell? ⟨w.heap.size, 2, none⟩ = some (.int .i64 0) := by rw [hW, Fk.cellTop _ _ _ _ _ rfl]; rfl
  have p3 : W0.cell? ⟨w.heap.size, 3, none⟩ = some (.int .i64 0) := by rw [hW, Fk.cellTop _ _ _ _ _ rfl]; rfl
  have p4 : W0.cell? ⟨w.heap.size, 4, none⟩ = some (.int .i64 amount) := by rw [hW, Fk.cellTop _ _ _ _ _ rfl]; rfl
  have HW := Fk.hide hW
  have HB0 := Fk.hide B0
  clear hW B0
  go_enter Try.func65, Try.ntmps65
  go_wp2_with fail
  rw [← HW.out]
  go_region_held3 (fun w' => w'.cell? ⟨w.heap.size, 0, none⟩ = some (.int .i64 3) ∧ w'.cell? ⟨w.heap.size, 1, none⟩ = some (.int .i64 id) ∧ w'.cell? ⟨w.heap.size, 2, none⟩ = some (.int .i64 0) ∧ w'.cell? ⟨w.heap.size, 3, none⟩ = some (.int .i64 0) ∧ w'.cell? ⟨w.heap.size, 4, none⟩ = some (.int .i64 amount))
    (first | go_keep | (refine ⟨?_, ?_, ?_, ?_, ?_⟩ <;> assumption))
    (first
      | (go_at_call 68; refine (onlyNamed_3 _ _ _ _ _).mono ?_; rintro e W1 ⟨rfl, k1⟩; have hz9 : w.heap.size < W0.drew.heap.size := hz0.out; have q0 : W0.drew.cell? ⟨w.heap.size, 0, none⟩ = some (.int .i64 3) := p0; have q1 : W0.drew.cell? ⟨w.heap.size, 1, none⟩ = some (.int .i64 id) := p1; have q2 : W0.drew.cell? ⟨w.heap.size, 2, none⟩ = some (.int .i64 0) := p2; have q3 : W0.drew.cell? ⟨w.heap.size, 3, none⟩ = some (.int .i64 0) := p3; have q4 : W0.drew.cell? ⟨w.heap.size, 4, none⟩ = some (.int .i64 amount) := p4; have d0 := (k1.cell (p := ⟨w.heap.size, 0, none⟩) (by show w.heap.size < _; exact hz9)).trans q0; have d1 := (k1.cell (p := ⟨w.heap.size, 1, none⟩) (by show w.heap.size < _; exact hz9)).trans q1; have d2 := (k1.cell (p := ⟨w.heap.size, 2, none⟩) (by show w.heap.size < _; exact hz9)).trans q2; have d3 := (k1.cell (p := ⟨w.heap.size, 3, none⟩) (by show w.heap.size < _; exact hz9)).trans q3; have d4 := (k1.cell (p := ⟨w.heap.size, 4, none⟩) (by show w.heap.size < _; exact hz9)).trans q4; have HB1 : Hid (Below w.heap.size w W1) := (Below.drew HB0.out).trans (k1.mono (by exact Nat.le_of_lt hz0.out)); clear hz9 q0 q1 q2 q3 q4 k1))
  all_goals (clear p0 p1 p2 p3 p4)
  go_wp2_with (go_at_call 43; refine (within_ev _ _ _ _).mono ?_; rintro e w' ⟨rfl, rfl⟩)
  all_goals go_ret
  all_goals refine ⟨?_, HB1.out⟩
  all_goals first
    | (rw [show Ev.right _ = false from by simp_all [Ev.right, Ev.inn] <;> omega]; rfl)
    | (rw [show Ev.right _ = true from by simp_all [Ev.right, Ev.inn] <;> omega]; rfl)
    | (rw [show Ev.right _ = Ev.inn amount 1 1000 from by simp_all [Ev.right, Ev.inn] <;> omega]; rfl)
    | (rw [show Ev.right _ = Ev.inn id 1 1000000 from by simp_all [Ev.right, Ev.inn] <;> omega]; rfl)
    | (rw [show Ev.right _ = Ev.inn id 1 20 from by simp_all [Ev.right, Ev.inn] <;> omega]; rfl)
    | (have hne : ¬ id = other := fun e => (by assumption : ¬ other = id) e.symm; rw [show Ev.right _ = (0 != id && Ev.inn amount 1 1000) from by simp_all [Ev.right, Ev.inn]]; rfl)

theorem eventRight_impl3 (id other price amount : Int) (w : World) :
    Calls Try.prog 65 #[.agg #[.int .i64 3, .int .i64 id, .int .i64 other, .int .i64 price, .int .i64 amount]] w fun e w' => e = .returned (.bool (Ev.right ⟨3, id, other, price, amount⟩)) ∧ Below w.heap.size w w' := by
  rcases Decidable.em (other ≠ 0) with g | g
  · exact eventRight_impl3nother id other price amount g w
  obtain rfl : other = 0 := by omega
  rcases Decidable.em (price ≠ 0) with g | g
  · exact eventRight_impl3nprice id price amount g w
  obtain rfl : price = 0 := by omega
  exact eventRight_impl3z id amount w

set_option maxHeartbeats 8000000 in
theorem eventRight_impl4nother (id other price amount : Int) (g : other ≠ 0) (w : World) :
    Calls Try.prog 65 #[.agg #[.int .i64 4, .int .i64 id, .int .i64 other, .int .i64 price, .int .i64 amount]] w fun e w' => e = .returned (.bool (Ev.right ⟨4, id, other, price, amount⟩)) ∧ Below w.heap.size w w' := by
  obtain ⟨W0, hW⟩ : ∃ W, W = w.alloc (.cells #[.int .i64 4, .int .i64 id, .int .i64 other, .int .i64 price, .int .i64 amount] 68) := ⟨_, rfl⟩
  have B0 : Below w.heap.size w W0 := by rw [hW]; exact (Below.refl _ _).alloc (Nat.le_refl _) _
  have hz0 : Hid (w.heap.size < W0.heap.size) := by show _ < _; rw [hW]; simp
  have p0 : W0.cell? ⟨w.heap.size, 0, none⟩ = some (.int .i64 4) := by rw [hW, Fk.cellTop _ _ _ _ _ rfl]; rfl
  have p1 : W0.cell? ⟨w.heap.size, 1, none⟩ = some (.int .i64 id) := by rw [hW, Fk.cellTop _ _ _ _ _ rfl]; rfl
  have p2 : W0.cell? ⟨w.heap.size, 2, none⟩ = some (.int .i64 other) := by rw [hW, Fk.cellTop _ _ _ _ _ rfl]; rfl
  have p3 : W0.cell? ⟨w.heap.size, 3, none⟩ = some (.int .i64 price) := by rw [hW, Fk.cellTop _ _ _ _ _ rfl]; rfl
  have p4 : W0.cell? ⟨w.heap.size, 4, none⟩ = some (.int .i64 amount) := by rw [hW, Fk.cellTop _ _ _ _ _ rfl]; rfl
  have HW := Fk.hide hW
  have HB0 := Fk.hide B0
  clear hW B0
  go_enter Try.func65, Try.ntmps65
  go_wp2_with fail
  rw [← HW.out]
  go_region_held3 (fun w' => w'.cell? ⟨w.heap.size, 0, none⟩ = some (.int .i64 4) ∧ w'.cell? ⟨w.heap.size, 1, none⟩ = some (.int .i64 id) ∧ w'.cell? ⟨w.heap.size, 2, none⟩ = some (.int .i64 other) ∧ w'.cell? ⟨w.heap.size, 3, none⟩ = some (.int .i64 price) ∧ w'.cell? ⟨w.heap.size, 4, none⟩ = some (.int .i64 amount))
    (first | go_keep | (refine ⟨?_, ?_, ?_, ?_, ?_⟩ <;> assumption))
    (first
      | (go_at_call 68; refine (onlyNamed_4 _ _ _ _ _).mono ?_; rintro e W1 ⟨rfl, k1⟩; have hz9 : w.heap.size < W0.drew.heap.size := hz0.out; have q0 : W0.drew.cell? ⟨w.heap.size, 0, none⟩ = some (.int .i64 4) := p0; have q1 : W0.drew.cell? ⟨w.heap.size, 1, none⟩ = some (.int .i64 id) := p1; have q2 : W0.drew.cell? ⟨w.heap.size, 2, none⟩ = some (.int .i64 other) := p2; have q3 : W0.drew.cell? ⟨w.heap.size, 3, none⟩ = some (.int .i64 price) := p3; have q4 : W0.drew.cell? ⟨w.heap.size, 4, none⟩ = some (.int .i64 amount) := p4; have d0 := (k1.cell (p := ⟨w.heap.size, 0, none⟩) (by show w.heap.size < _; exact hz9)).trans q0; have d1 := (k1.cell (p := ⟨w.heap.size, 1, none⟩) (by show w.heap.size < _; exact hz9)).trans q1; have d2 := (k1.cell (p := ⟨w.heap.size, 2, none⟩) (by show w.heap.size < _; exact hz9)).trans q2; have d3 := (k1.cell (p := ⟨w.heap.size, 3, none⟩) (by show w.heap.size < _; exact hz9)).trans q3; have d4 := (k1.cell (p := ⟨w.heap.size, 4, none⟩) (by show w.heap.size < _; exact hz9)).trans q4; have HB1 : Hid (Below w.heap.size w W1) := (Below.drew HB0.out).trans (k1.mono (by exact Nat.le_of_lt hz0.out)); clear hz9 q0 q1 q2 q3 q4 k1))
  all_goals (clear p0 p1 p2 p3 p4)
  go_wp2_with (go_at_call 43; refine (within_ev _ _ _ _).mono ?_; rintro e w' ⟨rfl, rfl⟩)
  all_goals go_ret
  all_goals refine ⟨?_, HB1.out⟩
  all_goals first
    | (rw [show Ev.right _ = false from by simp_all [Ev.right, Ev.inn] <;> omega]; rfl)
    | (rw [show Ev.right _ = true from by simp_all [Ev.right, Ev.inn] <;> omega]; rfl)
    | (rw [show Ev.right _ = Ev.inn amount 1 1000 from by simp_all [Ev.right, Ev.inn] <;> omega]; rfl)
    | (rw [show Ev.right _ = Ev.inn id 1 1000000 from by simp_all [Ev.right, Ev.inn] <;> omega]; rfl)
    | (rw [show Ev.right _ = Ev.inn id 1 20 from by simp_all [Ev.right, Ev.inn] <;> omega]; rfl)
    | (have hne : ¬ id = other := fun e => (by assumption : ¬ other = id) e.symm; rw [show Ev.right _ = (other != id && Ev.inn amount 1 1000) from by simp_all [Ev.right, Ev.inn]]; rfl)

set_option maxHeartbeats 8000000 in
theorem eventRight_impl4z (id price amount : Int) (w : World) :
    Calls Try.prog 65 #[.agg #[.int .i64 4, .int .i64 id, .int .i64 0, .int .i64 price, .int .i64 amount]] w fun e w' => e = .returned (.bool (Ev.right ⟨4, id, 0, price, amount⟩)) ∧ Below w.heap.size w w' := by
  obtain ⟨W0, hW⟩ : ∃ W, W = w.alloc (.cells #[.int .i64 4, .int .i64 id, .int .i64 0, .int .i64 price, .int .i64 amount] 68) := ⟨_, rfl⟩
  have B0 : Below w.heap.size w W0 := by rw [hW]; exact (Below.refl _ _).alloc (Nat.le_refl _) _
  have hz0 : Hid (w.heap.size < W0.heap.size) := by show _ < _; rw [hW]; simp
  have p0 : W0.cell? ⟨w.heap.size, 0, none⟩ = some (.int .i64 4) := by rw [hW, Fk.cellTop _ _ _ _ _ rfl]; rfl
  have p1 : W0.cell? ⟨w.heap.size, 1, none⟩ = some (.int .i64 id) := by rw [hW, Fk.cellTop _ _ _ _ _ rfl]; rfl
  have p2 : W0.cell? ⟨w.heap.size, 2, none⟩ = some (.int .i64 0) := by rw [hW, Fk.cellTop _ _ _ _ _ rfl]; rfl
  have p3 : W0.cell? ⟨w.heap.size, 3, none⟩ = some (.int .i64 price) := by rw [hW, Fk.cellTop _ _ _ _ _ rfl]; rfl
  have p4 : W0.cell? ⟨w.heap.size, 4, none⟩ = some (.int .i64 amount) := by rw [hW, Fk.cellTop _ _ _ _ _ rfl]; rfl
  have HW := Fk.hide hW
  have HB0 := Fk.hide B0
  clear hW B0
  go_enter Try.func65, Try.ntmps65
  go_wp2_with fail
  rw [← HW.out]
  go_region_held3 (fun w' => w'.cell? ⟨w.heap.size, 0, none⟩ = some (.int .i64 4) ∧ w'.cell? ⟨w.heap.size, 1, none⟩ = some (.int .i64 id) ∧ w'.cell? ⟨w.heap.size, 2, none⟩ = some (.int .i64 0) ∧ w'.cell? ⟨w.heap.size, 3, none⟩ = some (.int .i64 price) ∧ w'.cell? ⟨w.heap.size, 4, none⟩ = some (.int .i64 amount))
    (first | go_keep | (refine ⟨?_, ?_, ?_, ?_, ?_⟩ <;> assumption))
    (first
      | (go_at_call 68; refine (onlyNamed_4 _ _ _ _ _).mono ?_; rintro e W1 ⟨rfl, k1⟩; have hz9 : w.heap.size < W0.drew.heap.size := hz0.out; have q0 : W0.drew.cell? ⟨w.heap.size, 0, none⟩ = some (.int .i64 4) := p0; have q1 : W0.drew.cell? ⟨w.heap.size, 1, none⟩ = some (.int .i64 id) := p1; have q2 : W0.drew.cell? ⟨w.heap.size, 2, none⟩ = some (.int .i64 0) := p2; have q3 : W0.drew.cell? ⟨w.heap.size, 3, none⟩ = some (.int .i64 price) := p3; have q4 : W0.drew.cell? ⟨w.heap.size, 4, none⟩ = some (.int .i64 amount) := p4; have d0 := (k1.cell (p := ⟨w.heap.size, 0, none⟩) (by show w.heap.size < _; exact hz9)).trans q0; have d1 := (k1.cell (p := ⟨w.heap.size, 1, none⟩) (by show w.heap.size < _; exact hz9)).trans q1; have d2 := (k1.cell (p := ⟨w.heap.size, 2, none⟩) (by show w.heap.size < _; exact hz9)).trans q2; have d3 := (k1.cell (p := ⟨w.heap.size, 3, none⟩) (by show w.heap.size < _; exact hz9)).trans q3; have d4 := (k1.cell (p := ⟨w.heap.size, 4, none⟩) (by show w.heap.size < _; exact hz9)).trans q4; have HB1 : Hid (Below w.heap.size w W1) := (Below.drew HB0.out).trans (k1.mono (by exact Nat.le_of_lt hz0.out)); clear hz9 q0 q1 q2 q3 q4 k1))
  all_goals (clear p0 p1 p2 p3 p4)
  go_wp2_with (go_at_call 43; refine (within_ev _ _ _ _).mono ?_; rintro e w' ⟨rfl, rfl⟩)
  all_goals go_ret
  all_goals refine ⟨?_, HB1.out⟩
  all_goals first
    | (rw [show Ev.right _ = false from by simp_all [Ev.right, Ev.inn] <;> omega]; rfl)
    | (rw [show Ev.right _ = true from by simp_all [Ev.right, Ev.inn] <;> omega]; rfl)
    | (rw [show Ev.right _ = Ev.inn amount 1 1000 from by simp_all [Ev.right, Ev.inn] <;> omega]; rfl)
    | (rw [show Ev.right _ = Ev.inn id 1 1000000 from by simp_all [Ev.right, Ev.inn] <;> omega]; rfl)
    | (rw [show Ev.right _ = Ev.inn id 1 20 from by simp_all [Ev.right, Ev.inn] <;> omega]; rfl)
    | (have hne : ¬ id = other := fun e => (by assumption : ¬ other = id) e.symm; rw [show Ev.right _ = (0 != id && Ev.inn amount 1 1000) from by simp_all [Ev.right, Ev.inn]]; rfl)

theorem eventRight_impl4 (id other price amount : Int) (w : World) :
    Calls Try.prog 65 #[.agg #[.int .i64 4, .int .i64 id, .int .i64 other, .int .i64 price, .int .i64 amount]] w fun e w' => e = .returned (.bool (Ev.right ⟨4, id, other, price, amount⟩)) ∧ Below w.heap.size w w' := by
  rcases Decidable.em (other ≠ 0) with g | g
  · exact eventRight_impl4nother id other price amount g w
  obtain rfl : other = 0 := by omega
  exact eventRight_impl4z id price amount w

set_option maxHeartbeats 8000000 in
theorem eventRight_impl5nother (id other price amount : Int) (g : other ≠ 0) (w : World) :
    Calls Try.prog 65 #[.agg #[.int .i64 5, .int .i64 id, .int .i64 other, .int .i64 price, .int .i64 amount]] w fun e w' => e = .returned (.bool (Ev.right ⟨5, id, other, price, amount⟩)) ∧ Below w.heap.size w w' := by
  obtain ⟨W0, hW⟩ : ∃ W, W = w.alloc (.cells #[.int .i64 5, .int .i64 id, .int .i64 other, .int .i64 price, .int .i64 amount] 68) := ⟨_, rfl⟩
  have B0 : Below w.heap.size w W0 := by rw [hW]; exact (Below.refl _ _).alloc (Nat.le_refl _) _
  have hz0 : Hid (w.heap.size < W0.heap.size) := by show _ < _; rw [hW]; simp
  have p0 : W0.cell? ⟨w.heap.size, 0, none⟩ = some (.int .i64 5) := by rw [hW, Fk.cellTop _ _ _ _ _ rfl]; rfl
  have p1 : W0.cell? ⟨w.heap.size, 1, none⟩ = some (.int .i64 id) := by rw [hW, Fk.cellTop _ _ _ _ _ rfl]; rfl
  have p2 : W0.cell? ⟨w.heap.size, 2, none⟩ = some (.int .i64 other) := by rw [hW, Fk.cellTop _ _ _ _ _ rfl]; rfl
  have p3 : W0.cell? ⟨w.heap.size, 3, none⟩ = some (.int .i64 price) := by rw [hW, Fk.cellTop _ _ _ _ _ rfl]; rfl
  have p4 : W0.cell? ⟨w.heap.size, 4, none⟩ = some (.int .i64 amount) := by rw [hW, Fk.cellTop _ _ _ _ _ rfl]; rfl
  have HW := Fk.hide hW
  have HB0 := Fk.hide B0
  clear hW B0
  go_enter Try.func65, Try.ntmps65
  go_wp2_with fail
  rw [← HW.out]
  go_region_held3 (fun w' => w'.cell? ⟨w.heap.size, 0, none⟩ = some (.int .i64 5) ∧ w'.cell? ⟨w.heap.size, 1, none⟩ = some (.int .i64 id) ∧ w'.cell? ⟨w.heap.size, 2, none⟩ = some (.int .i64 other) ∧ w'.cell? ⟨w.heap.size, 3, none⟩ = some (.int .i64 price) ∧ w'.cell? ⟨w.heap.size, 4, none⟩ = some (.int .i64 amount))
    (first | go_keep | (refine ⟨?_, ?_, ?_, ?_, ?_⟩ <;> assumption))
    (first
      | (go_at_call 68; refine (onlyNamed_5 _ _ _ _ _).mono ?_; rintro e W1 ⟨rfl, k1⟩; have hz9 : w.heap.size < W0.drew.heap.size := hz0.out; have q0 : W0.drew.cell? ⟨w.heap.size, 0, none⟩ = some (.int .i64 5) := p0; have q1 : W0.drew.cell? ⟨w.heap.size, 1, none⟩ = some (.int .i64 id) := p1; have q2 : W0.drew.cell? ⟨w.heap.size, 2, none⟩ = some (.int .i64 other) := p2; have q3 : W0.drew.cell? ⟨w.heap.size, 3, none⟩ = some (.int .i64 price) := p3; have q4 : W0.drew.cell? ⟨w.heap.size, 4, none⟩ = some (.int .i64 amount) := p4; have d0 := (k1.cell (p := ⟨w.heap.size, 0, none⟩) (by show w.heap.size < _; exact hz9)).trans q0; have d1 := (k1.cell (p := ⟨w.heap.size, 1, none⟩) (by show w.heap.size < _; exact hz9)).trans q1; have d2 := (k1.cell (p := ⟨w.heap.size, 2, none⟩) (by show w.heap.size < _; exact hz9)).trans q2; have d3 := (k1.cell (p := ⟨w.heap.size, 3, none⟩) (by show w.heap.size < _; exact hz9)).trans q3; have d4 := (k1.cell (p := ⟨w.heap.size, 4, none⟩) (by show w.heap.size < _; exact hz9)).trans q4; have HB1 : Hid (Below w.heap.size w W1) := (Below.drew HB0.out).trans (k1.mono (by exact Nat.le_of_lt hz0.out)); clear hz9 q0 q1 q2 q3 q4 k1))
  all_goals (clear p0 p1 p2 p3 p4)
  go_wp2_with (go_at_call 43; refine (within_ev _ _ _ _).mono ?_; rintro e w' ⟨rfl, rfl⟩)
  all_goals go_ret
  all_goals refine ⟨?_, HB1.out⟩
  all_goals first
    | (rw [show Ev.right _ = false from by simp_all [Ev.right, Ev.inn] <;> omega]; rfl)
    | (rw [show Ev.right _ = true from by simp_all [Ev.right, Ev.inn] <;> omega]; rfl)
    | (rw [show Ev.right _ = Ev.inn amount 1 1000 from by simp_all [Ev.right, Ev.inn] <;> omega]; rfl)
    | (rw [show Ev.right _ = Ev.inn id 1 1000000 from by simp_all [Ev.right, Ev.inn] <;> omega]; rfl)
    | (rw [show Ev.right _ = Ev.inn id 1 20 from by simp_all [Ev.right, Ev.inn] <;> omega]; rfl)
    | (have hne : ¬ id = other := fun e => (by assumption : ¬ other = id) e.symm; rw [show Ev.right _ = (other != id && Ev.inn amount 1 1000) from by simp_all [Ev.right, Ev.inn]]; rfl)

set_option maxHeartbeats 8000000 in
theorem eventRight_impl5nprice (id price amount : Int) (g : price ≠ 0) (w : World) :
    Calls Try.prog 65 #[.agg #[.int .i64 5, .int .i64 id, .int .i64 0, .int .i64 price, .int .i64 amount]] w fun e w' => e = .returned (.bool (Ev.right ⟨5, id, 0, price, amount⟩)) ∧ Below w.heap.size w w' := by
  obtain ⟨W0, hW⟩ : ∃ W, W = w.alloc (.cells #[.int .i64 5, .int .i64 id, .int .i64 0, .int .i64 price, .int .i64 amount] 68) := ⟨_, rfl⟩
  have B0 : Below w.heap.size w W0 := by rw [hW]; exact (Below.refl _ _).alloc (Nat.le_refl _) _
  have hz0 : Hid (w.heap.size < W0.heap.size) := by show _ < _; rw [hW]; simp
  have p0 : W0.cell? ⟨w.heap.size, 0, none⟩ = some (.int .i64 5) := by rw [hW, Fk.cellTop _ _ _ _ _ rfl]; rfl
  have p1 : W0.cell? ⟨w.heap.size, 1, none⟩ = some (.int .i64 id) := by rw [hW, Fk.cellTop _ _ _ _ _ rfl]; rfl
  have p2 : W0.cell? ⟨w.heap.size, 2, none⟩ = some (.int .i64 0) := by rw [hW, Fk.cellTop _ _ _ _ _ rfl]; rfl
  have p3 : W0.cell? ⟨w.heap.size, 3, none⟩ = some (.int .i64 price) := by rw [hW, Fk.cellTop _ _ _ _ _ rfl]; rfl
  have p4 : W0.cell? ⟨w.heap.size, 4, none⟩ = some (.int .i64 amount) := by rw [hW, Fk.cellTop _ _ _ _ _ rfl]; rfl
  have HW := Fk.hide hW
  have HB0 := Fk.hide B0
  clear hW B0
  go_enter Try.func65, Try.ntmps65
  go_wp2_with fail
  rw [← HW.out]
  go_region_held3 (fun w' => w'.cell? ⟨w.heap.size, 0, none⟩ = some (.int .i64 5) ∧ w'.cell? ⟨w.heap.size, 1, none⟩ = some (.int .i64 id) ∧ w'.cell? ⟨w.heap.size, 2, none⟩ = some (.int .i64 0) ∧ w'.cell? ⟨w.heap.size, 3, none⟩ = some (.int .i64 price) ∧ w'.cell? ⟨w.heap.size, 4, none⟩ = some (.int .i64 amount))
    (first | go_keep | (refine ⟨?_, ?_, ?_, ?_, ?_⟩ <;> assumption))
    (first
      | (go_at_call 68; refine (onlyNamed_5 _ _ _ _ _).mono ?_; rintro e W1 ⟨rfl, k1⟩; have hz9 : w.heap.size < W0.drew.heap.size := hz0.out; have q0 : W0.drew.cell? ⟨w.heap.size, 0, none⟩ = some (.int .i64 5) := p0; have q1 : W0.drew.cell? ⟨w.heap.size, 1, none⟩ = some (.int .i64 id) := p1; have q2 : W0.drew.cell? ⟨w.heap.size, 2, none⟩ = some (.int .i64 0) := p2; have q3 : W0.drew.cell? ⟨w.heap.size, 3, none⟩ = some (.int .i64 price) := p3; have q4 : W0.drew.cell? ⟨w.heap.size, 4, none⟩ = some (.int .i64 amount) := p4; have d0 := (k1.cell (p := ⟨w.heap.size, 0, none⟩) (by show w.heap.size < _; exact hz9)).trans q0; have d1 := (k1.cell (p := ⟨w.heap.size, 1, none⟩) (by show w.heap.size < _; exact hz9)).trans q1; have d2 := (k1.cell (p := ⟨w.heap.size, 2, none⟩) (by show w.heap.size < _; exact hz9)).trans q2; have d3 := (k1.cell (p := ⟨w.heap.size, 3, none⟩) (by show w.heap.size < _; exact hz9)).trans q3; have d4 := (k1.cell (p := ⟨w.heap.size, 4, none⟩) (by show w.heap.size < _; exact hz9)).trans q4; have HB1 : Hid (Below w.heap.size w W1) := (Below.drew HB0.out).trans (k1.mono (by exact Nat.le_of_lt hz0.out)); clear hz9 q0 q1 q2 q3 q4 k1))
  all_goals (clear p0 p1 p2 p3 p4)
  go_wp2_with (go_at_call 43; refine (within_ev _ _ _ _).mono ?_; rintro e w' ⟨rfl, rfl⟩)
  all_goals go_ret
  all_goals refine ⟨?_, HB1.out⟩
  all_goals first
    | (rw [show Ev.right _ = false from by simp_all [Ev.right, Ev.inn] <;> omega]; rfl)
    | (rw [show Ev.right _ = true from by simp_all [Ev.right, Ev.inn] <;> omega]; rfl)
    | (rw [show Ev.right _ = Ev.inn amount 1 1000 from by simp_all [Ev.right, Ev.inn] <;> omega]; rfl)
    | (rw [show Ev.right _ = Ev.inn id 1 1000000 from by simp_all [Ev.right, Ev.inn] <;> omega]; rfl)
    | (rw [show Ev.right _ = Ev.inn id 1 20 from by simp_all [Ev.right, Ev.inn] <;> omega]; rfl)
    | (have hne : ¬ id = other := fun e => (by assumption : ¬ other = id) e.symm; rw [show Ev.right _ = (0 != id && Ev.inn amount 1 1000) from by simp_all [Ev.right, Ev.inn]]; rfl)

set_option maxHeartbeats 8000000 in
theorem eventRight_impl5namount (id amount : Int) (g : amount ≠ 0) (w : World) :
    Calls Try.prog 65 #[.agg #[.int .i64 5, .int .i64 id, .int .i64 0, .int .i64 0, .int .i64 amount]] w fun e w' => e = .returned (.bool (Ev.right ⟨5, id, 0, 0, amount⟩)) ∧ Below w.heap.size w w' := by
  obtain ⟨W0, hW⟩ : ∃ W, W = w.alloc (.cells #[.int .i64 5, .int .i64 id, .int .i64 0, .int .i64 0, .int .i64 amount] 68) := ⟨_, rfl⟩
  have B0 : Below w.heap.size w W0 := by rw [hW]; exact (Below.refl _ _).alloc (Nat.le_refl _) _
  have hz0 : Hid (w.heap.size < W0.heap.size) := by show _ < _; rw [hW]; simp
  have p0 : W0.cell? ⟨w.heap.size, 0, none⟩ = some (.int .i64 5) := by rw [hW, Fk.cellTop _ _ _ _ _ rfl]; rfl
  have p1 : W0.cell? ⟨w.heap.size, 1, none⟩ = some (.int .i64 id) := by rw [hW, Fk.cellTop _ _ _ _ _ rfl]; rfl
  have p2 : W0.cell? ⟨w.heap.size, 2, none⟩ = some (.int .i64 0) := by rw [hW, Fk.cellTop _ _ _ _ _ rfl]; rfl
  have p3 : W0.cell? ⟨w.heap.size, 3, none⟩ = some (.int .i64 0) := by rw [hW, Fk.cellTop _ _ _ _ _ rfl]; rfl
  have p4 : W0.cell? ⟨w.heap.size, 4, none⟩ = some (.int .i64 amount) := by rw [hW, Fk.cellTop _ _ _ _ _ rfl]; rfl
  have HW := Fk.hide hW
  have HB0 := Fk.hide B0
  clear hW B0
  go_enter Try.func65, Try.ntmps65
  go_wp2_with fail
  rw [← HW.out]
  go_region_held3 (fun w' => w'.cell? ⟨w.heap.size, 0, none⟩ = some (.int .i64 5) ∧ w'.cell? ⟨w.heap.size, 1, none⟩ = some (.int .i64 id) ∧ w'.cell? ⟨w.heap.size, 2, none⟩ = some (.int .i64 0) ∧ w'.cell? ⟨w.heap.size, 3, none⟩ = some (.int .i64 0) ∧ w'.cell? ⟨w.heap.size, 4, none⟩ = some (.int .i64 amount))
    (first | go_keep | (refine ⟨?_, ?_, ?_, ?_, ?_⟩ <;> assumption))
    (first
      | (go_at_call 68; refine (onlyNamed_5 _ _ _ _ _).mono ?_; rintro e W1 ⟨rfl, k1⟩; have hz9 : w.heap.size < W0.drew.heap.size := hz0.out; have q0 : W0.drew.cell? ⟨w.heap.size, 0, none⟩ = some (.int .i64 5) := p0; have q1 : W0.drew.cell? ⟨w.heap.size, 1, none⟩ = some (.int .i64 id) := p1; have q2 : W0.drew.cell? ⟨w.heap.size, 2, none⟩ = some (.int .i64 0) := p2; have q3 : W0.drew.cell? ⟨w.heap.size, 3, none⟩ = some (.int .i64 0) := p3; have q4 : W0.drew.cell? ⟨w.heap.size, 4, none⟩ = some (.int .i64 amount) := p4; have d0 := (k1.cell (p := ⟨w.heap.size, 0, none⟩) (by show w.heap.size < _; exact hz9)).trans q0; have d1 := (k1.cell (p := ⟨w.heap.size, 1, none⟩) (by show w.heap.size < _; exact hz9)).trans q1; have d2 := (k1.cell (p := ⟨w.heap.size, 2, none⟩) (by show w.heap.size < _; exact hz9)).trans q2; have d3 := (k1.cell (p := ⟨w.heap.size, 3, none⟩) (by show w.heap.size < _; exact hz9)).trans q3; have d4 := (k1.cell (p := ⟨w.heap.size, 4, none⟩) (by show w.heap.size < _; exact hz9)).trans q4; have HB1 : Hid (Below w.heap.size w W1) := (Below.drew HB0.out).trans (k1.mono (by exact Nat.le_of_lt hz0.out)); clear hz9 q0 q1 q2 q3 q4 k1))
  all_goals (clear p0 p1 p2 p3 p4)
  go_wp2_with (go_at_call 43; refine (within_ev _ _ _ _).mono ?_; rintro e w' ⟨rfl, rfl⟩)
  all_goals go_ret
  all_goals refine ⟨?_, HB1.out⟩
  all_goals first
    | (rw [show Ev.right _ = false from by simp_all [Ev.right, Ev.inn] <;> omega]; rfl)
    | (rw [show Ev.right _ = true from by simp_all [Ev.right, Ev.inn] <;> omega]; rfl)
    | (rw [show Ev.right _ = Ev.inn amount 1 1000 from by simp_all [Ev.right, Ev.inn] <;> omega]; rfl)
    | (rw [show Ev.right _ = Ev.inn id 1 1000000 from by simp_all [Ev.right, Ev.inn] <;> omega]; rfl)
    | (rw [show Ev.right _ = Ev.inn id 1 20 from by simp_all [Ev.right, Ev.inn] <;> omega]; rfl)
    | (have hne : ¬ id = other := fun e => (by assumption : ¬ other = id) e.symm; rw [show Ev.right _ = (0 != id && Ev.inn amount 1 1000) from by simp_all [Ev.right, Ev.inn]]; rfl)

set_option maxHeartbeats 8000000 in
theorem eventRight_impl5z (id : Int) (w : World) :
    Calls Try.prog 65 #[.agg #[.int .i64 5, .int .i64 id, .int .i64 0, .int .i64 0, .int .i64 0]] w fun e w' => e = .returned (.bool (Ev.right ⟨5, id, 0, 0, 0⟩)) ∧ Below w.heap.size w w' := by
  obtain ⟨W0, hW⟩ : ∃ W, W = w.alloc (.cells #[.int .i64 5, .int .i64 id, .int .i64 0, .int .i64 0, .int .i64 0] 68) := ⟨_, rfl⟩
  have B0 : Below w.heap.size w W0 := by rw [hW]; exact (Below.refl _ _).alloc (Nat.le_refl _) _
  have hz0 : Hid (w.heap.size < W0.heap.size) := by show _ < _; rw [hW]; simp
  have p0 : W0.cell? ⟨w.heap.size, 0, none⟩ = some (.int .i64 5) := by rw [hW, Fk.cellTop _ _ _ _ _ rfl]; rfl
  have p1 : W0.cell? ⟨w.heap.size, 1, none⟩ = some (.int .i64 id) := by rw [hW, Fk.cellTop _ _ _ _ _ rfl]; rfl
  have p2 : W0.cell? ⟨w.heap.size, 2, none⟩ = some (.int .i64 0) := by rw [hW, Fk.cellTop _ _ _ _ _ rfl]; rfl
  have p3 : W0.cell? ⟨w.heap.size, 3, none⟩ = some (.int .i64 0) := by rw [hW, Fk.cellTop _ _ _ _ _ rfl]; rfl
  have p4 : W0.cell? ⟨w.heap.size, 4, none⟩ = some (.int .i64 0) := by rw [hW, Fk.cellTop _ _ _ _ _ rfl]; rfl
  have HW := Fk.hide hW
  have HB0 := Fk.hide B0
  clear hW B0
  go_enter Try.func65, Try.ntmps65
  go_wp2_with fail
  rw [← HW.out]
  go_region_held3 (fun w' => w'.cell? ⟨w.heap.size, 0, none⟩ = some (.int .i64 5) ∧ w'.cell? ⟨w.heap.size, 1, none⟩ = some (.int .i64 id) ∧ w'.cell? ⟨w.heap.size, 2, none⟩ = some (.int .i64 0) ∧ w'.cell? ⟨w.heap.size, 3, none⟩ = some (.int .i64 0) ∧ w'.cell? ⟨w.heap.size, 4, none⟩ = some (.int .i64 0))
    (first | go_keep | (refine ⟨?_, ?_, ?_, ?_, ?_⟩ <;> assumption))
    (first
      | (go_at_call 68; refine (onlyNamed_5 _ _ _ _ _).mono ?_; rintro e W1 ⟨rfl, k1⟩; have hz9 : w.heap.size < W0.drew.heap.size := hz0.out; have q0 : W0.drew.cell? ⟨w.heap.size, 0, none⟩ = some (.int .i64 5) := p0; have q1 : W0.drew.cell? ⟨w.heap.size, 1, none⟩ = some (.int .i64 id) := p1; have q2 : W0.drew.cell? ⟨w.heap.size, 2, none⟩ = some (.int .i64 0) := p2; have q3 : W0.drew.cell? ⟨w.heap.size, 3, none⟩ = some (.int .i64 0) := p3; have q4 : W0.drew.cell? ⟨w.heap.size, 4, none⟩ = some (.int .i64 0) := p4; have d0 := (k1.cell (p := ⟨w.heap.size, 0, none⟩) (by show w.heap.size < _; exact hz9)).trans q0; have d1 := (k1.cell (p := ⟨w.heap.size, 1, none⟩) (by show w.heap.size < _; exact hz9)).trans q1; have d2 := (k1.cell (p := ⟨w.heap.size, 2, none⟩) (by show w.heap.size < _; exact hz9)).trans q2; have d3 := (k1.cell (p := ⟨w.heap.size, 3, none⟩) (by show w.heap.size < _; exact hz9)).trans q3; have d4 := (k1.cell (p := ⟨w.heap.size, 4, none⟩) (by show w.heap.size < _; exact hz9)).trans q4; have HB1 : Hid (Below w.heap.size w W1) := (Below.drew HB0.out).trans (k1.mono (by exact Nat.le_of_lt hz0.out)); clear hz9 q0 q1 q2 q3 q4 k1))
  all_goals (clear p0 p1 p2 p3 p4)
  go_wp2_with (go_at_call 43; refine (within_ev _ _ _ _).mono ?_; rintro e w' ⟨rfl, rfl⟩)
  all_goals go_ret
  all_goals refine ⟨?_, HB1.out⟩
  all_goals first
    | (rw [show Ev.right _ = false from by simp_all [Ev.right, Ev.inn] <;> omega]; rfl)
    | (rw [show Ev.right _ = true from by simp_all [Ev.right, Ev.inn] <;> omega]; rfl)
    | (rw [show Ev.right _ = Ev.inn 0 1 1000 from by simp_all [Ev.right, Ev.inn] <;> omega]; rfl)
    | (rw [show Ev.right _ = Ev.inn id 1 1000000 from by simp_all [Ev.right, Ev.inn] <;> omega]; rfl)
    | (rw [show Ev.right _ = Ev.inn id 1 20 from by simp_all [Ev.right, Ev.inn] <;> omega]; rfl)
    | (have hne : ¬ id = other := fun e => (by assumption : ¬ other = id) e.symm; rw [show Ev.right _ = (0 != id && Ev.inn 0 1 1000) from by simp_all [Ev.right, Ev.inn]]; rfl)

theorem eventRight_impl5 (id other price amount : Int) (w : World) :
    Calls Try.prog 65 #[.agg #[.int .i64 5, .int .i64 id, .int .i64 other, .int .i64 price, .int .i64 amount]] w fun e w' => e = .returned (.bool (Ev.right ⟨5, id, other, price, amount⟩)) ∧ Below w.heap.size w w' := by
  rcases Decidable.em (other ≠ 0) with g | g
  · exact eventRight_impl5nother id other price amount g w
  obtain rfl : other = 0 := by omega
  rcases Decidable.em (price ≠ 0) with g | g
  · exact eventRight_impl5nprice id price amount g w
  obtain rfl : price = 0 := by omega
  rcases Decidable.em (amount ≠ 0) with g | g
  · exact eventRight_impl5namount id amount g w
  obtain rfl : amount = 0 := by omega
  exact eventRight_impl5z id w

set_option maxHeartbeats 8000000 in
theorem eventRight_implEnkind (kind id other price amount : Int) (h1 : kind ≠ 1) (h2 : kind ≠ 2) (h3 : kind ≠ 3) (h4 : kind ≠ 4) (h5 : kind ≠ 5) (g : kind ≠ 0) (w : World) :
    Calls Try.prog 65 #[.agg #[.int .i64 kind, .int .i64 id, .int .i64 other, .int .i64 price, .int .i64 amount]] w fun e w' => e = .returned (.bool (Ev.right ⟨kind, id, other, price, amount⟩)) ∧ Below w.heap.size w w' := by
  have k1 : (kind == 1) = false := by simpa using h1
  have k2 : (kind == 2) = false := by simpa using h2
  have k3 : (kind == 3) = false := by simpa using h3
  have k4 : (kind == 4) = false := by simpa using h4
  have k5 : (kind == 5) = false := by simpa using h5
  obtain ⟨W0, hW⟩ : ∃ W, W = w.alloc (.cells #[.int .i64 kind, .int .i64 id, .int .i64 other, .int .i64 price, .int .i64 amount] 68) := ⟨_, rfl⟩
  have B0 : Below w.heap.size w W0 := by rw [hW]; exact (Below.refl _ _).alloc (Nat.le_refl _) _
  have hz0 : Hid (w.heap.size < W0.heap.size) := by show _ < _; rw [hW]; simp
  have p0 : W0.cell? ⟨w.heap.size, 0, none⟩ = some (.int .i64 kind) := by rw [hW, Fk.cellTop _ _ _ _ _ rfl]; rfl
  have p1 : W0.cell? ⟨w.heap.size, 1, none⟩ = some (.int .i64 id) := by rw [hW, Fk.cellTop _ _ _ _ _ rfl]; rfl
  have p2 : W0.cell? ⟨w.heap.size, 2, none⟩ = some (.int .i64 other) := by rw [hW, Fk.cellTop _ _ _ _ _ rfl]; rfl
  have p3 : W0.cell? ⟨w.heap.size, 3, none⟩ = some (.int .i64 price) := by rw [hW, Fk.cellTop _ _ _ _ _ rfl]; rfl
  have p4 : W0.cell? ⟨w.heap.size, 4, none⟩ = some (.int .i64 amount) := by rw [hW, Fk.cellTop _ _ _ _ _ rfl]; rfl
  have HW := Fk.hide hW
  have HB0 := Fk.hide B0
  clear hW B0
  go_enter Try.func65, Try.ntmps65
  go_wp2_with fail
  rw [← HW.out]
  go_region_held3 (fun w' => w'.cell? ⟨w.heap.size, 0, none⟩ = some (.int .i64 kind) ∧ w'.cell? ⟨w.heap.size, 1, none⟩ = some (.int .i64 id) ∧ w'.cell? ⟨w.heap.size, 2, none⟩ = some (.int .i64 other) ∧ w'.cell? ⟨w.heap.size, 3, none⟩ = some (.int .i64 price) ∧ w'.cell? ⟨w.heap.size, 4, none⟩ = some (.int .i64 amount))
    (first | go_keep | (refine ⟨?_, ?_, ?_, ?_, ?_⟩ <;> assumption))
    (first
      | (go_at_call 68; refine (onlyNamed_else _ _ _ _ _ h1 h2 h3 h4 h5 _).mono ?_; rintro e W1 ⟨rfl, k1⟩; have hz9 : w.heap.size < W0.drew.heap.size := hz0.out; have q0 : W0.drew.cell? ⟨w.heap.size, 0, none⟩ = some (.int .i64 kind) := p0; have q1 : W0.drew.cell? ⟨w.heap.size, 1, none⟩ = some (.int .i64 id) := p1; have q2 : W0.drew.cell? ⟨w.heap.size, 2, none⟩ = some (.int .i64 other) := p2; have q3 : W0.drew.cell? ⟨w.heap.size, 3, none⟩ = some (.int .i64 price) := p3; have q4 : W0.drew.cell? ⟨w.heap.size, 4, none⟩ = some (.int .i64 amount) := p4; have d0 := (k1.cell (p := ⟨w.heap.size, 0, none⟩) (by show w.heap.size < _; exact hz9)).trans q0; have d1 := (k1.cell (p := ⟨w.heap.size, 1, none⟩) (by show w.heap.size < _; exact hz9)).trans q1; have d2 := (k1.cell (p := ⟨w.heap.size, 2, none⟩) (by show w.heap.size < _; exact hz9)).trans q2; have d3 := (k1.cell (p := ⟨w.heap.size, 3, none⟩) (by show w.heap.size < _; exact hz9)).trans q3; have d4 := (k1.cell (p := ⟨w.heap.size, 4, none⟩) (by show w.heap.size < _; exact hz9)).trans q4; have HB1 : Hid (Below w.heap.size w W1) := (Below.drew HB0.out).trans (k1.mono (by exact Nat.le_of_lt hz0.out)); clear hz9 q0 q1 q2 q3 q4 k1))
  all_goals (clear p0 p1 p2 p3 p4)
  go_wp2_with (go_at_call 43; refine (within_ev _ _ _ _).mono ?_; rintro e w' ⟨rfl, rfl⟩)
  all_goals go_ret
  all_goals refine ⟨?_, HB1.out⟩
  all_goals first
    | (rw [show Ev.right _ = false from by simp_all [Ev.right, Ev.inn] <;> omega]; rfl)
    | (rw [show Ev.right _ = true from by simp_all [Ev.right, Ev.inn] <;> omega]; rfl)
    | (rw [show Ev.right _ = Ev.inn amount 1 1000 from by simp_all [Ev.right, Ev.inn] <;> omega]; rfl)
    | (rw [show Ev.right _ = Ev.inn id 1 1000000 from by simp_all [Ev.right, Ev.inn] <;> omega]; rfl)
    | (rw [show Ev.right _ = Ev.inn id 1 20 from by simp_all [Ev.right, Ev.inn] <;> omega]; rfl)
    | (have hne : ¬ id = other := fun e => (by assumption : ¬ other = id) e.symm; rw [show Ev.right _ = (other != id && Ev.inn amount 1 1000) from by simp_all [Ev.right, Ev.inn]]; rfl)

set_option maxHeartbeats 8000000 in
theorem eventRight_implEnid (id other price amount : Int) (g : id ≠ 0) (w : World) :
    Calls Try.prog 65 #[.agg #[.int .i64 0, .int .i64 id, .int .i64 other, .int .i64 price, .int .i64 amount]] w fun e w' => e = .returned (.bool (Ev.right ⟨0, id, other, price, amount⟩)) ∧ Below w.heap.size w w' := by
  obtain ⟨W0, hW⟩ : ∃ W, W = w.alloc (.cells #[.int .i64 0, .int .i64 id, .int .i64 other, .int .i64 price, .int .i64 amount] 68) := ⟨_, rfl⟩
  have B0 : Below w.heap.size w W0 := by rw [hW]; exact (Below.refl _ _).alloc (Nat.le_refl _) _
  have hz0 : Hid (w.heap.size < W0.heap.size) := by show _ < _; rw [hW]; simp
  have p0 : W0.cell? ⟨w.heap.size, 0, none⟩ = some (.int .i64 0) := by rw [hW, Fk.cellTop _ _ _ _ _ rfl]; rfl
  have p1 : W0.cell? ⟨w.heap.size, 1, none⟩ = some (.int .i64 id) := by rw [hW, Fk.cellTop _ _ _ _ _ rfl]; rfl
  have p2 : W0.cell? ⟨w.heap.size, 2, none⟩ = some (.int .i64 other) := by rw [hW, Fk.cellTop _ _ _ _ _ rfl]; rfl
  have p3 : W0.cell? ⟨w.heap.size, 3, none⟩ = some (.int .i64 price) := by rw [hW, Fk.cellTop _ _ _ _ _ rfl]; rfl
  have p4 : W0.cell? ⟨w.heap.size, 4, none⟩ = some (.int .i64 amount) := by rw [hW, Fk.cellTop _ _ _ _ _ rfl]; rfl
  have HW := Fk.hide hW
  have HB0 := Fk.hide B0
  clear hW B0
  go_enter Try.func65, Try.ntmps65
  go_wp2_with fail
  rw [← HW.out]
  go_region_held3 (fun w' => w'.cell? ⟨w.heap.size, 0, none⟩ = some (.int .i64 0) ∧ w'.cell? ⟨w.heap.size, 1, none⟩ = some (.int .i64 id) ∧ w'.cell? ⟨w.heap.size, 2, none⟩ = some (.int .i64 other) ∧ w'.cell? ⟨w.heap.size, 3, none⟩ = some (.int .i64 price) ∧ w'.cell? ⟨w.heap.size, 4, none⟩ = some (.int .i64 amount))
    (first | go_keep | (refine ⟨?_, ?_, ?_, ?_, ?_⟩ <;> assumption))
    (first
      | (go_at_call 68; refine (onlyNamed_else _ _ _ _ _ (by decide) (by decide) (by decide) (by decide) (by decide) _).mono ?_; rintro e W1 ⟨rfl, k1⟩; have hz9 : w.heap.size < W0.drew.heap.size := hz0.out; have q0 : W0.drew.cell? ⟨w.heap.size, 0, none⟩ = some (.int .i64 0) := p0; have q1 : W0.drew.cell? ⟨w.heap.size, 1, none⟩ = some (.int .i64 id) := p1; have q2 : W0.drew.cell? ⟨w.heap.size, 2, none⟩ = some (.int .i64 other) := p2; have q3 : W0.drew.cell? ⟨w.heap.size, 3, none⟩ = some (.int .i64 price) := p3; have q4 : W0.drew.cell? ⟨w.heap.size, 4, none⟩ = some (.int .i64 amount) := p4; have d0 := (k1.cell (p := ⟨w.heap.size, 0, none⟩) (by show w.heap.size < _; exact hz9)).trans q0; have d1 := (k1.cell (p := ⟨w.heap.size, 1, none⟩) (by show w.heap.size < _; exact hz9)).trans q1; have d2 := (k1.cell (p := ⟨w.heap.size, 2, none⟩) (by show w.heap.size < _; exact hz9)).trans q2; have d3 := (k1.cell (p := ⟨w.heap.size, 3, none⟩) (by show w.heap.size < _; exact hz9)).trans q3; have d4 := (k1.cell (p := ⟨w.heap.size, 4, none⟩) (by show w.heap.size < _; exact hz9)).trans q4; have HB1 : Hid (Below w.heap.size w W1) := (Below.drew HB0.out).trans (k1.mono (by exact Nat.le_of_lt hz0.out)); clear hz9 q0 q1 q2 q3 q4 k1))
  all_goals (clear p0 p1 p2 p3 p4)
  go_wp2_with (go_at_call 43; refine (within_ev _ _ _ _).mono ?_; rintro e w' ⟨rfl, rfl⟩)
  all_goals go_ret
  all_goals refine ⟨?_, HB1.out⟩
  all_goals first
    | (rw [show Ev.right _ = false from by simp_all [Ev.right, Ev.inn] <;> omega]; rfl)
    | (rw [show Ev.right _ = true from by simp_all [Ev.right, Ev.inn] <;> omega]; rfl)
    | (rw [show Ev.right _ = Ev.inn amount 1 1000 from by simp_all [Ev.right, Ev.inn] <;> omega]; rfl)
    | (rw [show Ev.right _ = Ev.inn id 1 1000000 from by simp_all [Ev.right, Ev.inn] <;> omega]; rfl)
    | (rw [show Ev.right _ = Ev.inn id 1 20 from by simp_all [Ev.right, Ev.inn] <;> omega]; rfl)
    | (have hne : ¬ id = other := fun e => (by assumption : ¬ other = id) e.symm; rw [show Ev.right _ = (other != id && Ev.inn amount 1 1000) from by simp_all [Ev.right, Ev.inn]]; rfl)

set_option maxHeartbeats 8000000 in
theorem eventRight_implEnother (other price amount : Int) (g : other ≠ 0) (w : World) :
    Calls Try.prog 65 #[.agg #[.int .i64 0, .int .i64 0, .int .i64 other, .int .i64 price, .int .i64 amount]] w fun e w' => e = .returned (.bool (Ev.right ⟨0, 0, other, price, amount⟩)) ∧ Below w.heap.size w w' := by
  obtain ⟨W0, hW⟩ : ∃ W, W = w.alloc (.cells #[.int .i64 0, .int .i64 0, .int .i64 other, .int .i64 price, .int .i64 amount] 68) := ⟨_, rfl⟩
  have B0 : Below w.heap.size w W0 := by rw [hW]; exact (Below.refl _ _).alloc (Nat.le_refl _) _
  have hz0 : Hid (w.heap.size < W0.heap.size) := by show _ < _; rw [hW]; simp
  have p0 : W0.cell? ⟨w.heap.size, 0, none⟩ = some (.int .i64 0) := by rw [hW, Fk.cellTop _ _ _ _ _ rfl]; rfl
  have p1 : W0.cell? ⟨w.heap.size, 1, none⟩ = some (.int .i64 0) := by rw [hW, Fk.cellTop _ _ _ _ _ rfl]; rfl
  have p2 : W0.cell? ⟨w.heap.size, 2, none⟩ = some (.int .i64 other) := by rw [hW, Fk.cellTop _ _ _ _ _ rfl]; rfl
  have p3 : W0.cell? ⟨w.heap.size, 3, none⟩ = some (.int .i64 price) := by rw [hW, Fk.cellTop _ _ _ _ _ rfl]; rfl
  have p4 : W0.cell? ⟨w.heap.size, 4, none⟩ = some (.int .i64 amount) := by rw [hW, Fk.cellTop _ _ _ _ _ rfl]; rfl
  have HW := Fk.hide hW
  have HB0 := Fk.hide B0
  clear hW B0
  go_enter Try.func65, Try.ntmps65
  go_wp2_with fail
  rw [← HW.out]
  go_region_held3 (fun w' => w'.cell? ⟨w.heap.size, 0, none⟩ = some (.int .i64 0) ∧ w'.cell? ⟨w.heap.size, 1, none⟩ = some (.int .i64 0) ∧ w'.cell? ⟨w.heap.size, 2, none⟩ = some (.int .i64 other) ∧ w'.cell? ⟨w.heap.size, 3, none⟩ = some (.int .i64 price) ∧ w'.cell? ⟨w.heap.size, 4, none⟩ = some (.int .i64 amount))
    (first | go_keep | (refine ⟨?_, ?_, ?_, ?_, ?_⟩ <;> assumption))
    (first
      | (go_at_call 68; refine (onlyNamed_else _ _ _ _ _ (by decide) (by decide) (by decide) (by decide) (by decide) _).mono ?_; rintro e W1 ⟨rfl, k1⟩; have hz9 : w.heap.size < W0.drew.heap.size := hz0.out; have q0 : W0.drew.cell? ⟨w.heap.size, 0, none⟩ = some (.int .i64 0) := p0; have q1 : W0.drew.cell? ⟨w.heap.size, 1, none⟩ = some (.int .i64 0) := p1; have q2 : W0.drew.cell? ⟨w.heap.size, 2, none⟩ = some (.int .i64 other) := p2; have q3 : W0.drew.cell? ⟨w.heap.size, 3, none⟩ = some (.int .i64 price) := p3; have q4 : W0.drew.cell? ⟨w.heap.size, 4, none⟩ = some (.int .i64 amount) := p4; have d0 := (k1.cell (p := ⟨w.heap.size, 0, none⟩) (by show w.heap.size < _; exact hz9)).trans q0; have d1 := (k1.cell (p := ⟨w.heap.size, 1, none⟩) (by show w.heap.size < _; exact hz9)).trans q1; have d2 := (k1.cell (p := ⟨w.heap.size, 2, none⟩) (by show w.heap.size < _; exact hz9)).trans q2; have d3 := (k1.cell (p := ⟨w.heap.size, 3, none⟩) (by show w.heap.size < _; exact hz9)).trans q3; have d4 := (k1.cell (p := ⟨w.heap.size, 4, none⟩) (by show w.heap.size < _; exact hz9)).trans q4; have HB1 : Hid (Below w.heap.size w W1) := (Below.drew HB0.out).trans (k1.mono (by exact Nat.le_of_lt hz0.out)); clear hz9 q0 q1 q2 q3 q4 k1))
  all_goals (clear p0 p1 p2 p3 p4)
  go_wp2_with (go_at_call 43; refine (within_ev _ _ _ _).mono ?_; rintro e w' ⟨rfl, rfl⟩)
  all_goals go_ret
  all_goals refine ⟨?_, HB1.out⟩
  all_goals first
    | (rw [show Ev.right _ = false from by simp_all [Ev.right, Ev.inn] <;> omega]; rfl)
    | (rw [show Ev.right _ = true from by simp_all [Ev.right, Ev.inn] <;> omega]; rfl)
    | (rw [show Ev.right _ = Ev.inn amount 1 1000 from by simp_all [Ev.right, Ev.inn] <;> omega]; rfl)
    | (rw [show Ev.right _ = Ev.inn 0 1 1000000 from by simp_all [Ev.right, Ev.inn] <;> omega]; rfl)
    | (rw [show Ev.right _ = Ev.inn 0 1 20 from by simp_all [Ev.right, Ev.inn] <;> omega]; rfl)
    | (have hne : ¬ id = other := fun e => (by assumption : ¬ other = id) e.symm; rw [show Ev.right _ = (other != 0 && Ev.inn amount 1 1000) from by simp_all [Ev.right, Ev.inn]]; rfl)

set_option maxHeartbeats 8000000 in
theorem eventRight_implEnprice (price amount : Int) (g : price ≠ 0) (w : World) :
    Calls Try.prog 65 #[.agg #[.int .i64 0, .int .i64 0, .int .i64 0, .int .i64 price, .int .i64 amount]] w fun e w' => e = .returned (.bool (Ev.right ⟨0, 0, 0, price, amount⟩)) ∧ Below w.heap.size w w' := by
  obtain ⟨W0, hW⟩ : ∃ W, W = w.alloc (.cells #[.int .i64 0, .int .i64 0, .int .i64 0, .int .i64 price, .int .i64 amount] 68) := ⟨_, rfl⟩
  have B0 : Below w.heap.size w W0 := by rw [hW]; exact (Below.refl _ _).alloc (Nat.le_refl _) _
  have hz0 : Hid (w.heap.size < W0.heap.size) := by show _ < _; rw [hW]; simp
  have p0 : W0.cell? ⟨w.heap.size, 0, none⟩ = some (.int .i64 0) := by rw [hW, Fk.cellTop _ _ _ _ _ rfl]; rfl
  have p1 : W0.cell? ⟨w.heap.size, 1, none⟩ = some (.int .i64 0) := by rw [hW, Fk.cellTop _ _ _ _ _ rfl]; rfl
  have p2 : W0.cell? ⟨w.heap.size, 2, none⟩ = some (.int .i64 0) := by rw [hW, Fk.cellTop _ _ _ _ _ rfl]; rfl
  have p3 : W0.cell? ⟨w.heap.size, 3, none⟩ = some (.int .i64 price) := by rw [hW, Fk.cellTop _ _ _ _ _ rfl]; rfl
  have p4 : W0.cell? ⟨w.heap.size, 4, none⟩ = some (.int .i64 amount) := by rw [hW, Fk.cellTop _ _ _ _ _ rfl]; rfl
  have HW := Fk.hide hW
  have HB0 := Fk.hide B0
  clear hW B0
  go_enter Try.func65, Try.ntmps65
  go_wp2_with fail
  rw [← HW.out]
  go_region_held3 (fun w' => w'.cell? ⟨w.heap.size, 0, none⟩ = some (.int .i64 0) ∧ w'.cell? ⟨w.heap.size, 1, none⟩ = some (.int .i64 0) ∧ w'.cell? ⟨w.heap.size, 2, none⟩ = some (.int .i64 0) ∧ w'.cell? ⟨w.heap.size, 3, none⟩ = some (.int .i64 price) ∧ w'.cell? ⟨w.heap.size, 4, none⟩ = some (.int .i64 amount))
    (first | go_keep | (refine ⟨?_, ?_, ?_, ?_, ?_⟩ <;> assumption))
    (first
      | (go_at_call 68; refine (onlyNamed_else _ _ _ _ _ (by decide) (by decide) (by decide) (by decide) (by decide) _).mono ?_; rintro e W1 ⟨rfl, k1⟩; have hz9 : w.heap.size < W0.drew.heap.size := hz0.out; have q0 : W0.drew.cell? ⟨w.heap.size, 0, none⟩ = some (.int .i64 0) := p0; have q1 : W0.drew.cell? ⟨w.heap.size, 1, none⟩ = some (.int .i64 0) := p1; have q2 : W0.drew.cell? ⟨w.heap.size, 2, none⟩ = some (.int .i64 0) := p2; have q3 : W0.drew.cell? ⟨w.heap.size, 3, none⟩ = some (.int .i64 price) := p3; have q4 : W0.drew.cell? ⟨w.heap.size, 4, none⟩ = some (.int .i64 amount) := p4; have d0 := (k1.cell (p := ⟨w.heap.size, 0, none⟩) (by show w.heap.size < _; exact hz9)).trans q0; have d1 := (k1.cell (p := ⟨w.heap.size, 1, none⟩) (by show w.heap.size < _; exact hz9)).trans q1; have d2 := (k1.cell (p := ⟨w.heap.size, 2, none⟩) (by show w.heap.size < _; exact hz9)).trans q2; have d3 := (k1.cell (p := ⟨w.heap.size, 3, none⟩) (by show w.heap.size < _; exact hz9)).trans q3; have d4 := (k1.cell (p := ⟨w.heap.size, 4, none⟩) (by show w.heap.size < _; exact hz9)).trans q4; have HB1 : Hid (Below w.heap.size w W1) := (Below.drew HB0.out).trans (k1.mono (by exact Nat.le_of_lt hz0.out)); clear hz9 q0 q1 q2 q3 q4 k1))
  all_goals (clear p0 p1 p2 p3 p4)
  go_wp2_with (go_at_call 43; refine (within_ev _ _ _ _).mono ?_; rintro e w' ⟨rfl, rfl⟩)
  all_goals go_ret
  all_goals refine ⟨?_, HB1.out⟩
  all_goals first
    | (rw [show Ev.right _ = false from by simp_all [Ev.right, Ev.inn] <;> omega]; rfl)
    | (rw [show Ev.right _ = true from by simp_all [Ev.right, Ev.inn] <;> omega]; rfl)
    | (rw [show Ev.right _ = Ev.inn amount 1 1000 from by simp_all [Ev.right, Ev.inn] <;> omega]; rfl)
    | (rw [show Ev.right _ = Ev.inn 0 1 1000000 from by simp_all [Ev.right, Ev.inn] <;> omega]; rfl)
    | (rw [show Ev.right _ = Ev.inn 0 1 20 from by simp_all [Ev.right, Ev.inn] <;> omega]; rfl)
    | (have hne : ¬ id = other := fun e => (by assumption : ¬ other = id) e.symm; rw [show Ev.right _ = (0 != 0 && Ev.inn amount 1 1000) from by simp_all [Ev.right, Ev.inn]]; rfl)

set_option maxHeartbeats 8000000 in
theorem eventRight_implEnamount (amount : Int) (g : amount ≠ 0) (w : World) :
    Calls Try.prog 65 #[.agg #[.int .i64 0, .int .i64 0, .int .i64 0, .int .i64 0, .int .i64 amount]] w fun e w' => e = .returned (.bool (Ev.right ⟨0, 0, 0, 0, amount⟩)) ∧ Below w.heap.size w w' := by
  obtain ⟨W0, hW⟩ : ∃ W, W = w.alloc (.cells #[.int .i64 0, .int .i64 0, .int .i64 0, .int .i64 0, .int .i64 amount] 68) := ⟨_, rfl⟩
  have B0 : Below w.heap.size w W0 := by rw [hW]; exact (Below.refl _ _).alloc (Nat.le_refl _) _
  have hz0 : Hid (w.heap.size < W0.heap.size) := by show _ < _; rw [hW]; simp
  have p0 : W0.cell? ⟨w.heap.size, 0, none⟩ = some (.int .i64 0) := by rw [hW, Fk.cellTop _ _ _ _ _ rfl]; rfl
  have p1 : W0.cell? ⟨w.heap.size, 1, none⟩ = some (.int .i64 0) := by rw [hW, Fk.cellTop _ _ _ _ _ rfl]; rfl
  have p2 : W0.cell? ⟨w.heap.size, 2, none⟩ = some (.int .i64 0) := by rw [hW, Fk.cellTop _ _ _ _ _ rfl]; rfl
  have p3 : W0.cell? ⟨w.heap.size, 3, none⟩ = some (.int .i64 0) := by rw [hW, Fk.cellTop _ _ _ _ _ rfl]; rfl
  have p4 : W0.cell? ⟨w.heap.size, 4, none⟩ = some (.int .i64 amount) := by rw [hW, Fk.cellTop _ _ _ _ _ rfl]; rfl
  have HW := Fk.hide hW
  have HB0 := Fk.hide B0
  clear hW B0
  go_enter Try.func65, Try.ntmps65
  go_wp2_with fail
  rw [← HW.out]
  go_region_held3 (fun w' => w'.cell? ⟨w.heap.size, 0, none⟩ = some (.int .i64 0) ∧ w'.cell? ⟨w.heap.size, 1, none⟩ = some (.int .i64 0) ∧ w'.cell? ⟨w.heap.size, 2, none⟩ = some (.int .i64 0) ∧ w'.cell? ⟨w.heap.size, 3, none⟩ = some (.int .i64 0) ∧ w'.cell? ⟨w.heap.size, 4, none⟩ = some (.int .i64 amount))
    (first | go_keep | (refine ⟨?_, ?_, ?_, ?_, ?_⟩ <;> assumption))
    (first
      | (go_at_call 68; refine (onlyNamed_else _ _ _ _ _ (by decide) (by decide) (by decide) (by decide) (by decide) _).mono ?_; rintro e W1 ⟨rfl, k1⟩; have hz9 : w.heap.size < W0.drew.heap.size := hz0.out; have q0 : W0.drew.cell? ⟨w.heap.size, 0, none⟩ = some (.int .i64 0) := p0; have q1 : W0.drew.cell? ⟨w.heap.size, 1, none⟩ = some (.int .i64 0) := p1; have q2 : W0.drew.cell? ⟨w.heap.size, 2, none⟩ = some (.int .i64 0) := p2; have q3 : W0.drew.cell? ⟨w.heap.size, 3, none⟩ = some (.int .i64 0) := p3; have q4 : W0.drew.cell? ⟨w.heap.size, 4, none⟩ = some (.int .i64 amount) := p4; have d0 := (k1.cell (p := ⟨w.heap.size, 0, none⟩) (by show w.heap.size < _; exact hz9)).trans q0; have d1 := (k1.cell (p := ⟨w.heap.size, 1, none⟩) (by show w.heap.size < _; exact hz9)).trans q1; have d2 := (k1.cell (p := ⟨w.heap.size, 2, none⟩) (by show w.heap.size < _; exact hz9)).trans q2; have d3 := (k1.cell (p := ⟨w.heap.size, 3, none⟩) (by show w.heap.size < _; exact hz9)).trans q3; have d4 := (k1.cell (p := ⟨w.heap.size, 4, none⟩) (by show w.heap.size < _; exact hz9)).trans q4; have HB1 : Hid (Below w.heap.size w W1) := (Below.drew HB0.out).trans (k1.mono (by exact Nat.le_of_lt hz0.out)); clear hz9 q0 q1 q2 q3 q4 k1))
  all_goals (clear p0 p1 p2 p3 p4)
  go_wp2_with (go_at_call 43; refine (within_ev _ _ _ _).mono ?_; rintro e w' ⟨rfl, rfl⟩)
  all_goals go_ret
  all_goals refine ⟨?_, HB1.out⟩
  all_goals first
    | (rw [show Ev.right _ = false from by simp_all [Ev.right, Ev.inn] <;> omega]; rfl)
    | (rw [show Ev.right _ = true from by simp_all [Ev.right, Ev.inn] <;> omega]; rfl)
    | (rw [show Ev.right _ = Ev.inn amount 1 1000 from by simp_all [Ev.right, Ev.inn] <;> omega]; rfl)
    | (rw [show Ev.right _ = Ev.inn 0 1 1000000 from by simp_all [Ev.right, Ev.inn] <;> omega]; rfl)
    | (rw [show Ev.right _ = Ev.inn 0 1 20 from by simp_all [Ev.right, Ev.inn] <;> omega]; rfl)
    | (have hne : ¬ id = other := fun e => (by assumption : ¬ other = id) e.symm; rw [show Ev.right _ = (0 != 0 && Ev.inn amount 1 1000) from by simp_all [Ev.right, Ev.inn]]; rfl)

set_option maxHeartbeats 8000000 in
theorem eventRight_implEz  (w : World) :
    Calls Try.prog 65 #[.agg #[.int .i64 0, .int .i64 0, .int .i64 0, .int .i64 0, .int .i64 0]] w fun e w' => e = .returned (.bool (Ev.right ⟨0, 0, 0, 0, 0⟩)) ∧ Below w.heap.size w w' := by
  obtain ⟨W0, hW⟩ : ∃ W, W = w.alloc (.cells #[.int .i64 0, .int .i64 0, .int .i64 0, .int .i64 0, .int .i64 0] 68) := ⟨_, rfl⟩
  have B0 : Below w.heap.size w W0 := by rw [hW]; exact (Below.refl _ _).alloc (Nat.le_refl _) _
  have hz0 : Hid (w.heap.size < W0.heap.size) := by show _ < _; rw [hW]; simp
  have p0 : W0.cell? ⟨w.heap.size, 0, none⟩ = some (.int .i64 0) := by rw [hW, Fk.cellTop _ _ _ _ _ rfl]; rfl
  have p1 : W0.cell? ⟨w.heap.size, 1, none⟩ = some (.int .i64 0) := by rw [hW, Fk.cellTop _ _ _ _ _ rfl]; rfl
  have p2 : W0.cell? ⟨w.heap.size, 2, none⟩ = some (.int .i64 0) := by rw [hW, Fk.cellTop _ _ _ _ _ rfl]; rfl
  have p3 : W0.cell? ⟨w.heap.size, 3, none⟩ = some (.int .i64 0) := by rw [hW, Fk.cellTop _ _ _ _ _ rfl]; rfl
  have p4 : W0.cell? ⟨w.heap.size, 4, none⟩ = some (.int .i64 0) := by rw [hW, Fk.cellTop _ _ _ _ _ rfl]; rfl
  have HW := Fk.hide hW
  have HB0 := Fk.hide B0
  clear hW B0
  go_enter Try.func65, Try.ntmps65
  go_wp2_with fail
  rw [← HW.out]
  go_region_held3 (fun w' => w'.cell? ⟨w.heap.size, 0, none⟩ = some (.int .i64 0) ∧ w'.cell? ⟨w.heap.size, 1, none⟩ = some (.int .i64 0) ∧ w'.cell? ⟨w.heap.size, 2, none⟩ = some (.int .i64 0) ∧ w'.cell? ⟨w.heap.size, 3, none⟩ = some (.int .i64 0) ∧ w'.cell? ⟨w.heap.size, 4, none⟩ = some (.int .i64 0))
    (first | go_keep | (refine ⟨?_, ?_, ?_, ?_, ?_⟩ <;> assumption))
    (first
      | (go_at_call 68; refine (onlyNamed_else _ _ _ _ _ (by decide) (by decide) (by decide) (by decide) (by decide) _).mono ?_; rintro e W1 ⟨rfl, k1⟩; have hz9 : w.heap.size < W0.drew.heap.size := hz0.out; have q0 : W0.drew.cell? ⟨w.heap.size, 0, none⟩ = some (.int .i64 0) := p0; have q1 : W0.drew.cell? ⟨w.heap.size, 1, none⟩ = some (.int .i64 0) := p1; have q2 : W0.drew.cell? ⟨w.heap.size, 2, none⟩ = some (.int .i64 0) := p2; have q3 : W0.drew.cell? ⟨w.heap.size, 3, none⟩ = some (.int .i64 0) := p3; have q4 : W0.drew.cell? ⟨w.heap.size, 4, none⟩ = some (.int .i64 0) := p4; have d0 := (k1.cell (p := ⟨w.heap.size, 0, none⟩) (by show w.heap.size < _; exact hz9)).trans q0; have d1 := (k1.cell (p := ⟨w.heap.size, 1, none⟩) (by show w.heap.size < _; exact hz9)).trans q1; have d2 := (k1.cell (p := ⟨w.heap.size, 2, none⟩) (by show w.heap.size < _; exact hz9)).trans q2; have d3 := (k1.cell (p := ⟨w.heap.size, 3, none⟩) (by show w.heap.size < _; exact hz9)).trans q3; have d4 := (k1.cell (p := ⟨w.heap.size, 4, none⟩) (by show w.heap.size < _; exact hz9)).trans q4; have HB1 : Hid (Below w.heap.size w W1) := (Below.drew HB0.out).trans (k1.mono (by exact Nat.le_of_lt hz0.out)); clear hz9 q0 q1 q2 q3 q4 k1))
  all_goals (clear p0 p1 p2 p3 p4)
  go_wp2_with (go_at_call 43; refine (within_ev _ _ _ _).mono ?_; rintro e w' ⟨rfl, rfl⟩)
  all_goals go_ret
  all_goals refine ⟨?_, HB1.out⟩
  all_goals first
    | (rw [show Ev.right _ = false from by simp_all [Ev.right, Ev.inn] <;> omega]; rfl)
    | (rw [show Ev.right _ = true from by simp_all [Ev.right, Ev.inn] <;> omega]; rfl)
    | (rw [show Ev.right _ = Ev.inn 0 1 1000 from by simp_all [Ev.right, Ev.inn] <;> omega]; rfl)
    | (rw [show Ev.right _ = Ev.inn 0 1 1000000 from by simp_all [Ev.right, Ev.inn] <;> omega]; rfl)
    | (rw [show Ev.right _ = Ev.inn 0 1 20 from by simp_all [Ev.right, Ev.inn] <;> omega]; rfl)
    | (have hne : ¬ id = other := fun e => (by assumption : ¬ other = id) e.symm; rw [show Ev.right _ = (0 != 0 && Ev.inn 0 1 1000) from by simp_all [Ev.right, Ev.inn]]; rfl)

theorem eventRight_implE (kind id other price amount : Int) (h1 : kind ≠ 1) (h2 : kind ≠ 2) (h3 : kind ≠ 3) (h4 : kind ≠ 4) (h5 : kind ≠ 5) (w : World) :
    Calls Try.prog 65 #[.agg #[.int .i64 kind, .int .i64 id, .int .i64 other, .int .i64 price, .int .i64 amount]] w fun e w' => e = .returned (.bool (Ev.right ⟨kind, id, other, price, amount⟩)) ∧ Below w.heap.size w w' := by
  rcases Decidable.em (kind ≠ 0) with g | g
  · exact eventRight_implEnkind kind id other price amount h1 h2 h3 h4 h5 g w
  obtain rfl : kind = 0 := by omega
  rcases Decidable.em (id ≠ 0) with g | g
  · exact eventRight_implEnid id other price amount g w
  obtain rfl : id = 0 := by omega
  rcases Decidable.em (other ≠ 0) with g | g
  · exact eventRight_implEnother other price amount g w
  obtain rfl : other = 0 := by omega
  rcases Decidable.em (price ≠ 0) with g | g
  · exact eventRight_implEnprice price amount g w
  obtain rfl : price = 0 := by omega
  rcases Decidable.em (amount ≠ 0) with g | g
  · exact eventRight_implEnamount amount g w
  obtain rfl : amount = 0 := by omega
  exact eventRight_implEz w

theorem eventRight_impl (c : Ev.E) (w : World) :
    Calls Try.prog 65 #[.agg #[.int .i64 c.kind, .int .i64 c.id, .int .i64 c.other, .int .i64 c.price, .int .i64 c.amount]] w fun e w' => e = .returned (.bool (Ev.right c)) ∧ Below w.heap.size w w' := by
  obtain ⟨kind, id, other, price, amount⟩ := c
  by_cases h1 : kind = 1
  · subst h1; exact eventRight_impl1 id other price amount w
  by_cases h2 : kind = 2
  · subst h2; exact eventRight_impl2 id other price amount w
  by_cases h3 : kind = 3
  · subst h3; exact eventRight_impl3 id other price amount w
  by_cases h4 : kind = 4
  · subst h4; exact eventRight_impl4 id other price amount w
  by_cases h5 : kind = 5
  · subst h5; exact eventRight_impl5 id other price amount w
  exact eventRight_implE kind id other price amount h1 h2 h3 h4 h5 w
end Go.Proofs.Ytficlppngnnpoaa

/- The walk of the specification's question whether an event is right. -/
import Derived.Test.YtficlppngnnpoaaProg
import Derived.Test.YtficlppngnnpoaaEventMath
import Derived.WalkKit
import Derived.WalkSpells
import Derived.WalkLawsBesides
import Derived.BigRegion
import Derived.BigQuiet
import Derived.Deep.RegionWith
import Derived.Lib.QuietBelow
namespace Go.Proofs.Ytficlppngnnpoaa
open Go.RowKit
set_option linter.unusedVariables false
set_option linter.unusedSimpArgs false

set_option maxHeartbeats 400000 in
theorem l02Is_ev (n lo hi : Int) (w : World) :
    Calls Try.prog 49 #[.int .i64 n, .int .i64 lo, .int .i64 hi] w fun e w' => e = .returned (.bool (Ev.inn n lo hi)) ∧ w' = w := by
  by_cases h0 : lo ≤ n
  · go_enter Try.func49, Try.ntmps49
    go_wp2
    go_ret
    refine ⟨?_, rfl⟩
    simp [Ev.inn, h0]
  · go_enter Try.func49, Try.ntmps49
    go_wp2
    go_ret
    refine ⟨?_, rfl⟩
    simp [Ev.inn]
    omega

theorem l04Price_ev (n : Int) (w : World) :
    Calls Try.prog 62 #[.int .i64 n] w fun e w' => e = .returned (.bool (Ev.inn n 1 10000)) ∧ w' = w := by
  go_enter Try.func62, Try.ntmps62
  go_wp2_with (go_at_call 49; refine (l02Is_ev _ _ _ _).mono ?_; rintro e w' ⟨rfl, rfl⟩)
  go_ret
  exact ⟨rfl, rfl⟩

theorem l04Amount_ev (n : Int) (w : World) :
    Calls Try.prog 63 #[.int .i64 n] w fun e w' => e = .returned (.bool (Ev.inn n 1 1000)) ∧ w' = w := by
  go_enter Try.func63, Try.ntmps63
  go_wp2_with (go_at_call 49; refine (l02Is_ev _ _ _ _).mono ?_; rintro e w' ⟨rfl, rfl⟩)
  go_ret
  exact ⟨rfl, rfl⟩

theorem l04Id_ev (n : Int) (w : World) :
    Calls Try.prog 66 #[.int .i64 n] w fun e w' => e = .returned (.bool (Ev.inn n 1 1000000)) ∧ w' = w := by
  go_enter Try.func66, Try.ntmps66
  go_wp2_with (go_at_call 49; refine (l02Is_ev _ _ _ _).mono ?_; rintro e w' ⟨rfl, rfl⟩)
  go_ret
  exact ⟨rfl, rfl⟩

set_option maxHeartbeats 4000000 in
theorem eventRight_spec1 (id other price amount : Int) (w : World) :
    Calls Try.prog 53 #[.agg #[.int .i64 1, .int .i64 id, .int .i64 other, .int .i64 price, .int .i64 amount]] w fun e w' => e = .returned (.bool (Ev.right ⟨1, id, other, price, amount⟩)) ∧ Below w.heap.size w w' := by
  go_enter Try.func53, Try.ntmps53
  go_wp2_with (first
    | (go_at_call 49; refine (l02Is_ev _ _ _ _).mono ?_; rintro e w' ⟨rfl, rfl⟩)
    | (go_at_call 62; refine (l04Price_ev _ _).mono ?_; rintro e w' ⟨rfl, rfl⟩)
    | (go_at_call 63; refine (l04Amount_ev _ _).mono ?_; rintro e w' ⟨rfl, rfl⟩)
    | (go_at_call 66; refine (l04Id_ev _ _).mono ?_; rintro e w' ⟨rfl, rfl⟩))
  all_goals go_ret
  all_goals refine ⟨?_, by repeat (first | exact Below.refl _ _ | refine Below.alloc ?_ (by simp <;> omega) _ | refine Below.setCell ?_ (by simp <;> omega) _)⟩
  all_goals first
    | (rw [show Ev.right _ = false from by simp_all [Ev.right, Ev.inn] <;> omega]; rfl)
    | (rw [show Ev.right _ = true from by simp_all [Ev.right, Ev.inn] <;> omega]; rfl)
    | (rw [show Ev.right _ = Ev.inn amount 1 1000 from by simp_all [Ev.right, Ev.inn] <;> omega]; rfl)
    | (rw [show Ev.right _ = Ev.inn id 1 1000000 from by simp_all [Ev.right, Ev.inn] <;> omega]; rfl)
    | (rw [show Ev.right _ = Ev.inn id 1 20 from by simp_all [Ev.right, Ev.inn] <;> omega]; rfl)
    | (rw [show Ev.right _ = decide (amount = 0) from by simp_all [Ev.right, Ev.inn] <;> omega]; rfl)
    | (rw [show Ev.right _ = (id != other && Ev.inn amount 1 1000) from by simp_all [Ev.right, Ev.inn]]; rfl)

set_option maxHeartbeats 4000000 in
theorem eventRight_spec2 (id other price amount : Int) (w : World) :
    Calls Try.prog 53 #[.agg #[.int .i64 2, .int .i64 id, .int .i64 other, .int .i64 price, .int .i64 amount]] w fun e w' => e = .returned (.bool (Ev.right ⟨2, id, other, price, amount⟩)) ∧ Below w.heap.size w w' := by
  go_enter Try.func53, Try.ntmps53
  go_wp2_with (first
    | (go_at_call 49; refine (l02Is_ev _ _ _ _).mono ?_; rintro e w' ⟨rfl, rfl⟩)
    | (go_at_call 62; refine (l04Price_ev _ _).mono ?_; rintro e w' ⟨rfl, rfl⟩)
    | (go_at_call 63; refine (l04Amount_ev _ _).mono ?_; rintro e w' ⟨rfl, rfl⟩)
    | (go_at_call 66; refine (l04Id_ev _ _).mono ?_; rintro e w' ⟨rfl, rfl⟩))
  all_goals go_ret
  all_goals refine ⟨?_, by repeat (first | exact Below.refl _ _ | refine Below.alloc ?_ (by simp <;> omega) _ | refine Below.setCell ?_ (by simp <;> omega) _)⟩
  all_goals first
    | (rw [show Ev.right _ = false from by simp_all [Ev.right, Ev.inn] <;> omega]; rfl)
    | (rw [show Ev.right _ = true from by simp_all [Ev.right, Ev.inn] <;> omega]; rfl)
    | (rw [show Ev.right _ = Ev.inn amount 1 1000 from by simp_all [Ev.right, Ev.inn] <;> omega]; rfl)
    | (rw [show Ev.right _ = Ev.inn id 1 1000000 from by simp_all [Ev.right, Ev.inn] <;> omega]; rfl)
    | (rw [show Ev.right _ = Ev.inn id 1 20 from by simp_all [Ev.right, Ev.inn] <;> omega]; rfl)
    | (rw [show Ev.right _ = decide (amount = 0) from by simp_all [Ev.right, Ev.inn] <;> omega]; rfl)
    | (rw [show Ev.right _ = (id != other && Ev.inn amount 1 1000) from by simp_all [Ev.right, Ev.inn]]; rfl)

set_option maxHeartbeats 4000000 in
theorem eventRight_spec3 (id other price amount : Int) (w : World) :
    Calls Try.prog 53 #[.agg #[.int .i64 3, .int .i64 id, .int .i64 other, .int .i64 price, .int .i64 amount]] w fun e w' => e = .returned (.bool (Ev.right ⟨3, id, other, price, amount⟩)) ∧ Below w.heap.size w w' := by
  go_enter Try.func53, Try.ntmps53
  go_wp2_with (first
    | (go_at_call 49; refine (l02Is_ev _ _ _ _).mono ?_; rintro e w' ⟨rfl, rfl⟩)
    | (go_at_call 62; refine (l04Price_ev _ _).mono ?_; rintro e w' ⟨rfl, rfl⟩)
    | (go_at_call 63; refine (l04Amount_ev _ _).mono ?_; rintro e w' ⟨rfl, rfl⟩)
    | (go_at_call 66; refine (l04Id_ev _ _).mono ?_; rintro e w' ⟨rfl, rfl⟩))
  all_goals go_ret
  all_goals refine ⟨?_, by repeat (first | exact Below.refl _ _ | refine Below.alloc ?_ (by simp <;> omega) _ | refine Below.setCell ?_ (by simp <;> omega) _)⟩
  all_goals first
    | (rw [show Ev.right _ = false from by simp_all [Ev.right, Ev.inn] <;> omega]; rfl)
    | (rw [show Ev.right _ = true from by simp_all [Ev.right, Ev.inn] <;> omega]; rfl)
    | (rw [show Ev.right _ = Ev.inn amount 1 1000 from by simp_all [Ev.right, Ev.inn] <;> omega]; rfl)
    | (rw [show Ev.right _ = Ev.inn id 1 1000000 from by simp_all [Ev.right, Ev.inn] <;> omega]; rfl)
    | (rw [show Ev.right _ = Ev.inn id 1 20 from by simp_all [Ev.right, Ev.inn] <;> omega]; rfl)
    | (rw [show Ev.right _ = decide (amount = 0) from by simp_all [Ev.right, Ev.inn] <;> omega]; rfl)
    | (rw [show Ev.right _ = (id != other && Ev.inn amount 1 1000) from by simp_all [Ev.right, Ev.inn]]; rfl)

set_option maxHeartbeats 4000000 in
theorem eventRight_spec4 (id other price amount : Int) (w : World) :
    Calls Try.prog 53 #[.agg #[.int .i64 4, .int .i64 id, .int .i64 other, .int .i64 price, .int .i64 amount]] w fun e w' => e = .returned (.bool (Ev.right ⟨4, id, other, price, amount⟩)) ∧ Below w.heap.size w w' := by
  go_enter Try.func53, Try.ntmps53
  go_wp2_with (first
    | (go_at_call 49; refine (l02Is_ev _ _ _ _).mono ?_; rintro e w' ⟨rfl, rfl⟩)
    | (go_at_call 62; refine (l04Price_ev _ _).mono ?_; rintro e w' ⟨rfl, rfl⟩)
    | (go_at_call 63; refine (l04Amount_ev _ _).mono ?_; rintro e w' ⟨rfl, rfl⟩)
    | (go_at_call 66; refine (l04Id_ev _ _).mono ?_; rintro e w' ⟨rfl, rfl⟩))
  all_goals go_ret
  all_goals refine ⟨?_, by repeat (first | exact Below.refl _ _ | refine Below.alloc ?_ (by simp <;> omega) _ | refine Below.setCell ?_ (by simp <;> omega) _)⟩
  all_goals first
    | (rw [show Ev.right _ = false from by simp_all [Ev.right, Ev.inn] <;> omega]; rfl)
    | (rw [show Ev.right _ = true from by simp_all [Ev.right, Ev.inn] <;> omega]; rfl)
    | (rw [show Ev.right _ = Ev.inn amount 1 1000 from by simp_all [Ev.right, Ev.inn] <;> omega]; rfl)
    | (rw [show Ev.right _ = Ev.inn id 1 1000000 from by simp_all [Ev.right, Ev.inn] <;> omega]; rfl)
    | (rw [show Ev.right _ = Ev.inn id 1 20 from by simp_all [Ev.right, Ev.inn] <;> omega]; rfl)
    | (rw [show Ev.right _ = decide (amount = 0) from by simp_all [Ev.right, Ev.inn] <;> omega]; rfl)
    | (rw [show Ev.right _ = (id != other && Ev.inn amount 1 1000) from by simp_all [Ev.right, Ev.inn]]; rfl)

set_option maxHeartbeats 4000000 in
theorem eventRight_spec5 (id other price amount : Int) (w : World) :
    Calls Try.prog 53 #[.agg #[.int .i64 5, .int .i64 id, .int .i64 other, .int .i64 price, .int .i64 amount]] w fun e w' => e = .returned (.bool (Ev.right ⟨5, id, other, price, amount⟩)) ∧ Below w.heap.size w w' := by
  go_enter Try.func53, Try.ntmps53
  go_wp2_with (first
    | (go_at_call 49; refine (l02Is_ev _ _ _ _).mono ?_; rintro e w' ⟨rfl, rfl⟩)
    | (go_at_call 62; refine (l04Price_ev _ _).mono ?_; rintro e w' ⟨rfl, rfl⟩)
    | (go_at_call 63; refine (l04Amount_ev _ _).mono ?_; rintro e w' ⟨rfl, rfl⟩)
    | (go_at_call 66; refine (l04Id_ev _ _).mono ?_; rintro e w' ⟨rfl, rfl⟩))
  all_goals go_ret
  all_goals refine ⟨?_, by repeat (first | exact Below.refl _ _ | refine Below.alloc ?_ (by simp <;> omega) _ | refine Below.setCell ?_ (by simp <;> omega) _)⟩
  all_goals first
    | (rw [show Ev.right _ = false from by simp_all [Ev.right, Ev.inn] <;> omega]; rfl)
    | (rw [show Ev.right _ = true from by simp_all [Ev.right, Ev.inn] <;> omega]; rfl)
    | (rw [show Ev.right _ = Ev.inn amount 1 1000 from by simp_all [Ev.right, Ev.inn] <;> omega]; rfl)
    | (rw [show Ev.right _ = Ev.inn id 1 1000000 from by simp_all [Ev.right, Ev.inn] <;> omega]; rfl)
    | (rw [show Ev.right _ = Ev.inn id 1 20 from by simp_all [Ev.right, Ev.inn] <;> omega]; rfl)
    | (rw [show Ev.right _ = decide (amount = 0) from by simp_all [Ev.right, Ev.inn] <;> omega]; rfl)
    | (rw [show Ev.right _ = (id != other && Ev.inn amount 1 1000) from by simp_all [Ev.right, Ev.inn]]; rfl)

set_option maxHeartbeats 4000000 in
theorem eventRight_specE (kind id other price amount : Int) (h1 : kind ≠ 1) (h2 : kind ≠ 2) (h3 : kind ≠ 3) (h4 : kind ≠ 4) (h5 : kind ≠ 5) (w : World) :
    Calls Try.prog 53 #[.agg #[.int .i64 kind, .int .i64 id, .int .i64 other, .int .i64 price, .int .i64 amount]] w fun e w' => e = .returned (.bool (Ev.right ⟨kind, id, other, price, amount⟩)) ∧ Below w.heap.size w w' := by
  have HB : Hid (∀ o, Below w.heap.size w (w.alloc o)) := fun o => (Below.refl w.heap.size w).alloc (Nat.le_refl _) o
  have HR : Hid (Ev.right ⟨kind, id, other, price, amount⟩ = false) := by show _ = _; simp [Ev.right, h1, h2, h3, h4, h5]
  have k1 : (kind == 1) = false := by simpa using h1
  have k2 : (kind == 2) = false := by simpa using h2
  have k3 : (kind == 3) = false := by simpa using h3
  have k4 : (kind == 4) = false := by simpa using h4
  have k5 : (kind == 5) = false := by simpa using h5
  go_enter Try.func53, Try.ntmps53
  go_wp2_with fail
  go_ret
  exact ⟨by rw [HR.out]; rfl, HB.out _⟩

theorem eventRight_spec (c : Ev.E) (w : World) :
    Calls Try.prog 53 #[.agg #[.int .i64 c.kind, .int .i64 c.id, .int .i64 c.other, .int .i64 c.price, .int .i64 c.amount]] w fun e w' => e = .returned (.bool (Ev.right c)) ∧ Below w.heap.size w w' := by
  obtain ⟨kind, id, other, price, amount⟩ := c
  by_cases h1 : kind = 1
  · subst h1; exact eventRight_spec1 id other price amount w
  by_cases h2 : kind = 2
  · subst h2; exact eventRight_spec2 id other price amount w
  by_cases h3 : kind = 3
  · subst h3; exact eventRight_spec3 id other price amount w
  by_cases h4 : kind = 4
  · subst h4; exact eventRight_spec4 id other price amount w
  by_cases h5 : kind = 5
  · subst h5; exact eventRight_spec5 id other price amount w
  exact eventRight_specE kind id other price amount h1 h2 h3 h4 h5 w
end Go.Proofs.Ytficlppngnnpoaa

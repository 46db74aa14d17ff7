/- The walks of the specification's questions whether a command is right, and an old one. -/
import Derived.Test.YtfagldipjpaceaaProg
import Derived.Test.YtfagldipjpaceaaJoined1
import Derived.WalkKit
import Derived.WalkSpells
import Derived.WalkLawsBesides
import Derived.BigRegion
import Derived.BigQuiet
import Derived.Deep.RegionWith
import Derived.Lib.QuietBelow
namespace Go.Proofs.Ytfagldipjpaceaa
open Go.RowKit
set_option linter.unusedVariables false
set_option linter.unusedSimpArgs false

set_option maxHeartbeats 400000 in
theorem l02Is_inn (n lo hi : Int) (w : World) :
    Calls Try.prog 57 #[.int .i64 n, .int .i64 lo, .int .i64 hi] w fun e w' => e = .returned (.bool (Cm.inn n lo hi)) ∧ w' = w := by
  by_cases h0 : lo ≤ n
  · go_enter Try.func57, Try.ntmps57
    go_wp2
    go_ret
    refine ⟨?_, rfl⟩
    simp [Cm.inn, h0]
  · go_enter Try.func57, Try.ntmps57
    go_wp2
    go_ret
    refine ⟨?_, rfl⟩
    simp [Cm.inn]
    omega

theorem l04Owner_any (n : Int) (w : World) :
    Calls Try.prog 73 #[.int .i64 n] w fun e w' => e = .returned (.bool (Cm.inn n 1 9)) ∧ w' = w := by
  go_enter Try.func73, Try.ntmps73
  go_wp2_with (go_at_call 57; refine (l02Is_inn _ _ _ _).mono ?_; rintro e w' ⟨rfl, rfl⟩)
  go_ret
  exact ⟨rfl, rfl⟩

theorem l04Price_any (n : Int) (w : World) :
    Calls Try.prog 55 #[.int .i64 n] w fun e w' => e = .returned (.bool (Cm.inn n 1 10000)) ∧ w' = w := by
  go_enter Try.func55, Try.ntmps55
  go_wp2_with (go_at_call 57; refine (l02Is_inn _ _ _ _).mono ?_; rintro e w' ⟨rfl, rfl⟩)
  go_ret
  exact ⟨rfl, rfl⟩

theorem l04Amount_any (n : Int) (w : World) :
    Calls Try.prog 56 #[.int .i64 n] w fun e w' => e = .returned (.bool (Cm.inn n 1 1000)) ∧ w' = w := by
  go_enter Try.func56, Try.ntmps56
  go_wp2_with (go_at_call 57; refine (l02Is_inn _ _ _ _).mono ?_; rintro e w' ⟨rfl, rfl⟩)
  go_ret
  exact ⟨rfl, rfl⟩

theorem l04Id_any (n : Int) (w : World) :
    Calls Try.prog 54 #[.int .i64 n] w fun e w' => e = .returned (.bool (Cm.inn n 1 1000000)) ∧ w' = w := by
  go_enter Try.func54, Try.ntmps54
  go_wp2_with (go_at_call 57; refine (l02Is_inn _ _ _ _).mono ?_; rintro e w' ⟨rfl, rfl⟩)
  go_ret
  exact ⟨rfl, rfl⟩

set_option maxHeartbeats 2000000 in
theorem l04Plain_any (c : Cm.C) (w : World) :
    Calls Try.prog 74 #[.agg #[.int .i64 c.kind, .int .i64 c.owner, .int .i64 c.id, .bool c.buy, .int .i64 c.price, .int .i64 c.amount, .int .i64 c.life, .bool c.post, .int .i64 c.peak, .bool c.guard]] w fun e w' => e = .returned (.bool (Cm.plain c)) ∧ w' = w.alloc (.cells #[.int .i64 c.kind, .int .i64 c.owner, .int .i64 c.id, .bool c.buy, .int .i64 c.price, .int .i64 c.amount, .int .i64 c.life, .bool c.post, .int .i64 c.peak, .bool c.guard] 27) := by
  obtain ⟨kind, owner, id, buy, price, amount, life, post, peak, guard⟩ := c
  by_cases hl : life = 0 <;> by_cases hp : peak = 0 <;> cases post <;> cases guard
  all_goals
    go_enter Try.func74, Try.ntmps74
    go_wp2_with fail
    all_goals go_ret
    all_goals refine ⟨?_, by first | rfl | simp_all⟩
    all_goals simp_all [Cm.plain]
    all_goals first | done | (rw [Bool.eq_iff_iff]; simp)

set_option maxHeartbeats 2000000 in
theorem l04Rest_any (c : Cm.C) (i p a o : Bool) (w : World) :
    Calls Try.prog 72 #[.agg #[.int .i64 c.kind, .int .i64 c.owner, .int .i64 c.id, .bool c.buy, .int .i64 c.price, .int .i64 c.amount, .int .i64 c.life, .bool c.post, .int .i64 c.peak, .bool c.guard], .bool i, .bool p, .bool a, .bool o] w fun e w' => e = .returned (.bool ((i || decide (c.id = 0)) && ((p || decide (c.price = 0)) && ((a || decide (c.amount = 0)) && (o || decide (c.owner = 0)))))) ∧ w' = w.alloc (.cells #[.int .i64 c.kind, .int .i64 c.owner, .int .i64 c.id, .bool c.buy, .int .i64 c.price, .int .i64 c.amount, .int .i64 c.life, .bool c.post, .int .i64 c.peak, .bool c.guard] 27) := by
  obtain ⟨kind, owner, id, buy, price, amount, life, post, peak, guard⟩ := c
  cases i <;> cases p <;> cases a <;> cases o
  all_goals
    go_enter Try.func72, Try.ntmps72
    go_wp2_with fail
    all_goals go_ret
    all_goals refine ⟨?_, by first | rfl | simp_all⟩
    all_goals simp_all
    all_goals first | done | (rw [Bool.eq_iff_iff]; simp)

set_option maxHeartbeats 4000000 in
theorem cmdRight_spec2 (c : Cm.C) (hk : c.kind = 2) (w : World) :
    Calls Try.prog 41 #[.agg #[.int .i64 c.kind, .int .i64 c.owner, .int .i64 c.id, .bool c.buy, .int .i64 c.price, .int .i64 c.amount, .int .i64 c.life, .bool c.post, .int .i64 c.peak, .bool c.guard]] w fun e w' => e = .returned (.bool (Cm.right c)) ∧ Below w.heap.size w w' := by
  obtain ⟨kind, owner, id, buy, price, amount, life, post, peak, guard⟩ := c
  subst hk
  go_enter Try.func41, Try.ntmps41
  go_wp2_with (first
    | (go_at_call 57; refine (l02Is_inn _ _ _ _).mono ?_; rintro e w' ⟨rfl, rfl⟩)
    | (go_at_call 73; refine (l04Owner_any _ _).mono ?_; rintro e w' ⟨rfl, rfl⟩)
    | (go_at_call 55; refine (l04Price_any _ _).mono ?_; rintro e w' ⟨rfl, rfl⟩)
    | (go_at_call 56; refine (l04Amount_any _ _).mono ?_; rintro e w' ⟨rfl, rfl⟩)
    | (go_at_call 54; refine (l04Id_any _ _).mono ?_; rintro e w' ⟨rfl, rfl⟩)
    | (go_at_call 74; refine (l04Plain_any ⟨_, _, _, _, _, _, _, _, _, _⟩ _).mono ?_; rintro e w' ⟨rfl, rfl⟩)
    | (go_at_call 72; refine (l04Rest_any ⟨_, _, _, _, _, _, _, _, _, _⟩ _ _ _ _ _).mono ?_; rintro e w' ⟨rfl, rfl⟩))
  all_goals go_ret
  all_goals refine ⟨?_, by repeat (first | exact Below.refl _ _ | refine Below.alloc ?_ (by simp <;> omega) _)⟩
  all_goals first
    | (rw [show Cm.right _ = false from by simp_all [Cm.right, Cm.market, Cm.plain, Cm.inn] <;> omega]; rfl)
    | (rw [show Cm.right _ = true from by simp_all [Cm.right, Cm.market, Cm.plain, Cm.inn] <;> omega]; rfl)
    | (rw [show Cm.right _ = Cm.inn amount 1 1000 from by simp_all [Cm.right, Cm.market, Cm.plain, Cm.inn] <;> omega]; rfl)

set_option maxHeartbeats 4000000 in
theorem cmdRight_spec3 (c : Cm.C) (hk : c.kind = 3) (w : World) :
    Calls Try.prog 41 #[.agg #[.int .i64 c.kind, .int .i64 c.owner, .int .i64 c.id, .bool c.buy, .int .i64 c.price, .int .i64 c.amount, .int .i64 c.life, .bool c.post, .int .i64 c.peak, .bool c.guard]] w fun e w' => e = .returned (.bool (Cm.right c)) ∧ Below w.heap.size w w' := by
  obtain ⟨kind, owner, id, buy, price, amount, life, post, peak, guard⟩ := c
  subst hk
  go_enter Try.func41, Try.ntmps41
  go_wp2_with (first
    | (go_at_call 57; refine (l02Is_inn _ _ _ _).mono ?_; rintro e w' ⟨rfl, rfl⟩)
    | (go_at_call 73; refine (l04Owner_any _ _).mono ?_; rintro e w' ⟨rfl, rfl⟩)
    | (go_at_call 55; refine (l04Price_any _ _).mono ?_; rintro e w' ⟨rfl, rfl⟩)
    | (go_at_call 56; refine (l04Amount_any _ _).mono ?_; rintro e w' ⟨rfl, rfl⟩)
    | (go_at_call 54; refine (l04Id_any _ _).mono ?_; rintro e w' ⟨rfl, rfl⟩)
    | (go_at_call 74; refine (l04Plain_any ⟨_, _, _, _, _, _, _, _, _, _⟩ _).mono ?_; rintro e w' ⟨rfl, rfl⟩)
    | (go_at_call 72; refine (l04Rest_any ⟨_, _, _, _, _, _, _, _, _, _⟩ _ _ _ _ _).mono ?_; rintro e w' ⟨rfl, rfl⟩))
  all_goals go_ret
  all_goals refine ⟨?_, by repeat (first | exact Below.refl _ _ | refine Below.alloc ?_ (by simp <;> omega) _)⟩
  all_goals first
    | (rw [show Cm.right _ = false from by simp_all [Cm.right, Cm.cancel, Cm.plain, Cm.inn] <;> omega]; rfl)
    | (rw [show Cm.right _ = true from by simp_all [Cm.right, Cm.cancel, Cm.plain, Cm.inn] <;> omega]; rfl)
    | (rw [show Cm.right _ = Cm.inn id 1 1000000 from by simp_all [Cm.right, Cm.cancel, Cm.plain, Cm.inn] <;> omega]; rfl)

set_option maxHeartbeats 4000000 in
theorem cmdRight_spec4 (c : Cm.C) (hk : c.kind = 4) (w : World) :
    Calls Try.prog 41 #[.agg #[.int .i64 c.kind, .int .i64 c.owner, .int .i64 c.id, .bool c.buy, .int .i64 c.price, .int .i64 c.amount, .int .i64 c.life, .bool c.post, .int .i64 c.peak, .bool c.guard]] w fun e w' => e = .returned (.bool (Cm.right c)) ∧ Below w.heap.size w w' := by
  obtain ⟨kind, owner, id, buy, price, amount, life, post, peak, guard⟩ := c
  subst hk
  go_enter Try.func41, Try.ntmps41
  go_wp2_with (first
    | (go_at_call 57; refine (l02Is_inn _ _ _ _).mono ?_; rintro e w' ⟨rfl, rfl⟩)
    | (go_at_call 73; refine (l04Owner_any _ _).mono ?_; rintro e w' ⟨rfl, rfl⟩)
    | (go_at_call 55; refine (l04Price_any _ _).mono ?_; rintro e w' ⟨rfl, rfl⟩)
    | (go_at_call 56; refine (l04Amount_any _ _).mono ?_; rintro e w' ⟨rfl, rfl⟩)
    | (go_at_call 54; refine (l04Id_any _ _).mono ?_; rintro e w' ⟨rfl, rfl⟩)
    | (go_at_call 74; refine (l04Plain_any ⟨_, _, _, _, _, _, _, _, _, _⟩ _).mono ?_; rintro e w' ⟨rfl, rfl⟩)
    | (go_at_call 72; refine (l04Rest_any ⟨_, _, _, _, _, _, _, _, _, _⟩ _ _ _ _ _).mono ?_; rintro e w' ⟨rfl, rfl⟩))
  all_goals go_ret
  all_goals refine ⟨?_, by repeat (first | exact Below.refl _ _ | refine Below.alloc ?_ (by simp <;> omega) _)⟩
  all_goals first
    | (rw [show Cm.right _ = false from by simp_all [Cm.right, Cm.replace, Cm.plain, Cm.inn] <;> omega]; rfl)
    | (rw [show Cm.right _ = true from by simp_all [Cm.right, Cm.replace, Cm.plain, Cm.inn] <;> omega]; rfl)
    | (rw [show Cm.right _ = Cm.inn amount 1 1000 from by simp_all [Cm.right, Cm.replace, Cm.plain, Cm.inn] <;> omega]; rfl)

set_option maxHeartbeats 4000000 in
theorem cmdRight_spec5 (c : Cm.C) (hk : c.kind = 5) (w : World) :
    Calls Try.prog 41 #[.agg #[.int .i64 c.kind, .int .i64 c.owner, .int .i64 c.id, .bool c.buy, .int .i64 c.price, .int .i64 c.amount, .int .i64 c.life, .bool c.post, .int .i64 c.peak, .bool c.guard]] w fun e w' => e = .returned (.bool (Cm.right c)) ∧ Below w.heap.size w w' := by
  obtain ⟨kind, owner, id, buy, price, amount, life, post, peak, guard⟩ := c
  subst hk
  go_enter Try.func41, Try.ntmps41
  go_wp2_with (first
    | (go_at_call 57; refine (l02Is_inn _ _ _ _).mono ?_; rintro e w' ⟨rfl, rfl⟩)
    | (go_at_call 73; refine (l04Owner_any _ _).mono ?_; rintro e w' ⟨rfl, rfl⟩)
    | (go_at_call 55; refine (l04Price_any _ _).mono ?_; rintro e w' ⟨rfl, rfl⟩)
    | (go_at_call 56; refine (l04Amount_any _ _).mono ?_; rintro e w' ⟨rfl, rfl⟩)
    | (go_at_call 54; refine (l04Id_any _ _).mono ?_; rintro e w' ⟨rfl, rfl⟩)
    | (go_at_call 74; refine (l04Plain_any ⟨_, _, _, _, _, _, _, _, _, _⟩ _).mono ?_; rintro e w' ⟨rfl, rfl⟩)
    | (go_at_call 72; refine (l04Rest_any ⟨_, _, _, _, _, _, _, _, _, _⟩ _ _ _ _ _).mono ?_; rintro e w' ⟨rfl, rfl⟩))
  all_goals go_ret
  all_goals refine ⟨?_, by repeat (first | exact Below.refl _ _ | refine Below.alloc ?_ (by simp <;> omega) _)⟩
  all_goals first
    | (rw [show Cm.right _ = false from by simp_all [Cm.right, Cm.roll, Cm.plain, Cm.inn] <;> omega]; rfl)
    | (rw [show Cm.right _ = true from by simp_all [Cm.right, Cm.roll, Cm.plain, Cm.inn] <;> omega]; rfl)
    | (rw [show Cm.right _ = (!buy) from by simp_all [Cm.right, Cm.roll, Cm.plain, Cm.inn] <;> omega]; rfl)

set_option maxHeartbeats 4000000 in
theorem cmdRight_spec1 (c : Cm.C) (hk : c.kind = 1) (w : World) :
    Calls Try.prog 41 #[.agg #[.int .i64 c.kind, .int .i64 c.owner, .int .i64 c.id, .bool c.buy, .int .i64 c.price, .int .i64 c.amount, .int .i64 c.life, .bool c.post, .int .i64 c.peak, .bool c.guard]] w fun e w' => e = .returned (.bool (Cm.right c)) ∧ Below w.heap.size w w' := by
  obtain ⟨kind, owner, id, buy, price, amount, life, post, peak, guard⟩ := c
  subst hk
  go_enter Try.func41, Try.ntmps41
  go_wp2_with (first
    | (go_at_call 57; refine (l02Is_inn _ _ _ _).mono ?_; rintro e w' ⟨rfl, rfl⟩)
    | (go_at_call 73; refine (l04Owner_any _ _).mono ?_; rintro e w' ⟨rfl, rfl⟩)
    | (go_at_call 55; refine (l04Price_any _ _).mono ?_; rintro e w' ⟨rfl, rfl⟩)
    | (go_at_call 56; refine (l04Amount_any _ _).mono ?_; rintro e w' ⟨rfl, rfl⟩)
    | (go_at_call 54; refine (l04Id_any _ _).mono ?_; rintro e w' ⟨rfl, rfl⟩)
    | (go_at_call 74; refine (l04Plain_any ⟨_, _, _, _, _, _, _, _, _, _⟩ _).mono ?_; rintro e w' ⟨rfl, rfl⟩)
    | (go_at_call 72; refine (l04Rest_any ⟨_, _, _, _, _, _, _, _, _, _⟩ _ _ _ _ _).mono ?_; rintro e w' ⟨rfl, rfl⟩))
  all_goals go_ret
  all_goals refine ⟨?_, by repeat (first | exact Below.refl _ _ | refine Below.alloc ?_ (by simp <;> omega) _)⟩
  all_goals first
    | (rw [show Cm.right _ = false from by simp_all [Cm.right, Cm.limit, Cm.plain, Cm.inn] <;> omega]; rfl)
    | (rw [show Cm.right _ = true from by simp_all [Cm.right, Cm.limit, Cm.plain, Cm.inn] <;> omega]; rfl)
    | (rw [show Cm.right _ = Cm.inn peak 0 amount from by simp_all [Cm.right, Cm.limit, Cm.plain, Cm.inn] <;> omega]; rfl)
    | (rw [show Cm.right _ = Cm.inn 0 0 amount from by simp_all [Cm.right, Cm.limit, Cm.plain, Cm.inn] <;> omega]; rfl)

set_option maxHeartbeats 4000000 in
theorem cmdRight_spec (c : Cm.C) (w : World) :
    Calls Try.prog 41 #[.agg #[.int .i64 c.kind, .int .i64 c.owner, .int .i64 c.id, .bool c.buy, .int .i64 c.price, .int .i64 c.amount, .int .i64 c.life, .bool c.post, .int .i64 c.peak, .bool c.guard]] w fun e w' => e = .returned (.bool (Cm.right c)) ∧ Below w.heap.size w w' := by
  by_cases h1 : c.kind = 1
  · exact cmdRight_spec1 c h1 w
  by_cases h2 : c.kind = 2
  · exact cmdRight_spec2 c h2 w
  by_cases h3 : c.kind = 3
  · exact cmdRight_spec3 c h3 w
  by_cases h4 : c.kind = 4
  · exact cmdRight_spec4 c h4 w
  by_cases h5 : c.kind = 5
  · exact cmdRight_spec5 c h5 w
  have HB : Hid (∀ o, Below w.heap.size w (w.alloc o)) := fun o => (Below.refl w.heap.size w).alloc (Nat.le_refl _) o
  have HR : Hid (Cm.right c = false) := by show _ = _; simp [Cm.right, h1, h2, h3, h4, h5]
  have k1 : (c.kind == 1) = false := by simpa using h1
  have k2 : (c.kind == 2) = false := by simpa using h2
  have k3 : (c.kind == 3) = false := by simpa using h3
  have k4 : (c.kind == 4) = false := by simpa using h4
  have k5 : (c.kind == 5) = false := by simpa using h5
  go_enter Try.func41, Try.ntmps41
  go_wp2_with fail
  go_ret
  exact ⟨by rw [HR.out]; rfl, HB.out _⟩
end Go.Proofs.Ytfagldipjpaceaa

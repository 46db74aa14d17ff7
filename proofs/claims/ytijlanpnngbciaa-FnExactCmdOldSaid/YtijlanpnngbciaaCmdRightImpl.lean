/- The walk of the program's question whether a command is right. -/
import Derived.Test.YtijlanpnngbciaaCmdRightBase
namespace Go.Proofs.Ytijlanpnngbciaa
open Go.RowKit
set_option linter.unusedVariables false
set_option linter.unusedSimpArgs false

set_option maxHeartbeats 2000000 in
theorem limitRight_any (c : Cm.C) (w : World) :
    Calls Try.prog 28 #[.agg #[.int .i64 c.kind, .int .i64 c.owner, .int .i64 c.id, .bool c.buy, .int .i64 c.price, .int .i64 c.amount, .int .i64 c.life, .bool c.post, .int .i64 c.peak, .bool c.guard]] w fun e w' => e = .returned (.bool (Cm.limit c)) ∧ Below w.heap.size w w' := by
  obtain ⟨kind, owner, id, buy, price, amount, life, post, peak, guard⟩ := c
  have hl : life = 0 ∨ life = 1 ∨ life = 2 ∨ life = 3 ∨ (life < 0 ∨ 3 < life) := by omega
  rcases hl with rfl | rfl | rfl | rfl | hl
  all_goals
    go_enter Try.func28, Try.ntmps28
    go_wp2_with (first
    | (go_at_call 29; refine (ownerRight_any ⟨_, _, _, _, _, _, _, _, _, _⟩ _).mono ?_; rintro e w' ⟨rfl, rfl⟩)
    | (go_at_call 30; refine (amountRight_any ⟨_, _, _, _, _, _, _, _, _, _⟩ _).mono ?_; rintro e w' ⟨rfl, rfl⟩)
    | (go_at_call 31; refine (idRight_any ⟨_, _, _, _, _, _, _, _, _, _⟩ _).mono ?_; rintro e w' ⟨rfl, rfl⟩)
    | (go_at_call 32; refine (priceRight_any ⟨_, _, _, _, _, _, _, _, _, _⟩ _).mono ?_; rintro e w' ⟨rfl, rfl⟩)
    | (go_at_call 58; refine (within_any _ _ _ _).mono ?_; rintro e w' ⟨rfl, rfl⟩))
  all_goals go_ret
  all_goals refine ⟨?_, by repeat (first | exact Below.refl _ _ | refine Below.alloc ?_ (by simp <;> omega) _)⟩
  all_goals first
    | (rw [show Cm.limit _ = false from by simp_all [Cm.limit, Cm.inn] <;> omega]; rfl)
    | (rw [show Cm.limit _ = Cm.inn peak 0 amount from by simp_all [Cm.limit, Cm.inn] <;> omega]; rfl)
    | (rw [show Cm.limit _ = decide (peak = 0) from by simp_all [Cm.limit, Cm.inn] <;> omega]; rfl)
    | (rw [show Cm.limit _ = (!post) from by simp_all [Cm.limit, Cm.inn] <;> omega]; rfl)

set_option maxHeartbeats 4000000 in
theorem cmdRight_impl2 (c : Cm.C) (hk : c.kind = 2) (w : World) :
    Calls Try.prog 12 #[.agg #[.int .i64 c.kind, .int .i64 c.owner, .int .i64 c.id, .bool c.buy, .int .i64 c.price, .int .i64 c.amount, .int .i64 c.life, .bool c.post, .int .i64 c.peak, .bool c.guard]] w fun e w' => e = .returned (.bool (Cm.right c)) ∧ Below w.heap.size w w' := by
  obtain ⟨kind, owner, id, buy, price, amount, life, post, peak, guard⟩ := c
  subst hk
  go_enter Try.func12, Try.ntmps12
  go_wp2_with (first
    | (go_at_call 29; refine (ownerRight_any ⟨_, _, _, _, _, _, _, _, _, _⟩ _).mono ?_; rintro e w' ⟨rfl, rfl⟩)
    | (go_at_call 30; refine (amountRight_any ⟨_, _, _, _, _, _, _, _, _, _⟩ _).mono ?_; rintro e w' ⟨rfl, rfl⟩)
    | (go_at_call 31; refine (idRight_any ⟨_, _, _, _, _, _, _, _, _, _⟩ _).mono ?_; rintro e w' ⟨rfl, rfl⟩)
    | (go_at_call 32; refine (priceRight_any ⟨_, _, _, _, _, _, _, _, _, _⟩ _).mono ?_; rintro e w' ⟨rfl, rfl⟩))
  all_goals go_ret
  all_goals refine ⟨?_, by repeat (first | exact Below.refl _ _ | refine Below.alloc ?_ (by simp <;> omega) _)⟩
  all_goals first
    | (rw [show Cm.right _ = false from by simp_all [Cm.right, Cm.market, Cm.plain, Cm.inn] <;> omega]; rfl)
    | (rw [show Cm.right _ = true from by simp_all [Cm.right, Cm.market, Cm.plain, Cm.inn] <;> omega]; rfl)
    | (rw [show Cm.right _ = Cm.inn amount 1 1000 from by simp_all [Cm.right, Cm.market, Cm.plain, Cm.inn] <;> omega]; rfl)

set_option maxHeartbeats 4000000 in
theorem cmdRight_impl3 (c : Cm.C) (hk : c.kind = 3) (w : World) :
    Calls Try.prog 12 #[.agg #[.int .i64 c.kind, .int .i64 c.owner, .int .i64 c.id, .bool c.buy, .int .i64 c.price, .int .i64 c.amount, .int .i64 c.life, .bool c.post, .int .i64 c.peak, .bool c.guard]] w fun e w' => e = .returned (.bool (Cm.right c)) ∧ Below w.heap.size w w' := by
  obtain ⟨kind, owner, id, buy, price, amount, life, post, peak, guard⟩ := c
  subst hk
  go_enter Try.func12, Try.ntmps12
  go_wp2_with (first
    | (go_at_call 29; refine (ownerRight_any ⟨_, _, _, _, _, _, _, _, _, _⟩ _).mono ?_; rintro e w' ⟨rfl, rfl⟩)
    | (go_at_call 30; refine (amountRight_any ⟨_, _, _, _, _, _, _, _, _, _⟩ _).mono ?_; rintro e w' ⟨rfl, rfl⟩)
    | (go_at_call 31; refine (idRight_any ⟨_, _, _, _, _, _, _, _, _, _⟩ _).mono ?_; rintro e w' ⟨rfl, rfl⟩)
    | (go_at_call 32; refine (priceRight_any ⟨_, _, _, _, _, _, _, _, _, _⟩ _).mono ?_; rintro e w' ⟨rfl, rfl⟩))
  all_goals go_ret
  all_goals refine ⟨?_, by repeat (first | exact Below.refl _ _ | refine Below.alloc ?_ (by simp <;> omega) _)⟩
  all_goals first
    | (rw [show Cm.right _ = false from by simp_all [Cm.right, Cm.cancel, Cm.plain, Cm.inn] <;> omega]; rfl)
    | (rw [show Cm.right _ = true from by simp_all [Cm.right, Cm.cancel, Cm.plain, Cm.inn] <;> omega]; rfl)
    | (rw [show Cm.right _ = Cm.inn id 1 1000000 from by simp_all [Cm.right, Cm.cancel, Cm.plain, Cm.inn] <;> omega]; rfl)

set_option maxHeartbeats 4000000 in
theorem cmdRight_impl4 (c : Cm.C) (hk : c.kind = 4) (w : World) :
    Calls Try.prog 12 #[.agg #[.int .i64 c.kind, .int .i64 c.owner, .int .i64 c.id, .bool c.buy, .int .i64 c.price, .int .i64 c.amount, .int .i64 c.life, .bool c.post, .int .i64 c.peak, .bool c.guard]] w fun e w' => e = .returned (.bool (Cm.right c)) ∧ Below w.heap.size w w' := by
  obtain ⟨kind, owner, id, buy, price, amount, life, post, peak, guard⟩ := c
  subst hk
  go_enter Try.func12, Try.ntmps12
  go_wp2_with (first
    | (go_at_call 29; refine (ownerRight_any ⟨_, _, _, _, _, _, _, _, _, _⟩ _).mono ?_; rintro e w' ⟨rfl, rfl⟩)
    | (go_at_call 30; refine (amountRight_any ⟨_, _, _, _, _, _, _, _, _, _⟩ _).mono ?_; rintro e w' ⟨rfl, rfl⟩)
    | (go_at_call 31; refine (idRight_any ⟨_, _, _, _, _, _, _, _, _, _⟩ _).mono ?_; rintro e w' ⟨rfl, rfl⟩)
    | (go_at_call 32; refine (priceRight_any ⟨_, _, _, _, _, _, _, _, _, _⟩ _).mono ?_; rintro e w' ⟨rfl, rfl⟩))
  all_goals go_ret
  all_goals refine ⟨?_, by repeat (first | exact Below.refl _ _ | refine Below.alloc ?_ (by simp <;> omega) _)⟩
  all_goals first
    | (rw [show Cm.right _ = false from by simp_all [Cm.right, Cm.replace, Cm.plain, Cm.inn] <;> omega]; rfl)
    | (rw [show Cm.right _ = true from by simp_all [Cm.right, Cm.replace, Cm.plain, Cm.inn] <;> omega]; rfl)
    | (rw [show Cm.right _ = Cm.inn amount 1 1000 from by simp_all [Cm.right, Cm.replace, Cm.plain, Cm.inn] <;> omega]; rfl)

set_option maxHeartbeats 4000000 in
theorem cmdRight_impl5 (c : Cm.C) (hk : c.kind = 5) (w : World) :
    Calls Try.prog 12 #[.agg #[.int .i64 c.kind, .int .i64 c.owner, .int .i64 c.id, .bool c.buy, .int .i64 c.price, .int .i64 c.amount, .int .i64 c.life, .bool c.post, .int .i64 c.peak, .bool c.guard]] w fun e w' => e = .returned (.bool (Cm.right c)) ∧ Below w.heap.size w w' := by
  obtain ⟨kind, owner, id, buy, price, amount, life, post, peak, guard⟩ := c
  subst hk
  go_enter Try.func12, Try.ntmps12
  go_wp2_with (first
    | (go_at_call 29; refine (ownerRight_any ⟨_, _, _, _, _, _, _, _, _, _⟩ _).mono ?_; rintro e w' ⟨rfl, rfl⟩)
    | (go_at_call 30; refine (amountRight_any ⟨_, _, _, _, _, _, _, _, _, _⟩ _).mono ?_; rintro e w' ⟨rfl, rfl⟩)
    | (go_at_call 31; refine (idRight_any ⟨_, _, _, _, _, _, _, _, _, _⟩ _).mono ?_; rintro e w' ⟨rfl, rfl⟩)
    | (go_at_call 32; refine (priceRight_any ⟨_, _, _, _, _, _, _, _, _, _⟩ _).mono ?_; rintro e w' ⟨rfl, rfl⟩))
  all_goals go_ret
  all_goals refine ⟨?_, by repeat (first | exact Below.refl _ _ | refine Below.alloc ?_ (by simp <;> omega) _)⟩
  all_goals first
    | (rw [show Cm.right _ = false from by simp_all [Cm.right, Cm.roll, Cm.plain, Cm.inn] <;> omega]; rfl)
    | (rw [show Cm.right _ = true from by simp_all [Cm.right, Cm.roll, Cm.plain, Cm.inn] <;> omega]; rfl)

set_option maxHeartbeats 4000000 in
theorem cmdRight_impl1 (c : Cm.C) (hk : c.kind = 1) (w : World) :
    Calls Try.prog 12 #[.agg #[.int .i64 c.kind, .int .i64 c.owner, .int .i64 c.id, .bool c.buy, .int .i64 c.price, .int .i64 c.amount, .int .i64 c.life, .bool c.post, .int .i64 c.peak, .bool c.guard]] w fun e w' => e = .returned (.bool (Cm.right c)) ∧ Below w.heap.size w w' := by
  obtain ⟨kind, owner, id, buy, price, amount, life, post, peak, guard⟩ := c
  subst hk
  have HB : Hid (∀ o, Below w.heap.size w (w.alloc o)) := fun o => (Below.refl w.heap.size w).alloc (Nat.le_refl _) o
  have HR : Hid (Cm.right ⟨1, owner, id, buy, price, amount, life, post, peak, guard⟩ = Cm.limit ⟨1, owner, id, buy, price, amount, life, post, peak, guard⟩) := rfl
  go_enter Try.func12, Try.ntmps12
  go_wp2_with fail
  refine (limitRight_any ⟨1, owner, id, buy, price, amount, life, post, peak, guard⟩ _).mono ?_
  rintro e w1 ⟨rfl, b1⟩
  have HB1 : Hid (Below w.heap.size w w1) := (HB.out _).trans (b1.mono (HB.out _).size)
  clear b1
  go_wp2_with fail
  go_ret
  exact ⟨by rw [HR.out]; rfl, HB1.out⟩

set_option maxHeartbeats 4000000 in
theorem cmdRight_impl (c : Cm.C) (w : World) :
    Calls Try.prog 12 #[.agg #[.int .i64 c.kind, .int .i64 c.owner, .int .i64 c.id, .bool c.buy, .int .i64 c.price, .int .i64 c.amount, .int .i64 c.life, .bool c.post, .int .i64 c.peak, .bool c.guard]] w fun e w' => e = .returned (.bool (Cm.right c)) ∧ Below w.heap.size w w' := by
  by_cases h1 : c.kind = 1
  · exact cmdRight_impl1 c h1 w
  by_cases h2 : c.kind = 2
  · exact cmdRight_impl2 c h2 w
  by_cases h3 : c.kind = 3
  · exact cmdRight_impl3 c h3 w
  by_cases h4 : c.kind = 4
  · exact cmdRight_impl4 c h4 w
  by_cases h5 : c.kind = 5
  · exact cmdRight_impl5 c h5 w
  have HB : Hid (∀ o, Below w.heap.size w (w.alloc o)) := fun o => (Below.refl w.heap.size w).alloc (Nat.le_refl _) o
  have HR : Hid (Cm.right c = false) := by show _ = _; simp [Cm.right, h1, h2, h3, h4, h5]
  have k1 : (c.kind == 1) = false := by simpa using h1
  have k2 : (c.kind == 2) = false := by simpa using h2
  have k3 : (c.kind == 3) = false := by simpa using h3
  have k4 : (c.kind == 4) = false := by simpa using h4
  have k5 : (c.kind == 5) = false := by simpa using h5
  go_enter Try.func12, Try.ntmps12
  go_wp2_with fail
  go_ret
  exact ⟨by rw [HR.out]; rfl, HB.out _⟩
end Go.Proofs.Ytijlanpnngbciaa

/- The walks of the specification's l07Order and l07Open. -/
import Derived.Test.YtnhpcknbnmhlhaaFlatSpec
import Derived.Test.YtnhpcknbnmhlhaaOldBook
namespace Go.Proofs.Ytnhpcknbnmhlhaa
open Go.RowKit
set_option linter.unusedVariables false
set_option linter.unusedSimpArgs false
set_option maxHeartbeats 4000000 in
theorem l07Order_any (o : Or.E) (w : World) (h0 : 1 ≤ o.2.2.2.1) (h1 : o.2.2.2.1 ≤ 1000) :
    Calls Try.prog 42 #[.agg #[.int .i64 o.1, .int .i64 o.2.1, .int .i64 o.2.2.1, .int .i64 o.2.2.2.1, .bool o.2.2.2.2.1, .int .i64 o.2.2.2.2.2.1, .int .i64 o.2.2.2.2.2.2.1, .bool o.2.2.2.2.2.2.2]] w fun e w' => e = .returned (.bool (Nb.peak o)) ∧ Below w.heap.size w w' := by
  have HB : Hid (∀ o, Below w.heap.size w (w.alloc o)) := fun o => (Below.refl w.heap.size w).alloc (Nat.le_refl _) o
  go_enter Try.func42, Try.ntmps42
  go_wp2_with (first
    | (go_at_call 52; refine (l02Is_inn _ _ _ _).mono ?_; rintro e w' ⟨rfl, rfl⟩))
  all_goals
    go_ret
    refine ⟨?_, HB.out _⟩
    simp_all [Nb.peak, Cm.inn]
    first
      | (intros; omega)
      | (intros; unfold wrap64 at *; omega)
      | (unfold wrap64 at *; rw [decide_eq_true (by omega), Bool.true_and]; rfl)
end Go.Proofs.Ytnhpcknbnmhlhaa

/- The walks of the law's own functions on events. -/
import Derived.Test.YtclejpekjndpkaaProg
import Derived.Test.YtclejpekjndpkaaEventMath
import Derived.WalkKit
import Derived.WalkSpells
import Derived.WalkLawsBesides
import Derived.BigRegion
import Derived.Below
namespace Go.Proofs.Ytclejpekjndpkaa
open Go.RowKit
set_option linter.unusedVariables false
set_option linter.unusedSimpArgs false

set_option maxHeartbeats 4000000 in
theorem toEvent_any (c : Ev.E) (w : World) :
    Calls Try.prog 20 #[.agg #[.int .i64 c.kind, .int .i64 c.id, .int .i64 c.other, .int .i64 c.price, .int .i64 c.amount]] w fun e w' => e = .returned (.agg #[.int .i64 c.kind, .int .i64 c.id, .int .i64 c.other, .int .i64 c.price, .int .i64 c.amount]) ∧ Below w.heap.size w w' := by
  go_enter Try.func20, Try.ntmps20
  go_wp2_with fail
  refine bodyPost_ret (v := .agg #[.int .i64 c.kind, .int .i64 c.id, .int .i64 c.other, .int .i64 c.price, .int .i64 c.amount]) (by simp [results, Try.results20, go_sem] <;> rfl) rfl ⟨rfl, ?_⟩
  repeat (first | exact Below.refl _ _ | refine Below.alloc ?_ (by simp <;> omega) _ | refine Below.setCell ?_ (by simp <;> omega) _)
end Go.Proofs.Ytclejpekjndpkaa

/- The walks of the law's own functions on commands. -/
import Derived.Test.YtijlanpnngbciaaProg
import Derived.Test.YtijlanpnngbciaaCmdMath
import Derived.WalkKit
import Derived.WalkSpells
import Derived.WalkLawsBesides
import Derived.BigRegion
import Derived.Below
namespace Go.Proofs.Ytijlanpnngbciaa
open Go.RowKit
set_option linter.unusedVariables false
set_option linter.unusedSimpArgs false

set_option maxHeartbeats 4000000 in
theorem toCmd_any (c : Cm.C) (w : World) :
    Calls Try.prog 21 #[.agg #[.int .i64 c.kind, .int .i64 c.owner, .int .i64 c.id, .bool c.buy, .int .i64 c.price, .int .i64 c.amount, .int .i64 c.life, .bool c.post, .int .i64 c.peak, .bool c.guard]] w fun e w' => e = .returned (.agg #[.int .i64 c.kind, .int .i64 c.owner, .int .i64 c.id, .bool c.buy, .int .i64 c.price, .int .i64 c.amount, .int .i64 c.life, .bool c.post, .int .i64 c.peak, .bool c.guard]) ∧ Below w.heap.size w w' := by
  go_enter Try.func21, Try.ntmps21
  go_wp2_with fail
  refine bodyPost_ret (v := .agg #[.int .i64 c.kind, .int .i64 c.owner, .int .i64 c.id, .bool c.buy, .int .i64 c.price, .int .i64 c.amount, .int .i64 c.life, .bool c.post, .int .i64 c.peak, .bool c.guard]) (by simp [results, Try.results21, go_sem] <;> rfl) rfl ⟨rfl, ?_⟩
  repeat (first | exact Below.refl _ _ | refine Below.alloc ?_ (by simp <;> omega) _ | refine Below.setCell ?_ (by simp <;> omega) _)
end Go.Proofs.Ytijlanpnngbciaa

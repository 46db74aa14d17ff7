/- The walks of the program's small questions on a command. -/
import Derived.Test.YtfagldipjpaceaaProg
import Derived.Test.YtfagldipjpaceaaJoined1
import Derived.WalkKit
import Derived.WalkSpells
import Derived.WalkLawsBesides
import Derived.BigRegion
import Derived.BigQuiet
import Derived.Deep.RegionWith
import Derived.Lib.QuietBelow
namespace Go.Proofs.Ytfagldipjpaceaa
open Go.RowKit
set_option linter.unusedVariables false
set_option linter.unusedSimpArgs false

set_option maxHeartbeats 400000 in
theorem within_any (n lo hi : Int) (w : World) :
    Calls Try.prog 49 #[.int .i64 n, .int .i64 lo, .int .i64 hi] w fun e w' => e = .returned (.bool (Cm.inn n lo hi)) ∧ w' = w := by
  by_cases h0 : lo ≤ n
  · go_enter Try.func49, Try.ntmps49
    go_wp2
    go_ret
    refine ⟨?_, rfl⟩
    simp [Cm.inn, h0]
  · go_enter Try.func49, Try.ntmps49
    go_wp2
    go_ret
    refine ⟨?_, rfl⟩
    simp [Cm.inn]
    omega

set_option maxHeartbeats 400000 in
theorem ownerRight_any (c : Cm.C) (w : World) :
    Calls Try.prog 60 #[.agg #[.int .i64 c.kind, .int .i64 c.owner, .int .i64 c.id, .bool c.buy, .int .i64 c.price, .int .i64 c.amount, .int .i64 c.life, .bool c.post, .int .i64 c.peak, .bool c.guard]] w fun e w' => e = .returned (.bool (Cm.inn c.owner 1 9)) ∧ w' = w.alloc (.cells #[.int .i64 c.kind, .int .i64 c.owner, .int .i64 c.id, .bool c.buy, .int .i64 c.price, .int .i64 c.amount, .int .i64 c.life, .bool c.post, .int .i64 c.peak, .bool c.guard] 27) := by
  go_enter Try.func60, Try.ntmps60
  go_wp2_with (go_at_call 49; refine (within_any _ _ _ _).mono ?_; rintro e w' ⟨rfl, rfl⟩)
  go_ret
  exact ⟨rfl, rfl⟩

set_option maxHeartbeats 400000 in
theorem priceRight_any (c : Cm.C) (w : World) :
    Calls Try.prog 63 #[.agg #[.int .i64 c.kind, .int .i64 c.owner, .int .i64 c.id, .bool c.buy, .int .i64 c.price, .int .i64 c.amount, .int .i64 c.life, .bool c.post, .int .i64 c.peak, .bool c.guard]] w fun e w' => e = .returned (.bool (Cm.inn c.price 1 10000)) ∧ w' = w.alloc (.cells #[.int .i64 c.kind, .int .i64 c.owner, .int .i64 c.id, .bool c.buy, .int .i64 c.price, .int .i64 c.amount, .int .i64 c.life, .bool c.post, .int .i64 c.peak, .bool c.guard] 27) := by
  go_enter Try.func63, Try.ntmps63
  go_wp2_with (go_at_call 49; refine (within_any _ _ _ _).mono ?_; rintro e w' ⟨rfl, rfl⟩)
  go_ret
  exact ⟨rfl, rfl⟩

set_option maxHeartbeats 400000 in
theorem amountRight_any (c : Cm.C) (w : World) :
    Calls Try.prog 61 #[.agg #[.int .i64 c.kind, .int .i64 c.owner, .int .i64 c.id, .bool c.buy, .int .i64 c.price, .int .i64 c.amount, .int .i64 c.life, .bool c.post, .int .i64 c.peak, .bool c.guard]] w fun e w' => e = .returned (.bool (Cm.inn c.amount 1 1000)) ∧ w' = w.alloc (.cells #[.int .i64 c.kind, .int .i64 c.owner, .int .i64 c.id, .bool c.buy, .int .i64 c.price, .int .i64 c.amount, .int .i64 c.life, .bool c.post, .int .i64 c.peak, .bool c.guard] 27) := by
  go_enter Try.func61, Try.ntmps61
  go_wp2_with (go_at_call 49; refine (within_any _ _ _ _).mono ?_; rintro e w' ⟨rfl, rfl⟩)
  go_ret
  exact ⟨rfl, rfl⟩

set_option maxHeartbeats 400000 in
theorem idRight_any (c : Cm.C) (w : World) :
    Calls Try.prog 62 #[.agg #[.int .i64 c.kind, .int .i64 c.owner, .int .i64 c.id, .bool c.buy, .int .i64 c.price, .int .i64 c.amount, .int .i64 c.life, .bool c.post, .int .i64 c.peak, .bool c.guard]] w fun e w' => e = .returned (.bool (Cm.inn c.id 1 1000000)) ∧ w' = w.alloc (.cells #[.int .i64 c.kind, .int .i64 c.owner, .int .i64 c.id, .bool c.buy, .int .i64 c.price, .int .i64 c.amount, .int .i64 c.life, .bool c.post, .int .i64 c.peak, .bool c.guard] 27) := by
  go_enter Try.func62, Try.ntmps62
  go_wp2_with (go_at_call 49; refine (within_any _ _ _ _).mono ?_; rintro e w' ⟨rfl, rfl⟩)
  go_ret
  exact ⟨rfl, rfl⟩
end Go.Proofs.Ytfagldipjpaceaa

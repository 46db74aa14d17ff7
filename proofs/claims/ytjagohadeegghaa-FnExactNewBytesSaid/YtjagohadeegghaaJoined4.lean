/- Commands in plain words: when one is right, when it is an old one. No function of the program here. The walks of the program's small questions on a command. -/
import Derived.Test.YtjagohadeegghaaFsKit
import Derived.WalkKit
import Derived.Test.YtjagohadeegghaaProg
import Derived.WalkSpells
import Derived.WalkLawsBesides
import Derived.BigRegion
import Derived.BigQuiet
import Derived.Deep.RegionWith
import Derived.Lib.QuietBelow
namespace Go.Proofs.Ytjagohadeegghaa
open Go.RowKit
namespace Cm
/-- a command -/
structure C where
  kind : Int
  owner : Int
  id : Int
  buy : Bool
  price : Int
  amount : Int
  life : Int
  post : Bool
  peak : Int
  guard : Bool
/-- a number lies from lo to hi -/
def inn (n lo hi : Int) : Bool := decide (lo ≤ n ∧ n ≤ hi)
/-- a command of limit is right -/
def limit (c : C) : Bool := decide (c.id = 0) && (inn c.owner 1 9 && (inn c.price 1 10000 && (inn c.amount 1 1000 && (inn c.life 0 3 && (if c.life ≤ 1 then inn c.peak 0 c.amount else (!c.post && decide (c.peak = 0)))))))
/-- all that a kind may leave out is zero -/
def plain (c : C) : Bool := decide (c.life = 0) && (!c.post && (decide (c.peak = 0) && !c.guard))
def market (c : C) : Bool := decide (c.id = 0) && (decide (c.price = 0) && (plain c && (inn c.owner 1 9 && inn c.amount 1 1000)))
def cancel (c : C) : Bool := decide (c.price = 0) && (decide (c.amount = 0) && (plain c && (!c.buy && (inn c.owner 1 9 && inn c.id 1 1000000))))
def replace (c : C) : Bool := plain c && (!c.buy && (inn c.owner 1 9 && (inn c.id 1 1000000 && (inn c.price 1 10000 && inn c.amount 1 1000))))
def roll (c : C) : Bool := decide (c.id = 0) && (decide (c.price = 0) && (decide (c.amount = 0) && (decide (c.owner = 0) && (plain c && !c.buy))))
/-- a command is right -/
def right (c : C) : Bool :=
  if c.kind = 1 then limit c else if c.kind = 2 then market c else if c.kind = 3 then cancel c else if c.kind = 4 then replace c else if c.kind = 5 then roll c else false
/-- it is an old one -/
def old (c : C) : Bool := right c && (!c.post && (decide (c.peak = 0) && !c.guard))
end Cm
end Go.Proofs.Ytjagohadeegghaa

namespace Go.Proofs.Ytjagohadeegghaa
open Go.RowKit
set_option linter.unusedVariables false
set_option linter.unusedSimpArgs false

set_option maxHeartbeats 400000 in
theorem within_any (n lo hi : Int) (w : World) :
    Calls Try.prog 112 #[.int .i64 n, .int .i64 lo, .int .i64 hi] w fun e w' => e = .returned (.bool (Cm.inn n lo hi)) ∧ w' = w := by
  by_cases h0 : lo ≤ n
  · go_enter Try.func112, Try.ntmps112
    go_wp2
    go_ret
    refine ⟨?_, rfl⟩
    simp [Cm.inn, h0]
  · go_enter Try.func112, Try.ntmps112
    go_wp2
    go_ret
    refine ⟨?_, rfl⟩
    simp [Cm.inn]
    omega

set_option maxHeartbeats 400000 in
theorem ownerRight_any (c : Cm.C) (w : World) :
    Calls Try.prog 143 #[.agg #[.int .i64 c.kind, .int .i64 c.owner, .int .i64 c.id, .bool c.buy, .int .i64 c.price, .int .i64 c.amount, .int .i64 c.life, .bool c.post, .int .i64 c.peak, .bool c.guard]] w fun e w' => e = .returned (.bool (Cm.inn c.owner 1 9)) ∧ w' = w.alloc (.cells #[.int .i64 c.kind, .int .i64 c.owner, .int .i64 c.id, .bool c.buy, .int .i64 c.price, .int .i64 c.amount, .int .i64 c.life, .bool c.post, .int .i64 c.peak, .bool c.guard] 77) := by
  go_enter Try.func143, Try.ntmps143
  go_wp2_with (go_at_call 112; refine (within_any _ _ _ _).mono ?_; rintro e w' ⟨rfl, rfl⟩)
  go_ret
  exact ⟨rfl, rfl⟩

set_option maxHeartbeats 400000 in
theorem priceRight_any (c : Cm.C) (w : World) :
    Calls Try.prog 146 #[.agg #[.int .i64 c.kind, .int .i64 c.owner, .int .i64 c.id, .bool c.buy, .int .i64 c.price, .int .i64 c.amount, .int .i64 c.life, .bool c.post, .int .i64 c.peak, .bool c.guard]] w fun e w' => e = .returned (.bool (Cm.inn c.price 1 10000)) ∧ w' = w.alloc (.cells #[.int .i64 c.kind, .int .i64 c.owner, .int .i64 c.id, .bool c.buy, .int .i64 c.price, .int .i64 c.amount, .int .i64 c.life, .bool c.post, .int .i64 c.peak, .bool c.guard] 77) := by
  go_enter Try.func146, Try.ntmps146
  go_wp2_with (go_at_call 112; refine (within_any _ _ _ _).mono ?_; rintro e w' ⟨rfl, rfl⟩)
  go_ret
  exact ⟨rfl, rfl⟩

set_option maxHeartbeats 400000 in
theorem amountRight_any (c : Cm.C) (w : World) :
    Calls Try.prog 144 #[.agg #[.int .i64 c.kind, .int .i64 c.owner, .int .i64 c.id, .bool c.buy, .int .i64 c.price, .int .i64 c.amount, .int .i64 c.life, .bool c.post, .int .i64 c.peak, .bool c.guard]] w fun e w' => e = .returned (.bool (Cm.inn c.amount 1 1000)) ∧ w' = w.alloc (.cells #[.int .i64 c.kind, .int .i64 c.owner, .int .i64 c.id, .bool c.buy, .int .i64 c.price, .int .i64 c.amount, .int .i64 c.life, .bool c.post, .int .i64 c.peak, .bool c.guard] 77) := by
  go_enter Try.func144, Try.ntmps144
  go_wp2_with (go_at_call 112; refine (within_any _ _ _ _).mono ?_; rintro e w' ⟨rfl, rfl⟩)
  go_ret
  exact ⟨rfl, rfl⟩

set_option maxHeartbeats 400000 in
theorem idRight_any (c : Cm.C) (w : World) :
    Calls Try.prog 145 #[.agg #[.int .i64 c.kind, .int .i64 c.owner, .int .i64 c.id, .bool c.buy, .int .i64 c.price, .int .i64 c.amount, .int .i64 c.life, .bool c.post, .int .i64 c.peak, .bool c.guard]] w fun e w' => e = .returned (.bool (Cm.inn c.id 1 1000000)) ∧ w' = w.alloc (.cells #[.int .i64 c.kind, .int .i64 c.owner, .int .i64 c.id, .bool c.buy, .int .i64 c.price, .int .i64 c.amount, .int .i64 c.life, .bool c.post, .int .i64 c.peak, .bool c.guard] 77) := by
  go_enter Try.func145, Try.ntmps145
  go_wp2_with (go_at_call 112; refine (within_any _ _ _ _).mono ?_; rintro e w' ⟨rfl, rfl⟩)
  go_ret
  exact ⟨rfl, rfl⟩
end Go.Proofs.Ytjagohadeegghaa

/- The walks of the law's own functions on lists of Bar: sizes, copies, comparisons. -/
import Derived.Test.YtficlppngnnpoaaProg
import Derived.Test.YtficlppngnnpoaaBarsKit
import Derived.WalkKit
import Derived.WalkSpells
import Derived.WalkLawsBesides
import Derived.BigRegion
import Derived.Deep.RegionWith
namespace Go.Proofs.Ytficlppngnnpoaa
open Go.RowKit
set_option linter.unusedVariables false
set_option linter.unusedSimpArgs false

set_option maxHeartbeats 1000000 in
theorem eqBar_same (x0 : Int) (x1 : Int) (x2 : Int) (x3 : Int) (x4 : Int) (w : World) :
    Calls Try.prog 58 #[.agg #[.int .i64 (x0), .int .i64 (x1), .int .i64 (x2), .int .i64 (x3), .int .i64 (x4)], .agg #[.int .i64 (x0), .int .i64 (x1), .int .i64 (x2), .int .i64 (x3), .int .i64 (x4)]] w fun e w' => e = .returned (.bool true) ∧ Below w.heap.size w w' := by
  go_enter Try.func58, Try.ntmps58
  go_wp2
  go_ret
  refine ⟨rfl, ?_⟩
  repeat (first | exact Below.refl _ _ | refine Below.alloc ?_ (by simp <;> omega) _)

set_option maxHeartbeats 1000000 in
theorem eqBarS_same (v1 v2 : Value) (L : List Ba.E) (w : World) (h1 : Rk.View Ba.S w v1 L) (h2 : Rk.View Ba.S w v2 L) (hl : L.length ≤ 1048576) :
    Calls Try.prog 35 #[v1, v2] w fun e w' => e = .returned (.bool true) ∧ Below w.heap.size w w' := by
  obtain ⟨a, cap, rfl, hs⟩ := h1
  obtain ⟨a2, cap2, rfl, hs2⟩ := h2
  go_enter Try.func35, Try.ntmps35
  go_wp2_with fail
  go_loopw [5] (fun i wr => ∃ k : Nat, k ≤ L.length ∧ i = .int .i64 k ∧ Below w.heap.size w wr) (fun i _ => L.length - (intOf i).toNat)
  case atStart => exact ⟨0, Nat.zero_le _, rfl, Below.refl _ _⟩
  case round =>
    obtain ⟨k, hk, rfl, bel⟩ := hrel
    by_cases hlt : k < L.length
    · obtain ⟨b, o, rfl, hb, hs1⟩ := hs (by omega)
      obtain ⟨b2, o2, rfl, hb2, hs3⟩ := hs2 (by omega)
      have hs' := hs1.below hb bel
      have q0 := Ba.c0 hs' hlt
      have q1 := Ba.c1 hs' hlt
      have q2 := Ba.c2 hs' hlt
      have q3 := Ba.c3 hs' hlt
      have q4 := Ba.c4 hs' hlt
      have hs'' := hs3.below hb2 bel
      have r0 := Ba.c0 hs'' hlt
      have r1 := Ba.c1 hs'' hlt
      have r2 := Ba.c2 hs'' hlt
      have r3 := Ba.c3 hs'' hlt
      have r4 := Ba.c4 hs'' hlt
      clear hs' hs'' hs hs2
      go_wp2_with fail
      go_region_with (first | (go_at_call 58; refine (eqBar_same _ _ _ _ _ _).mono ?_; rintro e w2 ⟨rfl, bel1⟩))
      all_goals
        have bel2 : Below w.heap.size w w2 := bel.trans ((Below.trans (Below.drew (Below.refl _ wr)) bel1).mono bel.size)
        clear bel1 q0 q1 q2 q3 q4 r0 r1 r2 r3 r4
        go_wp2_with fail
        go_roundw
        case rel => exact ⟨k + 1, by omega, by go_num, bel2⟩
        case measure => simp [intOf]; omega
    · have e : k = L.length := by omega
      subst e
      go_wp2_with fail
      go_ret
      exact ⟨rfl, bel⟩
end Go.Proofs.Ytficlppngnnpoaa

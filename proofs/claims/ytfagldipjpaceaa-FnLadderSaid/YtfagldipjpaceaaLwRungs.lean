/- The walks of the law's comparison of rungs. -/
import Derived.Test.YtfagldipjpaceaaProg
import Derived.Test.YtfagldipjpaceaaJoined9
import Derived.WalkKit
import Derived.WalkSpells
import Derived.WalkLawsBesides
import Derived.BigRegion
import Derived.Deep.RegionWith
namespace Go.Proofs.Ytfagldipjpaceaa
open Go.RowKit
set_option linter.unusedVariables false
set_option linter.unusedSimpArgs false

set_option maxHeartbeats 1000000 in
theorem lwRungs_same (v1 v2 : Value) (L : List Rg.E) (w : World) (h1 : Rk.View Rg.S w v1 L) (h2 : Rk.View Rg.S w v2 L) (hl : L.length ≤ 1048576) :
    Calls Try.prog 26 #[v1, v2] w fun e w' => e = .returned (.bool true) ∧ Below w.heap.size w w' := by
  obtain ⟨a, cap, rfl, hs⟩ := h1
  obtain ⟨a2, cap2, rfl, hs2⟩ := h2
  go_enter Try.func26, Try.ntmps26
  go_wp2_with fail
  go_loopw [5] (fun i wr => ∃ k : Nat, k ≤ L.length ∧ i = .int .i64 k ∧ Below w.heap.size w wr) (fun i _ => L.length - (intOf i).toNat)
  case atStart => exact ⟨0, Nat.zero_le _, rfl, Below.refl _ _⟩
  case round =>
    obtain ⟨k, hk, rfl, bel⟩ := hrel
    by_cases hlt : k < L.length
    · obtain ⟨b, o, rfl, hb, hs1⟩ := hs (by omega)
      obtain ⟨b2, o2, rfl, hb2, hs3⟩ := hs2 (by omega)
      have hs' := hs1.below hb bel
      have q0 := Rg.c0 hs' hlt
      have q1 := Rg.c1 hs' hlt
      have q2 := Rg.c2 hs' hlt
      have hs'' := hs3.below hb2 bel
      have r0 := Rg.c0 hs'' hlt
      have r1 := Rg.c1 hs'' hlt
      have r2 := Rg.c2 hs'' hlt
      have HB : Hid (Below w.heap.size w wr.drew) := bel.drew
      clear hs' hs'' hs hs2
      go_wp2_with fail
      go_region
      all_goals
        clear q0 q1 q2 r0 r1 r2
        go_wp2_with fail
        go_roundw
        case rel => exact ⟨k + 1, by omega, by go_num, HB.out⟩
        case measure => simp [intOf]; omega
    · have e : k = L.length := by omega
      subst e
      go_wp2_with fail
      go_ret
      exact ⟨rfl, bel⟩
end Go.Proofs.Ytfagldipjpaceaa

/- The walks of the law's own comparisons: two lists of the same files are told alike. -/
import Derived.Test.YtfefafmcaepoiaaGreatDoorProg
import Derived.Test.YtfefafmcaepoiaaGreatDoorFsKit
import Derived.WalkKit
import Derived.WalkSpells
import Derived.WalkLawsBesides
import Derived.BigRegion
import Derived.Deep.RegionWith
namespace Go.Proofs.YtfefafmcaepoiaaGreatDoor
open Go.RowKit
set_option linter.unusedVariables false

set_option maxHeartbeats 1000000 in
theorem eqFile_same (a b : ByteArray) (s : Int) (w : World) :
    Calls Tryz.prog 56 #[.agg #[.string a, .string b, .int .i64 s], .agg #[.string a, .string b, .int .i64 s]] w fun e w' =>
      e = .returned (.bool true) ∧ Below w.heap.size w w' := by
  go_enter Tryz.func56, Tryz.ntmps56
  go_wp2
  go_ret
  refine ⟨rfl, ?_⟩
  repeat (first | exact Below.refl _ _ | refine Below.alloc ?_ (by simp <;> omega) _)

set_option maxHeartbeats 1000000 in
theorem eqFileS_same (v1 v2 : Value) (L : List Fk.Fl) (w : World) (h1 : Fk.View w v1 L) (h2 : Fk.View w v2 L) (hl : L.length ≤ 1048576) :
    Calls Tryz.prog 29 #[v1, v2] w fun e w' => e = .returned (.bool true) ∧ Below w.heap.size w w' := by
  obtain ⟨a, cap, rfl, hs⟩ := h1
  obtain ⟨a2, cap2, rfl, hs2⟩ := h2
  go_enter Tryz.func29, Tryz.ntmps29
  go_wp2_with fail
  go_loopw [5] (fun i wr => ∃ k : Nat, k ≤ L.length ∧ i = .int .i64 k ∧ Below w.heap.size w wr) (fun i _ => L.length - (intOf i).toNat)
  case atStart => exact ⟨0, Nat.zero_le _, rfl, Below.refl _ _⟩
  case round =>
    obtain ⟨k, hk, rfl, bel⟩ := hrel
    by_cases hlt : k < L.length
    · obtain ⟨b, o, rfl, hb, hs1⟩ := hs (by omega)
      obtain ⟨b2, o2, rfl, hb2, hs3⟩ := hs2 (by omega)
      have hs' := hs1.below hb bel
      have q0 := hs'.c0 k hlt
      have q1 := hs'.c1 k hlt
      have q2 := hs'.c2 k hlt
      have hs'' := hs3.below hb2 bel
      have p0 := hs''.c0 k hlt
      have p1 := hs''.c1 k hlt
      have p2 := hs''.c2 k hlt
      clear hs' hs'' hs hs2
      go_wp2_with fail
      go_region_with (first | (go_at_call 56; refine (eqFile_same _ _ _ _).mono ?_; rintro e w2 ⟨rfl, bel1⟩))
      all_goals
        have bel2 : Below w.heap.size w w2 := bel.trans ((Below.trans (Below.drew (Below.refl _ wr)) bel1).mono bel.size)
        clear bel1 q0 q1 q2 p0 p1 p2
        go_wp2_with fail
        go_roundw
        case rel => exact ⟨k + 1, by omega, by go_num, bel2⟩
        case measure => simp [intOf]; omega
    · have e : k = L.length := by omega
      subst e
      go_wp2_with fail
      go_ret
      exact ⟨rfl, bel⟩

set_option maxHeartbeats 1000000 in
theorem eqFs_same (v1 v2 : Value) (L : List Fk.Fl) (w : World) (h1 : Fk.View w v1 L) (h2 : Fk.View w v2 L) (hl : L.length ≤ 1048576) :
    Calls Tryz.prog 10 #[.agg #[v1], .agg #[v2]] w fun e w' => e = .returned (.bool true) ∧ Below w.heap.size w w' := by
  have b0 : Below w.heap.size w ((w.alloc (.cells #[v1] 28)).alloc (.cells #[v2] 28)) := by
    repeat (first | exact Below.refl _ _ | refine Below.alloc ?_ (by simp <;> omega) _)
  have h1' := h1.below b0
  have h2' := h2.below b0
  obtain ⟨a, cap, rfl, _⟩ := h1
  obtain ⟨a2, cap2, rfl, _⟩ := h2
  go_enter Tryz.func10, Tryz.ntmps10
  go_wp2_with fail
  refine (eqFileS_same _ _ _ _ h1' h2' hl).mono ?_
  rintro e w1 ⟨rfl, bel1⟩
  have bel2 : Below w.heap.size w w1 := b0.trans (bel1.mono b0.size)
  go_wp2
  go_ret
  exact ⟨rfl, bel2⟩
end Go.Proofs.YtfefafmcaepoiaaGreatDoor

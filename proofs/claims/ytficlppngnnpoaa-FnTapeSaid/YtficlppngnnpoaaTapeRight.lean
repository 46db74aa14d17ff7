/- The walks of the question whether trades are right, on both sides. -/
import Derived.Test.YtficlppngnnpoaaProg
import Derived.Test.YtficlppngnnpoaaTapeMath
import Derived.Test.YtficlppngnnpoaaEventRightSpec
import Derived.Test.YtficlppngnnpoaaEventNamed
import Derived.WalkKit
import Derived.WalkSpells
import Derived.WalkLawsBesides
import Derived.BigRegion
import Derived.BigQuiet
import Derived.Deep.RegionWith
import Derived.Lib.QuietBelow
namespace Go.Proofs.Ytficlppngnnpoaa
open Go.RowKit
set_option linter.unusedVariables false
set_option linter.unusedSimpArgs false

set_option maxHeartbeats 4000000 in
theorem tradesRight_any (v : Value) (L : List Td.E) (w : World) (hv : Rk.View Td.S w v L) (hl : L.length ≤ 1048576) :
    Calls Try.prog 42 #[v] w fun e w' => e = .returned (.bool (Tp.right L)) ∧ Below w.heap.size w w' := by
  obtain ⟨a, cap, rfl, hs⟩ := hv
  by_cases hbig : (400 : Int) < (L.length : Int)
  · have HR := Fk.hide (Tp.right_long hbig)
    go_enter Try.func42, Try.ntmps42
    go_wp2_with fail
    go_ret
    exact ⟨by rw [HR.out]; rfl, Below.refl _ _⟩
  go_enter Try.func42, Try.ntmps42
  go_wp2_with fail
  go_loopw [10] (fun i wr => ∃ k : Nat, k ≤ L.length ∧ i = .int .i64 k ∧ Hid (∀ j, j < k → Tp.ok (Tp.at' L j) = true) ∧ Below w.heap.size w wr) (fun i _ => L.length - (intOf i).toNat)
  case atStart => exact ⟨0, Nat.zero_le _, rfl, fun j hj => absurd hj (by omega), Below.refl _ _⟩
  case round =>
    obtain ⟨k, hk, rfl, HK, bel⟩ := hrel
    by_cases hlt : k < L.length
    · obtain ⟨b, o, rfl, hb, hs1⟩ := hs (by omega)
      have hs' := hs1.below hb bel
      have q0 := Td.c0 hs' hlt
      have q1 := Td.c1 hs' hlt
      obtain ⟨f, hf⟩ : ∃ f, f = Rk.at_ Td.S L k := ⟨_, rfl⟩
      have HF := Fk.hide hf
      rw [← hf] at q0 q1
      clear hf hs'
      have B1 : Hid (∀ c t, Below w.heap.size w (wr.alloc (.cells c t))) := fun c t => bel.alloc bel.size _
      obtain ⟨c0, hc0⟩ : ∃ c, c = Ev.inn f.1 1 10000 := ⟨_, rfl⟩
      obtain ⟨c1, hc1⟩ : ∃ c, c = Ev.inn f.2 1 1000 := ⟨_, rfl⟩
      have e0 : Ev.inn f.1 1 10000 = c0 := hc0.symm
      have e1 : Ev.inn f.2 1 1000 = c1 := hc1.symm
      have HO : Hid (Tp.ok (Tp.at' L k) = (c0 && c1)) := by show _ = _; unfold Tp.at'; rw [← HF.out, hc0, hc1]; rfl
      clear hc0 hc1
      cases c0 with
      | false =>
        have HA : Hid (Tp.right L = false) := Tp.right_ill (Tp.okAll_no hlt HO.out)
        go_wp2_with (go_at_call 43; refine (within_ev _ _ _ _).mono ?_; rintro e w' ⟨rfl, rfl⟩; first | rw [e0] | rw [e1])
        go_ret
        exact ⟨by rw [HA.out]; rfl, B1.out _ _⟩
      | true =>
        cases c1 with
        | false =>
          have HA : Hid (Tp.right L = false) := Tp.right_ill (Tp.okAll_no hlt HO.out)
          go_wp2_with (go_at_call 43; refine (within_ev _ _ _ _).mono ?_; rintro e w' ⟨rfl, rfl⟩; first | rw [e0] | rw [e1])
          go_ret
          exact ⟨by rw [HA.out]; rfl, B1.out _ _⟩
        | true =>
          go_wp2_with (go_at_call 43; refine (within_ev _ _ _ _).mono ?_; rintro e w' ⟨rfl, rfl⟩; first | rw [e0] | rw [e1])
          go_roundw
          case rel =>
            refine ⟨k + 1, by omega, by go_num, (fun j hj => ?_), B1.out _ _⟩
            rcases Nat.lt_succ_iff_lt_or_eq.1 hj with h | rfl
            · exact HK.out j h
            · exact HO.out
          case measure => simp [intOf]; omega
    · have e : k = L.length := by omega
      have HA : Hid (Tp.right L = true) := Tp.right_yes (by omega) (Tp.okAll_yes fun i hi => HK.out i (by omega))
      go_wp2_with fail
      go_ret
      exact ⟨by rw [HA.out]; rfl, bel⟩

set_option maxHeartbeats 4000000 in
theorem l12Right_any (v : Value) (L : List Td.E) (w : World) (hv : Rk.View Td.S w v L) (hl : L.length ≤ 1048576) :
    Calls Try.prog 48 #[v] w fun e w' => e = .returned (.bool (Tp.right L)) ∧ Below w.heap.size w w' := by
  obtain ⟨a, cap, rfl, hs⟩ := hv
  by_cases hbig : (400 : Int) < (L.length : Int)
  · have HR := Fk.hide (Tp.right_long hbig)
    go_enter Try.func48, Try.ntmps48
    go_wp2_with fail
    go_ret
    exact ⟨by rw [HR.out]; rfl, Below.refl _ _⟩
  go_enter Try.func48, Try.ntmps48
  go_wp2_with fail
  go_loopw [3] (fun i wr => ∃ k : Nat, k ≤ L.length ∧ i = .int .i64 k ∧ Hid (∀ j, j < k → Tp.ok (Tp.at' L j) = true) ∧ Below w.heap.size w wr) (fun i _ => L.length - (intOf i).toNat)
  case atStart => exact ⟨0, Nat.zero_le _, rfl, fun j hj => absurd hj (by omega), Below.refl _ _⟩
  case round =>
    obtain ⟨k, hk, rfl, HK, bel⟩ := hrel
    by_cases hlt : k < L.length
    · obtain ⟨b, o, rfl, hb, hs1⟩ := hs (by omega)
      have hs' := hs1.below hb bel
      have q0 := Td.c0 hs' hlt
      have q1 := Td.c1 hs' hlt
      obtain ⟨f, hf⟩ : ∃ f, f = Rk.at_ Td.S L k := ⟨_, rfl⟩
      have HF := Fk.hide hf
      rw [← hf] at q0 q1
      clear hf hs'
      have B1 : Hid (Below w.heap.size w wr) := bel
      obtain ⟨c0, hc0⟩ : ∃ c, c = Ev.inn f.1 1 10000 := ⟨_, rfl⟩
      obtain ⟨c1, hc1⟩ : ∃ c, c = Ev.inn f.2 1 1000 := ⟨_, rfl⟩
      have fb0 : ∀ w', Calls Try.prog 62 #[.int .i64 f.1] w' fun e w'' => e = .returned (.bool c0) ∧ w'' = w' := fun w' => by rw [hc0]; exact l04Price_ev f.1 w'
      have fb1 : ∀ w', Calls Try.prog 63 #[.int .i64 f.2] w' fun e w'' => e = .returned (.bool c1) ∧ w'' = w' := fun w' => by rw [hc1]; exact l04Amount_ev f.2 w'
      have HO : Hid (Tp.ok (Tp.at' L k) = (c0 && c1)) := by show _ = _; unfold Tp.at'; rw [← HF.out, hc0, hc1]; rfl
      clear hc0 hc1
      cases c0 with
      | false =>
        have HA : Hid (Tp.right L = false) := Tp.right_ill (Tp.okAll_no hlt HO.out)
        go_wp2_with (first | (go_at_call 62; refine (fb0 _).mono ?_; rintro e w' ⟨rfl, rfl⟩) | (go_at_call 63; refine (fb1 _).mono ?_; rintro e w' ⟨rfl, rfl⟩))
        go_ret
        exact ⟨by rw [HA.out]; rfl, B1.out⟩
      | true =>
        cases c1 with
        | false =>
          have HA : Hid (Tp.right L = false) := Tp.right_ill (Tp.okAll_no hlt HO.out)
          go_wp2_with (first | (go_at_call 62; refine (fb0 _).mono ?_; rintro e w' ⟨rfl, rfl⟩) | (go_at_call 63; refine (fb1 _).mono ?_; rintro e w' ⟨rfl, rfl⟩))
          go_ret
          exact ⟨by rw [HA.out]; rfl, B1.out⟩
        | true =>
          go_wp2_with (first | (go_at_call 62; refine (fb0 _).mono ?_; rintro e w' ⟨rfl, rfl⟩) | (go_at_call 63; refine (fb1 _).mono ?_; rintro e w' ⟨rfl, rfl⟩))
          go_roundw
          case rel =>
            refine ⟨k + 1, by omega, by go_num, (fun j hj => ?_), B1.out⟩
            rcases Nat.lt_succ_iff_lt_or_eq.1 hj with h | rfl
            · exact HK.out j h
            · exact HO.out
          case measure => simp [intOf]; omega
    · have e : k = L.length := by omega
      have HA : Hid (Tp.right L = true) := Tp.right_yes (by omega) (Tp.okAll_yes fun i hi => HK.out i (by omega))
      go_wp2_with fail
      go_ret
      exact ⟨by rw [HA.out]; rfl, bel⟩
end Go.Proofs.Ytficlppngnnpoaa

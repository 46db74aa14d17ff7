/- The walks of the program's question whether files are right: it answers 'right'. -/
import Derived.Test.YtfefafmcaepoiaaGreatDoorProg
import Derived.Test.YtfefafmcaepoiaaGreatDoorJoined5
import Derived.Test.YtfefafmcaepoiaaGreatDoorNameWalks
import Derived.WalkKit
import Derived.WalkSpells
import Derived.WalkLawsBesides
import Derived.BigRegion
import Derived.BigQuiet
import Derived.Lib.QuietBelow
namespace Go.Proofs.YtfefafmcaepoiaaGreatDoor
open Go.RowKit
set_option linter.unusedVariables false

set_option maxHeartbeats 2000000 in
theorem fileRight_any (a b : ByteArray) (s : Int) (w : World) (ha : a.size ≤ maxLen) (hb : b.size ≤ maxLen) :
    Calls Tryz.prog 67 #[.agg #[.string a, .string b, .int .i64 s]] w fun e w' => e = .returned (.bool (Fk.fok a b s)) ∧ Below w.heap.size w w' := by
  have HB : Hid (∀ o, Below w.heap.size w (w.alloc o)) := fun o => (Below.refl w.heap.size w).alloc (Nat.le_refl _) o
  have HM : Hid (b.size ≤ maxLen) := hb
  unfold maxLen at hb
  cases hn : Nm.nameB a with
  | false =>
    have HF : Hid (Fk.fok a b s = false) := by show _ = _; simp [Fk.fok, hn]
    go_enter Tryz.func67, Tryz.ntmps67
    go_wp2_with (go_at_call 50; refine (implName_any _ _ ha).mono ?_; rintro e w' ⟨rfl, rfl⟩)
    go_ret
    exact ⟨by rw [HF.out]; rfl, HB.out _⟩
  | true =>
    have HF : Hid (Fk.fok a b s = decide ((b.size : Int) ≤ 3000 ∧ 0 ≤ s ∧ s ≤ b.size)) := by
      show _ = _
      have e : decide (b.size ≤ 3000) = decide ((b.size : Int) ≤ 3000) := by simp; omega
      simp only [Fk.fok, hn, e]
      simp
    by_cases hd : (b.size : Int) ≤ 3000
    · by_cases h0 : 0 ≤ s
      · go_enter Tryz.func67, Tryz.ntmps67
        go_wp2_with (go_at_call 50; refine (implName_any _ _ ha).mono ?_; rintro e w' ⟨rfl, rfl⟩)
        go_ret
        refine ⟨?_, HB.out _⟩
        rw [HF.out]
        simp [hd, h0]
      · go_enter Tryz.func67, Tryz.ntmps67
        go_wp2_with (go_at_call 50; refine (implName_any _ _ ha).mono ?_; rintro e w' ⟨rfl, rfl⟩)
        go_ret
        refine ⟨?_, HB.out _⟩
        rw [HF.out]
        have e : ¬ ((b.size : Int) ≤ 3000 ∧ 0 ≤ s ∧ s ≤ b.size) := by omega
        rw [decide_eq_false e]
        rfl
    · go_enter Tryz.func67, Tryz.ntmps67
      go_wp2_with (go_at_call 50; refine (implName_any _ _ ha).mono ?_; rintro e w' ⟨rfl, rfl⟩)
      go_ret
      refine ⟨?_, HB.out _⟩
      rw [HF.out]
      have e : ¬ ((b.size : Int) ≤ 3000 ∧ 0 ≤ s ∧ s ≤ b.size) := by omega
      rw [decide_eq_false e]
      rfl

set_option maxHeartbeats 2000000 in
theorem fsRight_impl (v : Value) (L : List Fk.Fl) (w : World) (hv : Fk.View w v L) (hL : Fk.Fits L) (hl : L.length ≤ maxLen) :
    Calls Tryz.prog 49 #[.agg #[v]] w fun e w' => e = .returned (.bool (Fk.right L)) ∧ Below w.heap.size w w' := by
  unfold maxLen at hl
  have b0 : Below w.heap.size w (w.alloc (.cells #[v] 28)) := (Below.refl _ _).alloc (Nat.le_refl _) _
  have hv' := hv.below b0
  have hcell : (w.alloc (.cells #[v] 28)).cell? ⟨w.heap.size, 0, none⟩ = some v := by rw [Fk.cellTop _ _ _ _ _ rfl]; rfl
  have hsz : w.heap.size < (w.alloc (.cells #[v] 28)).heap.size := by simp
  obtain ⟨W, hW⟩ : ∃ W, W = w.alloc (.cells #[v] 28) := ⟨_, rfl⟩
  rw [← hW] at b0 hv' hcell hsz
  have HW : Hid (W = w.alloc (.cells #[v] 28)) := hW
  clear hW hv
  obtain ⟨a, cap, rfl, hs⟩ := hv'
  by_cases h12 : 12 < L.length
  · have HF : Hid (Fk.right L = false) := Fk.right_long L h12
    go_enter Tryz.func49, Tryz.ntmps49
    go_wp2_with fail
    go_ret
    exact ⟨by rw [HF.out]; rfl, by rw [← HW.out]; exact b0⟩
  go_enter Tryz.func49, Tryz.ntmps49
  go_wp2_with fail
  rw [← HW.out]
  go_loopw [12] (fun i wr => ∃ k : Nat, k ≤ L.length ∧ i = .int .i64 k ∧ Hid (∀ j, j < k → Fk.step L j = true) ∧ Below W.heap.size W wr) (fun i _ => L.length - (intOf i).toNat)
  case atStart => exact ⟨0, Nat.zero_le _, rfl, fun j hj => absurd hj (by omega), Below.refl _ _⟩
  case round =>
    obtain ⟨k, hk, rfl, HK, bel⟩ := hrel
    by_cases hlt : k < L.length
    · obtain ⟨b, o, rfl, hb, hs1⟩ := hs (by omega)
      have hs' := hs1.below hb bel
      have q0 := hs'.c0 k hlt
      have q1 := hs'.c1 k hlt
      have q2 := hs'.c2 k hlt
      go_wp2_with fail
      have hg : wr.heap.size = wr.heap.size := rfl
      obtain ⟨W2, hW2⟩ : ∃ W2, W2 = wr.alloc (.cells #[.string (Fk.nm L k), .string (Fk.dt L k), .int .i64 (Fk.sy L k)] 73) := ⟨_, rfl⟩
      rw [← hW2]
      have b2 : Below wr.heap.size wr W2 := by rw [hW2]; exact (Below.refl _ _).alloc (Nat.le_refl _) _
      have b3 : Below W.heap.size W W2 := bel.trans (b2.mono bel.size)
      have c0 : W2.cell? ⟨wr.heap.size, 0, none⟩ = some (.string (Fk.nm L k)) := by rw [hW2, Fk.cellTop _ _ _ _ _ rfl]; rfl
      have c1 : W2.cell? ⟨wr.heap.size, 1, none⟩ = some (.string (Fk.dt L k)) := by rw [hW2, Fk.cellTop _ _ _ _ _ rfl]; rfl
      have c2 : W2.cell? ⟨wr.heap.size, 2, none⟩ = some (.int .i64 (Fk.sy L k)) := by rw [hW2, Fk.cellTop _ _ _ _ _ rfl]; rfl
      have c3 : W2.cell? ⟨w.heap.size, 0, none⟩ = some (.slice (some ⟨b, o, none⟩) L.length cap) := (b3.cell (by exact hsz)).trans hcell
      have hlt2 : wr.heap.size < W2.heap.size := by rw [hW2]; simp
      have hs2 := hs1.below hb b3
      obtain ⟨z0, z1, z2⟩ := Fk.fits_get hL k
      clear hW2 q0 q1 q2 hs' hcell
      have r0 := cell_regrown c0
      have r1 := cell_regrown c1
      have r2 := cell_regrown c2
      have r3 := cell_regrown c3
      cases hf : Fk.fok (Fk.nm L k) (Fk.dt L k) (Fk.sy L k) with
      | false =>
        have HF : Hid (Fk.right L = false) := Fk.right_at L k hlt (Fk.step_ill L k hf)
        have fr : ∀ w', Calls Tryz.prog 67 #[.agg #[.string (Fk.nm L k), .string (Fk.dt L k), .int .i64 (Fk.sy L k)]] w' fun e w'' => e = .returned (.bool false) ∧ Below w'.heap.size w' w'' := fun w' => by
          have := fileRight_any (Fk.nm L k) (Fk.dt L k) (Fk.sy L k) w' z0 z1
          rw [hf] at this
          exact this
        refine wp_region_quiet_below (by kernel_rfl) (by kernel_rfl) ?_
        repeat (go_big_quiet_step (exact Calls.regrown_of (fr _)))
        refine wpQuiet_nil ?_
        intro w4 hw'
        obtain ⟨⟨dq, osq⟩, hw''⟩ := hw'
        have b4 : Below w.heap.size w w4 := by rw [hw'']; exact b0.trans (b3.trans ((below_regrown W2 dq osq).mono b3.size) |>.mono b0.size)
        clear hw'' r0 r1 r2 r3 fr
        go_wp2_with fail
        go_ret
        exact ⟨by rw [HF.out]; rfl, b4⟩
      | true =>
        have fr : ∀ w', Calls Tryz.prog 67 #[.agg #[.string (Fk.nm L k), .string (Fk.dt L k), .int .i64 (Fk.sy L k)]] w' fun e w'' => e = .returned (.bool true) ∧ Below w'.heap.size w' w'' := fun w' => by
          have := fileRight_any (Fk.nm L k) (Fk.dt L k) (Fk.sy L k) w' z0 z1
          rw [hf] at this
          exact this
        by_cases hk0 : k = 0
        · subst hk0
          have HS : Hid (Fk.step L 0 = true) := Fk.step_first L hf
          have hd0 : decide ((0 : Int) < ((0 : Nat) : Int)) = false := by decide
          refine wp_region_quiet_below (by kernel_rfl) (by kernel_rfl) ?_
          repeat (go_big_quiet_step (exact Calls.regrown_of (fr _)))
          refine wpQuiet_nil ?_
          intro w4 hw'
          obtain ⟨⟨dq, osq⟩, hw''⟩ := hw'
          have b4 : Below W.heap.size W w4 := by rw [hw'']; exact b3.trans ((below_regrown W2 dq osq).mono b3.size)
          clear hw'' r0 r1 r2 r3 fr
          go_wp2_with fail
          go_roundw
          case rel => exact ⟨1, by omega, by go_num, (fun j hj => by have e : j = 0 := Nat.lt_one_iff.1 hj; rw [e]; exact HS.out), b4⟩
          case measure => simp [intOf]; omega
        · have r4 := cell_regrown (hs2.c0 (k - 1) (by omega))
          have hk1 : (0 : Int) < (k : Int) := by omega
          have hk5 : 0 < k := by omega
          have hk6 : decide (0 < k) = true := decide_eq_true hk5
          have hk2 : ((k : Int) - 1).toNat = k - 1 := by omega
          have hk3 : (0 : Int) ≤ (k : Int) - 1 := by omega
          have hk4 : (k : Int) - 1 < (L.length : Int) := by omega
          cases hb2 : Op.bytesLess (Fk.nm L (k - 1)).toList (Fk.nm L k).toList with
          | false =>
            have HF : Hid (Fk.right L = false) := Fk.right_at L k hlt (Fk.step_down L k hk0 hb2)
            refine wp_region_quiet_below (by kernel_rfl) (by kernel_rfl) ?_
            repeat (go_big_quiet_step (exact Calls.regrown_of (fr _)))
            refine wpQuiet_nil ?_
            intro w4 hw'
            obtain ⟨⟨dq, osq⟩, hw''⟩ := hw'
            have b4 : Below W.heap.size W w4 := by rw [hw'']; exact b3.trans ((below_regrown W2 dq osq).mono b3.size)
            clear hw'' r0 r1 r2 r3 r4 fr
            go_wp2_with fail
            go_ret
            exact ⟨by rw [HF.out]; rfl, b0.trans (b4.mono b0.size)⟩
          | true =>
            have HS : Hid (Fk.step L k = true) := Fk.step_later L k hf hb2
            refine wp_region_quiet_below (by kernel_rfl) (by kernel_rfl) ?_
            repeat (go_big_quiet_step (exact Calls.regrown_of (fr _)))
            refine wpQuiet_nil ?_
            intro w4 hw'
            obtain ⟨⟨dq, osq⟩, hw''⟩ := hw'
            have b4 : Below W.heap.size W w4 := by rw [hw'']; exact b3.trans ((below_regrown W2 dq osq).mono b3.size)
            clear hw'' r0 r1 r2 r3 r4 fr
            go_wp2_with fail
            go_roundw
            case rel =>
              refine ⟨k + 1, by omega, by go_num, (fun j hj => ?_), b4⟩
              by_cases e : j = k
              · rw [e]; exact HS.out
              · exact HK.out j (by omega)
            case measure => simp [intOf]; omega
    · have e : k = L.length := by omega
      subst e
      have HF : Hid (Fk.right L = true) := Fk.right_yes L (by omega) HK.out
      go_wp2_with fail
      go_ret
      exact ⟨by rw [HF.out]; rfl, b0.trans (bel.mono b0.size)⟩
end Go.Proofs.YtfefafmcaepoiaaGreatDoor

/- The walk of the specification's question whether a record is right. -/
import Derived.Test.YtjagohadeegghaaProg
import Derived.Test.YtjagohadeegghaaRecMath
import Derived.WalkKit
import Derived.WalkSpells
import Derived.WalkLawsBesides
import Derived.BigRegion
import Derived.BigQuiet
import Derived.Deep.RegionWith
import Derived.Lib.QuietBelow
namespace Go.Proofs.Ytjagohadeegghaa
open Go.RowKit
set_option linter.unusedVariables false
set_option linter.unusedSimpArgs false

set_option maxHeartbeats 400000 in
theorem l02Is_any (n lo hi : Int) (w : World) :
    Calls Try.prog 93 #[.int .i64 n, .int .i64 lo, .int .i64 hi] w fun e w' => e = .returned (.bool (decide (lo ≤ n ∧ n ≤ hi))) ∧ w' = w := by
  by_cases h0 : lo ≤ n
  · go_enter Try.func93, Try.ntmps93
    go_wp2
    go_ret
    refine ⟨?_, rfl⟩
    simp [h0]
  · go_enter Try.func93, Try.ntmps93
    go_wp2
    go_ret
    refine ⟨?_, rfl⟩
    simp
    omega

set_option maxHeartbeats 4000000 in
theorem recRight_spec (K : Int) (v : Value) (L : List Fd.E) (w : World) (hv : Rk.View Fd.S w v L) (hL : ∀ f ∈ L, Fd.Fit f) (hl : L.length ≤ maxLen) :
    Calls Try.prog 127 #[.agg #[.int .i64 K, v]] w fun e w' => e = .returned (.bool (Rc.right K L)) ∧ Below w.heap.size w w' := by
  unfold maxLen at hl
  have b0 : Below w.heap.size w (w.alloc (.cells #[.int .i64 K, v] 131)) := (Below.refl _ _).alloc (Nat.le_refl _) _
  obtain ⟨W, hW⟩ : ∃ W, W = w.alloc (.cells #[.int .i64 K, v] 131) := ⟨_, rfl⟩
  have hv' := hv.below b0
  have hcell : W.cell? ⟨w.heap.size, 1, none⟩ = some v := by rw [hW, Fk.cellTop _ _ _ _ _ rfl]; rfl
  have hcell0 : W.cell? ⟨w.heap.size, 0, none⟩ = some (.int .i64 K) := by rw [hW, Fk.cellTop _ _ _ _ _ rfl]; rfl
  have hsz : W.heap.size = w.heap.size + 1 := by rw [hW]; simp
  rw [← hW] at b0 hv'
  have HW := Fk.hide hW
  clear hW hv
  obtain ⟨a, cap, rfl, hs⟩ := hv'
  by_cases c : 0 ≤ K ∧ K ≤ 1000 ∧ (L.length : Int) ≤ 30
  · have HC := Fk.hide c
    obtain ⟨c0, c1, c2⟩ := c
    go_enter Try.func127, Try.ntmps127
    go_wp2_with (go_at_call 93; refine (l02Is_any _ _ _ _).mono ?_; rintro e w' ⟨rfl, rfl⟩)
    rw [← HW.out]
    go_loopw [3] (fun i wr => ∃ k : Nat, k ≤ L.length ∧ i = .int .i64 k ∧ Hid (∀ j, j < k → Rc.fok (Rk.at_ Fd.S L j) = true ∧ Rc.up L j = true) ∧ Below W.heap.size W wr) (fun i _ => L.length - (intOf i).toNat)
    case atStart => exact ⟨0, Nat.zero_le _, rfl, (fun j hj => absurd hj (by omega)), Below.refl _ _⟩
    case round =>
      obtain ⟨k, hk, rfl, HK, bel⟩ := hrel
      have hc1 : wr.cell? ⟨w.heap.size, 1, none⟩ = some (.slice a L.length cap) := (bel.cell (by show w.heap.size < _; omega)).trans hcell
      by_cases hlt : k < L.length
      · obtain ⟨b, o, rfl, hb, hs1⟩ := hs (by omega)
        have hs' := hs1.below hb bel
        have q0 := Fd.c0 hs' hlt
        have q1 := Fd.c1 hs' hlt
        have hfit := Fd.fit_at hL k
        have hfit2 := hfit.2
        unfold maxLen at hfit2
        obtain ⟨W2, hW2⟩ : ∃ W2, W2 = wr.alloc (.cells #[.int .i64 (Rc.idAt L k), .string (Rc.textAt L k)] 167) := ⟨_, rfl⟩
        have b2 : Below wr.heap.size wr W2 := by rw [hW2]; exact (Below.refl _ _).alloc (Nat.le_refl _) _
        have b3 : Below W.heap.size W W2 := bel.trans (b2.mono bel.size)
        have e0 : W2.cell? ⟨wr.heap.size, 0, none⟩ = some (.int .i64 (Rc.idAt L k)) := by rw [hW2, Fk.cellTop _ _ _ _ _ rfl]; rfl
        have e1 : W2.cell? ⟨wr.heap.size, 1, none⟩ = some (.string (Rc.textAt L k)) := by rw [hW2, Fk.cellTop _ _ _ _ _ rfl]; rfl
        have e3 : W2.cell? ⟨w.heap.size, 1, none⟩ = some (.slice (some ⟨b, o, none⟩) L.length cap) := (b3.cell (by show w.heap.size < _; omega)).trans hcell
        have hs2 := hs1.below hb b3
        have HW2 := Fk.hide hW2
        have HFK : Hid (Rc.fok (Rk.at_ Fd.S L k) = (decide (0 ≤ Rc.idAt L k) && (decide (Rc.idAt L k ≤ 1000) && decide (((Rc.textAt L k).size : Int) ≤ 500)))) := rfl
        have h500 : (Rc.textAt L k).size ≤ 2 ^ 63 - 1 := hfit2
        change wr.cell? _ = some (.int .i64 (Rc.idAt L k)) at q0
        change wr.cell? _ = some (.string (Rc.textAt L k)) at q1
        have HP : Hid (k ≠ 0 → W2.cell? ⟨b, o + (k - 1) * 2, none⟩ = some (.int .i64 (Rc.idAt L (k - 1)))) := fun h => Fd.c0 hs2 (k := k - 1) (by omega)
        clear hs' hs2 hfit hfit2 hW2 b2
        obtain ⟨i, hi⟩ : ∃ i, i = Rc.idAt L k := ⟨_, rfl⟩
        obtain ⟨t, ht⟩ : ∃ t, t = Rc.textAt L k := ⟨_, rfl⟩
        have HI := Fk.hide hi
        rw [← hi] at q0 e0 HW2 HFK
        rw [← ht] at q1 e1 HW2 HFK h500
        clear hi ht
        go_wp2_with fail
        rw [← HW2.out]
        clear q0 q1
        have r0 := cell_regrown e0
        have r1 := cell_regrown e1
        have r3 := cell_regrown e3
        have FI : Hid (∀ w', Calls Try.prog 93 #[.int .i64 i, .int .i64 0, .int .i64 1000] w' fun e w'' => e = .returned (.bool (decide (0 ≤ i ∧ i ≤ 1000))) ∧ Below w'.heap.size w' w'') := fun w' =>
          (l02Is_any _ _ _ w').mono fun e w'' ⟨h1, h2⟩ => ⟨h1, by rw [h2]; exact Below.refl _ _⟩
        by_cases hin : 0 ≤ i ∧ i ≤ 1000
        · have hi1 := decide_eq_true hin
          by_cases hd : (500 : Int) < (t.size : Int)
          · have hd1 : decide ((500 : Int) < (t.size : Int)) = true := decide_eq_true hd
            have hd2 : decide (500 < t.size) = true := decide_eq_true (by omega)
            have HF : Hid (Rc.right K L = false) := Rc.right_ill (Rc.okAll_at hlt (by rw [HFK.out]; simp; omega))
            clear hin
            have fi : ∀ w', Calls Try.prog 93 #[.int .i64 i, .int .i64 0, .int .i64 1000] w' fun e w'' => e = .returned (.bool true) ∧ Below w'.heap.size w' w'' := fun w' => by have := FI.out w'; rw [hi1] at this; exact this
            refine wp_region_quiet_below (by kernel_rfl) (by kernel_rfl) ?_
            repeat (go_big_quiet_step (first | (go_at_call 93; exact Calls.regrown_of (fi _))))
            refine wpQuiet_nil ?_
            intro w4 hw'
            obtain ⟨⟨dq, osq⟩, hw''⟩ := hw'
            have b4 : Below W.heap.size W w4 := by rw [hw'']; exact b3.trans ((below_regrown W2 dq osq).mono b3.size)
            clear hw'' r0 r1 r3 fi e0 e1 e3 hd1 hd2
            go_wp2_with fail
            go_ret
            exact ⟨by rw [HF.out]; rfl, b0.trans (b4.mono b0.size)⟩
          · have hd1 : decide ((500 : Int) < (t.size : Int)) = false := decide_eq_false hd
            have hd2 : decide (500 < t.size) = false := decide_eq_false (by omega)
            have HG : Hid (Rc.fok (Rk.at_ Fd.S L k) = true) := by show _ = _; rw [HFK.out]; simp; omega
            clear hin
            by_cases hk0 : k = 0
            · have HU : Hid (Rc.up L k = true) := by show _ = _; simp [Rc.up, hk0]
              have hk7 : decide (0 < k) = false := decide_eq_false (by omega)
              have hk8 : decide ((0 : Int) < (k : Int)) = false := decide_eq_false (by omega)
              clear hk0
              have fi : ∀ w', Calls Try.prog 93 #[.int .i64 i, .int .i64 0, .int .i64 1000] w' fun e w'' => e = .returned (.bool true) ∧ Below w'.heap.size w' w'' := fun w' => by have := FI.out w'; rw [hi1] at this; exact this
              refine wp_region_quiet_below (by kernel_rfl) (by kernel_rfl) ?_
              repeat (go_big_quiet_step (first | (go_at_call 93; exact Calls.regrown_of (fi _))))
              refine wpQuiet_nil ?_
              intro w4 hw'
              obtain ⟨⟨dq, osq⟩, hw''⟩ := hw'
              have b4 : Below W.heap.size W w4 := by rw [hw'']; exact b3.trans ((below_regrown W2 dq osq).mono b3.size)
              clear hw'' r0 r1 r3 fi e0 e1 e3 hd1 hd2 hk7 hk8
              go_wp2_with fail
              go_roundw
              case rel =>
                refine ⟨k + 1, by omega, by go_num, (fun j hj => ?_), b4⟩
                by_cases e : j = k
                · rw [e]; exact ⟨HG.out, HU.out⟩
                · exact HK.out j (by omega)
              case measure => simp [intOf]; omega
            · have p0 := HP.out hk0
              have hu : Rc.up L k = decide (Rc.idAt L (k - 1) < Rc.idAt L k) := by simp [Rc.up, hk0]
              obtain ⟨i2, hi2⟩ : ∃ i2, i2 = Rc.idAt L (k - 1) := ⟨_, rfl⟩
              rw [← hi2] at p0
              rw [← hi2, ← HI.out] at hu
              have r4 := cell_regrown p0
              have hk1 : (0 : Int) < (k : Int) := by omega
              have hk6 : decide (0 < k) = true := decide_eq_true (by omega)
              have hk9 : decide ((0 : Int) < (k : Int)) = true := decide_eq_true hk1
              have hk2 : ((k : Int) - 1).toNat = k - 1 := by omega
              have hk3 : (0 : Int) ≤ (k : Int) - 1 := by omega
              have hk4 : (k : Int) - 1 < (L.length : Int) := by omega
              clear hi2
              by_cases hup : i2 < i
              · have HU : Hid (Rc.up L k = true) := by show _ = _; rw [hu]; exact decide_eq_true hup
                have hu1 : decide (i ≤ i2) = false := decide_eq_false (by omega)
                clear hu
                have fi : ∀ w', Calls Try.prog 93 #[.int .i64 i, .int .i64 0, .int .i64 1000] w' fun e w'' => e = .returned (.bool true) ∧ Below w'.heap.size w' w'' := fun w' => by have := FI.out w'; rw [hi1] at this; exact this
                refine wp_region_quiet_below (by kernel_rfl) (by kernel_rfl) ?_
                repeat (go_big_quiet_step (first | (go_at_call 93; exact Calls.regrown_of (fi _))))
                refine wpQuiet_nil ?_
                intro w4 hw'
                obtain ⟨⟨dq, osq⟩, hw''⟩ := hw'
                have b4 : Below W.heap.size W w4 := by rw [hw'']; exact b3.trans ((below_regrown W2 dq osq).mono b3.size)
                clear hw'' r0 r1 r3 fi e0 e1 e3 r4 p0 hd1 hd2
                go_wp2_with fail
                go_roundw
                case rel =>
                  refine ⟨k + 1, by omega, by go_num, (fun j hj => ?_), b4⟩
                  by_cases e : j = k
                  · rw [e]; exact ⟨HG.out, HU.out⟩
                  · exact HK.out j (by omega)
                case measure => simp [intOf]; omega
              · have HF : Hid (Rc.right K L = false) := Rc.right_down (Rc.upAll_at hlt (by rw [hu]; exact decide_eq_false hup))
                have hu1 : decide (i ≤ i2) = true := decide_eq_true (by omega)
                clear hu
                have fi : ∀ w', Calls Try.prog 93 #[.int .i64 i, .int .i64 0, .int .i64 1000] w' fun e w'' => e = .returned (.bool true) ∧ Below w'.heap.size w' w'' := fun w' => by have := FI.out w'; rw [hi1] at this; exact this
                refine wp_region_quiet_below (by kernel_rfl) (by kernel_rfl) ?_
                repeat (go_big_quiet_step (first | (go_at_call 93; exact Calls.regrown_of (fi _))))
                refine wpQuiet_nil ?_
                intro w4 hw'
                obtain ⟨⟨dq, osq⟩, hw''⟩ := hw'
                have b4 : Below W.heap.size W w4 := by rw [hw'']; exact b3.trans ((below_regrown W2 dq osq).mono b3.size)
                clear hw'' r0 r1 r3 fi e0 e1 e3 r4 p0 hd1 hd2
                go_wp2_with fail
                go_ret
                exact ⟨by rw [HF.out]; rfl, b0.trans (b4.mono b0.size)⟩
        · have hi1 := decide_eq_false hin
          have HF : Hid (Rc.right K L = false) := Rc.right_ill (Rc.okAll_at hlt (by rw [HFK.out]; simp; omega))
          clear hin
          have fi : ∀ w', Calls Try.prog 93 #[.int .i64 i, .int .i64 0, .int .i64 1000] w' fun e w'' => e = .returned (.bool false) ∧ Below w'.heap.size w' w'' := fun w' => by have := FI.out w'; rw [hi1] at this; exact this
          refine wp_region_quiet_below (by kernel_rfl) (by kernel_rfl) ?_
          repeat (go_big_quiet_step (first | (go_at_call 93; exact Calls.regrown_of (fi _))))
          refine wpQuiet_nil ?_
          intro w4 hw'
          obtain ⟨⟨dq, osq⟩, hw''⟩ := hw'
          have b4 : Below W.heap.size W w4 := by rw [hw'']; exact b3.trans ((below_regrown W2 dq osq).mono b3.size)
          clear hw'' r0 r1 r3 fi e0 e1 e3
          go_wp2_with fail
          go_ret
          exact ⟨by rw [HF.out]; rfl, b0.trans (b4.mono b0.size)⟩
      · have e : k = L.length := by omega
        have HA : Hid (Rc.right K L = true) := Rc.right_yes HC.out (Rc.okAll_yes (by rw [← e]; exact fun i hi => (HK.out i hi).1)) (Rc.upAll_yes (by rw [← e]; exact fun i hi => (HK.out i hi).2))
        subst e
        go_wp2_with fail
        go_ret
        exact ⟨by rw [HA.out]; rfl, b0.trans (bel.mono b0.size)⟩
  · have HF : Hid (Rc.right K L = false) := Rc.right_kind c
    by_cases c0 : 0 ≤ K ∧ K ≤ 1000
    · have c2 : (30 : Int) < (L.length : Int) := by omega
      have c3 := decide_eq_true c0
      go_enter Try.func127, Try.ntmps127
      go_wp2_with (go_at_call 93; refine (l02Is_any _ _ _ _).mono ?_; rintro e w' ⟨rfl, rfl⟩)
      go_ret
      exact ⟨by rw [HF.out]; rfl, by rw [← HW.out]; exact b0⟩
    · have c3 := decide_eq_false c0
      go_enter Try.func127, Try.ntmps127
      go_wp2_with (go_at_call 93; refine (l02Is_any _ _ _ _).mono ?_; rintro e w' ⟨rfl, rfl⟩)
      go_ret
      exact ⟨by rw [HF.out]; rfl, by rw [← HW.out]; exact b0⟩
end Go.Proofs.Ytjagohadeegghaa

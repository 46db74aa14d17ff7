/- The walks of the specification's question whether files are right: it answers 'right'. -/
import Derived.Test.YtojdfdlbdpdlkaaGreatDoorProg
import Derived.Test.YtojdfdlbdpdlkaaGreatDoorJoined6
import Derived.Test.YtojdfdlbdpdlkaaGreatDoorJoined7
import Derived.WalkKit
import Derived.WalkSpells
import Derived.WalkLawsBesides
import Derived.BigQuiet
import Derived.Lib.QuietBelow
namespace Go.Proofs.YtojdfdlbdpdlkaaGreatDoor
open Go.RowKit
set_option linter.unusedVariables false

set_option maxHeartbeats 400000 in
theorem l02Is_any (n lo hi : Int) (w : World) :
    Calls Tryz.prog 60 #[.int .i64 n, .int .i64 lo, .int .i64 hi] w fun e w' => e = .returned (.bool (decide (lo ≤ n ∧ n ≤ hi))) ∧ w' = w := by
  by_cases h0 : lo ≤ n
  · go_enter Tryz.func60, Tryz.ntmps60
    go_wp2
    go_ret
    refine ⟨?_, rfl⟩
    simp [h0]
  · go_enter Tryz.func60, Tryz.ntmps60
    go_wp2
    go_ret
    refine ⟨?_, rfl⟩
    simp
    omega

set_option maxHeartbeats 400000 in
theorem fsRight_spec (v : Value) (L : List Fk.Fl) (w : World) (hv : Fk.View w v L) (hL : Fk.Fits L) (hl : L.length ≤ maxLen) :
    Calls Tryz.prog 33 #[.agg #[v]] w fun e w' => e = .returned (.bool (Fk.right L)) ∧ Below w.heap.size w w' := by
  unfold maxLen at hl
  have b0 : Below w.heap.size w (w.alloc (.cells #[v] 25)) := (Below.refl _ _).alloc (Nat.le_refl _) _
  have hv' := hv.below b0
  have hcell : (w.alloc (.cells #[v] 25)).cell? ⟨w.heap.size, 0, none⟩ = some v := by rw [Fk.cellTop _ _ _ _ _ rfl]; rfl
  have hsz : w.heap.size < (w.alloc (.cells #[v] 25)).heap.size := by simp
  obtain ⟨W, hW⟩ : ∃ W, W = w.alloc (.cells #[v] 25) := ⟨_, rfl⟩
  rw [← hW] at b0 hv' hcell hsz
  have HW : Hid (W = w.alloc (.cells #[v] 25)) := hW
  clear hW hv
  obtain ⟨a, cap, rfl, hs⟩ := hv'
  go_enter Tryz.func33, Tryz.ntmps33
  go_wp2_with fail
  rw [← HW.out]
  go_loopw [3] (fun i wr => ∃ k : Nat, k ≤ L.length ∧ i = .int .i64 k ∧ Hid (∀ j, j < k → Fk.step L j = true) ∧ Below W.heap.size W wr) (fun i _ => L.length - (intOf i).toNat)
  case atStart => exact ⟨0, Nat.zero_le _, rfl, fun j hj => absurd hj (by omega), Below.refl _ _⟩
  case round =>
    obtain ⟨k, hk, rfl, HK, bel⟩ := hrel
    have c9 : wr.cell? ⟨w.heap.size, 0, none⟩ = some (.slice a L.length cap) := (bel.cell (by exact hsz)).trans hcell
    by_cases hlt : k < L.length
    · obtain ⟨b, o, rfl, hb, hs1⟩ := hs (by omega)
      have hs' := hs1.below hb bel
      have q0 := hs'.c0 k hlt
      have q1 := hs'.c1 k hlt
      have q2 := hs'.c2 k hlt
      go_wp2_with fail
      obtain ⟨W2, hW2⟩ : ∃ W2, W2 = wr.alloc (.cells #[.string (Fk.nm L k), .string (Fk.dt L k), .int .i64 (Fk.sy L k)] 75) := ⟨_, rfl⟩
      rw [← hW2]
      have b2 : Below wr.heap.size wr W2 := by rw [hW2]; exact (Below.refl _ _).alloc (Nat.le_refl _) _
      have b3 : Below W.heap.size W W2 := bel.trans (b2.mono bel.size)
      have c0 : W2.cell? ⟨wr.heap.size, 0, none⟩ = some (.string (Fk.nm L k)) := by rw [hW2, Fk.cellTop _ _ _ _ _ rfl]; rfl
      have c1 : W2.cell? ⟨wr.heap.size, 1, none⟩ = some (.string (Fk.dt L k)) := by rw [hW2, Fk.cellTop _ _ _ _ _ rfl]; rfl
      have c2 : W2.cell? ⟨wr.heap.size, 2, none⟩ = some (.int .i64 (Fk.sy L k)) := by rw [hW2, Fk.cellTop _ _ _ _ _ rfl]; rfl
      have c3 : W2.cell? ⟨w.heap.size, 0, none⟩ = some (.slice (some ⟨b, o, none⟩) L.length cap) := (b3.cell (by exact hsz)).trans hcell
      have hs2 := hs1.below hb b3
      obtain ⟨z0, z1, z2⟩ := Fk.fits_get hL k
      clear hW2 q0 q1 q2 hs' hcell c9
      have r0 := cell_regrown c0
      have r1 := cell_regrown c1
      have r2 := cell_regrown c2
      have r3 := cell_regrown c3
      have HN : Hid (∀ w', Calls Tryz.prog 59 #[.string (Fk.nm L k)] w' fun e w'' => e = .returned (.bool (Nm.nameB (Fk.nm L k))) ∧ Below w'.heap.size w' w'') := fun w' =>
        (specName_any _ w' z0).mono fun e w'' ⟨h1, h2⟩ => ⟨h1, by rw [h2]; exact Below.refl _ _⟩
      have HI : Hid (∀ w', Calls Tryz.prog 60 #[.int .i64 (Fk.sy L k), .int .i64 0, .int .i64 ((Fk.dt L k).size : Int)] w' fun e w'' => e = .returned (.bool (decide (0 ≤ Fk.sy L k ∧ Fk.sy L k ≤ (Fk.dt L k).size))) ∧ Below w'.heap.size w' w'') := fun w' =>
        (l02Is_any _ _ _ w').mono fun e w'' ⟨h1, h2⟩ => ⟨h1, by rw [h2]; exact Below.refl _ _⟩
      unfold maxLen at z1
      cases hn : Nm.nameB (Fk.nm L k) with
      | false =>
        have HF : Hid (Fk.right L = false) := Fk.right_at L k hlt (Fk.step_ill L k (Fk.fok_name hn))
        have fn : ∀ w', Calls Tryz.prog 59 #[.string (Fk.nm L k)] w' fun e w'' => e = .returned (.bool false) ∧ Below w'.heap.size w' w'' := fun w' => by have := HN.out w'; rw [hn] at this; exact this
        have fi := HI.out
        refine wp_region_quiet_below (by kernel_rfl) (by kernel_rfl) ?_
        repeat (go_big_quiet_step (first | (go_at_call 59; exact Calls.regrown_of (fn _)) | (go_at_call 60; exact Calls.regrown_of (fi _))))
        refine wpQuiet_nil ?_
        intro w4 hw'
        obtain ⟨⟨dq, osq⟩, hw''⟩ := hw'
        have b4 : Below W.heap.size W w4 := by rw [hw'']; exact b3.trans ((below_regrown W2 dq osq).mono b3.size)
        clear hw'' r0 r1 r2 r3 fn fi
        go_wp2_with fail
        go_ret
        exact ⟨by rw [HF.out]; rfl, b0.trans (b4.mono b0.size)⟩
      | true =>
        have fn : ∀ w', Calls Tryz.prog 59 #[.string (Fk.nm L k)] w' fun e w'' => e = .returned (.bool true) ∧ Below w'.heap.size w' w'' := fun w' => by have := HN.out w'; rw [hn] at this; exact this
        by_cases hk0 : k = 0
        · have hk7 : decide (0 < k) = false := decide_eq_false (by omega)
          have hk8 : decide ((0 : Int) < (k : Int)) = false := decide_eq_false (by omega)
          have HK0 : Hid (k = 0) := hk0
          clear hk0
          by_cases hd : (3000 : Int) < ((Fk.dt L k).size : Int)
          · have HF : Hid (Fk.right L = false) := Fk.right_at L k hlt (Fk.step_ill L k (Fk.fok_long hd))
            have hd1 : decide ((3000 : Int) < ((Fk.dt L k).size : Int)) = true := decide_eq_true hd
            have hd2 : decide (3000 < (Fk.dt L k).size) = true := decide_eq_true (by omega)
            have fi := HI.out
            refine wp_region_quiet_below (by kernel_rfl) (by kernel_rfl) ?_
            repeat (go_big_quiet_step (first | (go_at_call 59; exact Calls.regrown_of (fn _)) | (go_at_call 60; exact Calls.regrown_of (fi _))))
            refine wpQuiet_nil ?_
            intro w4 hw'
            obtain ⟨⟨dq, osq⟩, hw''⟩ := hw'
            have b4 : Below W.heap.size W w4 := by rw [hw'']; exact b3.trans ((below_regrown W2 dq osq).mono b3.size)
            clear hw'' r0 r1 r2 r3 fn fi
            go_wp2_with fail
            go_ret
            exact ⟨by rw [HF.out]; rfl, b0.trans (b4.mono b0.size)⟩
          · have hd1 : decide ((3000 : Int) < ((Fk.dt L k).size : Int)) = false := decide_eq_false hd
            have hd2 : decide (3000 < (Fk.dt L k).size) = false := decide_eq_false (by omega)
            by_cases hi : 0 ≤ Fk.sy L k ∧ Fk.sy L k ≤ (Fk.dt L k).size
            · have HO : Hid (Fk.fok (Fk.nm L k) (Fk.dt L k) (Fk.sy L k) = true) := Fk.fok_yes hn hd hi
              have HS : Hid (Fk.step L k = true) := by show Fk.step L k = true; rw [HK0.out]; exact Fk.step_first L (by have := HO.out; rw [HK0.out] at this; exact this)
              have fi : ∀ w', Calls Tryz.prog 60 #[.int .i64 (Fk.sy L k), .int .i64 0, .int .i64 ((Fk.dt L k).size : Int)] w' fun e w'' => e = .returned (.bool true) ∧ Below w'.heap.size w' w'' := fun w' => by have := HI.out w'; rw [decide_eq_true hi] at this; exact this
              clear hi
              refine wp_region_quiet_below (by kernel_rfl) (by kernel_rfl) ?_
              repeat (go_big_quiet_step (first | (go_at_call 59; exact Calls.regrown_of (fn _)) | (go_at_call 60; exact Calls.regrown_of (fi _))))
              refine wpQuiet_nil ?_
              intro w4 hw'
              obtain ⟨⟨dq, osq⟩, hw''⟩ := hw'
              have b4 : Below W.heap.size W w4 := by rw [hw'']; exact b3.trans ((below_regrown W2 dq osq).mono b3.size)
              clear hw'' r0 r1 r2 r3 fn fi
              go_wp2_with fail
              go_roundw
              case rel =>
                refine ⟨k + 1, by omega, by go_num, (fun j hj => ?_), b4⟩
                by_cases e : j = k
                · rw [e]; exact HS.out
                · exact HK.out j (by omega)
              case measure => simp [intOf]; omega
            · have HF : Hid (Fk.right L = false) := Fk.right_at L k hlt (Fk.step_ill L k (Fk.fok_sync hi))
              have fi : ∀ w', Calls Tryz.prog 60 #[.int .i64 (Fk.sy L k), .int .i64 0, .int .i64 ((Fk.dt L k).size : Int)] w' fun e w'' => e = .returned (.bool false) ∧ Below w'.heap.size w' w'' := fun w' => by have := HI.out w'; rw [decide_eq_false hi] at this; exact this
              clear hi
              refine wp_region_quiet_below (by kernel_rfl) (by kernel_rfl) ?_
              repeat (go_big_quiet_step (first | (go_at_call 59; exact Calls.regrown_of (fn _)) | (go_at_call 60; exact Calls.regrown_of (fi _))))
              refine wpQuiet_nil ?_
              intro w4 hw'
              obtain ⟨⟨dq, osq⟩, hw''⟩ := hw'
              have b4 : Below W.heap.size W w4 := by rw [hw'']; exact b3.trans ((below_regrown W2 dq osq).mono b3.size)
              clear hw'' r0 r1 r2 r3 fn fi
              go_wp2_with fail
              go_ret
              exact ⟨by rw [HF.out]; rfl, b0.trans (b4.mono b0.size)⟩
        · have r4 := cell_regrown (hs2.c0 (k - 1) (by omega))
          have hk1 : (0 : Int) < (k : Int) := by omega
          have hk5 : 0 < k := by omega
          have hk6 : decide (0 < k) = true := decide_eq_true hk5
          have hk2 : ((k : Int) - 1).toNat = k - 1 := by omega
          have hk3 : (0 : Int) ≤ (k : Int) - 1 := by omega
          have hk4 : (k : Int) - 1 < (L.length : Int) := by omega
          cases hb2 : Op.bytesLess (Fk.nm L (k - 1)).toList (Fk.nm L k).toList with
          | false =>
            have HF : Hid (Fk.right L = false) := Fk.right_at L k hlt (Fk.step_down L k hk0 hb2)
            have fi := HI.out
            refine wp_region_quiet_below (by kernel_rfl) (by kernel_rfl) ?_
            repeat (go_big_quiet_step (first | (go_at_call 59; exact Calls.regrown_of (fn _)) | (go_at_call 60; exact Calls.regrown_of (fi _))))
            refine wpQuiet_nil ?_
            intro w4 hw'
            obtain ⟨⟨dq, osq⟩, hw''⟩ := hw'
            have b4 : Below W.heap.size W w4 := by rw [hw'']; exact b3.trans ((below_regrown W2 dq osq).mono b3.size)
            clear hw'' r0 r1 r2 r3 fn fi r4
            go_wp2_with fail
            go_ret
            exact ⟨by rw [HF.out]; rfl, b0.trans (b4.mono b0.size)⟩
          | true =>
            by_cases hd : (3000 : Int) < ((Fk.dt L k).size : Int)
            · have HF : Hid (Fk.right L = false) := Fk.right_at L k hlt (Fk.step_ill L k (Fk.fok_long hd))
              have hd1 : decide ((3000 : Int) < ((Fk.dt L k).size : Int)) = true := decide_eq_true hd
              have hd2 : decide (3000 < (Fk.dt L k).size) = true := decide_eq_true (by omega)
              have fi := HI.out
              refine wp_region_quiet_below (by kernel_rfl) (by kernel_rfl) ?_
              repeat (go_big_quiet_step (first | (go_at_call 59; exact Calls.regrown_of (fn _)) | (go_at_call 60; exact Calls.regrown_of (fi _))))
              refine wpQuiet_nil ?_
              intro w4 hw'
              obtain ⟨⟨dq, osq⟩, hw''⟩ := hw'
              have b4 : Below W.heap.size W w4 := by rw [hw'']; exact b3.trans ((below_regrown W2 dq osq).mono b3.size)
              clear hw'' r0 r1 r2 r3 fn fi r4
              go_wp2_with fail
              go_ret
              exact ⟨by rw [HF.out]; rfl, b0.trans (b4.mono b0.size)⟩
            · have hd1 : decide ((3000 : Int) < ((Fk.dt L k).size : Int)) = false := decide_eq_false hd
              have hd2 : decide (3000 < (Fk.dt L k).size) = false := decide_eq_false (by omega)
              by_cases hi : 0 ≤ Fk.sy L k ∧ Fk.sy L k ≤ (Fk.dt L k).size
              · have HO : Hid (Fk.fok (Fk.nm L k) (Fk.dt L k) (Fk.sy L k) = true) := Fk.fok_yes hn hd hi
                have HS : Hid (Fk.step L k = true) := Fk.step_later L k HO.out hb2
                have fi : ∀ w', Calls Tryz.prog 60 #[.int .i64 (Fk.sy L k), .int .i64 0, .int .i64 ((Fk.dt L k).size : Int)] w' fun e w'' => e = .returned (.bool true) ∧ Below w'.heap.size w' w'' := fun w' => by have := HI.out w'; rw [decide_eq_true hi] at this; exact this
                clear hi
                refine wp_region_quiet_below (by kernel_rfl) (by kernel_rfl) ?_
                repeat (go_big_quiet_step (first | (go_at_call 59; exact Calls.regrown_of (fn _)) | (go_at_call 60; exact Calls.regrown_of (fi _))))
                refine wpQuiet_nil ?_
                intro w4 hw'
                obtain ⟨⟨dq, osq⟩, hw''⟩ := hw'
                have b4 : Below W.heap.size W w4 := by rw [hw'']; exact b3.trans ((below_regrown W2 dq osq).mono b3.size)
                clear hw'' r0 r1 r2 r3 fn fi r4
                go_wp2_with fail
                go_roundw
                case rel =>
                  refine ⟨k + 1, by omega, by go_num, (fun j hj => ?_), b4⟩
                  by_cases e : j = k
                  · rw [e]; exact HS.out
                  · exact HK.out j (by omega)
                case measure => simp [intOf]; omega
              · have HF : Hid (Fk.right L = false) := Fk.right_at L k hlt (Fk.step_ill L k (Fk.fok_sync hi))
                have fi : ∀ w', Calls Tryz.prog 60 #[.int .i64 (Fk.sy L k), .int .i64 0, .int .i64 ((Fk.dt L k).size : Int)] w' fun e w'' => e = .returned (.bool false) ∧ Below w'.heap.size w' w'' := fun w' => by have := HI.out w'; rw [decide_eq_false hi] at this; exact this
                clear hi
                refine wp_region_quiet_below (by kernel_rfl) (by kernel_rfl) ?_
                repeat (go_big_quiet_step (first | (go_at_call 59; exact Calls.regrown_of (fn _)) | (go_at_call 60; exact Calls.regrown_of (fi _))))
                refine wpQuiet_nil ?_
                intro w4 hw'
                obtain ⟨⟨dq, osq⟩, hw''⟩ := hw'
                have b4 : Below W.heap.size W w4 := by rw [hw'']; exact b3.trans ((below_regrown W2 dq osq).mono b3.size)
                clear hw'' r0 r1 r2 r3 fn fi r4
                go_wp2_with fail
                go_ret
                exact ⟨by rw [HF.out]; rfl, b0.trans (b4.mono b0.size)⟩
    · have e : k = L.length := by omega
      subst e
      by_cases h12 : (L.length : Int) ≤ 12
      · have HF : Hid (Fk.right L = true) := Fk.right_yes L (by omega) HK.out
        go_wp2_with fail
        go_ret
        refine ⟨?_, b0.trans (bel.mono b0.size)⟩
        rw [HF.out]
        simp
      · have HF : Hid (Fk.right L = false) := Fk.right_long L (by omega)
        go_wp2_with fail
        go_ret
        refine ⟨?_, b0.trans (bel.mono b0.size)⟩
        rw [HF.out]
        simp
end Go.Proofs.YtojdfdlbdpdlkaaGreatDoor

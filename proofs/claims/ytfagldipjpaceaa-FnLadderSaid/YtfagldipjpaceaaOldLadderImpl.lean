/- The walk of the program's OldLadder. -/
import Derived.Test.YtfagldipjpaceaaOldLadderSpec2
namespace Go.Proofs.Ytfagldipjpaceaa
open Go.RowKit
set_option linter.unusedVariables false
set_option linter.unusedSimpArgs false
theorem Ob.rstep_ne (R : List Rg.E) (o : Or.E) : Ob.rstep R o ≠ [] := by
  unfold Ob.rstep
  split
  · simp
  · rename_i h
    intro e
    have : R.length = 0 := by have := congrArg List.length e; simpa using this
    exact h (.inl this)
theorem Ob.ladder_length (B A : List Or.E) (n : Int) (buy : Bool) : (Ob.ladder B A n buy).length ≤ 24 := by
  unfold Ob.ladder
  split
  · rename_i h
    have h1 := (Ob.right_pick h buy).1
    have h2 := Ob.rungs_length (Ob.pick buy B A) _ (Nat.le_refl _)
    omega
  · simp
theorem Ob.rungs_nil (L : List Or.E) (k : Nat) (h : k ≤ L.length) : (Ob.rungs L k).length = 0 ↔ k = 0 := by
  cases k with
  | zero => simp [Ob.rungs_none]
  | succ k =>
    rw [Ob.rungs_step L k h]
    have := Ob.rstep_ne (Ob.rungs L k) (Ob.at' L k)
    simp [this]

set_option maxRecDepth 100000 in
set_option maxHeartbeats 8000000 in
theorem oldLadder_impl (u v : Value) (n : Int) (buy : Bool) (B A : List Or.E) (w : World) (hu : Rk.View Or.S w u B) (hv : Rk.View Or.S w v A) (su : Rk.Shut u) (sv : Rk.Shut v) (l0 : B.length ≤ 1048576) (l1 : A.length ≤ 1048576) :
    Calls Try.prog 25 #[.agg #[u, v, .int .i64 n], .bool buy] w fun e w' => (∃ x, e = .returned x ∧ Rk.Own Rg.S w' w.heap.size 55 x (Ob.ladder B A n buy)) ∧ Below w.heap.size w w' := by
  obtain ⟨i0, hi, hz0, hz1', hz2⟩ := info_parts infoRung
  obtain ⟨W, hW⟩ : ∃ W, W = w.alloc (.cells #[u, v, .int .i64 n] 25) := ⟨_, rfl⟩
  have b0 : Below w.heap.size w W := by rw [hW]; exact (Below.refl _ _).alloc (Nat.le_refl _) _
  have c0 : W.cell? ⟨w.heap.size, 0, none⟩ = some u := by rw [hW, Fk.cellTop _ _ _ _ _ rfl]; rfl
  have c1 : W.cell? ⟨w.heap.size, 1, none⟩ = some v := by rw [hW, Fk.cellTop _ _ _ _ _ rfl]; rfl
  have c2 : W.cell? ⟨w.heap.size, 2, none⟩ = some (.int .i64 n) := by rw [hW, Fk.cellTop _ _ _ _ _ rfl]; rfl
  have hz : w.heap.size < W.heap.size := by rw [hW]; simp
  have HU := Fk.hide hu
  have HV := Fk.hide hv
  have HPV := Fk.hide (Ob.view_pick buy hu hv)
  obtain ⟨a0, cap0, rfl, _⟩ := hu
  obtain ⟨a1, cap1, rfl, _⟩ := hv
  have HW := Fk.hide hW
  clear hW
  go_enter Try.func25, Try.ntmps25
  go_wp2_with fail
  rw [← HW.out]
  refine (oldRight_impl _ _ _ B A _ (HU.out.below b0) (HV.out.below b0) su sv l0 l1).mono ?_
  rintro e w1 ⟨rfl, k1⟩
  have B1 : Below w.heap.size w w1 := b0.trans (k1.mono b0.size)
  have d0 := (k1.cell (p := ⟨w.heap.size, 0, none⟩) (by show w.heap.size < _; omega)).trans c0
  have d1 := (k1.cell (p := ⟨w.heap.size, 1, none⟩) (by show w.heap.size < _; omega)).trans c1
  have d2 := (k1.cell (p := ⟨w.heap.size, 2, none⟩) (by show w.heap.size < _; omega)).trans c2
  have hz1 : w.heap.size < w1.heap.size := Nat.lt_of_lt_of_le hz k1.size
  clear k1 c0 c1 c2
  obtain ⟨r, hr⟩ : ∃ r, r = Ob.right B A n := ⟨_, rfl⟩
  rw [← hr]
  have HR := Fk.hide hr
  clear hr
  cases r with
  | false =>
    have HA : Hid (Ob.ladder B A n buy = []) := by show _ = _; unfold Ob.ladder; rw [← HR.out]; rfl
    have HB1 := Fk.hide B1
    go_wp2_with fail
    go_ret
    exact ⟨⟨_, rfl, by rw [HA.out]; exact Rk.own_nil _ _ _⟩, HB1.out⟩
  | true =>
    obtain ⟨L, hL⟩ : ∃ L, L = Ob.pick buy B A := ⟨_, rfl⟩
    have HP := Ob.right_pick HR.out.symm buy
    rw [← hL] at HP HPV
    have HA : Hid (Ob.ladder B A n buy = Ob.rungs L L.length) := by show _ = _; unfold Ob.ladder; rw [← HR.out, ← hL]; rfl
    clear hL
    obtain ⟨hP1, hP2⟩ := HP
    have HP2 := Fk.hide hP2
    clear hP2
    obtain ⟨a, cap, ev, hs⟩ := HPV.out
    go_wp2_with fail
    refine (sideOf_any _ _ _ buy _).mono ?_
    rw [ev]
    rintro e w2 ⟨rfl, k2⟩
    have B2 : Below w.heap.size w w2 := B1.trans (k2.mono B1.size)
    clear k2 d0 d1 d2
    go_wp2_with fail
    go_loopw [5, 16] (fun out i wr => ∃ (k : Nat) (ua : Option Addr) (un uc : Nat), k ≤ L.length ∧ out = .slice ua un uc ∧ i = .int .i64 k ∧ Hid (Rk.Own Rg.S wr w.heap.size 55 (.slice ua un uc) (Ob.rungs L k)) ∧ Below w.heap.size w wr) (fun _ i _ => L.length - (intOf i).toNat)
    case atStart => exact ⟨0, _, _, _, Nat.zero_le _, rfl, rfl, (by rw [Ob.rungs_none]; exact Rk.own_nil _ _ _), B2⟩
    case round =>
      obtain ⟨k, ua, un, uc, hk, rfl, rfl, HO, bel⟩ := hrel
      clear B1 B2 b0
      by_cases hlt : k < L.length
      · obtain ⟨b, o, rfl, hb, hs1⟩ := hs (by omega)
        have hs' := hs1.below hb bel
        have q0 := Or.c0 hs' hlt
        have q1 := Or.c1 hs' hlt
        have q2 := Or.c2 hs' hlt
        have q3 := Or.c3 hs' hlt
        have q4 := Or.c4 hs' hlt
        have q5 := Or.c5 hs' hlt
        have q6 := Or.c6 hs' hlt
        have q7 := Or.c7 hs' hlt
        obtain ⟨f, hf⟩ : ∃ f, f = Rk.at_ Or.S L k := ⟨_, rfl⟩
        rw [← hf] at q0 q1 q2 q3 q4 q5 q6 q7
        have HPR : Hid ((Ob.at' L k).2.2.1 = f.2.2.1) := by show _ = _; rw [hf]
        have HAM : Hid ((Ob.at' L k).2.2.2.1 = f.2.2.2.1) := by show _ = _; rw [hf]
        have hab : 0 ≤ f.2.2.2.1 ∧ f.2.2.2.1 ≤ 1000 := by rw [hf]; exact HP2.out k hlt
        clear hf hs'
        obtain ⟨X, hX⟩ : ∃ W, W = wr.alloc (.cells #[.int .i64 f.1, .int .i64 f.2.1, .int .i64 f.2.2.1, .int .i64 f.2.2.2.1, .bool f.2.2.2.2.1, .int .i64 f.2.2.2.2.2.1, .int .i64 f.2.2.2.2.2.2.1, .bool f.2.2.2.2.2.2.2] 40) := ⟨_, rfl⟩
        have bX : Below wr.heap.size wr X := by rw [hX]; exact (Below.refl _ _).alloc (Nat.le_refl _) _
        have x2 : X.cell? ⟨wr.heap.size, 2, none⟩ = some (.int .i64 f.2.2.1) := by rw [hX, Fk.cellTop _ _ _ _ _ rfl]; rfl
        have x3 : X.cell? ⟨wr.heap.size, 3, none⟩ = some (.int .i64 f.2.2.2.1) := by rw [hX, Fk.cellTop _ _ _ _ _ rfl]; rfl
        have hzX : wr.heap.size < X.heap.size := by rw [hX]; simp
        have HX := Fk.hide hX
        clear hX
        have hwr : w.heap.size ≤ wr.heap.size := bel.size
        have HBX : Hid (Below w.heap.size w X) := bel.trans (bX.mono bel.size)
        obtain ⟨R, hR⟩ : ∃ R, R = Ob.rungs L k := ⟨_, rfl⟩
        rw [← hR] at HO
        have HOB : Hid (∀ j, (Value.slice ua un uc).ownBlock = some j → w.heap.size ≤ j ∧ j < wr.heap.size) := fun j hj => HO.out.lt j hj
        have HOX := Fk.hide (HO.out.below bX)
        obtain rfl : un = R.length := by obtain ⟨x1, x2, hx⟩ := HO.out.slice; simp only [Value.slice.injEq] at hx; exact hx.2.1
        have hRl : R.length ≤ 24 := by rw [hR]; have := Ob.rungs_length L k hk; omega
        have HST : Hid (Ob.rungs L (k + 1) = Ob.rstep R (Ob.at' L k)) := by show _ = _; rw [hR]; exact Ob.rungs_step L k hlt
        have HSM : Hid (Ob.Small (k : Int) R) := by show Ob.Small _ _; rw [hR]; exact Ob.rungs_small L (fun j hj => HP2.out j hj) k hk
        have HRN : Hid (R.length = 0 ↔ k = 0) := by show _ ↔ _; rw [hR]; exact Ob.rungs_nil L k hk
        clear hR HO bX bel
        go_wp2_with fail
        rw [← HX.out]
        clear q0 q1 q2 q3 q4 q5 q6 q7
        have r2 := cell_regrown x2
        by_cases h0 : k = 0
        · have hR0 : R.length = 0 := HRN.out.2 h0
          have HC : Hid (R.length = 0) := hR0
          have dk1 : ((k : Int) == 0) = true := by simpa using h0
          have dk2 : decide ((k : Int) = 0) = true := by simpa using h0
          clear hR0
          have HK0 := Fk.hide h0
          clear h0
          refine wp_region_quiet_below (by kernel_rfl) (by kernel_rfl) ?_
          repeat (go_big_quiet_step (fail))
          refine wpQuiet_nil ?_
          intro w4 hw'
          obtain ⟨⟨dq, osq⟩, hw''⟩ := hw'
          have k4 : Below X.heap.size X w4 := by rw [hw'']; exact below_regrown X dq osq
          have HB4 : Hid (Below w.heap.size w w4) := HBX.out.trans (k4.mono HBX.out.size)
          have HO4 := Fk.hide (HOX.out.below k4)
          have z2 := (k4.cell (p := ⟨wr.heap.size, 2, none⟩) (by show wr.heap.size < _; omega)).trans x2
          have z3 := (k4.cell (p := ⟨wr.heap.size, 3, none⟩) (by show wr.heap.size < _; omega)).trans x3
          have hz4 : wr.heap.size < w4.heap.size := Nat.lt_of_lt_of_le hzX k4.size
          clear hw'' k4 r2 x2 x3 HOX
          have b5 : Below w4.heap.size w4 (w4.alloc (.cells #[.int .i64 f.2.2.1, .int .i64 0, .int .i64 0] 55)) := (Below.refl _ _).alloc (Nat.le_refl _) _
          have HB5 : Hid (Below w.heap.size w (w4.alloc (.cells #[.int .i64 f.2.2.1, .int .i64 0, .int .i64 0] 55))) := HB4.out.trans (b5.mono HB4.out.size)
          have HO5 := Fk.hide (HO4.out.below b5)
          have HV5 := Fk.hide (Rk.view_lit1 (S := Rg.S) w4 55 #[.int .i64 f.2.2.1, .int .i64 0, .int .i64 0] (f.2.2.1, 0, 0) rfl)
          have y3 := (b5.cell (p := ⟨wr.heap.size, 3, none⟩) (by show wr.heap.size < _; omega)).trans z3
          clear b5
          go_wp2_with (at_builtin; refine Rk.wpList_append_view _ rfl _ _ 51 rfl w.heap.size 55 i0 _ 3 24 rfl Try.underlying51 hi hz0 hz1' hz2 rfl (by decide) _ (.slice (some ⟨w4.heap.size, 0, none⟩) 1 1) _ [(f.2.2.1, 0, 0)] rfl rfl HO5.out HV5.out (Rk.shut_some _ _ _) (by simp <;> omega) HB5.out.size ?_; intro u6 w6 o6 g6; have HB6 : Hid (Below w.heap.size w w6) := HB5.out.grown g6 HB5.out.size (fun j hj => (HO5.out.lt j hj).1); have s3 : w6.cell? ⟨wr.heap.size, 3, none⟩ = some (.int .i64 f.2.2.2.1) := g6.cell y3 (fun e => (by have := HOB.out _ e.symm; simp only at this; omega)); obtain ⟨x6, n6, c6, rfl⟩ := o6.slice'; have HO6 := Fk.hide o6; clear o6 g6)
          obtain ⟨R', hR'⟩ : ∃ R' : List Rg.E, R' = R ++ [(f.2.2.1, 0, 0)] := ⟨_, rfl⟩
          have HOt : Hid (Rk.Own Rg.S w6 w.heap.size 55 (.slice x6 n6 c6) R') := by show Rk.Own _ _ _ _ _ _; rw [hR']; exact HO6.out
          have HR' := Fk.hide hR'
          have hR1 : R'.length = R.length + 1 := by rw [hR']; simp
          have hRb : 1 ≤ R'.length ∧ R'.length ≤ 25 := by omega
          have HR1 := Fk.hide hR1
          clear hR1
          clear hR' HO6 HO5 HV5 HB5 HB4 HO4 z2 z3 y3
          obtain ⟨g, rfl⟩ : ∃ g, x6 = some ⟨g, 0, none⟩ := by
            rcases HOt.out.form with ⟨h1, h2⟩ | ⟨g, c', h1, _⟩
            · exact absurd (show R'.length = 0 by rw [h2]; rfl) (by omega)
            · simp only [Value.slice.injEq] at h1; exact ⟨g, h1.1⟩
          have hiR : R'.length - 1 < R'.length := by omega
          have t1 := Rg.o1 HOt.out hiR
          have t2 := Rg.o2 HOt.out hiR
          have v1 := HOt.out.frozen ((R'.length - 1) * 3 + 1)
          have v2 := HOt.out.frozen ((R'.length - 1) * 3 + 2)
          obtain ⟨E, hE⟩ : ∃ E, E = Rk.at_ Rg.S R' (R'.length - 1) := ⟨_, rfl⟩
          have HE := Fk.hide hE
          rw [← hE] at t1 t2
          have hEb : 0 ≤ E.2.1 ∧ E.2.1 ≤ 24000 ∧ 0 ≤ E.2.2 ∧ E.2.2 ≤ 24 := by
            rw [hE, HR1.out, HR'.out]; simp [Rk.at_, List.getD]
          clear hE
          have n2 : ((R'.length : Int) - 1).toNat = R'.length - 1 := by omega
          have n3 : (0 : Int) ≤ (R'.length : Int) - 1 := by omega
          have n4 : (R'.length : Int) - 1 < (R'.length : Int) := by omega
          have n5 : ¬ ((R'.length : Int) - 1 < 0) := by omega
          have hnl := HOt.out.len
          subst hnl
          have HG : Hid (w.heap.size ≤ g) := (HOt.out.lt g rfl).1
          have hw64 : wrap64 ((R'.length : Int) - 1) = (R'.length : Int) - 1 := by unfold wrap64; omega
          rw [hw64]
          go_wp2_with fail
          go_region
          have HF : ∀ W, W = ((w6.setCell ⟨g, (R'.length - 1) * 3 + 1, none⟩ (.int .i64 (E.2.1 + f.2.2.2.1))).drew.setCell ⟨g, (R'.length - 1) * 3 + 2, none⟩ (.int .i64 (E.2.2 + 1))) → Rk.Own Rg.S W w.heap.size 55 (.slice (some ⟨g, 0, none⟩) R'.length c6) (Ob.rungs L (k + 1)) := by
            rintro _ rfl
            have o1 := (HOt.out.put (k := R'.length - 1) hiR 1 (by decide) (.int .i64 (E.2.1 + f.2.2.2.1)) (E.1, E.2.1 + f.2.2.2.1, E.2.2) (by rw [← HE.out]; rfl)).below (Below.drew (Below.refl _ _))
            have o2 := o1.put (k := R'.length - 1) (by simpa using hiR) 2 (by decide) (.int .i64 (E.2.2 + 1)) (E.1, E.2.1 + f.2.2.2.1, E.2.2 + 1) (by rw [Rk.at_set R' (R'.length - 1) hiR]; rfl)
            have e1 : (R'.set (R'.length - 1) (E.1, E.2.1 + f.2.2.2.1, E.2.2)).set (R'.length - 1) (E.1, E.2.1 + f.2.2.2.1, E.2.2 + 1) = Ob.rungs L (k + 1) := by
              have hE1 : E = (f.2.2.1, 0, 0) := by rw [HE.out, HR1.out, HR'.out]; simp [Rk.at_, List.getD]
              rw [HST.out, List.set_set, HR1.out, HR'.out, hE1]
              have c : R.length = 0 ∨ (Ob.last R).1 ≠ (Ob.at' L k).2.2.1 := .inl HC.out
              unfold Ob.rstep
              rw [if_pos c, HPR.out, HAM.out]
              simp
            rw [e1] at o2
            exact o2
          have HF' := Fk.hide HF
          clear HF
          all_goals
            go_wp2_with fail
            refine ⟨⟨k + 1, _, _, _, by omega, rfl, by go_num, HF'.out _ rfl, ?_⟩, by simp [intOf]; omega⟩
            exact (Below.drew (HB6.out.setCell HG.out _)).setCell HG.out _
        · have hRn : R.length ≠ 0 := fun e => h0 (HRN.out.1 e)
          have dk1 : ((k : Int) == 0) = false := by simpa using h0
          have dk2 : decide ((k : Int) = 0) = false := by simpa using h0
          have dk3 : ¬ ((k : Int) = 0) := by omega
          obtain ⟨g, rfl⟩ : ∃ g, ua = some ⟨g, 0, none⟩ := by
            rcases HOX.out.form with ⟨h1, h2⟩ | ⟨g, c', h1, _⟩
            · exact absurd (show R.length = 0 by rw [h2]; rfl) hRn
            · simp only [Value.slice.injEq] at h1; exact ⟨g, h1.1⟩
          have t0 := Rg.o0 HOX.out (k := R.length - 1) (by omega)
          obtain ⟨lp, hlp⟩ : ∃ x, x = (Rk.at_ Rg.S R (R.length - 1)).1 := ⟨_, rfl⟩
          have HLP : Hid (lp = (Ob.last R).1) := hlp
          rw [← hlp] at t0
          clear hlp
          have r0 := cell_regrown t0
          have m2 : ((R.length : Int) - 1).toNat = R.length - 1 := by omega
          have m3 : (0 : Int) ≤ (R.length : Int) - 1 := by omega
          have m4 : (R.length : Int) - 1 < (R.length : Int) := by omega
          have m5 : ¬ ((R.length : Int) - 1 < 0) := by omega
          have m6 : decide ((R.length : Int) - 1 < 0) = false := decide_eq_false m5
          by_cases hne : lp = f.2.2.1
          · have e1 : decide (lp = f.2.2.1) = true := decide_eq_true hne
            have e2 : (lp == f.2.2.1) = true := by simpa using hne
            have e3 : (lp != f.2.2.1) = false := by simpa using hne
            have HEQ : Hid ((Ob.last R).1 = f.2.2.1) := by show _ = _; rw [← HLP.out]; exact hne
            clear hne
            refine wp_region_quiet_below (by kernel_rfl) (by kernel_rfl) ?_
            repeat (go_big_quiet_step (fail))
            refine wpQuiet_nil ?_
            intro w4 hw'
            obtain ⟨⟨dq, osq⟩, hw''⟩ := hw'
            have k4 : Below X.heap.size X w4 := by rw [hw'']; exact below_regrown X dq osq
            have HB4 : Hid (Below w.heap.size w w4) := HBX.out.trans (k4.mono HBX.out.size)
            have HO4 := Fk.hide (HOX.out.below k4)
            have z2 := (k4.cell (p := ⟨wr.heap.size, 2, none⟩) (by show wr.heap.size < _; omega)).trans x2
            have z3 := (k4.cell (p := ⟨wr.heap.size, 3, none⟩) (by show wr.heap.size < _; omega)).trans x3
            have hz4 : wr.heap.size < w4.heap.size := Nat.lt_of_lt_of_le hzX k4.size
            clear hw'' k4 r2 x2 x3 HOX
            clear r0 t0 z2
            have s3 := z3
            clear z3
            clear m2 m3 m4 m5 m6
            have hiR : R.length - 1 < R.length := by omega
            have t1 := Rg.o1 HO4.out hiR
            have t2 := Rg.o2 HO4.out hiR
            have v1 := HO4.out.frozen ((R.length - 1) * 3 + 1)
            have v2 := HO4.out.frozen ((R.length - 1) * 3 + 2)
            obtain ⟨E, hE⟩ : ∃ E, E = Rk.at_ Rg.S R (R.length - 1) := ⟨_, rfl⟩
            have HE := Fk.hide hE
            rw [← hE] at t1 t2
            have hEb : 0 ≤ E.2.1 ∧ E.2.1 ≤ 24000 ∧ 0 ≤ E.2.2 ∧ E.2.2 ≤ 24 := by
              rw [hE]
              have := Ob.small_last HSM.out (by omega)
              unfold Ob.last at this
              omega
            clear hE
            have n2 : ((R.length : Int) - 1).toNat = R.length - 1 := by omega
            have n3 : (0 : Int) ≤ (R.length : Int) - 1 := by omega
            have n4 : (R.length : Int) - 1 < (R.length : Int) := by omega
            have n5 : ¬ ((R.length : Int) - 1 < 0) := by omega
            have HG : Hid (w.heap.size ≤ g) := (HO4.out.lt g rfl).1
            go_wp2_with fail
            go_region
            have HF : ∀ W, W = ((w4.setCell ⟨g, (R.length - 1) * 3 + 1, none⟩ (.int .i64 (E.2.1 + f.2.2.2.1))).drew.setCell ⟨g, (R.length - 1) * 3 + 2, none⟩ (.int .i64 (E.2.2 + 1))) → Rk.Own Rg.S W w.heap.size 55 (.slice (some ⟨g, 0, none⟩) R.length uc) (Ob.rungs L (k + 1)) := by
              rintro _ rfl
              have o1 := (HO4.out.put (k := R.length - 1) hiR 1 (by decide) (.int .i64 (E.2.1 + f.2.2.2.1)) (E.1, E.2.1 + f.2.2.2.1, E.2.2) (by rw [← HE.out]; rfl)).below (Below.drew (Below.refl _ _))
              have o2 := o1.put (k := R.length - 1) (by simpa using hiR) 2 (by decide) (.int .i64 (E.2.2 + 1)) (E.1, E.2.1 + f.2.2.2.1, E.2.2 + 1) (by rw [Rk.at_set R (R.length - 1) hiR]; rfl)
              have e1 : (R.set (R.length - 1) (E.1, E.2.1 + f.2.2.2.1, E.2.2)).set (R.length - 1) (E.1, E.2.1 + f.2.2.2.1, E.2.2 + 1) = Ob.rungs L (k + 1) := by
                rw [HST.out, List.set_set]
                have c : ¬ (R.length = 0 ∨ (Ob.last R).1 ≠ (Ob.at' L k).2.2.1) := by
                  rw [HPR.out]
                  rintro (c | c)
                  · exact hRn c
                  · exact c HEQ.out
                unfold Ob.rstep
                rw [if_neg c, HAM.out]
                unfold Ob.last
                rw [← HE.out]
              rw [e1] at o2
              exact o2
            have HF' := Fk.hide HF
            clear HF
            all_goals
              go_wp2_with fail
              refine ⟨⟨k + 1, _, _, _, by omega, rfl, by go_num, HF'.out _ rfl, ?_⟩, by simp [intOf]; omega⟩
              exact (Below.drew (HB4.out.setCell HG.out _)).setCell HG.out _
          · have e1 : decide (lp = f.2.2.1) = false := decide_eq_false hne
            have e2 : (lp == f.2.2.1) = false := by simpa using hne
            have e3 : (lp != f.2.2.1) = true := by simpa using hne
            have HNE : Hid ((Ob.last R).1 ≠ f.2.2.1) := by show _ ≠ _; rw [← HLP.out]; exact hne
            refine wp_region_quiet_below (by kernel_rfl) (by kernel_rfl) ?_
            repeat (go_big_quiet_step (fail))
            refine wpQuiet_nil ?_
            intro w4 hw'
            obtain ⟨⟨dq, osq⟩, hw''⟩ := hw'
            have k4 : Below X.heap.size X w4 := by rw [hw'']; exact below_regrown X dq osq
            have HB4 : Hid (Below w.heap.size w w4) := HBX.out.trans (k4.mono HBX.out.size)
            have HO4 := Fk.hide (HOX.out.below k4)
            have z2 := (k4.cell (p := ⟨wr.heap.size, 2, none⟩) (by show wr.heap.size < _; omega)).trans x2
            have z3 := (k4.cell (p := ⟨wr.heap.size, 3, none⟩) (by show wr.heap.size < _; omega)).trans x3
            have hz4 : wr.heap.size < w4.heap.size := Nat.lt_of_lt_of_le hzX k4.size
            clear hw'' k4 r2 x2 x3 HOX
            clear r0 t0
            have b5 : Below w4.heap.size w4 (w4.alloc (.cells #[.int .i64 f.2.2.1, .int .i64 0, .int .i64 0] 55)) := (Below.refl _ _).alloc (Nat.le_refl _) _
            have HB5 : Hid (Below w.heap.size w (w4.alloc (.cells #[.int .i64 f.2.2.1, .int .i64 0, .int .i64 0] 55))) := HB4.out.trans (b5.mono HB4.out.size)
            have HO5 := Fk.hide (HO4.out.below b5)
            have HV5 := Fk.hide (Rk.view_lit1 (S := Rg.S) w4 55 #[.int .i64 f.2.2.1, .int .i64 0, .int .i64 0] (f.2.2.1, 0, 0) rfl)
            have y3 := (b5.cell (p := ⟨wr.heap.size, 3, none⟩) (by show wr.heap.size < _; omega)).trans z3
            clear b5
            go_wp2_with (at_builtin; refine Rk.wpList_append_view _ rfl _ _ 51 rfl w.heap.size 55 i0 _ 3 24 rfl Try.underlying51 hi hz0 hz1' hz2 rfl (by decide) _ (.slice (some ⟨w4.heap.size, 0, none⟩) 1 1) _ [(f.2.2.1, 0, 0)] rfl rfl HO5.out HV5.out (Rk.shut_some _ _ _) (by simp <;> omega) HB5.out.size ?_; intro u6 w6 o6 g6; have HB6 : Hid (Below w.heap.size w w6) := HB5.out.grown g6 HB5.out.size (fun j hj => (HO5.out.lt j hj).1); have s3 : w6.cell? ⟨wr.heap.size, 3, none⟩ = some (.int .i64 f.2.2.2.1) := g6.cell y3 (fun e => (by have := HOB.out _ e.symm; simp only at this; omega)); obtain ⟨x6, n6, c6, rfl⟩ := o6.slice'; have HO6 := Fk.hide o6; clear o6 g6)
            obtain ⟨R', hR'⟩ : ∃ R' : List Rg.E, R' = R ++ [(f.2.2.1, 0, 0)] := ⟨_, rfl⟩
            have HOt : Hid (Rk.Own Rg.S w6 w.heap.size 55 (.slice x6 n6 c6) R') := by show Rk.Own _ _ _ _ _ _; rw [hR']; exact HO6.out
            have HR' := Fk.hide hR'
            have hR1 : R'.length = R.length + 1 := by rw [hR']; simp
            have hRb : 1 ≤ R'.length ∧ R'.length ≤ 25 := by omega
            have HR1 := Fk.hide hR1
            clear hR1
            clear hR' HO6 HO5 HV5 HB5 HB4 HO4 z2 z3 y3
            clear m2 m3 m4 m5 m6
            obtain ⟨g, rfl⟩ : ∃ g, x6 = some ⟨g, 0, none⟩ := by
              rcases HOt.out.form with ⟨h1, h2⟩ | ⟨g, c', h1, _⟩
              · exact absurd (show R'.length = 0 by rw [h2]; rfl) (by omega)
              · simp only [Value.slice.injEq] at h1; exact ⟨g, h1.1⟩
            have hiR : R'.length - 1 < R'.length := by omega
            have t1 := Rg.o1 HOt.out hiR
            have t2 := Rg.o2 HOt.out hiR
            have v1 := HOt.out.frozen ((R'.length - 1) * 3 + 1)
            have v2 := HOt.out.frozen ((R'.length - 1) * 3 + 2)
            obtain ⟨E, hE⟩ : ∃ E, E = Rk.at_ Rg.S R' (R'.length - 1) := ⟨_, rfl⟩
            have HE := Fk.hide hE
            rw [← hE] at t1 t2
            have hEb : 0 ≤ E.2.1 ∧ E.2.1 ≤ 24000 ∧ 0 ≤ E.2.2 ∧ E.2.2 ≤ 24 := by
              rw [hE, HR1.out, HR'.out]; simp [Rk.at_, List.getD]
            clear hE
            have n2 : ((R'.length : Int) - 1).toNat = R'.length - 1 := by omega
            have n3 : (0 : Int) ≤ (R'.length : Int) - 1 := by omega
            have n4 : (R'.length : Int) - 1 < (R'.length : Int) := by omega
            have n5 : ¬ ((R'.length : Int) - 1 < 0) := by omega
            have hnl := HOt.out.len
            subst hnl
            have HG : Hid (w.heap.size ≤ g) := (HOt.out.lt g rfl).1
            have hw64 : wrap64 ((R'.length : Int) - 1) = (R'.length : Int) - 1 := by unfold wrap64; omega
            rw [hw64]
            go_wp2_with fail
            go_region
            have HF : ∀ W, W = ((w6.setCell ⟨g, (R'.length - 1) * 3 + 1, none⟩ (.int .i64 (E.2.1 + f.2.2.2.1))).drew.setCell ⟨g, (R'.length - 1) * 3 + 2, none⟩ (.int .i64 (E.2.2 + 1))) → Rk.Own Rg.S W w.heap.size 55 (.slice (some ⟨g, 0, none⟩) R'.length c6) (Ob.rungs L (k + 1)) := by
              rintro _ rfl
              have o1 := (HOt.out.put (k := R'.length - 1) hiR 1 (by decide) (.int .i64 (E.2.1 + f.2.2.2.1)) (E.1, E.2.1 + f.2.2.2.1, E.2.2) (by rw [← HE.out]; rfl)).below (Below.drew (Below.refl _ _))
              have o2 := o1.put (k := R'.length - 1) (by simpa using hiR) 2 (by decide) (.int .i64 (E.2.2 + 1)) (E.1, E.2.1 + f.2.2.2.1, E.2.2 + 1) (by rw [Rk.at_set R' (R'.length - 1) hiR]; rfl)
              have e1 : (R'.set (R'.length - 1) (E.1, E.2.1 + f.2.2.2.1, E.2.2)).set (R'.length - 1) (E.1, E.2.1 + f.2.2.2.1, E.2.2 + 1) = Ob.rungs L (k + 1) := by
                have hE1 : E = (f.2.2.1, 0, 0) := by rw [HE.out, HR1.out, HR'.out]; simp [Rk.at_, List.getD]
                rw [HST.out, List.set_set, HR1.out, HR'.out, hE1]
                have c : R.length = 0 ∨ (Ob.last R).1 ≠ (Ob.at' L k).2.2.1 := .inr (by rw [HPR.out]; exact HNE.out)
                unfold Ob.rstep
                rw [if_pos c, HPR.out, HAM.out]
                simp
              rw [e1] at o2
              exact o2
            have HF' := Fk.hide HF
            clear HF
            all_goals
              go_wp2_with fail
              refine ⟨⟨k + 1, _, _, _, by omega, rfl, by go_num, HF'.out _ rfl, ?_⟩, by simp [intOf]; omega⟩
              exact (Below.drew (HB6.out.setCell HG.out _)).setCell HG.out _
      · have e : k = L.length := by omega
        subst e
        go_wp2_with fail
        go_ret
        exact ⟨⟨_, rfl, by rw [HA.out]; exact HO.out⟩, bel⟩
end Go.Proofs.Ytfagldipjpaceaa

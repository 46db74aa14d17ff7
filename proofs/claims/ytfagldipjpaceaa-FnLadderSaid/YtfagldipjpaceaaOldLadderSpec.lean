/- The walk of the specification's ladder of a side. -/
import Derived.Test.YtfagldipjpaceaaJoined9
import Derived.Test.YtfagldipjpaceaaOldBook
namespace Go.Proofs.Ytfagldipjpaceaa
open Go.RowKit
set_option linter.unusedVariables false
set_option linter.unusedSimpArgs false
theorem infoRung : (Try.prog.info? 55).map (fun i => (i.zero, i.size, i.bytes)) = some (some (.agg #[.int .i64 0, .int .i64 0, .int .i64 0]), 3, 24) := by kernel_rfl

set_option maxRecDepth 100000 in
set_option maxHeartbeats 8000000 in
theorem l06Ladder_any (v : Value) (L : List Or.E) (w : World) (hv : Rk.View Or.S w v L) (hl : L.length ≤ 24) (hL : ∀ j, j < L.length → 0 ≤ (Ob.at' L j).2.2.2.1 ∧ (Ob.at' L j).2.2.2.1 ≤ 1000) :
    Calls Try.prog 58 #[v] w fun e w' => (∃ u, e = .returned u ∧ Rk.Own Rg.S w' w.heap.size 55 u (Ob.rungs L L.length)) ∧ Below w.heap.size w w' := by
  obtain ⟨i0, hi, hz0, hz1, hz2⟩ := info_parts infoRung
  obtain ⟨a, cap, rfl, hs⟩ := hv
  have b0 : Below w.heap.size w (w.alloc (.cells #[] 55)) := (Below.refl _ _).alloc (Nat.le_refl _) _
  have hM0 : Rk.Own Rg.S (w.alloc (.cells #[] 55)) w.heap.size 55 (.slice (some ⟨w.heap.size, 0, none⟩) 0 0) [] := Rk.own_empty w 55 w.heap.size (Nat.le_refl _)
  go_enter Try.func58, Try.ntmps58
  go_wp2_with fail
  go_loopw [3, 4] (fun out i wr => ∃ (k : Nat) (ua : Option Addr) (un uc : Nat), k ≤ L.length ∧ out = .slice ua un uc ∧ i = .int .i64 k ∧ Hid (Rk.Own Rg.S wr w.heap.size 55 (.slice ua un uc) (Ob.rungs L k)) ∧ Below w.heap.size w wr) (fun _ i _ => L.length - (intOf i).toNat)
  case atStart => exact ⟨0, _, _, _, Nat.zero_le _, rfl, rfl, (by rw [Ob.rungs_none]; exact hM0), b0⟩
  case round =>
    obtain ⟨k, ua, un, uc, hk, rfl, rfl, HO, bel⟩ := hrel
    clear hM0 b0
    by_cases hlt : k < L.length
    · obtain ⟨b, o, rfl, hb, hs1⟩ := hs (by omega)
      have hs' := hs1.below hb bel
      have q2 := Or.c2 hs' hlt
      have q3 := Or.c3 hs' hlt
      obtain ⟨R, hR⟩ : ∃ R, R = Ob.rungs L k := ⟨_, rfl⟩
      rw [← hR] at HO
      obtain rfl : un = R.length := by obtain ⟨x1, x2, hx⟩ := HO.out.slice; simp only [Value.slice.injEq] at hx; exact hx.2.1
      obtain ⟨pr, hpr⟩ : ∃ x, x = (Rk.at_ Or.S L k).2.2.1 := ⟨_, rfl⟩
      obtain ⟨am, ham⟩ : ∃ x, x = (Rk.at_ Or.S L k).2.2.2.1 := ⟨_, rfl⟩
      have hRl : R.length ≤ 24 := by rw [hR]; have := Ob.rungs_length L k hk; omega
      have hab : 0 ≤ am ∧ am ≤ 1000 := by rw [ham]; exact hL k hlt
      have HST : Hid (Ob.rungs L (k + 1) = Ob.rstep R (Ob.at' L k)) := by show _ = _; rw [hR]; exact Ob.rungs_step L k hlt
      have HSM : Hid (Ob.Small (k : Int) R) := by show Ob.Small _ _; rw [hR]; exact Ob.rungs_small L hL k hk
      have HPR := Fk.hide hpr
      have HAM := Fk.hide ham
      rw [← hpr] at q2
      rw [← ham] at q3
      clear hpr ham hR hs'
      have r2 := cell_regrown q2
      by_cases h0 : R.length = 0
      · obtain rfl : R = [] := List.length_eq_zero_iff.1 h0
        go_wp2_with fail
        refine wp_region_quiet_below (by kernel_rfl) (by kernel_rfl) ?_
        repeat (go_big_quiet_step (fail))
        refine wpQuiet_nil ?_
        intro w4 hw'
        obtain ⟨⟨dq, osq⟩, hw''⟩ := hw'
        have k4 : Below wr.heap.size wr w4 := by rw [hw'']; exact below_regrown wr dq osq
        have B4 : Below w.heap.size w w4 := bel.trans (k4.mono bel.size)
        have HO4 := Fk.hide (HO.out.below k4)
        have p2 := Or.c2 (hs1.below hb B4) hlt
        rw [← HPR.out] at p2
        clear hw'' k4
        have b5 : Below w4.heap.size w4 (w4.alloc (.cells #[.int .i64 pr, .int .i64 0, .int .i64 0] 55)) := (Below.refl _ _).alloc (Nat.le_refl _) _
        have HB5 : Hid (Below w.heap.size w (w4.alloc (.cells #[.int .i64 pr, .int .i64 0, .int .i64 0] 55))) := B4.trans (b5.mono B4.size)
        have HO5 := Fk.hide (HO4.out.below b5)
        have HV5 := Fk.hide (Rk.view_lit1 (S := Rg.S) w4 55 #[.int .i64 pr, .int .i64 0, .int .i64 0] (pr, 0, 0) rfl)
        clear b5
        go_wp2_with (at_builtin; refine Rk.wpList_append_view _ rfl _ _ 51 rfl w.heap.size 55 i0 _ 3 24 rfl Try.underlying51 hi hz0 hz1 hz2 rfl (by decide) _ (.slice (some ⟨w4.heap.size, 0, none⟩) 1 1) _ [(pr, 0, 0)] rfl rfl HO5.out HV5.out (Rk.shut_some _ _ _) (by simp <;> omega) HB5.out.size ?_; intro u6 w6 o6 g6; have HB6 : Hid (Below w.heap.size w w6) := HB5.out.grown g6 HB5.out.size (fun j hj => (HO5.out.lt j hj).1); obtain ⟨x6, n6, c6, rfl⟩ := o6.slice'; have HO6 := Fk.hide o6; clear o6 g6)
        obtain ⟨R', hR'⟩ : ∃ R' : List Rg.E, R' = [(pr, 0, 0)] := ⟨_, rfl⟩
        have HOt : Hid (Rk.Own Rg.S w6 w.heap.size 55 (.slice x6 n6 c6) R') := by show Rk.Own _ _ _ _ _ _; rw [hR']; exact HO6.out
        have HR' := Fk.hide hR'
        have hiR : 0 < R'.length := by rw [hR']; simp
        obtain ⟨g, rfl⟩ : ∃ g, x6 = some ⟨g, 0, none⟩ := by
          rcases HOt.out.form with ⟨h1, h2⟩ | ⟨g, c', h1, _⟩
          · rw [h2] at hiR; simp at hiR
          · simp only [Value.slice.injEq] at h1; exact ⟨g, h1.1⟩
        have hnl := HOt.out.len
        subst hnl
        clear hR' HO6
        have t1 := Rg.o1 HOt.out hiR
        have t2 := Rg.o2 HOt.out hiR
        have v1 := HOt.out.frozen (0 * 3 + 1)
        have v2 := HOt.out.frozen (0 * 3 + 2)
        obtain ⟨E, hE⟩ : ∃ E, E = Rk.at_ Rg.S R' 0 := ⟨_, rfl⟩
        have HE := Fk.hide hE
        rw [← hE] at t1 t2
        have hEb : 0 ≤ E.2.1 ∧ E.2.1 ≤ 24000 ∧ 0 ≤ E.2.2 ∧ E.2.2 ≤ 24 := by
          rw [hE]
          rw [HR'.out]; simp [Rk.at_]
        clear hE
        have q3t := Or.c3 (hs1.below hb HB6.out) hlt
        rw [← HAM.out] at q3t
        have hi1 : (0 : Int) < (R'.length : Int) := by omega
        clear q2 q3 r2
        go_region
        have HF : Hid (Rk.Own Rg.S ((w6.setCell ⟨g, 1, none⟩ (.int .i64 (E.2.1 + am))).setCell ⟨g, 2, none⟩ (.int .i64 (E.2.2 + 1))).drew w.heap.size 55 (.slice (some ⟨g, 0, none⟩) R'.length c6) (Ob.rungs L (k + 1))) := by
          show Rk.Own _ _ _ _ _ _
          have o1 := HOt.out.put (k := 0) hiR 1 (by decide) (.int .i64 (E.2.1 + am)) (E.1, E.2.1 + am, E.2.2) (by rw [← HE.out]; rfl)
          have o2 := o1.put (k := 0) (by simpa using hiR) 2 (by decide) (.int .i64 (E.2.2 + 1)) (E.1, E.2.1 + am, E.2.2 + 1) (by rw [Rk.at_set R' 0 hiR]; rfl)
          have o3 := o2.below (Below.drew (Below.refl _ _))
          have e1 : (R'.set 0 (E.1, E.2.1 + am, E.2.2)).set 0 (E.1, E.2.1 + am, E.2.2 + 1) = Ob.rungs L (k + 1) := by
            have hE1 : E = (pr, 0, 0) := by rw [HE.out, HR'.out]; rfl
            rw [HST.out, List.set_set, HR'.out, hE1]
            have e2 : (Ob.at' L k).2.2.1 = pr := HPR.out.symm
            have e3 : (Ob.at' L k).2.2.2.1 = am := HAM.out.symm
            simp [Ob.rstep, e2, e3]
          rw [e1] at o3
          exact o3
        have HG : Hid (w.heap.size ≤ g) := (HOt.out.lt g rfl).1
        all_goals
          go_wp2_with fail
          refine ⟨⟨k + 1, _, _, _, by omega, rfl, by go_num, HF.out, ?_⟩, by simp [intOf]; omega⟩
          exact ((HB6.out.setCell HG.out _).setCell HG.out _).trans (Below.drew (Below.refl _ _))
      · obtain ⟨g0, rfl⟩ : ∃ g, ua = some ⟨g, 0, none⟩ := by
          rcases HO.out.form with ⟨h1, h2⟩ | ⟨g, c', h1, _⟩
          · rw [h2] at h0; simp at h0
          · simp only [Value.slice.injEq] at h1; exact ⟨g, h1.1⟩
        have t0 := Rg.o0 HO.out (k := R.length - 1) (by omega)
        obtain ⟨lp, hlp⟩ : ∃ x, x = (Rk.at_ Rg.S R (R.length - 1)).1 := ⟨_, rfl⟩
        have HLP : Hid (lp = (Ob.last R).1) := hlp
        rw [← hlp] at t0
        clear hlp
        have r0 := cell_regrown t0
        have m2 : ((R.length : Int) - 1).toNat = R.length - 1 := by omega
        have m3 : (0 : Int) ≤ (R.length : Int) - 1 := by omega
        have m4 : (R.length : Int) - 1 < (R.length : Int) := by omega
        have m5 : ¬ ((R.length : Int) - 1 < 0) := by omega
        have m6 : decide ((R.length : Int) - 1 < 0) = false := decide_eq_false m5
        by_cases hne : lp = pr
        · have d1 : decide (lp = pr) = true := decide_eq_true hne
          have d2 : (lp == pr) = true := by simpa using hne
          have d3 : (lp != pr) = false := by simpa using hne
          have HEQ : Hid ((Ob.last R).1 = pr) := by show _ = _; rw [← HLP.out]; exact hne
          have hne' := Fk.hide hne
          clear hne
          go_wp2_with fail
          refine wp_region_quiet_below (by kernel_rfl) (by kernel_rfl) ?_
          repeat (go_big_quiet_step (fail))
          refine wpQuiet_nil ?_
          intro w4 hw'
          obtain ⟨⟨dq, osq⟩, hw''⟩ := hw'
          have k4 : Below wr.heap.size wr w4 := by rw [hw'']; exact below_regrown wr dq osq
          have B4 : Below w.heap.size w w4 := bel.trans (k4.mono bel.size)
          have HO4 := Fk.hide (HO.out.below k4)
          have p2 := Or.c2 (hs1.below hb B4) hlt
          rw [← HPR.out] at p2
          clear hw'' k4
          have hiR : R.length - 1 < R.length := by omega
          have t1 := Rg.o1 HO4.out hiR
          have t2 := Rg.o2 HO4.out hiR
          have v1 := HO4.out.frozen ((R.length - 1) * 3 + 1)
          have v2 := HO4.out.frozen ((R.length - 1) * 3 + 2)
          obtain ⟨E, hE⟩ : ∃ E, E = Rk.at_ Rg.S R (R.length - 1) := ⟨_, rfl⟩
          have HE := Fk.hide hE
          rw [← hE] at t1 t2
          have hEb : 0 ≤ E.2.1 ∧ E.2.1 ≤ 24000 ∧ 0 ≤ E.2.2 ∧ E.2.2 ≤ 24 := by
            rw [hE]
            have := Ob.small_last HSM.out (by omega)
            unfold Ob.last at this
            omega
          clear hE
          have q3t := Or.c3 (hs1.below hb B4) hlt
          rw [← HAM.out] at q3t
          clear q2 q3 r2 r0 t0 p2
          have HF : Hid (Rk.Own Rg.S ((w4.setCell ⟨g0, (R.length - 1) * 3 + 1, none⟩ (.int .i64 (E.2.1 + am))).setCell ⟨g0, (R.length - 1) * 3 + 2, none⟩ (.int .i64 (E.2.2 + 1))).drew w.heap.size 55 (.slice (some ⟨g0, 0, none⟩) R.length uc) (Ob.rungs L (k + 1))) := by
            show Rk.Own _ _ _ _ _ _
            have o1 := HO4.out.put (k := R.length - 1) hiR 1 (by decide) (.int .i64 (E.2.1 + am)) (E.1, E.2.1 + am, E.2.2) (by rw [← HE.out]; rfl)
            have o2 := o1.put (k := R.length - 1) (by simpa using hiR) 2 (by decide) (.int .i64 (E.2.2 + 1)) (E.1, E.2.1 + am, E.2.2 + 1) (by rw [Rk.at_set R (R.length - 1) hiR]; rfl)
            have e1 : (R.set (R.length - 1) (E.1, E.2.1 + am, E.2.2)).set (R.length - 1) (E.1, E.2.1 + am, E.2.2 + 1) = Ob.rungs L (k + 1) := by
              rw [HST.out, List.set_set]
              have e2 : (Ob.at' L k).2.2.1 = pr := HPR.out.symm
              have e3 : (Ob.at' L k).2.2.2.1 = am := HAM.out.symm
              have c : ¬ (R.length = 0 ∨ (Ob.last R).1 ≠ (Ob.at' L k).2.2.1) := by
                rw [e2]
                rintro (c | c)
                · exact h0 c
                · exact c HEQ.out
              unfold Ob.rstep
              rw [if_neg c, e3]
              unfold Ob.last
              rw [← HE.out]
            have o3 := o2.below (Below.drew (Below.refl _ _))
            rw [e1] at o3
            exact o3
          have HG : Hid (w.heap.size ≤ g0) := (HO4.out.lt g0 rfl).1
          go_wp2_with fail
          go_region
          all_goals
            go_wp2_with fail
            refine ⟨⟨k + 1, _, _, _, by omega, rfl, by go_num, HF.out, ?_⟩, by simp [intOf]; omega⟩
            exact ((B4.setCell HG.out _).setCell HG.out _).trans (Below.drew (Below.refl _ _))
        · have HNE : Hid ((Ob.last R).1 ≠ pr) := by show _ ≠ _; rw [← HLP.out]; exact hne
          have d1 : decide (lp = pr) = false := decide_eq_false hne
          have d2 : (lp == pr) = false := by simpa using hne
          have d3 : (lp != pr) = true := by simpa using hne
          go_wp2_with fail
          refine wp_region_quiet_below (by kernel_rfl) (by kernel_rfl) ?_
          repeat (go_big_quiet_step (fail))
          refine wpQuiet_nil ?_
          intro w4 hw'
          obtain ⟨⟨dq, osq⟩, hw''⟩ := hw'
          have k4 : Below wr.heap.size wr w4 := by rw [hw'']; exact below_regrown wr dq osq
          have B4 : Below w.heap.size w w4 := bel.trans (k4.mono bel.size)
          have HO4 := Fk.hide (HO.out.below k4)
          have p2 := Or.c2 (hs1.below hb B4) hlt
          rw [← HPR.out] at p2
          clear hw'' k4
          have b5 : Below w4.heap.size w4 (w4.alloc (.cells #[.int .i64 pr, .int .i64 0, .int .i64 0] 55)) := (Below.refl _ _).alloc (Nat.le_refl _) _
          have HB5 : Hid (Below w.heap.size w (w4.alloc (.cells #[.int .i64 pr, .int .i64 0, .int .i64 0] 55))) := B4.trans (b5.mono B4.size)
          have HO5 := Fk.hide (HO4.out.below b5)
          have HV5 := Fk.hide (Rk.view_lit1 (S := Rg.S) w4 55 #[.int .i64 pr, .int .i64 0, .int .i64 0] (pr, 0, 0) rfl)
          clear b5
          go_wp2_with (at_builtin; refine Rk.wpList_append_view _ rfl _ _ 51 rfl w.heap.size 55 i0 _ 3 24 rfl Try.underlying51 hi hz0 hz1 hz2 rfl (by decide) _ (.slice (some ⟨w4.heap.size, 0, none⟩) 1 1) _ [(pr, 0, 0)] rfl rfl HO5.out HV5.out (Rk.shut_some _ _ _) (by simp <;> omega) HB5.out.size ?_; intro u6 w6 o6 g6; have HB6 : Hid (Below w.heap.size w w6) := HB5.out.grown g6 HB5.out.size (fun j hj => (HO5.out.lt j hj).1); obtain ⟨x6, n6, c6, rfl⟩ := o6.slice'; have HO6 := Fk.hide o6; clear o6 g6)
          obtain ⟨R', hR'⟩ : ∃ R' : List Rg.E, R' = R ++ [(pr, 0, 0)] := ⟨_, rfl⟩
          have HOt : Hid (Rk.Own Rg.S w6 w.heap.size 55 (.slice x6 n6 c6) R') := by show Rk.Own _ _ _ _ _ _; rw [hR']; exact HO6.out
          have HR' := Fk.hide hR'
          have hiR : R.length < R'.length := by rw [hR']; simp
          obtain ⟨g, rfl⟩ : ∃ g, x6 = some ⟨g, 0, none⟩ := by
            rcases HOt.out.form with ⟨h1, h2⟩ | ⟨g, c', h1, _⟩
            · rw [h2] at hiR; simp at hiR
            · simp only [Value.slice.injEq] at h1; exact ⟨g, h1.1⟩
          have hnl := HOt.out.len
          subst hnl
          clear hR' HO6
          have t1 := Rg.o1 HOt.out hiR
          have t2 := Rg.o2 HOt.out hiR
          have v1 := HOt.out.frozen (R.length * 3 + 1)
          have v2 := HOt.out.frozen (R.length * 3 + 2)
          obtain ⟨E, hE⟩ : ∃ E, E = Rk.at_ Rg.S R' R.length := ⟨_, rfl⟩
          have HE := Fk.hide hE
          rw [← hE] at t1 t2
          have hEb : 0 ≤ E.2.1 ∧ E.2.1 ≤ 24000 ∧ 0 ≤ E.2.2 ∧ E.2.2 ≤ 24 := by
            rw [hE]
            rw [HR'.out]; simp [Rk.at_, List.getD]
          clear hE
          have q3t := Or.c3 (hs1.below hb HB6.out) hlt
          rw [← HAM.out] at q3t
          have hi1 : (R.length : Int) < (R'.length : Int) := by omega
          clear q2 q3 r2
          go_region
          have HF : Hid (Rk.Own Rg.S ((w6.setCell ⟨g, R.length * 3 + 1, none⟩ (.int .i64 (E.2.1 + am))).setCell ⟨g, R.length * 3 + 2, none⟩ (.int .i64 (E.2.2 + 1))).drew w.heap.size 55 (.slice (some ⟨g, 0, none⟩) R'.length c6) (Ob.rungs L (k + 1))) := by
            show Rk.Own _ _ _ _ _ _
            have o1 := HOt.out.put (k := R.length) hiR 1 (by decide) (.int .i64 (E.2.1 + am)) (E.1, E.2.1 + am, E.2.2) (by rw [← HE.out]; rfl)
            have o2 := o1.put (k := R.length) (by simpa using hiR) 2 (by decide) (.int .i64 (E.2.2 + 1)) (E.1, E.2.1 + am, E.2.2 + 1) (by rw [Rk.at_set R' R.length hiR]; rfl)
            have o3 := o2.below (Below.drew (Below.refl _ _))
            have e1 : (R'.set R.length (E.1, E.2.1 + am, E.2.2)).set R.length (E.1, E.2.1 + am, E.2.2 + 1) = Ob.rungs L (k + 1) := by
              have hE1 : E = (pr, 0, 0) := by rw [HE.out, HR'.out]; simp [Rk.at_, List.getD]
              rw [HST.out, List.set_set, HR'.out, hE1]
              have e2 : (Ob.at' L k).2.2.1 = pr := HPR.out.symm
              have e3 : (Ob.at' L k).2.2.2.1 = am := HAM.out.symm
              have c : R.length = 0 ∨ (Ob.last R).1 ≠ (Ob.at' L k).2.2.1 := .inr (by rw [e2]; exact HNE.out)
              unfold Ob.rstep
              rw [if_pos c, e2, e3]
              simp
            rw [e1] at o3
            exact o3
          have HG : Hid (w.heap.size ≤ g) := (HOt.out.lt g rfl).1
          all_goals
            go_wp2_with fail
            refine ⟨⟨k + 1, _, _, _, by omega, rfl, by go_num, HF.out, ?_⟩, by simp [intOf]; omega⟩
            exact ((HB6.out.setCell HG.out _).setCell HG.out _).trans (Below.drew (Below.refl _ _))
    · have e : k = L.length := by omega
      subst e
      go_wp2_with fail
      go_ret
      exact ⟨⟨_, rfl, HO.out⟩, bel⟩
end Go.Proofs.Ytfagldipjpaceaa

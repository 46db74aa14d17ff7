/- The walk of the specification's question whether two sides make a book. -/
import Derived.Test.YtnhpcknbnmhlhaaOldRightSpec
namespace Go.Proofs.Ytnhpcknbnmhlhaa
open Go.RowKit
set_option linter.unusedVariables false
set_option linter.unusedSimpArgs false

theorem infoOrdS : (Try.prog.info? 87).map (fun i => (i.zero, i.size, i.bytes)) = some (some (.agg #[.int .i64 0, .int .i64 0, .int .i64 0, .int .i64 0, .bool false, .int .i64 0, .int .i64 0, .bool false]), 8, 64) := by kernel_rfl
set_option maxRecDepth 100000 in
set_option maxHeartbeats 8000000 in
theorem l06Both_any (u v : Value) (n : Int) (B A : List Or.E) (w : World) (hu : Rk.View Or.S w u B) (hv : Rk.View Or.S w v A) (su : Rk.Shut u) (sv : Rk.Shut v) (l0 : B.length ≤ 1048576) (l1 : A.length ≤ 1048576) :
    Calls Try.prog 41 #[u, v, .int .i64 n] w fun e w' => e = .returned (.bool (Ob.both B A n)) ∧ Below w.heap.size w w' := by
  obtain ⟨i0, hi, hz0, hz1, hz2⟩ := info_parts infoOrdS
  have HU := Fk.hide hu
  have HV := Fk.hide hv
  obtain ⟨a0, cap0, rfl, hs0⟩ := hu
  obtain ⟨a1, cap1, rfl, hs1⟩ := hv
  by_cases hf : Ob.frame B A n
  · have HFR := Fk.hide hf
    have n1 : 1 ≤ n := hf.1
    have n2 : n ≤ 1000000 := hf.2.1
    have n3 : (B.length : Int) + A.length ≤ 24 := hf.2.2
    have hin : Cm.inn n 1 1000000 = true := by simp [Cm.inn, n1, n2]
    clear hf
    go_enter Try.func41, Try.ntmps41
    go_wp2_with (first | (go_at_call 52; refine (l02Is_inn _ _ _ _).mono ?_; rintro e _ ⟨rfl, hh⟩; rw [hin, hh]; clear hh))
    refine (l06Side_any _ _ true B _ HU.out l0 n1 n2).mono ?_
    rintro e w1 ⟨rfl, B1⟩
    obtain ⟨r1, hr1⟩ : ∃ r, r = Ob.sideN n true B := ⟨_, rfl⟩
    rw [← hr1]
    have H1 := Fk.hide hr1
    clear hr1
    cases r1 with
    | false =>
      have HA : Hid (Ob.both B A n = false) := by show _ = _; simp only [Ob.both]; rw [← H1.out]; simp
      go_wp2_with fail
      go_ret
      exact ⟨by rw [HA.out]; rfl, B1⟩
    | true =>
    go_wp2_with fail
    refine (l06Side_any _ _ false A _ (HV.out.below B1) l1 n1 n2).mono ?_
    rintro e w2 ⟨rfl, k2⟩
    obtain ⟨r2, hr2⟩ : ∃ r, r = Ob.sideN n false A := ⟨_, rfl⟩
    rw [← hr2]
    have H2 := Fk.hide hr2
    have B2 : Below w.heap.size w w2 := B1.trans (k2.mono B1.size)
    clear k2 hr2
    cases r2 with
    | false =>
      have HA : Hid (Ob.both B A n = false) := by show _ = _; simp only [Ob.both]; rw [← H1.out, ← H2.out]; simp
      go_wp2_with fail
      go_ret
      exact ⟨by rw [HA.out]; rfl, B2⟩
    | true =>
    have hM0 : Rk.Own Or.S (w2.alloc (.cells #[] 87)) w2.heap.size 87 (.slice (some ⟨w2.heap.size, 0, none⟩) 0 0) [] := Rk.own_empty w2 87 w2.heap.size (Nat.le_refl _)
    have HB3 : Hid (Below w.heap.size w (w2.alloc (.cells #[] 87))) := B2.alloc B2.size _
    have hb3 : Hid (w2.heap.size ≤ (w2.alloc (.cells #[] 87)).heap.size) := by show _ ≤ _; simp
    have HM0 := Fk.hide hM0
    clear hM0
    go_wp2_with (first
      | (at_builtin; refine Rk.wpList_append_view _ rfl (.tmp 33) (.tmp 34) 32 rfl w2.heap.size 87 i0 _ 8 64 rfl Try.underlying32 hi hz0 hz1 hz2 rfl (by decide) (.slice (some ⟨w2.heap.size, 0, none⟩) 0 0) (.slice a0 B.length cap0) [] B rfl rfl HM0.out (HU.out.below HB3.out) su (by simp; omega) hb3.out ?_; intro u4 w4 o4 g4; rw [List.nil_append] at o4; obtain ⟨a4, n4, c4, rfl⟩ := o4.slice'; have HO4 := Fk.hide o4; have HB4 : Hid (Below w.heap.size w w4) := HB3.out.grown g4 HB3.out.size (fun j hj => by have := (HM0.out.lt j hj).1; have := B2.size; omega); have hb4 : Hid (w2.heap.size ≤ w4.heap.size) := Nat.le_trans hb3.out g4.size; clear o4 g4)
      | (at_builtin; refine Rk.wpList_append_view _ rfl (.tmp 35) (.tmp 36) 32 rfl w2.heap.size 87 i0 _ 8 64 rfl Try.underlying32 hi hz0 hz1 hz2 rfl (by decide) (.slice a4 n4 c4) (.slice a1 A.length cap1) B A rfl rfl HO4.out (HV.out.below HB4.out) sv (by omega) hb4.out ?_; intro u5 w5 o5 g5; obtain ⟨a5, n5, c5, rfl⟩ := o5.slice'; have HO5 := Fk.hide o5; have HB5 : Hid (Below w.heap.size w w5) := HB4.out.grown g5 HB4.out.size (fun j hj => by have := (HO4.out.lt j hj).1; have := B2.size; omega); clear o5 g5))
    obtain ⟨M, hM⟩ : ∃ M, M = B ++ A := ⟨_, rfl⟩
    rw [← hM] at HO5
    have hlM : M.length ≤ 24 := by rw [hM]; simp; omega
    obtain rfl : n5 = M.length := by obtain ⟨x1, x2, hx⟩ := HO5.out.slice; simp only [Value.slice.injEq] at hx; exact hx.2.1
    have HM := Fk.hide hM
    clear hM
    have hgM : Hid (0 < M.length → ∃ g o, a5 = some ⟨g, o, none⟩ ∧ g < w5.heap.size ∧ Rk.Sees Or.S w5 g o M) := fun h => by
      obtain ⟨a', c', e, hh⟩ := HO5.out.view
      simp only [Value.slice.injEq] at e
      obtain ⟨e1, _⟩ := e
      rw [← e1] at hh
      exact hh h
    go_loopw [8] (fun i wr => ∃ k : Nat, k ≤ M.length ∧ i = .int .i64 k ∧ Hid (∀ j, j < k → Ob.fresh M j = true) ∧ Below w5.heap.size w5 wr) (fun i _ => M.length - (intOf i).toNat)
    case atStart => exact ⟨0, Nat.zero_le _, rfl, fun j hj => absurd hj (by omega), Below.refl _ _⟩
    case round =>
      obtain ⟨k, hk, rfl, HK, bel⟩ := hrel
      obtain ⟨wo, hwo⟩ : ∃ x, x = wr := ⟨_, rfl⟩
      subst hwo
      have HBL := Fk.hide (HB5.out.trans (bel.mono HB5.out.size))
      by_cases hlt : k < M.length
      · obtain ⟨g, og, rfl, hb, hsM⟩ := hgM.out (by omega)
        go_wp2_with fail
        go_loopw [9] (fun i wr => ∃ j : Nat, j ≤ k ∧ i = .int .i64 j ∧ Hid (∀ t, t < j → (Ob.at' M t).1 ≠ (Ob.at' M k).1) ∧ Below w5.heap.size w5 wr) (fun i _ => k - (intOf i).toNat)
        case atStart => exact ⟨0, Nat.zero_le _, rfl, fun j hj => absurd hj (by omega), bel⟩
        case round =>
          obtain ⟨j, hj, rfl, HJ, beli⟩ := hrel
          have HBI : Hid (Below w.heap.size w wr) := HB5.out.trans (beli.mono HB5.out.size)
          by_cases hjt : j < k
          · have hs' := hsM.below hb beli
            have q0 := Or.c0 hs' hlt
            have p0 := Or.c0 hs' (k := j) (by omega)
            obtain ⟨f, hf⟩ : ∃ f, f = (Rk.at_ Or.S M k).1 := ⟨_, rfl⟩
            obtain ⟨h, hh⟩ : ∃ f, f = (Rk.at_ Or.S M j).1 := ⟨_, rfl⟩
            have HF := Fk.hide hf
            have HH := Fk.hide hh
            rw [← hf] at q0
            rw [← hh] at p0
            clear hf hh hs'
            have j4 : (j : Int) < (M.length : Int) := by omega
            have BD : Below w5.heap.size w5 wr.drew := beli.trans ((Below.drew (Below.refl wr.heap.size wr)).mono beli.size)
            have HBD : Hid (Below w.heap.size w wr.drew) := HB5.out.trans (BD.mono HB5.out.size)
            by_cases heq : h = f
            · have HA : Hid (Ob.both B A n = false) := by
                show _ = _
                have e1 : Ob.ids (B ++ A) = false := by
                  rw [← HM.out]
                  refine Ob.upTo_no hlt (Ob.upTo_no hjt ?_)
                  unfold Ob.at'
                  rw [← HF.out, ← HH.out]; simp [heq]
                simp only [Ob.both]; rw [e1]; simp
              go_wp2_with fail
              go_region
              all_goals
                go_wp2_with fail
                go_ret
                exact ⟨by rw [HA.out]; rfl, HBD.out⟩
            · go_wp2_with fail
              go_region
              all_goals
                go_wp2_with fail
                go_roundw
                case rel =>
                  refine ⟨j + 1, by omega, by go_num, (fun t ht => ?_), BD⟩
                  by_cases e : t = j
                  · rw [e]; intro h'; exact heq (by rw [HH.out, HF.out]; exact h')
                  · exact HJ.out t (by omega)
                case measure => simp [intOf]; omega
          · have e : j = k := by omega
            subst e
            have HS : Hid (Ob.fresh M j = true) := Ob.upTo_yes (fun t ht => by have := HJ.out t ht; simpa using this)
            go_wp2_with fail
            go_roundw
            case rel =>
              refine ⟨j + 1, by omega, by go_num, (fun t ht => ?_), beli⟩
              by_cases e : t = j
              · rw [e]; exact HS.out
              · exact HK.out t (by omega)
            case measure => simp [intOf]; omega
      · have e : k = M.length := by omega
        have HI : Hid (Ob.ids (B ++ A) = true) := by
          show _ = _
          rw [← HM.out]
          exact Ob.upTo_yes (fun i hi => HK.out i (by omega))
        have HA : Hid (Ob.both B A n = Ob.apart B A) := by
          show _ = _
          simp only [Ob.both]
          rw [← H1.out, ← H2.out, HI.out, decide_eq_true HFR.out]; simp
        have B3 := HBL.out
        have HB3 : Hid (Below w.heap.size w wo.drew) := B3.trans ((Below.drew (Below.refl wo.heap.size wo)).mono B3.size)
        by_cases z0 : B.length = 0
        · have HE : Hid (Ob.apart B A = true) := by show _ = _; simp [Ob.apart, z0]
          go_wp2_with fail
          go_region
          all_goals
            go_wp2_with fail
            go_ret
            exact ⟨by rw [HA.out, HE.out]; rfl, HB3.out⟩
        by_cases z1 : A.length = 0
        · have HE : Hid (Ob.apart B A = true) := by show _ = _; simp [Ob.apart, z1]
          obtain ⟨nb, hnb⟩ : ∃ x, x = B.length := ⟨_, rfl⟩
          rw [← hnb] at z0
          rw [← hnb, z1]
          have z6 : ¬ (nb : Int) = 0 := by omega
          have z8 : decide (nb = 0) = false := decide_eq_false z0
          have y6 : ((nb : Int) == 0) = false := by simpa using z0
          have y8 : (nb == 0) = false := by simpa using z0
          clear hnb z1 HU HV su sv hlM HK HM n3 B3 hk hlt hgM hs0 hs1
          go_wp2_with fail
          refine wp_region_quiet_below (by kernel_rfl) (by kernel_rfl) ?_
          repeat (go_big_quiet_step (fail))
          refine wpQuiet_nil ?_
          intro w4 hw'
          obtain ⟨⟨dq, osq⟩, hw''⟩ := hw'
          have HB4 : Hid (Below w.heap.size w w4) := by
            show Below _ _ _
            rw [hw'']; exact HBL.out.trans ((below_regrown wo dq osq).mono HBL.out.size)
          clear hw''
          go_wp2_with fail
          go_ret
          exact ⟨by rw [HA.out, HE.out]; rfl, HB4.out⟩
        have HE : Hid (Ob.apart B A = decide ((Rk.at_ Or.S B 0).2.2.1 < (Rk.at_ Or.S A 0).2.2.1)) := by show _ = _; simp [Ob.apart, z0, z1]
        obtain ⟨b, o, rfl, hb, hs0'⟩ := hs0 (Nat.pos_of_ne_zero z0)
        obtain ⟨b', o', rfl, hb', hs1'⟩ := hs1 (Nat.pos_of_ne_zero z1)
        have p0 := Or.c2 (hs0'.below hb B3) (k := 0) (Nat.pos_of_ne_zero z0)
        have p1 := Or.c2 (hs1'.below hb' B3) (k := 0) (Nat.pos_of_ne_zero z1)
        simp only [Nat.zero_mul, Nat.add_zero] at p0 p1
        obtain ⟨x0, hx0⟩ : ∃ x, x = (Rk.at_ Or.S B 0).2.2.1 := ⟨_, rfl⟩
        obtain ⟨x1, hx1⟩ : ∃ x, x = (Rk.at_ Or.S A 0).2.2.1 := ⟨_, rfl⟩
        rw [← hx0] at p0
        rw [← hx1] at p1
        rw [← hx0, ← hx1] at HE
        clear hx0 hx1 hs0 hs1
        obtain ⟨nb, hnb⟩ : ∃ x, x = B.length := ⟨_, rfl⟩
        obtain ⟨na, hna⟩ : ∃ x, x = A.length := ⟨_, rfl⟩
        rw [← hnb] at z0
        rw [← hna] at z1
        rw [← hnb, ← hna]
        have z2 : 0 < nb := Nat.pos_of_ne_zero z0
        have z3 : 0 < na := Nat.pos_of_ne_zero z1
        have z4 : (0 : Int) < (nb : Int) := by omega
        have z5 : (0 : Int) < (na : Int) := by omega
        have z6 : ¬ (nb : Int) = 0 := by omega
        have z7 : ¬ (na : Int) = 0 := by omega
        have z8 : decide (nb = 0) = false := decide_eq_false z0
        have z9 : decide (na = 0) = false := decide_eq_false z1
        have y6 : ((nb : Int) == 0) = false := by simpa using z0
        have y8 : (nb == 0) = false := by simpa using z0
        have y7 : ((na : Int) == 0) = false := by simpa using z1
        have y9 : (na == 0) = false := by simpa using z1
        clear hnb hna HU HV su sv hlM HK HM n3 B3 hk hlt hgM
        have r0 := cell_regrown p0
        have r1 := cell_regrown p1
        go_wp2_with fail
        refine wp_region_quiet_below (by kernel_rfl) (by kernel_rfl) ?_
        repeat (go_big_quiet_step (fail))
        refine wpQuiet_nil ?_
        intro w4 hw'
        obtain ⟨⟨dq, osq⟩, hw''⟩ := hw'
        have HB4 : Hid (Below w.heap.size w w4) := by
          show Below _ _ _
          rw [hw'']; exact HBL.out.trans ((below_regrown wo dq osq).mono HBL.out.size)
        clear hw''
        go_wp2_with fail
        go_ret
        exact ⟨by rw [HA.out, HE.out]; rfl, HB4.out⟩
  · have HA : Hid (Ob.both B A n = false) := Ob.both_long hf
    cases hin : Cm.inn n 1 1000000 with
    | false =>
      go_enter Try.func41, Try.ntmps41
      go_wp2_with (first | (go_at_call 52; refine (l02Is_inn _ _ _ _).mono ?_; rintro e _ ⟨rfl, hh⟩; rw [hin, hh]; clear hh))
      go_ret
      exact ⟨by rw [HA.out]; rfl, Below.refl _ _⟩
    | true =>
      have hlen : (24 : Int) < (B.length : Int) + A.length := by
        have h := hin
        simp [Cm.inn] at h
        unfold Ob.frame at hf
        omega
      go_enter Try.func41, Try.ntmps41
      go_wp2_with (first | (go_at_call 52; refine (l02Is_inn _ _ _ _).mono ?_; rintro e _ ⟨rfl, hh⟩; rw [hin, hh]; clear hh))
      go_ret
      exact ⟨by rw [HA.out]; rfl, Below.refl _ _⟩
end Go.Proofs.Ytnhpcknbnmhlhaa

/- The walks of the specification's question whether an older book is right. The walk of the specification's question whether two sides make a book. The walk of the specification's question whether an older book is right. -/
import Derived.Test.YtjagohadeegghaaProg
import Derived.Test.YtjagohadeegghaaOldMath
import Derived.Test.YtjagohadeegghaaCmdRightSpec
import Derived.Test.YtjagohadeegghaaRowsMore
import Derived.Deep.RegionHeld3
namespace Go.Proofs.Ytjagohadeegghaa
open Go.RowKit
set_option linter.unusedVariables false
set_option linter.unusedSimpArgs false

set_option maxHeartbeats 2000000 in
theorem l06Order_any (o : Or.E) (n : Int) (w : World) (h0 : 1 ≤ n) (h1 : n ≤ 1000000) :
    Calls Try.prog 186 #[.agg #[.int .i64 o.1, .int .i64 o.2.1, .int .i64 o.2.2.1, .int .i64 o.2.2.2.1, .bool o.2.2.2.2.1, .int .i64 o.2.2.2.2.2.1, .int .i64 o.2.2.2.2.2.2.1, .bool o.2.2.2.2.2.2.2], .int .i64 n] w fun e w' => e = .returned (.bool (Ob.okN n o)) ∧ Below w.heap.size w w' := by
  have HB : Hid (∀ o, Below w.heap.size w (w.alloc o)) := fun o => (Below.refl w.heap.size w).alloc (Nat.le_refl _) o
  go_enter Try.func186, Try.ntmps186
  go_wp2_with (first
    | (go_at_call 93; refine (l02Is_inn _ _ _ _).mono ?_; rintro e w' ⟨rfl, rfl⟩)
    | (go_at_call 136; refine (l04Owner_any _ _).mono ?_; rintro e w' ⟨rfl, rfl⟩)
    | (go_at_call 137; refine (l04Price_any _ _).mono ?_; rintro e w' ⟨rfl, rfl⟩)
    | (go_at_call 138; refine (l04Amount_any _ _).mono ?_; rintro e w' ⟨rfl, rfl⟩))
  all_goals
    go_ret
    refine ⟨?_, HB.out _⟩
    simp_all [Ob.okN, Cm.inn] <;> omega

set_option maxHeartbeats 8000000 in
theorem l06Side_any (v : Value) (n : Int) (buy : Bool) (L : List Or.E) (w : World) (hv : Rk.View Or.S w v L) (hl : L.length ≤ 1048576) (h0 : 1 ≤ n) (h1 : n ≤ 1000000) :
    Calls Try.prog 156 #[v, .int .i64 n, .bool buy] w fun e w' => e = .returned (.bool (Ob.sideN n buy L)) ∧ Below w.heap.size w w' := by
  obtain ⟨a, cap, rfl, hs⟩ := hv
  go_enter Try.func156, Try.ntmps156
  go_wp2_with fail
  go_loopw [7] (fun i wr => ∃ k : Nat, k ≤ L.length ∧ i = .int .i64 k ∧ Hid (∀ j, j < k → Ob.stepN n buy L j = true) ∧ Below w.heap.size w wr) (fun i _ => L.length - (intOf i).toNat)
  case atStart => exact ⟨0, Nat.zero_le _, rfl, fun j hj => absurd hj (by omega), Below.refl _ _⟩
  case round =>
    obtain ⟨k, hk, rfl, HK, bel⟩ := hrel
    by_cases hlt : k < L.length
    · obtain ⟨b, o, rfl, hb, hs1⟩ := hs (by omega)
      have hs' := hs1.below hb bel
      have q0 := Or.c0 hs' hlt
      have q1 := Or.c1 hs' hlt
      have q2 := Or.c2 hs' hlt
      have q3 := Or.c3 hs' hlt
      have q4 := Or.c4 hs' hlt
      have q5 := Or.c5 hs' hlt
      have q6 := Or.c6 hs' hlt
      have q7 := Or.c7 hs' hlt
      obtain ⟨f, hf⟩ : ∃ f, f = Rk.at_ Or.S L k := ⟨_, rfl⟩
      have HF := Fk.hide hf
      rw [← hf] at q0 q1 q2 q3 q4 q5 q6 q7
      clear hf
      have fb : ∀ w', Calls Try.prog 186 #[.agg #[.int .i64 f.1, .int .i64 f.2.1, .int .i64 f.2.2.1, .int .i64 f.2.2.2.1, .bool f.2.2.2.2.1, .int .i64 f.2.2.2.2.2.1, .int .i64 f.2.2.2.2.2.2.1, .bool f.2.2.2.2.2.2.2], .int .i64 n] w' fun e w'' => e = .returned (.bool (Ob.okN n f)) ∧ Below w'.heap.size w' w'' := fun w' => l06Order_any f n w' h0 h1
      obtain ⟨r, hr⟩ : ∃ r, r = Ob.okN n f := ⟨_, rfl⟩
      rw [← hr] at fb
      have HR : Hid (r = Ob.okN n (Ob.at' L k)) := by show _ = _; rw [hr, HF.out]
      clear hr
      have rq0 := cell_regrown q0
      have rq1 := cell_regrown q1
      have rq2 := cell_regrown q2
      have rq3 := cell_regrown q3
      have rq4 := cell_regrown q4
      have rq5 := cell_regrown q5
      have rq6 := cell_regrown q6
      have rq7 := cell_regrown q7
      cases r with
      | false =>
        have HA : Hid (Ob.sideN n buy L = false) := Ob.upTo_no hlt (by simp only [Ob.stepN]; rw [← HR.out]; rfl)
        clear hs'
        go_wp2_with fail
        refine wp_region_quiet_below (by kernel_rfl) (by kernel_rfl) ?_
        repeat (go_big_quiet_step (exact Calls.regrown_of (fb _)))
        refine wpQuiet_nil ?_
        intro w4 hw'
        obtain ⟨⟨dq, osq⟩, hw''⟩ := hw'
        have B4 : Below w.heap.size w w4 := by rw [hw'']; exact bel.trans ((below_regrown wr dq osq).mono bel.size)
        clear hw'' fb 
        go_wp2_with fail
        go_ret
        exact ⟨by rw [HA.out]; rfl, B4⟩
      | true =>
      by_cases hk0 : k = 0
      · have HS : Hid (Ob.stepN n buy L k = true) := by
          show _ = _
          have e0 : (k == 0) = true := by simpa using hk0
          simp only [Ob.stepN, Ob.turn, e0]; rw [← HR.out]; rfl
        have g0 : decide ((0 : Int) < (k : Int)) = false := decide_eq_false (by omega)
        have g1 : decide (0 < k) = false := decide_eq_false (by omega)
        clear hs' hk0
        have dg0 : decide ((0 : Int) < (k : Int)) = false := g0
        have dg1 : decide (0 < k) = false := g1
        go_wp2_with fail
        refine wp_region_quiet_below (by kernel_rfl) (by kernel_rfl) ?_
        repeat (go_big_quiet_step (exact Calls.regrown_of (fb _)))
        refine wpQuiet_nil ?_
        intro w4 hw'
        obtain ⟨⟨dq, osq⟩, hw''⟩ := hw'
        have B4 : Below w.heap.size w w4 := by rw [hw'']; exact bel.trans ((below_regrown wr dq osq).mono bel.size)
        clear hw'' fb dg0 dg1
        go_wp2_with fail
        go_roundw
        case rel =>
          refine ⟨k + 1, by omega, by go_num, (fun j hj => ?_), B4⟩
          by_cases e : j = k
          · rw [e]; exact HS.out
          · exact HK.out j (by omega)
        case measure => simp [intOf]; omega
      · have kp : (0 : Int) < (k : Int) := by omega
        have k2' : ((k : Int) - 1).toNat = k - 1 := by omega
        have k3 : (0 : Int) ≤ (k : Int) - 1 := by omega
        have k4 : (k : Int) - 1 < (L.length : Int) := by omega
        have p2 := Or.c2 hs' (k := k - 1) (by omega)
        obtain ⟨g, hg⟩ : ∃ f, f = (Rk.at_ Or.S L (k - 1)).2.2.1 := ⟨_, rfl⟩
        have HG := Fk.hide hg
        rw [← hg] at p2
        clear hg hs'
        have rp2 := cell_regrown p2
        have HT : Hid (Ob.turn buy L k = Ob.behind buy g f.2.2.1) := by
          show _ = _
          have e0 : (k == 0) = false := by simpa using hk0
          rw [HF.out, HG.out]
          simp only [Ob.turn, e0, Bool.false_or]
        cases buy with
        | true =>
          by_cases hc : g < f.2.2.1
          · have HA : Hid (Ob.sideN n true L = false) := Ob.upTo_no hlt (by simp only [Ob.stepN]; rw [HT.out]; simp [Ob.behind, hc])
            have dg0 : decide ((0 : Int) < (k : Int)) = true := decide_eq_true kp
            have dg1 : decide (0 < k) = true := decide_eq_true (by omega)
            have dg2 : decide (g < f.2.2.1) = true := decide_eq_true hc
            go_wp2_with fail
            refine wp_region_quiet_below (by kernel_rfl) (by kernel_rfl) ?_
            repeat (go_big_quiet_step (exact Calls.regrown_of (fb _)))
            refine wpQuiet_nil ?_
            intro w4 hw'
            obtain ⟨⟨dq, osq⟩, hw''⟩ := hw'
            have B4 : Below w.heap.size w w4 := by rw [hw'']; exact bel.trans ((below_regrown wr dq osq).mono bel.size)
            clear hw'' fb dg0 dg1 dg2
            go_wp2_with fail
            go_ret
            exact ⟨by rw [HA.out]; rfl, B4⟩
          · have HS : Hid (Ob.stepN n true L k = true) := by
              show _ = _
              simp only [Ob.stepN]; rw [HT.out, ← HR.out]; simp [Ob.behind]; omega
            have dg0 : decide ((0 : Int) < (k : Int)) = true := decide_eq_true kp
            have dg1 : decide (0 < k) = true := decide_eq_true (by omega)
            have dg2 : decide (g < f.2.2.1) = false := decide_eq_false hc
            go_wp2_with fail
            refine wp_region_quiet_below (by kernel_rfl) (by kernel_rfl) ?_
            repeat (go_big_quiet_step (exact Calls.regrown_of (fb _)))
            refine wpQuiet_nil ?_
            intro w4 hw'
            obtain ⟨⟨dq, osq⟩, hw''⟩ := hw'
            have B4 : Below w.heap.size w w4 := by rw [hw'']; exact bel.trans ((below_regrown wr dq osq).mono bel.size)
            clear hw'' fb dg0 dg1 dg2
            go_wp2_with fail
            go_roundw
            case rel =>
              refine ⟨k + 1, by omega, by go_num, (fun j hj => ?_), B4⟩
              by_cases e : j = k
              · rw [e]; exact HS.out
              · exact HK.out j (by omega)
            case measure => simp [intOf]; omega
        | false =>
          by_cases hc : f.2.2.1 < g
          · have HA : Hid (Ob.sideN n false L = false) := Ob.upTo_no hlt (by simp only [Ob.stepN]; rw [HT.out]; simp [Ob.behind, hc])
            have dg0 : decide ((0 : Int) < (k : Int)) = true := decide_eq_true kp
            have dg1 : decide (0 < k) = true := decide_eq_true (by omega)
            have dg2 : decide (f.2.2.1 < g) = true := decide_eq_true hc
            go_wp2_with fail
            refine wp_region_quiet_below (by kernel_rfl) (by kernel_rfl) ?_
            repeat (go_big_quiet_step (exact Calls.regrown_of (fb _)))
            refine wpQuiet_nil ?_
            intro w4 hw'
            obtain ⟨⟨dq, osq⟩, hw''⟩ := hw'
            have B4 : Below w.heap.size w w4 := by rw [hw'']; exact bel.trans ((below_regrown wr dq osq).mono bel.size)
            clear hw'' fb dg0 dg1 dg2
            go_wp2_with fail
            go_ret
            exact ⟨by rw [HA.out]; rfl, B4⟩
          · have HS : Hid (Ob.stepN n false L k = true) := by
              show _ = _
              simp only [Ob.stepN]; rw [HT.out, ← HR.out]; simp [Ob.behind]; omega
            have dg0 : decide ((0 : Int) < (k : Int)) = true := decide_eq_true kp
            have dg1 : decide (0 < k) = true := decide_eq_true (by omega)
            have dg2 : decide (f.2.2.1 < g) = false := decide_eq_false hc
            go_wp2_with fail
            refine wp_region_quiet_below (by kernel_rfl) (by kernel_rfl) ?_
            repeat (go_big_quiet_step (exact Calls.regrown_of (fb _)))
            refine wpQuiet_nil ?_
            intro w4 hw'
            obtain ⟨⟨dq, osq⟩, hw''⟩ := hw'
            have B4 : Below w.heap.size w w4 := by rw [hw'']; exact bel.trans ((below_regrown wr dq osq).mono bel.size)
            clear hw'' fb dg0 dg1 dg2
            go_wp2_with fail
            go_roundw
            case rel =>
              refine ⟨k + 1, by omega, by go_num, (fun j hj => ?_), B4⟩
              by_cases e : j = k
              · rw [e]; exact HS.out
              · exact HK.out j (by omega)
            case measure => simp [intOf]; omega
    · have e : k = L.length := by omega
      have HA : Hid (Ob.sideN n buy L = true) := Ob.upTo_yes (fun i hi => HK.out i (by omega))
      go_wp2_with fail
      go_ret
      exact ⟨by rw [HA.out]; rfl, bel⟩
end Go.Proofs.Ytjagohadeegghaa

namespace Go.Proofs.Ytjagohadeegghaa
open Go.RowKit
set_option linter.unusedVariables false
set_option linter.unusedSimpArgs false

theorem infoOrdS : (Try.prog.info? 55).map (fun i => (i.zero, i.size, i.bytes)) = some (some (.agg #[.int .i64 0, .int .i64 0, .int .i64 0, .int .i64 0, .bool false, .int .i64 0, .int .i64 0, .bool false]), 8, 64) := by kernel_rfl
set_option maxRecDepth 100000 in
set_option maxHeartbeats 8000000 in
theorem l06Both_any (u v : Value) (n : Int) (B A : List Or.E) (w : World) (hu : Rk.View Or.S w u B) (hv : Rk.View Or.S w v A) (su : Rk.Shut u) (sv : Rk.Shut v) (l0 : B.length ≤ 1048576) (l1 : A.length ≤ 1048576) :
    Calls Try.prog 109 #[u, v, .int .i64 n] w fun e w' => e = .returned (.bool (Ob.both B A n)) ∧ Below w.heap.size w w' := by
  obtain ⟨i0, hi, hz0, hz1, hz2⟩ := info_parts infoOrdS
  have HU := Fk.hide hu
  have HV := Fk.hide hv
  obtain ⟨a0, cap0, rfl, hs0⟩ := hu
  obtain ⟨a1, cap1, rfl, hs1⟩ := hv
  by_cases hf : Ob.frame B A n
  · have HFR := Fk.hide hf
    have n1 : 1 ≤ n := hf.1
    have n2 : n ≤ 1000000 := hf.2.1
    have n3 : (B.length : Int) + A.length ≤ 24 := hf.2.2
    have hin : Cm.inn n 1 1000000 = true := by simp [Cm.inn, n1, n2]
    clear hf
    go_enter Try.func109, Try.ntmps109
    go_wp2_with (first | (go_at_call 93; refine (l02Is_inn _ _ _ _).mono ?_; rintro e _ ⟨rfl, hh⟩; rw [hin, hh]; clear hh))
    refine (l06Side_any _ _ true B _ HU.out l0 n1 n2).mono ?_
    rintro e w1 ⟨rfl, B1⟩
    obtain ⟨r1, hr1⟩ : ∃ r, r = Ob.sideN n true B := ⟨_, rfl⟩
    rw [← hr1]
    have H1 := Fk.hide hr1
    clear hr1
    cases r1 with
    | false =>
      have HA : Hid (Ob.both B A n = false) := by show _ = _; simp only [Ob.both]; rw [← H1.out]; simp
      go_wp2_with fail
      go_ret
      exact ⟨by rw [HA.out]; rfl, B1⟩
    | true =>
    go_wp2_with fail
    refine (l06Side_any _ _ false A _ (HV.out.below B1) l1 n1 n2).mono ?_
    rintro e w2 ⟨rfl, k2⟩
    obtain ⟨r2, hr2⟩ : ∃ r, r = Ob.sideN n false A := ⟨_, rfl⟩
    rw [← hr2]
    have H2 := Fk.hide hr2
    have B2 : Below w.heap.size w w2 := B1.trans (k2.mono B1.size)
    clear k2 hr2
    cases r2 with
    | false =>
      have HA : Hid (Ob.both B A n = false) := by show _ = _; simp only [Ob.both]; rw [← H1.out, ← H2.out]; simp
      go_wp2_with fail
      go_ret
      exact ⟨by rw [HA.out]; rfl, B2⟩
    | true =>
    have hM0 : Rk.Own Or.S (w2.alloc (.cells #[] 55)) w2.heap.size 55 (.slice (some ⟨w2.heap.size, 0, none⟩) 0 0) [] := Rk.own_empty w2 55 w2.heap.size (Nat.le_refl _)
    have HB3 : Hid (Below w.heap.size w (w2.alloc (.cells #[] 55))) := B2.alloc B2.size _
    have hb3 : Hid (w2.heap.size ≤ (w2.alloc (.cells #[] 55)).heap.size) := by show _ ≤ _; simp
    have HM0 := Fk.hide hM0
    clear hM0
    go_wp2_with (first
      | (at_builtin; refine Rk.wpList_append_view _ rfl (.tmp 33) (.tmp 34) 30 rfl w2.heap.size 55 i0 _ 8 64 rfl Try.underlying30 hi hz0 hz1 hz2 rfl (by decide) (.slice (some ⟨w2.heap.size, 0, none⟩) 0 0) (.slice a0 B.length cap0) [] B rfl rfl HM0.out (HU.out.below HB3.out) su (by simp; omega) hb3.out ?_; intro u4 w4 o4 g4; rw [List.nil_append] at o4; obtain ⟨a4, n4, c4, rfl⟩ := o4.slice'; have HO4 := Fk.hide o4; have HB4 : Hid (Below w.heap.size w w4) := HB3.out.grown g4 HB3.out.size (fun j hj => by have := (HM0.out.lt j hj).1; have := B2.size; omega); have hb4 : Hid (w2.heap.size ≤ w4.heap.size) := Nat.le_trans hb3.out g4.size; clear o4 g4)
      | (at_builtin; refine Rk.wpList_append_view _ rfl (.tmp 35) (.tmp 36) 30 rfl w2.heap.size 55 i0 _ 8 64 rfl Try.underlying30 hi hz0 hz1 hz2 rfl (by decide) (.slice a4 n4 c4) (.slice a1 A.length cap1) B A rfl rfl HO4.out (HV.out.below HB4.out) sv (by omega) hb4.out ?_; intro u5 w5 o5 g5; obtain ⟨a5, n5, c5, rfl⟩ := o5.slice'; have HO5 := Fk.hide o5; have HB5 : Hid (Below w.heap.size w w5) := HB4.out.grown g5 HB4.out.size (fun j hj => by have := (HO4.out.lt j hj).1; have := B2.size; omega); clear o5 g5))
    obtain ⟨M, hM⟩ : ∃ M, M = B ++ A := ⟨_, rfl⟩
    rw [← hM] at HO5
    have hlM : M.length ≤ 24 := by rw [hM]; simp; omega
    obtain rfl : n5 = M.length := by obtain ⟨x1, x2, hx⟩ := HO5.out.slice; simp only [Value.slice.injEq] at hx; exact hx.2.1
    have HM := Fk.hide hM
    clear hM
    have hgM : Hid (0 < M.length → ∃ g o, a5 = some ⟨g, o, none⟩ ∧ g < w5.heap.size ∧ Rk.Sees Or.S w5 g o M) := fun h => by
      obtain ⟨a', c', e, hh⟩ := HO5.out.view
      simp only [Value.slice.injEq] at e
      obtain ⟨e1, _⟩ := e
      rw [← e1] at hh
      exact hh h
    go_loopw [8] (fun i wr => ∃ k : Nat, k ≤ M.length ∧ i = .int .i64 k ∧ Hid (∀ j, j < k → Ob.fresh M j = true) ∧ Below w5.heap.size w5 wr) (fun i _ => M.length - (intOf i).toNat)
    case atStart => exact ⟨0, Nat.zero_le _, rfl, fun j hj => absurd hj (by omega), Below.refl _ _⟩
    case round =>
      obtain ⟨k, hk, rfl, HK, bel⟩ := hrel
      obtain ⟨wo, hwo⟩ : ∃ x, x = wr := ⟨_, rfl⟩
      subst hwo
      have HBL := Fk.hide (HB5.out.trans (bel.mono HB5.out.size))
      by_cases hlt : k < M.length
      · obtain ⟨g, og, rfl, hb, hsM⟩ := hgM.out (by omega)
        go_wp2_with fail
        go_loopw [9] (fun i wr => ∃ j : Nat, j ≤ k ∧ i = .int .i64 j ∧ Hid (∀ t, t < j → (Ob.at' M t).1 ≠ (Ob.at' M k).1) ∧ Below w5.heap.size w5 wr) (fun i _ => k - (intOf i).toNat)
        case atStart => exact ⟨0, Nat.zero_le _, rfl, fun j hj => absurd hj (by omega), bel⟩
        case round =>
          obtain ⟨j, hj, rfl, HJ, beli⟩ := hrel
          have HBI : Hid (Below w.heap.size w wr) := HB5.out.trans (beli.mono HB5.out.size)
          by_cases hjt : j < k
          · have hs' := hsM.below hb beli
            have q0 := Or.c0 hs' hlt
            have p0 := Or.c0 hs' (k := j) (by omega)
            obtain ⟨f, hf⟩ : ∃ f, f = (Rk.at_ Or.S M k).1 := ⟨_, rfl⟩
            obtain ⟨h, hh⟩ : ∃ f, f = (Rk.at_ Or.S M j).1 := ⟨_, rfl⟩
            have HF := Fk.hide hf
            have HH := Fk.hide hh
            rw [← hf] at q0
            rw [← hh] at p0
            clear hf hh hs'
            have j4 : (j : Int) < (M.length : Int) := by omega
            have BD : Below w5.heap.size w5 wr.drew := beli.trans ((Below.drew (Below.refl wr.heap.size wr)).mono beli.size)
            have HBD : Hid (Below w.heap.size w wr.drew) := HB5.out.trans (BD.mono HB5.out.size)
            by_cases heq : h = f
            · have HA : Hid (Ob.both B A n = false) := by
                show _ = _
                have e1 : Ob.ids (B ++ A) = false := by
                  rw [← HM.out]
                  refine Ob.upTo_no hlt (Ob.upTo_no hjt ?_)
                  unfold Ob.at'
                  rw [← HF.out, ← HH.out]; simp [heq]
                simp only [Ob.both]; rw [e1]; simp
              go_wp2_with fail
              go_region
              all_goals
                go_wp2_with fail
                go_ret
                exact ⟨by rw [HA.out]; rfl, HBD.out⟩
            · go_wp2_with fail
              go_region
              all_goals
                go_wp2_with fail
                go_roundw
                case rel =>
                  refine ⟨j + 1, by omega, by go_num, (fun t ht => ?_), BD⟩
                  by_cases e : t = j
                  · rw [e]; intro h'; exact heq (by rw [HH.out, HF.out]; exact h')
                  · exact HJ.out t (by omega)
                case measure => simp [intOf]; omega
          · have e : j = k := by omega
            subst e
            have HS : Hid (Ob.fresh M j = true) := Ob.upTo_yes (fun t ht => by have := HJ.out t ht; simpa using this)
            go_wp2_with fail
            go_roundw
            case rel =>
              refine ⟨j + 1, by omega, by go_num, (fun t ht => ?_), beli⟩
              by_cases e : t = j
              · rw [e]; exact HS.out
              · exact HK.out t (by omega)
            case measure => simp [intOf]; omega
      · have e : k = M.length := by omega
        have HI : Hid (Ob.ids (B ++ A) = true) := by
          show _ = _
          rw [← HM.out]
          exact Ob.upTo_yes (fun i hi => HK.out i (by omega))
        have HA : Hid (Ob.both B A n = Ob.apart B A) := by
          show _ = _
          simp only [Ob.both]
          rw [← H1.out, ← H2.out, HI.out, decide_eq_true HFR.out]; simp
        have B3 := HBL.out
        have HB3 : Hid (Below w.heap.size w wo.drew) := B3.trans ((Below.drew (Below.refl wo.heap.size wo)).mono B3.size)
        by_cases z0 : B.length = 0
        · have HE : Hid (Ob.apart B A = true) := by show _ = _; simp [Ob.apart, z0]
          go_wp2_with fail
          go_region
          all_goals
            go_wp2_with fail
            go_ret
            exact ⟨by rw [HA.out, HE.out]; rfl, HB3.out⟩
        by_cases z1 : A.length = 0
        · have HE : Hid (Ob.apart B A = true) := by show _ = _; simp [Ob.apart, z1]
          obtain ⟨nb, hnb⟩ : ∃ x, x = B.length := ⟨_, rfl⟩
          rw [← hnb] at z0
          rw [← hnb, z1]
          have z6 : ¬ (nb : Int) = 0 := by omega
          have z8 : decide (nb = 0) = false := decide_eq_false z0
          have y6 : ((nb : Int) == 0) = false := by simpa using z0
          have y8 : (nb == 0) = false := by simpa using z0
          clear hnb z1 HU HV su sv hlM HK HM n3 B3 hk hlt hgM hs0 hs1
          go_wp2_with fail
          refine wp_region_quiet_below (by kernel_rfl) (by kernel_rfl) ?_
          repeat (go_big_quiet_step (fail))
          refine wpQuiet_nil ?_
          intro w4 hw'
          obtain ⟨⟨dq, osq⟩, hw''⟩ := hw'
          have HB4 : Hid (Below w.heap.size w w4) := by
            show Below _ _ _
            rw [hw'']; exact HBL.out.trans ((below_regrown wo dq osq).mono HBL.out.size)
          clear hw''
          go_wp2_with fail
          go_ret
          exact ⟨by rw [HA.out, HE.out]; rfl, HB4.out⟩
        have HE : Hid (Ob.apart B A = decide ((Rk.at_ Or.S B 0).2.2.1 < (Rk.at_ Or.S A 0).2.2.1)) := by show _ = _; simp [Ob.apart, z0, z1]
        obtain ⟨b, o, rfl, hb, hs0'⟩ := hs0 (Nat.pos_of_ne_zero z0)
        obtain ⟨b', o', rfl, hb', hs1'⟩ := hs1 (Nat.pos_of_ne_zero z1)
        have p0 := Or.c2 (hs0'.below hb B3) (k := 0) (Nat.pos_of_ne_zero z0)
        have p1 := Or.c2 (hs1'.below hb' B3) (k := 0) (Nat.pos_of_ne_zero z1)
        simp only [Nat.zero_mul, Nat.add_zero] at p0 p1
        obtain ⟨x0, hx0⟩ : ∃ x, x = (Rk.at_ Or.S B 0).2.2.1 := ⟨_, rfl⟩
        obtain ⟨x1, hx1⟩ : ∃ x, x = (Rk.at_ Or.S A 0).2.2.1 := ⟨_, rfl⟩
        rw [← hx0] at p0
        rw [← hx1] at p1
        rw [← hx0, ← hx1] at HE
        clear hx0 hx1 hs0 hs1
        obtain ⟨nb, hnb⟩ : ∃ x, x = B.length := ⟨_, rfl⟩
        obtain ⟨na, hna⟩ : ∃ x, x = A.length := ⟨_, rfl⟩
        rw [← hnb] at z0
        rw [← hna] at z1
        rw [← hnb, ← hna]
        have z2 : 0 < nb := Nat.pos_of_ne_zero z0
        have z3 : 0 < na := Nat.pos_of_ne_zero z1
        have z4 : (0 : Int) < (nb : Int) := by omega
        have z5 : (0 : Int) < (na : Int) := by omega
        have z6 : ¬ (nb : Int) = 0 := by omega
        have z7 : ¬ (na : Int) = 0 := by omega
        have z8 : decide (nb = 0) = false := decide_eq_false z0
        have z9 : decide (na = 0) = false := decide_eq_false z1
        have y6 : ((nb : Int) == 0) = false := by simpa using z0
        have y8 : (nb == 0) = false := by simpa using z0
        have y7 : ((na : Int) == 0) = false := by simpa using z1
        have y9 : (na == 0) = false := by simpa using z1
        clear hnb hna HU HV su sv hlM HK HM n3 B3 hk hlt hgM
        have r0 := cell_regrown p0
        have r1 := cell_regrown p1
        go_wp2_with fail
        refine wp_region_quiet_below (by kernel_rfl) (by kernel_rfl) ?_
        repeat (go_big_quiet_step (fail))
        refine wpQuiet_nil ?_
        intro w4 hw'
        obtain ⟨⟨dq, osq⟩, hw''⟩ := hw'
        have HB4 : Hid (Below w.heap.size w w4) := by
          show Below _ _ _
          rw [hw'']; exact HBL.out.trans ((below_regrown wo dq osq).mono HBL.out.size)
        clear hw''
        go_wp2_with fail
        go_ret
        exact ⟨by rw [HA.out, HE.out]; rfl, HB4.out⟩
  · have HA : Hid (Ob.both B A n = false) := Ob.both_long hf
    cases hin : Cm.inn n 1 1000000 with
    | false =>
      go_enter Try.func109, Try.ntmps109
      go_wp2_with (first | (go_at_call 93; refine (l02Is_inn _ _ _ _).mono ?_; rintro e _ ⟨rfl, hh⟩; rw [hin, hh]; clear hh))
      go_ret
      exact ⟨by rw [HA.out]; rfl, Below.refl _ _⟩
    | true =>
      have hlen : (24 : Int) < (B.length : Int) + A.length := by
        have h := hin
        simp [Cm.inn] at h
        unfold Ob.frame at hf
        omega
      go_enter Try.func109, Try.ntmps109
      go_wp2_with (first | (go_at_call 93; refine (l02Is_inn _ _ _ _).mono ?_; rintro e _ ⟨rfl, hh⟩; rw [hin, hh]; clear hh))
      go_ret
      exact ⟨by rw [HA.out]; rfl, Below.refl _ _⟩
end Go.Proofs.Ytjagohadeegghaa

namespace Go.Proofs.Ytjagohadeegghaa
open Go.RowKit
set_option linter.unusedVariables false
set_option linter.unusedSimpArgs false

set_option maxRecDepth 100000 in
set_option maxHeartbeats 8000000 in
theorem oldRight_spec (u v : Value) (n : Int) (B A : List Or.E) (w : World) (hu : Rk.View Or.S w u B) (hv : Rk.View Or.S w v A) (su : Rk.Shut u) (sv : Rk.Shut v) (l0 : B.length ≤ 1048576) (l1 : A.length ≤ 1048576) :
    Calls Try.prog 63 #[.agg #[u, v, .int .i64 n]] w fun e w' => e = .returned (.bool (Ob.right B A n)) ∧ Below w.heap.size w w' := by
  obtain ⟨i0, hi, hz0, hz1, hz2⟩ := info_parts infoOrdS
  obtain ⟨W, hW⟩ : ∃ W, W = w.alloc (.cells #[u, v, .int .i64 n] 32) := ⟨_, rfl⟩
  have b0 : Below w.heap.size w W := by rw [hW]; exact (Below.refl _ _).alloc (Nat.le_refl _) _
  have c0 : W.cell? ⟨w.heap.size, 0, none⟩ = some u := by rw [hW, Fk.cellTop _ _ _ _ _ rfl]; rfl
  have c1 : W.cell? ⟨w.heap.size, 1, none⟩ = some v := by rw [hW, Fk.cellTop _ _ _ _ _ rfl]; rfl
  have c2 : W.cell? ⟨w.heap.size, 2, none⟩ = some (.int .i64 n) := by rw [hW, Fk.cellTop _ _ _ _ _ rfl]; rfl
  have hz : w.heap.size < W.heap.size := by rw [hW]; simp
  have HU := Fk.hide hu
  have HV := Fk.hide hv
  obtain ⟨a0, cap0, rfl, _⟩ := hu
  obtain ⟨a1, cap1, rfl, _⟩ := hv
  have HW := Fk.hide hW
  clear hW
  go_enter Try.func63, Try.ntmps63
  go_wp2_with fail
  rw [← HW.out]
  have hb0 : Below w.heap.size w W.drew := b0.trans ((Below.drew (Below.refl W.heap.size W)).mono b0.size)
  have HB3 : Hid (Below w.heap.size w (W.drew.alloc (.cells #[] 55))) := hb0.alloc (by simp; omega) _
  have hM0 : Rk.Own Or.S (W.drew.alloc (.cells #[] 55)) W.heap.size 55 (.slice (some ⟨W.heap.size, 0, none⟩) 0 0) [] := Rk.own_empty W.drew 55 W.heap.size (by simp)
  have hb3 : Hid (W.heap.size ≤ (W.drew.alloc (.cells #[] 55)).heap.size) := by show _ ≤ _; simp
  have HM0 := Fk.hide hM0
  have HC := Fk.hide (⟨c0, c1, c2⟩ : _ ∧ _ ∧ _)
  have HZ := Fk.hide hz
  have d0 : (W.drew.alloc (.cells #[] 55)).cell? ⟨w.heap.size, 0, none⟩ = some (.slice a0 B.length cap0) := by rw [Fk.cellOld _ _ _ _ (by simp; omega)]; exact c0
  have d1 : (W.drew.alloc (.cells #[] 55)).cell? ⟨w.heap.size, 1, none⟩ = some (.slice a1 A.length cap1) := by rw [Fk.cellOld _ _ _ _ (by simp; omega)]; exact c1
  have d2 : (W.drew.alloc (.cells #[] 55)).cell? ⟨w.heap.size, 2, none⟩ = some (.int .i64 n) := by rw [Fk.cellOld _ _ _ _ (by simp; omega)]; exact c2
  clear hM0 hb0
  go_region_held3 (fun w' => w'.cell? ⟨w.heap.size, 0, none⟩ = some (.slice a0 B.length cap0) ∧ w'.cell? ⟨w.heap.size, 1, none⟩ = some (.slice a1 A.length cap1) ∧ w'.cell? ⟨w.heap.size, 2, none⟩ = some (.int .i64 n))
    (first | go_keep | (go_split_ands; exact ⟨by assumption, by assumption, by assumption⟩))
    (first
      | (refine Rk.step_append_view _ (by rfl) (.tmp 5) (.tmp 7) 30 (by rfl) W.heap.size 55 i0 _ 8 64 rfl Try.underlying30 hi hz0 hz1 hz2 (by rfl) (by decide) (.slice (some ⟨W.heap.size, 0, none⟩) 0 0) (.slice a0 B.length cap0) [] B (by rfl) (by rfl) HM0.out (HU.out.below HB3.out) su (by simp; omega) hb3.out ?_; intro u1 w1 o1 g1; rw [List.nil_append] at o1; obtain ⟨x1, m1, y1, rfl⟩ := o1.slice'; have HO1 := Fk.hide o1; have HB1 : Hid (Below w.heap.size w w1) := HB3.out.grown g1 HB3.out.size (fun j hj => by have := (HM0.out.lt j hj).1; omega); have hb1 : Hid (W.heap.size ≤ w1.heap.size) := Nat.le_trans hb3.out g1.size; have e0 : w1.cell? ⟨w.heap.size, 0, none⟩ = some (.slice a0 B.length cap0) := g1.cell d0 (fun e => by have := HM0.out.lt _ e.symm; simp only at this; omega); have e1 : w1.cell? ⟨w.heap.size, 1, none⟩ = some (.slice a1 A.length cap1) := g1.cell d1 (fun e => by have := HM0.out.lt _ e.symm; simp only at this; omega); have e2 : w1.cell? ⟨w.heap.size, 2, none⟩ = some (.int .i64 n) := g1.cell d2 (fun e => by have := HM0.out.lt _ e.symm; simp only at this; omega); clear o1 g1)
      | (refine Rk.step_append_view _ (by rfl) (.tmp 8) (.tmp 10) 30 (by rfl) W.heap.size 55 i0 _ 8 64 rfl Try.underlying30 hi hz0 hz1 hz2 (by rfl) (by decide) (.slice x1 m1 y1) (.slice a1 A.length cap1) B A (by rfl) (by rfl) HO1.out (HV.out.below HB1.out) sv (by omega) hb1.out ?_; intro u2 w2 o2 g2; have HB2 : Hid (Below w.heap.size w w2) := HB1.out.grown g2 HB1.out.size (fun j hj => by have := HO1.out.lt j hj; omega); obtain ⟨a2, n2, k2, rfl⟩ := o2.slice'; have HO2 := Fk.hide o2; have f0 : w2.cell? ⟨w.heap.size, 0, none⟩ = some (.slice a0 B.length cap0) := g2.cell e0 (fun e => by have := HO1.out.lt _ e.symm; simp only at this; omega); have f1 : w2.cell? ⟨w.heap.size, 1, none⟩ = some (.slice a1 A.length cap1) := g2.cell e1 (fun e => by have := HO1.out.lt _ e.symm; simp only at this; omega); have f2 : w2.cell? ⟨w.heap.size, 2, none⟩ = some (.int .i64 n) := g2.cell e2 (fun e => by have := HO1.out.lt _ e.symm; simp only at this; omega); have hb2 : Hid (W.heap.size ≤ w2.heap.size) := Nat.le_trans hb1.out g2.size; clear o2 g2))
  obtain ⟨M, hM⟩ : ∃ M, M = B ++ A := ⟨_, rfl⟩
  rw [← hM] at HO2
  obtain rfl : n2 = M.length := by obtain ⟨q1, q2, hx⟩ := HO2.out.slice; simp only [Value.slice.injEq] at hx; exact hx.2.1
  have HM := Fk.hide hM
  have hlM : M.length = B.length + A.length := by rw [hM]; simp
  clear hM c0 c1 c2 d0 d1 d2 e0 e1 e2
  have hgM : Hid (0 < M.length → ∃ g o, a2 = some ⟨g, o, none⟩ ∧ g < w2.heap.size ∧ Rk.Sees Or.S w2 g o M) := fun h => by
    obtain ⟨a', c', e, hh⟩ := HO2.out.view
    simp only [Value.slice.injEq] at e
    obtain ⟨e1, _⟩ := e
    rw [← e1] at hh
    exact hh h
  by_cases h24 : M.length ≤ 24
  case neg =>
    have h24' : (24 : Int) < (M.length : Int) := by omega
    have HA : Hid (Ob.right B A n = false) := Ob.right_long (fun h => h24 (by have := h.2.2; omega))
    clear hlM
    go_wp2_with fail
    go_ret
    exact ⟨by rw [HA.out]; rfl, HB2.out⟩
  have h24' : ¬ (24 : Int) < (M.length : Int) := by omega
  have HLM := Fk.hide hlM
  clear hlM
  go_wp2_with fail
  go_loopw [4] (fun i wr => ∃ k : Nat, k ≤ M.length ∧ i = .int .i64 k ∧ Hid (∀ j, j < k → Ob.okP (Ob.at' M j) = true) ∧ Below w2.heap.size w2 wr) (fun i _ => M.length - (intOf i).toNat)
  case atStart => exact ⟨0, Nat.zero_le _, rfl, fun j hj => absurd hj (by omega), Below.refl _ _⟩
  case round =>
    obtain ⟨k, hk, rfl, HK, bel⟩ := hrel
    have HBL := Fk.hide (HB2.out.trans (bel.mono HB2.out.size))
    by_cases hlt : k < M.length
    · obtain ⟨g, og, rfl, hb, hsM⟩ := hgM.out (by omega)
      have hs' := hsM.below hb bel
      have q5 := Or.c5 hs' hlt
      have q6 := Or.c6 hs' hlt
      have q7 := Or.c7 hs' hlt
      obtain ⟨f, hf⟩ : ∃ f, f = Rk.at_ Or.S M k := ⟨_, rfl⟩
      have HF := Fk.hide hf
      rw [← hf] at q5 q6 q7
      clear hf hs'
      obtain ⟨y5, hy5⟩ : ∃ x, x = f.2.2.2.2.2.1 := ⟨_, rfl⟩
      obtain ⟨y6, hy6⟩ : ∃ x, x = f.2.2.2.2.2.2.1 := ⟨_, rfl⟩
      obtain ⟨y7, hy7⟩ : ∃ x, x = f.2.2.2.2.2.2.2 := ⟨_, rfl⟩
      rw [← hy5] at q5
      rw [← hy6] at q6
      rw [← hy7] at q7
      have HP : Hid (Ob.okP (Ob.at' M k) = (decide (y5 = 0) && (decide (y6 = 0) && !y7))) := by
        show _ = _
        unfold Ob.okP Ob.at'
        rw [← HF.out, ← hy5, ← hy6, ← hy7]
      clear hy5 hy6 hy7
      by_cases z5 : y5 = 0
      case neg =>
        have HA : Hid (Ob.right B A n = false) := by
          show _ = _
          have e1 : Ob.plain (B ++ A) = false := by rw [← HM.out]; exact Ob.upTo_no hlt (by rw [HP.out]; simp [z5])
          rw [Ob.right_both, e1]; rfl
        have t1 : decide (y5 = 0) = false := decide_eq_false z5
        have t2 : (y5 == 0) = false := by simpa using z5
        have t3 : (y5 != 0) = true := by simpa using z5
        go_wp2_with fail
        go_ret
        exact ⟨by rw [HA.out]; rfl, HBL.out⟩
      subst z5
      by_cases z6 : y6 = 0
      case neg =>
        have HA : Hid (Ob.right B A n = false) := by
          show _ = _
          have e1 : Ob.plain (B ++ A) = false := by rw [← HM.out]; exact Ob.upTo_no hlt (by rw [HP.out]; simp [z6])
          rw [Ob.right_both, e1]; rfl
        have t1 : decide (y6 = 0) = false := decide_eq_false z6
        have t2 : (y6 == 0) = false := by simpa using z6
        have t3 : (y6 != 0) = true := by simpa using z6
        go_wp2_with fail
        go_ret
        exact ⟨by rw [HA.out]; rfl, HBL.out⟩
      subst z6
      cases y7 with
      | true =>
        have HA : Hid (Ob.right B A n = false) := by
          show _ = _
          have e1 : Ob.plain (B ++ A) = false := by rw [← HM.out]; exact Ob.upTo_no hlt (by rw [HP.out]; simp)
          rw [Ob.right_both, e1]; rfl
        go_wp2_with fail
        go_ret
        exact ⟨by rw [HA.out]; rfl, HBL.out⟩
      | false =>
        go_wp2_with fail
        go_roundw
        case rel =>
          refine ⟨k + 1, by omega, by go_num, (fun j hj => ?_), bel⟩
          by_cases e : j = k
          · rw [e, HP.out]; rfl
          · exact HK.out j (by omega)
        case measure => simp [intOf]; omega
    · have e : k = M.length := by omega
      have HA : Hid (Ob.right B A n = Ob.both B A n) := by
        show _ = _
        have e1 : Ob.plain (B ++ A) = true := by rw [← HM.out]; exact Ob.upTo_yes (fun i hi => HK.out i (by omega))
        rw [Ob.right_both, e1]; rfl
      have g0 := (bel.cell (p := ⟨w.heap.size, 0, none⟩) (by show w.heap.size < _; have := hb2.out; omega)).trans f0
      have g1 := (bel.cell (p := ⟨w.heap.size, 1, none⟩) (by show w.heap.size < _; have := hb2.out; omega)).trans f1
      have g2 := (bel.cell (p := ⟨w.heap.size, 2, none⟩) (by show w.heap.size < _; have := hb2.out; omega)).trans f2
      go_wp2_with fail
      refine (l06Both_any _ _ _ B A _ (HU.out.below HBL.out) (HV.out.below HBL.out) su sv l0 l1).mono ?_
      rintro e w9 ⟨rfl, k9⟩
      have HB9 : Hid (Below w.heap.size w w9) := HBL.out.trans (k9.mono HBL.out.size)
      clear k9
      go_wp2_with fail
      go_ret
      exact ⟨by rw [HA.out]; rfl, HB9.out⟩
end Go.Proofs.Ytjagohadeegghaa

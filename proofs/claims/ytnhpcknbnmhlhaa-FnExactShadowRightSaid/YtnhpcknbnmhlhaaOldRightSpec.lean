/- The walks of the specification's question whether an older book is right. -/
import Derived.Test.YtnhpcknbnmhlhaaProg
import Derived.Test.YtnhpcknbnmhlhaaOldMath
import Derived.Test.YtnhpcknbnmhlhaaCmdRightSpec
import Derived.Test.YtnhpcknbnmhlhaaRowsMore
import Derived.Deep.RegionHeld3
namespace Go.Proofs.Ytnhpcknbnmhlhaa
open Go.RowKit
set_option linter.unusedVariables false
set_option linter.unusedSimpArgs false

set_option maxHeartbeats 2000000 in
theorem l06Order_any (o : Or.E) (n : Int) (w : World) (h0 : 1 ≤ n) (h1 : n ≤ 1000000) :
    Calls Try.prog 59 #[.agg #[.int .i64 o.1, .int .i64 o.2.1, .int .i64 o.2.2.1, .int .i64 o.2.2.2.1, .bool o.2.2.2.2.1, .int .i64 o.2.2.2.2.2.1, .int .i64 o.2.2.2.2.2.2.1, .bool o.2.2.2.2.2.2.2], .int .i64 n] w fun e w' => e = .returned (.bool (Ob.okN n o)) ∧ Below w.heap.size w w' := by
  have HB : Hid (∀ o, Below w.heap.size w (w.alloc o)) := fun o => (Below.refl w.heap.size w).alloc (Nat.le_refl _) o
  go_enter Try.func59, Try.ntmps59
  go_wp2_with (first
    | (go_at_call 52; refine (l02Is_inn _ _ _ _).mono ?_; rintro e w' ⟨rfl, rfl⟩)
    | (go_at_call 60; refine (l04Owner_any _ _).mono ?_; rintro e w' ⟨rfl, rfl⟩)
    | (go_at_call 61; refine (l04Price_any _ _).mono ?_; rintro e w' ⟨rfl, rfl⟩)
    | (go_at_call 62; refine (l04Amount_any _ _).mono ?_; rintro e w' ⟨rfl, rfl⟩))
  all_goals
    go_ret
    refine ⟨?_, HB.out _⟩
    simp_all [Ob.okN, Cm.inn] <;> omega

set_option maxHeartbeats 8000000 in
theorem l06Side_any (v : Value) (n : Int) (buy : Bool) (L : List Or.E) (w : World) (hv : Rk.View Or.S w v L) (hl : L.length ≤ 1048576) (h0 : 1 ≤ n) (h1 : n ≤ 1000000) :
    Calls Try.prog 53 #[v, .int .i64 n, .bool buy] w fun e w' => e = .returned (.bool (Ob.sideN n buy L)) ∧ Below w.heap.size w w' := by
  obtain ⟨a, cap, rfl, hs⟩ := hv
  go_enter Try.func53, Try.ntmps53
  go_wp2_with fail
  go_loopw [7] (fun i wr => ∃ k : Nat, k ≤ L.length ∧ i = .int .i64 k ∧ Hid (∀ j, j < k → Ob.stepN n buy L j = true) ∧ Below w.heap.size w wr) (fun i _ => L.length - (intOf i).toNat)
  case atStart => exact ⟨0, Nat.zero_le _, rfl, fun j hj => absurd hj (by omega), Below.refl _ _⟩
  case round =>
    obtain ⟨k, hk, rfl, HK, bel⟩ := hrel
    by_cases hlt : k < L.length
    · obtain ⟨b, o, rfl, hb, hs1⟩ := hs (by omega)
      have hs' := hs1.below hb bel
      have q0 := Or.c0 hs' hlt
      have q1 := Or.c1 hs' hlt
      have q2 := Or.c2 hs' hlt
      have q3 := Or.c3 hs' hlt
      have q4 := Or.c4 hs' hlt
      have q5 := Or.c5 hs' hlt
      have q6 := Or.c6 hs' hlt
      have q7 := Or.c7 hs' hlt
      obtain ⟨f, hf⟩ : ∃ f, f = Rk.at_ Or.S L k := ⟨_, rfl⟩
      have HF := Fk.hide hf
      rw [← hf] at q0 q1 q2 q3 q4 q5 q6 q7
      clear hf
      have fb : ∀ w', Calls Try.prog 59 #[.agg #[.int .i64 f.1, .int .i64 f.2.1, .int .i64 f.2.2.1, .int .i64 f.2.2.2.1, .bool f.2.2.2.2.1, .int .i64 f.2.2.2.2.2.1, .int .i64 f.2.2.2.2.2.2.1, .bool f.2.2.2.2.2.2.2], .int .i64 n] w' fun e w'' => e = .returned (.bool (Ob.okN n f)) ∧ Below w'.heap.size w' w'' := fun w' => l06Order_any f n w' h0 h1
      obtain ⟨r, hr⟩ : ∃ r, r = Ob.okN n f := ⟨_, rfl⟩
      rw [← hr] at fb
      have HR : Hid (r = Ob.okN n (Ob.at' L k)) := by show _ = _; rw [hr, HF.out]
      clear hr
      have rq0 := cell_regrown q0
      have rq1 := cell_regrown q1
      have rq2 := cell_regrown q2
      have rq3 := cell_regrown q3
      have rq4 := cell_regrown q4
      have rq5 := cell_regrown q5
      have rq6 := cell_regrown q6
      have rq7 := cell_regrown q7
      cases r with
      | false =>
        have HA : Hid (Ob.sideN n buy L = false) := Ob.upTo_no hlt (by simp only [Ob.stepN]; rw [← HR.out]; rfl)
        clear hs'
        go_wp2_with fail
        refine wp_region_quiet_below (by kernel_rfl) (by kernel_rfl) ?_
        repeat (go_big_quiet_step (exact Calls.regrown_of (fb _)))
        refine wpQuiet_nil ?_
        intro w4 hw'
        obtain ⟨⟨dq, osq⟩, hw''⟩ := hw'
        have B4 : Below w.heap.size w w4 := by rw [hw'']; exact bel.trans ((below_regrown wr dq osq).mono bel.size)
        clear hw'' fb 
        go_wp2_with fail
        go_ret
        exact ⟨by rw [HA.out]; rfl, B4⟩
      | true =>
      by_cases hk0 : k = 0
      · have HS : Hid (Ob.stepN n buy L k = true) := by
          show _ = _
          have e0 : (k == 0) = true := by simpa using hk0
          simp only [Ob.stepN, Ob.turn, e0]; rw [← HR.out]; rfl
        have g0 : decide ((0 : Int) < (k : Int)) = false := decide_eq_false (by omega)
        have g1 : decide (0 < k) = false := decide_eq_false (by omega)
        clear hs' hk0
        have dg0 : decide ((0 : Int) < (k : Int)) = false := g0
        have dg1 : decide (0 < k) = false := g1
        go_wp2_with fail
        refine wp_region_quiet_below (by kernel_rfl) (by kernel_rfl) ?_
        repeat (go_big_quiet_step (exact Calls.regrown_of (fb _)))
        refine wpQuiet_nil ?_
        intro w4 hw'
        obtain ⟨⟨dq, osq⟩, hw''⟩ := hw'
        have B4 : Below w.heap.size w w4 := by rw [hw'']; exact bel.trans ((below_regrown wr dq osq).mono bel.size)
        clear hw'' fb dg0 dg1
        go_wp2_with fail
        go_roundw
        case rel =>
          refine ⟨k + 1, by omega, by go_num, (fun j hj => ?_), B4⟩
          by_cases e : j = k
          · rw [e]; exact HS.out
          · exact HK.out j (by omega)
        case measure => simp [intOf]; omega
      · have kp : (0 : Int) < (k : Int) := by omega
        have k2' : ((k : Int) - 1).toNat = k - 1 := by omega
        have k3 : (0 : Int) ≤ (k : Int) - 1 := by omega
        have k4 : (k : Int) - 1 < (L.length : Int) := by omega
        have p2 := Or.c2 hs' (k := k - 1) (by omega)
        obtain ⟨g, hg⟩ : ∃ f, f = (Rk.at_ Or.S L (k - 1)).2.2.1 := ⟨_, rfl⟩
        have HG := Fk.hide hg
        rw [← hg] at p2
        clear hg hs'
        have rp2 := cell_regrown p2
        have HT : Hid (Ob.turn buy L k = Ob.behind buy g f.2.2.1) := by
          show _ = _
          have e0 : (k == 0) = false := by simpa using hk0
          rw [HF.out, HG.out]
          simp only [Ob.turn, e0, Bool.false_or]
        cases buy with
        | true =>
          by_cases hc : g < f.2.2.1
          · have HA : Hid (Ob.sideN n true L = false) := Ob.upTo_no hlt (by simp only [Ob.stepN]; rw [HT.out]; simp [Ob.behind, hc])
            have dg0 : decide ((0 : Int) < (k : Int)) = true := decide_eq_true kp
            have dg1 : decide (0 < k) = true := decide_eq_true (by omega)
            have dg2 : decide (g < f.2.2.1) = true := decide_eq_true hc
            go_wp2_with fail
            refine wp_region_quiet_below (by kernel_rfl) (by kernel_rfl) ?_
            repeat (go_big_quiet_step (exact Calls.regrown_of (fb _)))
            refine wpQuiet_nil ?_
            intro w4 hw'
            obtain ⟨⟨dq, osq⟩, hw''⟩ := hw'
            have B4 : Below w.heap.size w w4 := by rw [hw'']; exact bel.trans ((below_regrown wr dq osq).mono bel.size)
            clear hw'' fb dg0 dg1 dg2
            go_wp2_with fail
            go_ret
            exact ⟨by rw [HA.out]; rfl, B4⟩
          · have HS : Hid (Ob.stepN n true L k = true) := by
              show _ = _
              simp only [Ob.stepN]; rw [HT.out, ← HR.out]; simp [Ob.behind]; omega
            have dg0 : decide ((0 : Int) < (k : Int)) = true := decide_eq_true kp
            have dg1 : decide (0 < k) = true := decide_eq_true (by omega)
            have dg2 : decide (g < f.2.2.1) = false := decide_eq_false hc
            go_wp2_with fail
            refine wp_region_quiet_below (by kernel_rfl) (by kernel_rfl) ?_
            repeat (go_big_quiet_step (exact Calls.regrown_of (fb _)))
            refine wpQuiet_nil ?_
            intro w4 hw'
            obtain ⟨⟨dq, osq⟩, hw''⟩ := hw'
            have B4 : Below w.heap.size w w4 := by rw [hw'']; exact bel.trans ((below_regrown wr dq osq).mono bel.size)
            clear hw'' fb dg0 dg1 dg2
            go_wp2_with fail
            go_roundw
            case rel =>
              refine ⟨k + 1, by omega, by go_num, (fun j hj => ?_), B4⟩
              by_cases e : j = k
              · rw [e]; exact HS.out
              · exact HK.out j (by omega)
            case measure => simp [intOf]; omega
        | false =>
          by_cases hc : f.2.2.1 < g
          · have HA : Hid (Ob.sideN n false L = false) := Ob.upTo_no hlt (by simp only [Ob.stepN]; rw [HT.out]; simp [Ob.behind, hc])
            have dg0 : decide ((0 : Int) < (k : Int)) = true := decide_eq_true kp
            have dg1 : decide (0 < k) = true := decide_eq_true (by omega)
            have dg2 : decide (f.2.2.1 < g) = true := decide_eq_true hc
            go_wp2_with fail
            refine wp_region_quiet_below (by kernel_rfl) (by kernel_rfl) ?_
            repeat (go_big_quiet_step (exact Calls.regrown_of (fb _)))
            refine wpQuiet_nil ?_
            intro w4 hw'
            obtain ⟨⟨dq, osq⟩, hw''⟩ := hw'
            have B4 : Below w.heap.size w w4 := by rw [hw'']; exact bel.trans ((below_regrown wr dq osq).mono bel.size)
            clear hw'' fb dg0 dg1 dg2
            go_wp2_with fail
            go_ret
            exact ⟨by rw [HA.out]; rfl, B4⟩
          · have HS : Hid (Ob.stepN n false L k = true) := by
              show _ = _
              simp only [Ob.stepN]; rw [HT.out, ← HR.out]; simp [Ob.behind]; omega
            have dg0 : decide ((0 : Int) < (k : Int)) = true := decide_eq_true kp
            have dg1 : decide (0 < k) = true := decide_eq_true (by omega)
            have dg2 : decide (f.2.2.1 < g) = false := decide_eq_false hc
            go_wp2_with fail
            refine wp_region_quiet_below (by kernel_rfl) (by kernel_rfl) ?_
            repeat (go_big_quiet_step (exact Calls.regrown_of (fb _)))
            refine wpQuiet_nil ?_
            intro w4 hw'
            obtain ⟨⟨dq, osq⟩, hw''⟩ := hw'
            have B4 : Below w.heap.size w w4 := by rw [hw'']; exact bel.trans ((below_regrown wr dq osq).mono bel.size)
            clear hw'' fb dg0 dg1 dg2
            go_wp2_with fail
            go_roundw
            case rel =>
              refine ⟨k + 1, by omega, by go_num, (fun j hj => ?_), B4⟩
              by_cases e : j = k
              · rw [e]; exact HS.out
              · exact HK.out j (by omega)
            case measure => simp [intOf]; omega
    · have e : k = L.length := by omega
      have HA : Hid (Ob.sideN n buy L = true) := Ob.upTo_yes (fun i hi => HK.out i (by omega))
      go_wp2_with fail
      go_ret
      exact ⟨by rw [HA.out]; rfl, bel⟩
end Go.Proofs.Ytnhpcknbnmhlhaa

/- The walks of the specification's question whether a ledger is right. -/
import Derived.Test.YtemhhmcedghcdaaProg
import Derived.Test.YtemhhmcedghcdaaLedgerMath
import Derived.Test.YtemhhmcedghcdaaCmdRightSpec
import Derived.WalkKit
import Derived.WalkSpells
import Derived.WalkLawsBesides
import Derived.BigRegion
import Derived.BigQuiet
import Derived.Deep.RegionWith
import Derived.Lib.QuietBelow
namespace Go.Proofs.Ytemhhmcedghcdaa
open Go.RowKit
set_option linter.unusedVariables false
set_option linter.unusedSimpArgs false

set_option maxHeartbeats 4000000 in
theorem l11Entry_any (o : En.E) (w : World) :
    Calls Try.prog 35 #[.agg #[.int .i64 o.1, .int .i64 o.2.1, .bool o.2.2.1, .int .i64 o.2.2.2.1, .int .i64 o.2.2.2.2.1, .int .i64 o.2.2.2.2.2.1, .int .i64 o.2.2.2.2.2.2]] w fun e w' => e = .returned (.bool (Lg.ok o)) ∧ Below w.heap.size w w' := by
  obtain ⟨id, ow, by', am, fi, cu, pa⟩ := o
  show Calls _ _ #[.agg #[.int .i64 id, .int .i64 ow, .bool by', .int .i64 am, .int .i64 fi, .int .i64 cu, .int .i64 pa]] w fun e w' => e = .returned (.bool (Lg.ok (id, ow, by', am, fi, cu, pa))) ∧ Below w.heap.size w w'
  have HB : Hid (∀ o, Below w.heap.size w (w.alloc o)) := fun o => (Below.refl w.heap.size w).alloc (Nat.le_refl _) o
  by_cases h0 : Cm.inn am 0 1000000 = true ∧ Cm.inn fi 0 1000000 = true ∧ Cm.inn cu 0 1000000 = true
  · obtain ⟨h1, h2, h3⟩ := h0
    have n1 : 0 ≤ fi ∧ fi ≤ 1000000 := by simpa [Cm.inn] using h2
    have n2 : 0 ≤ cu ∧ cu ≤ 1000000 := by simpa [Cm.inn] using h3
    obtain ⟨m1, m2⟩ := n1
    obtain ⟨m3, m4⟩ := n2
    go_enter Try.func35, Try.ntmps35
    go_wp2_with (first
      | (go_at_call 59; refine (l02Is_inn _ _ _ _).mono ?_; rintro e w' ⟨rfl, rfl⟩)
      | (go_at_call 53; refine (l04Owner_any _ _).mono ?_; rintro e w' ⟨rfl, rfl⟩)
      | (go_at_call 58; refine (l04Id_any _ _).mono ?_; rintro e w' ⟨rfl, rfl⟩))
    all_goals
      go_ret
      refine ⟨?_, HB.out _⟩
      first | (rw [Lg.ok_last (by assumption) (by assumption) (by assumption) (by assumption) (by assumption) (by assumption)]; rfl) | (rw [show Lg.ok _ = Cm.inn pa 0 (10000 * fi) from by simp_all [Lg.ok, Cm.inn] <;> omega]; rfl) | (rw [show Lg.ok _ = false from by simp_all [Lg.ok, Cm.inn] <;> omega]; rfl)
  · have hx : Cm.inn am 0 1000000 = false ∨ (Cm.inn am 0 1000000 = true ∧ Cm.inn fi 0 1000000 = false) ∨ (Cm.inn am 0 1000000 = true ∧ Cm.inn fi 0 1000000 = true ∧ Cm.inn cu 0 1000000 = false) := by
      cases h1 : Cm.inn am 0 1000000 <;> cases h2 : Cm.inn fi 0 1000000 <;> cases h3 : Cm.inn cu 0 1000000 <;> simp_all
    clear h0
    rcases hx with h1 | ⟨h1, h2⟩ | ⟨h1, h2, h3⟩
    all_goals
      go_enter Try.func35, Try.ntmps35
      go_wp2_with (first
        | (go_at_call 59; refine (l02Is_inn _ _ _ _).mono ?_; rintro e w' ⟨rfl, rfl⟩)
        | (go_at_call 53; refine (l04Owner_any _ _).mono ?_; rintro e w' ⟨rfl, rfl⟩)
        | (go_at_call 58; refine (l04Id_any _ _).mono ?_; rintro e w' ⟨rfl, rfl⟩))
    all_goals
      go_ret
      refine ⟨?_, HB.out _⟩
      first | (rw [Lg.ok_last (by assumption) (by assumption) (by assumption) (by assumption) (by assumption) (by assumption)]; rfl) | (rw [show Lg.ok _ = Cm.inn pa 0 (10000 * fi) from by simp_all [Lg.ok, Cm.inn] <;> omega]; rfl) | (rw [show Lg.ok _ = false from by simp_all [Lg.ok, Cm.inn] <;> omega]; rfl)

set_option maxHeartbeats 8000000 in
theorem ledgerRight_spec (v : Value) (L : List En.E) (w : World) (hv : Rk.View En.S w v L) (hl : L.length ≤ 1048576) :
    Calls Try.prog 10 #[v] w fun e w' => e = .returned (.bool (Lg.right L)) ∧ Below w.heap.size w w' := by
  obtain ⟨a, cap, rfl, hs⟩ := hv
  go_enter Try.func10, Try.ntmps10
  go_wp2_with fail
  go_loopw [3] (fun i wr => ∃ k : Nat, k ≤ L.length ∧ i = .int .i64 k ∧ Hid (∀ j, j < k → Lg.ok (Lg.at' L j) = true ∧ Lg.up L j = true) ∧ Below w.heap.size w wr) (fun i _ => L.length - (intOf i).toNat)
  case atStart => exact ⟨0, Nat.zero_le _, rfl, fun j hj => absurd hj (by omega), Below.refl _ _⟩
  case round =>
    obtain ⟨k, hk, rfl, HK, bel⟩ := hrel
    by_cases hlt : k < L.length
    · obtain ⟨b, o, rfl, hb, hs1⟩ := hs (by omega)
      have hs' := hs1.below hb bel
      have q0 := En.c0 hs' hlt
      have q1 := En.c1 hs' hlt
      have q2 := En.c2 hs' hlt
      have q3 := En.c3 hs' hlt
      have q4 := En.c4 hs' hlt
      have q5 := En.c5 hs' hlt
      have q6 := En.c6 hs' hlt
      obtain ⟨f, hf⟩ : ∃ f, f = Rk.at_ En.S L k := ⟨_, rfl⟩
      have HF := Fk.hide hf
      rw [← hf] at q0 q1 q2 q3 q4 q5 q6
      clear hf
      have fb : ∀ w', Calls Try.prog 35 #[.agg #[.int .i64 f.1, .int .i64 f.2.1, .bool f.2.2.1, .int .i64 f.2.2.2.1, .int .i64 f.2.2.2.2.1, .int .i64 f.2.2.2.2.2.1, .int .i64 f.2.2.2.2.2.2]] w' fun e w'' => e = .returned (.bool (Lg.ok f)) ∧ Below w'.heap.size w' w'' := fun w' => l11Entry_any f w'
      obtain ⟨r, hr⟩ : ∃ r, r = Lg.ok f := ⟨_, rfl⟩
      rw [← hr] at fb
      have HR : Hid (r = Lg.ok (Lg.at' L k)) := by show _ = _; rw [hr, HF.out]
      clear hr
      have rq0 := cell_regrown q0
      have rq1 := cell_regrown q1
      have rq2 := cell_regrown q2
      have rq3 := cell_regrown q3
      have rq4 := cell_regrown q4
      have rq5 := cell_regrown q5
      have rq6 := cell_regrown q6
      cases r with
      | false =>
        have HA : Hid (Lg.right L = false) := Lg.right_ill (Lg.upTo_no hlt HR.out.symm)
        clear hs'
        go_wp2_with fail
        refine wp_region_quiet_below (by kernel_rfl) (by kernel_rfl) ?_
        repeat (go_big_quiet_step (exact Calls.regrown_of (fb _)))
        refine wpQuiet_nil ?_
        intro w4 hw'
        obtain ⟨⟨dq, osq⟩, hw''⟩ := hw'
        have B4 : Below w.heap.size w w4 := by rw [hw'']; exact bel.trans ((below_regrown wr dq osq).mono bel.size)
        clear hw'' fb
        go_wp2_with fail
        go_ret
        exact ⟨by rw [HA.out]; rfl, B4⟩
      | true =>
      by_cases hk0 : k = 0
      · have HS : Hid (Lg.up L k = true) := by
          show _ = _
          simp [Lg.up, hk0]
        have dg0 : decide ((0 : Int) < (k : Int)) = false := decide_eq_false (by omega)
        have dg1 : decide (0 < k) = false := decide_eq_false (by omega)
        clear hs' hk0
        go_wp2_with fail
        refine wp_region_quiet_below (by kernel_rfl) (by kernel_rfl) ?_
        repeat (go_big_quiet_step (exact Calls.regrown_of (fb _)))
        refine wpQuiet_nil ?_
        intro w4 hw'
        obtain ⟨⟨dq, osq⟩, hw''⟩ := hw'
        have B4 : Below w.heap.size w w4 := by rw [hw'']; exact bel.trans ((below_regrown wr dq osq).mono bel.size)
        clear hw'' fb dg0 dg1
        go_wp2_with fail
        go_roundw
        case rel =>
          refine ⟨k + 1, by omega, by go_num, (fun j hj => ?_), B4⟩
          by_cases e : j = k
          · rw [e]; exact ⟨HR.out.symm, HS.out⟩
          · exact HK.out j (by omega)
        case measure => simp [intOf]; omega
      · have kp : (0 : Int) < (k : Int) := by omega
        have k2' : ((k : Int) - 1).toNat = k - 1 := by omega
        have k3 : (0 : Int) ≤ (k : Int) - 1 := by omega
        have k4 : (k : Int) - 1 < (L.length : Int) := by omega
        have p0 := En.c0 hs' (k := k - 1) (by omega)
        have hu : Lg.up L k = decide ((Lg.at' L (k - 1)).1 < (Lg.at' L k).1) := by simp [Lg.up, hk0]
        obtain ⟨g, hg⟩ : ∃ f, f = (Rk.at_ En.S L (k - 1)).1 := ⟨_, rfl⟩
        rw [← hg] at p0
        have HU : Hid (Lg.up L k = decide (g < f.1)) := by show _ = _; rw [hu, hg, HF.out]
        clear hg hs' hu
        have rp0 := cell_regrown p0
        have dg0 : decide ((0 : Int) < (k : Int)) = true := decide_eq_true kp
        have dg1 : decide (0 < k) = true := decide_eq_true (by omega)
        by_cases hc : g < f.1
        · have HS : Hid (Lg.up L k = true) := by show _ = _; rw [HU.out]; exact decide_eq_true hc
          have dg2 : decide (f.1 ≤ g) = false := decide_eq_false (by omega)
          go_wp2_with fail
          refine wp_region_quiet_below (by kernel_rfl) (by kernel_rfl) ?_
          repeat (go_big_quiet_step (exact Calls.regrown_of (fb _)))
          refine wpQuiet_nil ?_
          intro w4 hw'
          obtain ⟨⟨dq, osq⟩, hw''⟩ := hw'
          have B4 : Below w.heap.size w w4 := by rw [hw'']; exact bel.trans ((below_regrown wr dq osq).mono bel.size)
          clear hw'' fb dg0 dg1 dg2
          go_wp2_with fail
          go_roundw
          case rel =>
            refine ⟨k + 1, by omega, by go_num, (fun j hj => ?_), B4⟩
            by_cases e : j = k
            · rw [e]; exact ⟨HR.out.symm, HS.out⟩
            · exact HK.out j (by omega)
          case measure => simp [intOf]; omega
        · have HA : Hid (Lg.right L = false) := Lg.right_down (Lg.upTo_no hlt (by rw [HU.out]; exact decide_eq_false hc))
          have dg2 : decide (f.1 ≤ g) = true := decide_eq_true (by omega)
          go_wp2_with fail
          refine wp_region_quiet_below (by kernel_rfl) (by kernel_rfl) ?_
          repeat (go_big_quiet_step (exact Calls.regrown_of (fb _)))
          refine wpQuiet_nil ?_
          intro w4 hw'
          obtain ⟨⟨dq, osq⟩, hw''⟩ := hw'
          have B4 : Below w.heap.size w w4 := by rw [hw'']; exact bel.trans ((below_regrown wr dq osq).mono bel.size)
          clear hw'' fb dg0 dg1 dg2
          go_wp2_with fail
          go_ret
          exact ⟨by rw [HA.out]; rfl, B4⟩
    · have e : k = L.length := by omega
      have HA : Hid (Lg.right L = decide ((L.length : Int) ≤ 60)) := Lg.right_yes (Lg.upTo_yes fun i hi => (HK.out i (by omega)).1) (Lg.upTo_yes fun i hi => (HK.out i (by omega)).2)
      go_wp2_with fail
      go_ret
      exact ⟨by rw [HA.out]; simp, bel⟩
end Go.Proofs.Ytemhhmcedghcdaa

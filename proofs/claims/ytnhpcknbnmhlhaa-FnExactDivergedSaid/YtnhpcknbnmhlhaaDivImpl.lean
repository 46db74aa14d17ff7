/- The walks of the program's firstDifference and Diverged. -/
import Derived.Test.YtnhpcknbnmhlhaaDivMath
import Derived.Test.YtnhpcknbnmhlhaaProg
import Derived.WalkKit
import Derived.WalkSpells
import Derived.WalkLawsBesides
import Derived.BigQuiet
import Derived.BigRegion
import Derived.Deep.RegionWith
import Derived.WalkSmall
namespace Go.Proofs.Ytnhpcknbnmhlhaa
open Go.RowKit
set_option linter.unusedVariables false
set_option linter.unusedSimpArgs false
set_option maxRecDepth 100000 in
set_option maxHeartbeats 8000000 in
theorem firstDifference_any (v0 v1 : Value) (F G : List Vt.E) (w : World) (h0 : Rk.View Vt.S w v0 F) (h1 : Rk.View Vt.S w v1 G) (l0 : F.length ≤ 4194304) (l1 : G.length ≤ 4194304) :
    Calls Try.prog 24 #[v0, v1] w fun e w' => e = .returned (.int .i64 (Dv.div F G)) ∧ Below w.heap.size w w' := by
  obtain ⟨a, cap, rfl, hs0⟩ := h0
  obtain ⟨a2, cap2, rfl, hs1⟩ := h1
  by_cases hm : G.length < F.length
  · obtain ⟨n, hn⟩ : ∃ n, n = G.length := ⟨_, rfl⟩
    have hn0 : n ≤ F.length := by omega
    have hn1 : n ≤ G.length := by omega
    have HN : Hid (n = F.length ∨ n = G.length) := by show _ ∨ _; omega
    have HM := Fk.hide hn
    go_enter Try.func24, Try.ntmps24
    go_wp2_with fail
    rw [← hn]
    clear hn hm
    go_loopw [13] (fun i wr => ∃ k : Nat, k ≤ n ∧ i = .int .i64 k ∧ Hid (Dv.Upto F G k) ∧ Hid (Below w.heap.size w wr)) (fun i _ => n - (intOf i).toNat)
    case atStart => exact ⟨0, Nat.zero_le _, rfl, (fun i hi => absurd hi (by omega)), Below.refl _ _⟩
    case round =>
      obtain ⟨k, hk, rfl, HK, HB⟩ := hrel
      by_cases hlt : k < n
      · have k0 : k < F.length := by omega
        have k1 : k < G.length := by omega
        obtain ⟨b, o, rfl, hb, hsa⟩ := hs0 (by omega)
        obtain ⟨b2, o2, rfl, hb2, hsb⟩ := hs1 (by omega)
        have s0 := hsa.below hb HB.out
        have s1 := hsb.below hb2 HB.out
        obtain ⟨⟨ki, idd, ot, pr, am⟩, hx⟩ : ∃ x, x = Rk.at_ Vt.S F k := ⟨_, rfl⟩
        obtain ⟨⟨ki2, idd2, ot2, pr2, am2⟩, hy⟩ : ∃ x, x = Rk.at_ Vt.S G k := ⟨_, rfl⟩
        have q0 : wr.cell? ⟨b, o + k * 5, none⟩ = some (.int .i64 ki) := by have := Vt.c0 s0 k0; rw [← hx] at this; exact this
        have q1 : wr.cell? ⟨b, o + k * 5 + 1, none⟩ = some (.int .i64 idd) := by have := Vt.c1 s0 k0; rw [← hx] at this; exact this
        have q2 : wr.cell? ⟨b, o + k * 5 + 2, none⟩ = some (.int .i64 ot) := by have := Vt.c2 s0 k0; rw [← hx] at this; exact this
        have q3 : wr.cell? ⟨b, o + k * 5 + 3, none⟩ = some (.int .i64 pr) := by have := Vt.c3 s0 k0; rw [← hx] at this; exact this
        have q4 : wr.cell? ⟨b, o + k * 5 + 4, none⟩ = some (.int .i64 am) := by have := Vt.c4 s0 k0; rw [← hx] at this; exact this
        have t0 : wr.cell? ⟨b2, o2 + k * 5, none⟩ = some (.int .i64 ki2) := by have := Vt.c0 s1 k1; rw [← hy] at this; exact this
        have t1 : wr.cell? ⟨b2, o2 + k * 5 + 1, none⟩ = some (.int .i64 idd2) := by have := Vt.c1 s1 k1; rw [← hy] at this; exact this
        have t2 : wr.cell? ⟨b2, o2 + k * 5 + 2, none⟩ = some (.int .i64 ot2) := by have := Vt.c2 s1 k1; rw [← hy] at this; exact this
        have t3 : wr.cell? ⟨b2, o2 + k * 5 + 3, none⟩ = some (.int .i64 pr2) := by have := Vt.c3 s1 k1; rw [← hy] at this; exact this
        have t4 : wr.cell? ⟨b2, o2 + k * 5 + 4, none⟩ = some (.int .i64 am2) := by have := Vt.c4 s1 k1; rw [← hy] at this; exact this
        have K0 := Fk.hide k0
        have K1 := Fk.hide k1
        have HX := Fk.hide hx
        have HY := Fk.hide hy
        have HS0 := Fk.hide hs0
        have HS1 := Fk.hide hs1
        clear hx hy s0 s1 hsa hsb hs0 hs1
        have HBD : Hid (Below w.heap.size w wr.drew) := HB.out.trans ((Below.drew (Below.refl _ _)).mono HB.out.size)
        by_cases e0 : ki2 = ki
        case neg =>
          have d1 : decide (ki = ki2) = false := decide_eq_false (fun e => e0 e.symm)
          have d2 : (ki == ki2) = false := by rw [beq_eq_false_iff_ne]; exact fun e => e0 e.symm
          have d3 : ¬ ki = ki2 := fun e => e0 e.symm
          have HE : Hid (Dv.div F G = (k : Int)) := HK.out.differ K0.out K1.out (fun e => e0 (by have h1 := HX.out; have h2 := HY.out; rw [e, ← h2] at h1; simp only [Prod.mk.injEq] at h1; exact h1.1.symm))
          clear e0
          go_wp2_with fail
          go_region
          all_goals
            go_wp2_with fail
            go_ret
            exact ⟨by rw [HE.out]; rfl, HBD.out⟩
        subst e0
        by_cases e1 : idd2 = idd
        case neg =>
          have d1 : decide (idd = idd2) = false := decide_eq_false (fun e => e1 e.symm)
          have d2 : (idd == idd2) = false := by rw [beq_eq_false_iff_ne]; exact fun e => e1 e.symm
          have d3 : ¬ idd = idd2 := fun e => e1 e.symm
          have HE : Hid (Dv.div F G = (k : Int)) := HK.out.differ K0.out K1.out (fun e => e1 (by have h1 := HX.out; have h2 := HY.out; rw [e, ← h2] at h1; simp only [Prod.mk.injEq] at h1; exact h1.2.1.symm))
          clear e1
          go_wp2_with fail
          go_region
          all_goals
            go_wp2_with fail
            go_ret
            exact ⟨by rw [HE.out]; rfl, HBD.out⟩
        subst e1
        by_cases e2 : ot2 = ot
        case neg =>
          have d1 : decide (ot = ot2) = false := decide_eq_false (fun e => e2 e.symm)
          have d2 : (ot == ot2) = false := by rw [beq_eq_false_iff_ne]; exact fun e => e2 e.symm
          have d3 : ¬ ot = ot2 := fun e => e2 e.symm
          have HE : Hid (Dv.div F G = (k : Int)) := HK.out.differ K0.out K1.out (fun e => e2 (by have h1 := HX.out; have h2 := HY.out; rw [e, ← h2] at h1; simp only [Prod.mk.injEq] at h1; exact h1.2.2.1.symm))
          clear e2
          go_wp2_with fail
          go_region
          all_goals
            go_wp2_with fail
            go_ret
            exact ⟨by rw [HE.out]; rfl, HBD.out⟩
        subst e2
        by_cases e3 : pr2 = pr
        case neg =>
          have d1 : decide (pr = pr2) = false := decide_eq_false (fun e => e3 e.symm)
          have d2 : (pr == pr2) = false := by rw [beq_eq_false_iff_ne]; exact fun e => e3 e.symm
          have d3 : ¬ pr = pr2 := fun e => e3 e.symm
          have HE : Hid (Dv.div F G = (k : Int)) := HK.out.differ K0.out K1.out (fun e => e3 (by have h1 := HX.out; have h2 := HY.out; rw [e, ← h2] at h1; simp only [Prod.mk.injEq] at h1; exact h1.2.2.2.1.symm))
          clear e3
          go_wp2_with fail
          go_region
          all_goals
            go_wp2_with fail
            go_ret
            exact ⟨by rw [HE.out]; rfl, HBD.out⟩
        subst e3
        by_cases e4 : am2 = am
        case neg =>
          have d1 : decide (am = am2) = false := decide_eq_false (fun e => e4 e.symm)
          have d2 : (am == am2) = false := by rw [beq_eq_false_iff_ne]; exact fun e => e4 e.symm
          have d3 : ¬ am = am2 := fun e => e4 e.symm
          have HE : Hid (Dv.div F G = (k : Int)) := HK.out.differ K0.out K1.out (fun e => e4 (by have h1 := HX.out; have h2 := HY.out; rw [e, ← h2] at h1; simp only [Prod.mk.injEq] at h1; exact h1.2.2.2.2.symm))
          clear e4
          go_wp2_with fail
          go_region
          all_goals
            go_wp2_with fail
            go_ret
            exact ⟨by rw [HE.out]; rfl, HBD.out⟩
        subst e4
        have HK2 : Hid (Dv.Upto F G (k + 1)) := HK.out.step (by rw [← HX.out, ← HY.out])
        go_wp2_with fail
        go_region
        all_goals
          go_wp2_with fail
          go_roundw
          case rel => exact ⟨k + 1, by omega, by go_num, HK2, HBD⟩
          case measure => simp [intOf]; omega
      · have e : k = n := by omega
        subst e
        by_cases hl : F.length = G.length
        · have HE : Hid (Dv.div F G = -1) := HK.out.alike (by have := HN.out; omega) (by have := HN.out; omega)
          have hq : (F.length : Int) = (k : Int) := by have := HN.out; omega
          have e1 : decide ((F.length : Int) = (k : Int)) = true := decide_eq_true (by omega)
          have e2 : ((F.length : Int) == (k : Int)) = true := by rw [beq_iff_eq]; omega
          have e3 : ((F.length : Int) != (k : Int)) = false := by unfold bne; rw [e2]; rfl
          have HLL := Fk.hide hl
          clear hl
          clear hq
          go_wp2_with fail
          go_ret
          exact ⟨by rw [HE.out]; rfl, HB.out⟩
        · have HE : Hid (Dv.div F G = (k : Int)) := HK.out.ended hn0 hn1 HN.out hl
          have hq : ¬ ((F.length : Int) = (k : Int)) := by have := HM.out; omega
          have e1 : decide ((F.length : Int) = (k : Int)) = false := decide_eq_false (by omega)
          have e2 : ((F.length : Int) == (k : Int)) = false := by rw [beq_eq_false_iff_ne]; omega
          have e3 : ((F.length : Int) != (k : Int)) = true := by unfold bne; rw [e2]; rfl
          have e4 : ¬ (F.length : Int) = (k : Int) := by omega
          have HLL := Fk.hide hl
          clear hl
          clear hq
          go_wp2_with fail
          go_ret
          exact ⟨by rw [HE.out]; rfl, HB.out⟩
  · obtain ⟨n, hn⟩ : ∃ n, n = F.length := ⟨_, rfl⟩
    have hn0 : n ≤ F.length := by omega
    have hn1 : n ≤ G.length := by omega
    have HN : Hid (n = F.length ∨ n = G.length) := by show _ ∨ _; omega
    have HM := Fk.hide hn
    go_enter Try.func24, Try.ntmps24
    go_wp2_with fail
    rw [← hn]
    clear hn hm
    go_loopw [13] (fun i wr => ∃ k : Nat, k ≤ n ∧ i = .int .i64 k ∧ Hid (Dv.Upto F G k) ∧ Hid (Below w.heap.size w wr)) (fun i _ => n - (intOf i).toNat)
    case atStart => exact ⟨0, Nat.zero_le _, rfl, (fun i hi => absurd hi (by omega)), Below.refl _ _⟩
    case round =>
      obtain ⟨k, hk, rfl, HK, HB⟩ := hrel
      by_cases hlt : k < n
      · have k0 : k < F.length := by omega
        have k1 : k < G.length := by omega
        obtain ⟨b, o, rfl, hb, hsa⟩ := hs0 (by omega)
        obtain ⟨b2, o2, rfl, hb2, hsb⟩ := hs1 (by omega)
        have s0 := hsa.below hb HB.out
        have s1 := hsb.below hb2 HB.out
        obtain ⟨⟨ki, idd, ot, pr, am⟩, hx⟩ : ∃ x, x = Rk.at_ Vt.S F k := ⟨_, rfl⟩
        obtain ⟨⟨ki2, idd2, ot2, pr2, am2⟩, hy⟩ : ∃ x, x = Rk.at_ Vt.S G k := ⟨_, rfl⟩
        have q0 : wr.cell? ⟨b, o + k * 5, none⟩ = some (.int .i64 ki) := by have := Vt.c0 s0 k0; rw [← hx] at this; exact this
        have q1 : wr.cell? ⟨b, o + k * 5 + 1, none⟩ = some (.int .i64 idd) := by have := Vt.c1 s0 k0; rw [← hx] at this; exact this
        have q2 : wr.cell? ⟨b, o + k * 5 + 2, none⟩ = some (.int .i64 ot) := by have := Vt.c2 s0 k0; rw [← hx] at this; exact this
        have q3 : wr.cell? ⟨b, o + k * 5 + 3, none⟩ = some (.int .i64 pr) := by have := Vt.c3 s0 k0; rw [← hx] at this; exact this
        have q4 : wr.cell? ⟨b, o + k * 5 + 4, none⟩ = some (.int .i64 am) := by have := Vt.c4 s0 k0; rw [← hx] at this; exact this
        have t0 : wr.cell? ⟨b2, o2 + k * 5, none⟩ = some (.int .i64 ki2) := by have := Vt.c0 s1 k1; rw [← hy] at this; exact this
        have t1 : wr.cell? ⟨b2, o2 + k * 5 + 1, none⟩ = some (.int .i64 idd2) := by have := Vt.c1 s1 k1; rw [← hy] at this; exact this
        have t2 : wr.cell? ⟨b2, o2 + k * 5 + 2, none⟩ = some (.int .i64 ot2) := by have := Vt.c2 s1 k1; rw [← hy] at this; exact this
        have t3 : wr.cell? ⟨b2, o2 + k * 5 + 3, none⟩ = some (.int .i64 pr2) := by have := Vt.c3 s1 k1; rw [← hy] at this; exact this
        have t4 : wr.cell? ⟨b2, o2 + k * 5 + 4, none⟩ = some (.int .i64 am2) := by have := Vt.c4 s1 k1; rw [← hy] at this; exact this
        have K0 := Fk.hide k0
        have K1 := Fk.hide k1
        have HX := Fk.hide hx
        have HY := Fk.hide hy
        have HS0 := Fk.hide hs0
        have HS1 := Fk.hide hs1
        clear hx hy s0 s1 hsa hsb hs0 hs1
        have HBD : Hid (Below w.heap.size w wr.drew) := HB.out.trans ((Below.drew (Below.refl _ _)).mono HB.out.size)
        by_cases e0 : ki2 = ki
        case neg =>
          have d1 : decide (ki = ki2) = false := decide_eq_false (fun e => e0 e.symm)
          have d2 : (ki == ki2) = false := by rw [beq_eq_false_iff_ne]; exact fun e => e0 e.symm
          have d3 : ¬ ki = ki2 := fun e => e0 e.symm
          have HE : Hid (Dv.div F G = (k : Int)) := HK.out.differ K0.out K1.out (fun e => e0 (by have h1 := HX.out; have h2 := HY.out; rw [e, ← h2] at h1; simp only [Prod.mk.injEq] at h1; exact h1.1.symm))
          clear e0
          go_wp2_with fail
          go_region
          all_goals
            go_wp2_with fail
            go_ret
            exact ⟨by rw [HE.out]; rfl, HBD.out⟩
        subst e0
        by_cases e1 : idd2 = idd
        case neg =>
          have d1 : decide (idd = idd2) = false := decide_eq_false (fun e => e1 e.symm)
          have d2 : (idd == idd2) = false := by rw [beq_eq_false_iff_ne]; exact fun e => e1 e.symm
          have d3 : ¬ idd = idd2 := fun e => e1 e.symm
          have HE : Hid (Dv.div F G = (k : Int)) := HK.out.differ K0.out K1.out (fun e => e1 (by have h1 := HX.out; have h2 := HY.out; rw [e, ← h2] at h1; simp only [Prod.mk.injEq] at h1; exact h1.2.1.symm))
          clear e1
          go_wp2_with fail
          go_region
          all_goals
            go_wp2_with fail
            go_ret
            exact ⟨by rw [HE.out]; rfl, HBD.out⟩
        subst e1
        by_cases e2 : ot2 = ot
        case neg =>
          have d1 : decide (ot = ot2) = false := decide_eq_false (fun e => e2 e.symm)
          have d2 : (ot == ot2) = false := by rw [beq_eq_false_iff_ne]; exact fun e => e2 e.symm
          have d3 : ¬ ot = ot2 := fun e => e2 e.symm
          have HE : Hid (Dv.div F G = (k : Int)) := HK.out.differ K0.out K1.out (fun e => e2 (by have h1 := HX.out; have h2 := HY.out; rw [e, ← h2] at h1; simp only [Prod.mk.injEq] at h1; exact h1.2.2.1.symm))
          clear e2
          go_wp2_with fail
          go_region
          all_goals
            go_wp2_with fail
            go_ret
            exact ⟨by rw [HE.out]; rfl, HBD.out⟩
        subst e2
        by_cases e3 : pr2 = pr
        case neg =>
          have d1 : decide (pr = pr2) = false := decide_eq_false (fun e => e3 e.symm)
          have d2 : (pr == pr2) = false := by rw [beq_eq_false_iff_ne]; exact fun e => e3 e.symm
          have d3 : ¬ pr = pr2 := fun e => e3 e.symm
          have HE : Hid (Dv.div F G = (k : Int)) := HK.out.differ K0.out K1.out (fun e => e3 (by have h1 := HX.out; have h2 := HY.out; rw [e, ← h2] at h1; simp only [Prod.mk.injEq] at h1; exact h1.2.2.2.1.symm))
          clear e3
          go_wp2_with fail
          go_region
          all_goals
            go_wp2_with fail
            go_ret
            exact ⟨by rw [HE.out]; rfl, HBD.out⟩
        subst e3
        by_cases e4 : am2 = am
        case neg =>
          have d1 : decide (am = am2) = false := decide_eq_false (fun e => e4 e.symm)
          have d2 : (am == am2) = false := by rw [beq_eq_false_iff_ne]; exact fun e => e4 e.symm
          have d3 : ¬ am = am2 := fun e => e4 e.symm
          have HE : Hid (Dv.div F G = (k : Int)) := HK.out.differ K0.out K1.out (fun e => e4 (by have h1 := HX.out; have h2 := HY.out; rw [e, ← h2] at h1; simp only [Prod.mk.injEq] at h1; exact h1.2.2.2.2.symm))
          clear e4
          go_wp2_with fail
          go_region
          all_goals
            go_wp2_with fail
            go_ret
            exact ⟨by rw [HE.out]; rfl, HBD.out⟩
        subst e4
        have HK2 : Hid (Dv.Upto F G (k + 1)) := HK.out.step (by rw [← HX.out, ← HY.out])
        go_wp2_with fail
        go_region
        all_goals
          go_wp2_with fail
          go_roundw
          case rel => exact ⟨k + 1, by omega, by go_num, HK2, HBD⟩
          case measure => simp [intOf]; omega
      · have e : k = n := by omega
        subst e
        by_cases hl : F.length = G.length
        · have HE : Hid (Dv.div F G = -1) := HK.out.alike (by have := HN.out; omega) (by have := HN.out; omega)
          have hq : (k : Int) = (G.length : Int) := by have := HN.out; omega
          have e1 : decide ((k : Int) = (G.length : Int)) = true := decide_eq_true (by omega)
          have e2 : ((k : Int) == (G.length : Int)) = true := by rw [beq_iff_eq]; omega
          have e3 : ((k : Int) != (G.length : Int)) = false := by unfold bne; rw [e2]; rfl
          have HLL := Fk.hide hl
          clear hl
          clear hq
          go_wp2_with fail
          go_ret
          exact ⟨by rw [HE.out]; rfl, HB.out⟩
        · have HE : Hid (Dv.div F G = (k : Int)) := HK.out.ended hn0 hn1 HN.out hl
          have hq : ¬ ((k : Int) = (G.length : Int)) := by have := HM.out; omega
          have e1 : decide ((k : Int) = (G.length : Int)) = false := decide_eq_false (by omega)
          have e2 : ((k : Int) == (G.length : Int)) = false := by rw [beq_eq_false_iff_ne]; omega
          have e3 : ((k : Int) != (G.length : Int)) = true := by unfold bne; rw [e2]; rfl
          have e4 : ¬ (k : Int) = (G.length : Int) := by omega
          have HLL := Fk.hide hl
          clear hl
          clear hq
          go_wp2_with fail
          go_ret
          exact ⟨by rw [HE.out]; rfl, HB.out⟩
set_option maxHeartbeats 2000000 in
theorem diverged_impl (v0 v1 : Value) (F G : List Vt.E) (w : World) (h0 : Rk.View Vt.S w v0 F) (h1 : Rk.View Vt.S w v1 G) (l0 : F.length ≤ 4194304) (l1 : G.length ≤ 4194304) :
    Calls Try.prog 13 #[v0, v1] w fun e w' => e = .returned (.int .i64 (Dv.told F G)) ∧ Below w.heap.size w w' := by
  have H0 := Fk.hide h0
  have H1 := Fk.hide h1
  obtain ⟨a, cap, rfl, _⟩ := h0
  obtain ⟨a2, cap2, rfl, _⟩ := h1
  by_cases c0 : F.length > 400
  · have HE : Hid (Dv.told F G = 0) := by show _ = _; unfold Dv.told; rw [if_pos (.inl c0)]
    have d1 : decide ((400 : Int) < (F.length : Int)) = true := decide_eq_true (by omega)
    go_enter Try.func13, Try.ntmps13
    go_wp2_with fail
    go_ret
    exact ⟨by rw [HE.out]; rfl, Below.refl _ _⟩
  by_cases c1 : G.length > 400
  · have HE : Hid (Dv.told F G = 0) := by show _ = _; unfold Dv.told; rw [if_pos (.inr c1)]
    have d1 : decide ((400 : Int) < (F.length : Int)) = false := decide_eq_false (by omega)
    have d2 : decide ((400 : Int) < (G.length : Int)) = true := decide_eq_true (by omega)
    go_enter Try.func13, Try.ntmps13
    go_wp2_with fail
    go_ret
    exact ⟨by rw [HE.out]; rfl, Below.refl _ _⟩
  have HT : Hid (Dv.told F G = Dv.div F G) := by show _ = _; unfold Dv.told; rw [if_neg (by omega)]
  have d1 : decide ((400 : Int) < (F.length : Int)) = false := decide_eq_false (by omega)
  have d2 : decide ((400 : Int) < (G.length : Int)) = false := decide_eq_false (by omega)
  go_enter Try.func13, Try.ntmps13
  go_wp2_with fail
  refine (firstDifference_any _ _ F G _ H0.out H1.out l0 l1).mono ?_
  rintro e w1 ⟨rfl, k1⟩
  go_wp2_with fail
  go_ret
  exact ⟨by rw [HT.out]; rfl, k1⟩
end Go.Proofs.Ytnhpcknbnmhlhaa

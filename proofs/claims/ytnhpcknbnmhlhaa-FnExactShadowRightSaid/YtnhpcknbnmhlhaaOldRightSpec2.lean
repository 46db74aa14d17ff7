/- The walk of the specification's question whether an older book is right. -/
import Derived.Test.YtnhpcknbnmhlhaaOldBothSpec
namespace Go.Proofs.Ytnhpcknbnmhlhaa
open Go.RowKit
set_option linter.unusedVariables false
set_option linter.unusedSimpArgs false

set_option maxRecDepth 100000 in
set_option maxHeartbeats 8000000 in
theorem oldRight_spec (u v : Value) (n : Int) (B A : List Or.E) (w : World) (hu : Rk.View Or.S w u B) (hv : Rk.View Or.S w v A) (su : Rk.Shut u) (sv : Rk.Shut v) (l0 : B.length ≤ 1048576) (l1 : A.length ≤ 1048576) :
    Calls Try.prog 29 #[.agg #[u, v, .int .i64 n]] w fun e w' => e = .returned (.bool (Ob.right B A n)) ∧ Below w.heap.size w w' := by
  obtain ⟨i0, hi, hz0, hz1, hz2⟩ := info_parts infoOrdS
  obtain ⟨W, hW⟩ : ∃ W, W = w.alloc (.cells #[u, v, .int .i64 n] 34) := ⟨_, rfl⟩
  have b0 : Below w.heap.size w W := by rw [hW]; exact (Below.refl _ _).alloc (Nat.le_refl _) _
  have c0 : W.cell? ⟨w.heap.size, 0, none⟩ = some u := by rw [hW, Fk.cellTop _ _ _ _ _ rfl]; rfl
  have c1 : W.cell? ⟨w.heap.size, 1, none⟩ = some v := by rw [hW, Fk.cellTop _ _ _ _ _ rfl]; rfl
  have c2 : W.cell? ⟨w.heap.size, 2, none⟩ = some (.int .i64 n) := by rw [hW, Fk.cellTop _ _ _ _ _ rfl]; rfl
  have hz : w.heap.size < W.heap.size := by rw [hW]; simp
  have HU := Fk.hide hu
  have HV := Fk.hide hv
  obtain ⟨a0, cap0, rfl, _⟩ := hu
  obtain ⟨a1, cap1, rfl, _⟩ := hv
  have HW := Fk.hide hW
  clear hW
  go_enter Try.func29, Try.ntmps29
  go_wp2_with fail
  rw [← HW.out]
  have hb0 : Below w.heap.size w W.drew := b0.trans ((Below.drew (Below.refl W.heap.size W)).mono b0.size)
  have HB3 : Hid (Below w.heap.size w (W.drew.alloc (.cells #[] 87))) := hb0.alloc (by simp; omega) _
  have hM0 : Rk.Own Or.S (W.drew.alloc (.cells #[] 87)) W.heap.size 87 (.slice (some ⟨W.heap.size, 0, none⟩) 0 0) [] := Rk.own_empty W.drew 87 W.heap.size (by simp)
  have hb3 : Hid (W.heap.size ≤ (W.drew.alloc (.cells #[] 87)).heap.size) := by show _ ≤ _; simp
  have HM0 := Fk.hide hM0
  have HC := Fk.hide (⟨c0, c1, c2⟩ : _ ∧ _ ∧ _)
  have HZ := Fk.hide hz
  have d0 : (W.drew.alloc (.cells #[] 87)).cell? ⟨w.heap.size, 0, none⟩ = some (.slice a0 B.length cap0) := by rw [Fk.cellOld _ _ _ _ (by simp; omega)]; exact c0
  have d1 : (W.drew.alloc (.cells #[] 87)).cell? ⟨w.heap.size, 1, none⟩ = some (.slice a1 A.length cap1) := by rw [Fk.cellOld _ _ _ _ (by simp; omega)]; exact c1
  have d2 : (W.drew.alloc (.cells #[] 87)).cell? ⟨w.heap.size, 2, none⟩ = some (.int .i64 n) := by rw [Fk.cellOld _ _ _ _ (by simp; omega)]; exact c2
  clear hM0 hb0
  go_region_held3 (fun w' => w'.cell? ⟨w.heap.size, 0, none⟩ = some (.slice a0 B.length cap0) ∧ w'.cell? ⟨w.heap.size, 1, none⟩ = some (.slice a1 A.length cap1) ∧ w'.cell? ⟨w.heap.size, 2, none⟩ = some (.int .i64 n))
    (first | go_keep | (go_split_ands; exact ⟨by assumption, by assumption, by assumption⟩))
    (first
      | (refine Rk.step_append_view _ (by rfl) (.tmp 5) (.tmp 7) 32 (by rfl) W.heap.size 87 i0 _ 8 64 rfl Try.underlying32 hi hz0 hz1 hz2 (by rfl) (by decide) (.slice (some ⟨W.heap.size, 0, none⟩) 0 0) (.slice a0 B.length cap0) [] B (by rfl) (by rfl) HM0.out (HU.out.below HB3.out) su (by simp; omega) hb3.out ?_; intro u1 w1 o1 g1; rw [List.nil_append] at o1; obtain ⟨x1, m1, y1, rfl⟩ := o1.slice'; have HO1 := Fk.hide o1; have HB1 : Hid (Below w.heap.size w w1) := HB3.out.grown g1 HB3.out.size (fun j hj => by have := (HM0.out.lt j hj).1; omega); have hb1 : Hid (W.heap.size ≤ w1.heap.size) := Nat.le_trans hb3.out g1.size; have e0 : w1.cell? ⟨w.heap.size, 0, none⟩ = some (.slice a0 B.length cap0) := g1.cell d0 (fun e => by have := HM0.out.lt _ e.symm; simp only at this; omega); have e1 : w1.cell? ⟨w.heap.size, 1, none⟩ = some (.slice a1 A.length cap1) := g1.cell d1 (fun e => by have := HM0.out.lt _ e.symm; simp only at this; omega); have e2 : w1.cell? ⟨w.heap.size, 2, none⟩ = some (.int .i64 n) := g1.cell d2 (fun e => by have := HM0.out.lt _ e.symm; simp only at this; omega); clear o1 g1)
      | (refine Rk.step_append_view _ (by rfl) (.tmp 8) (.tmp 10) 32 (by rfl) W.heap.size 87 i0 _ 8 64 rfl Try.underlying32 hi hz0 hz1 hz2 (by rfl) (by decide) (.slice x1 m1 y1) (.slice a1 A.length cap1) B A (by rfl) (by rfl) HO1.out (HV.out.below HB1.out) sv (by omega) hb1.out ?_; intro u2 w2 o2 g2; have HB2 : Hid (Below w.heap.size w w2) := HB1.out.grown g2 HB1.out.size (fun j hj => by have := HO1.out.lt j hj; omega); obtain ⟨a2, n2, k2, rfl⟩ := o2.slice'; have HO2 := Fk.hide o2; have f0 : w2.cell? ⟨w.heap.size, 0, none⟩ = some (.slice a0 B.length cap0) := g2.cell e0 (fun e => by have := HO1.out.lt _ e.symm; simp only at this; omega); have f1 : w2.cell? ⟨w.heap.size, 1, none⟩ = some (.slice a1 A.length cap1) := g2.cell e1 (fun e => by have := HO1.out.lt _ e.symm; simp only at this; omega); have f2 : w2.cell? ⟨w.heap.size, 2, none⟩ = some (.int .i64 n) := g2.cell e2 (fun e => by have := HO1.out.lt _ e.symm; simp only at this; omega); have hb2 : Hid (W.heap.size ≤ w2.heap.size) := Nat.le_trans hb1.out g2.size; clear o2 g2))
  obtain ⟨M, hM⟩ : ∃ M, M = B ++ A := ⟨_, rfl⟩
  rw [← hM] at HO2
  obtain rfl : n2 = M.length := by obtain ⟨q1, q2, hx⟩ := HO2.out.slice; simp only [Value.slice.injEq] at hx; exact hx.2.1
  have HM := Fk.hide hM
  have hlM : M.length = B.length + A.length := by rw [hM]; simp
  clear hM c0 c1 c2 d0 d1 d2 e0 e1 e2
  have hgM : Hid (0 < M.length → ∃ g o, a2 = some ⟨g, o, none⟩ ∧ g < w2.heap.size ∧ Rk.Sees Or.S w2 g o M) := fun h => by
    obtain ⟨a', c', e, hh⟩ := HO2.out.view
    simp only [Value.slice.injEq] at e
    obtain ⟨e1, _⟩ := e
    rw [← e1] at hh
    exact hh h
  by_cases h24 : M.length ≤ 24
  case neg =>
    have h24' : (24 : Int) < (M.length : Int) := by omega
    have HA : Hid (Ob.right B A n = false) := Ob.right_long (fun h => h24 (by have := h.2.2; omega))
    clear hlM
    go_wp2_with fail
    go_ret
    exact ⟨by rw [HA.out]; rfl, HB2.out⟩
  have h24' : ¬ (24 : Int) < (M.length : Int) := by omega
  have HLM := Fk.hide hlM
  clear hlM
  go_wp2_with fail
  go_loopw [4] (fun i wr => ∃ k : Nat, k ≤ M.length ∧ i = .int .i64 k ∧ Hid (∀ j, j < k → Ob.okP (Ob.at' M j) = true) ∧ Below w2.heap.size w2 wr) (fun i _ => M.length - (intOf i).toNat)
  case atStart => exact ⟨0, Nat.zero_le _, rfl, fun j hj => absurd hj (by omega), Below.refl _ _⟩
  case round =>
    obtain ⟨k, hk, rfl, HK, bel⟩ := hrel
    have HBL := Fk.hide (HB2.out.trans (bel.mono HB2.out.size))
    by_cases hlt : k < M.length
    · obtain ⟨g, og, rfl, hb, hsM⟩ := hgM.out (by omega)
      have hs' := hsM.below hb bel
      have q5 := Or.c5 hs' hlt
      have q6 := Or.c6 hs' hlt
      have q7 := Or.c7 hs' hlt
      obtain ⟨f, hf⟩ : ∃ f, f = Rk.at_ Or.S M k := ⟨_, rfl⟩
      have HF := Fk.hide hf
      rw [← hf] at q5 q6 q7
      clear hf hs'
      obtain ⟨y5, hy5⟩ : ∃ x, x = f.2.2.2.2.2.1 := ⟨_, rfl⟩
      obtain ⟨y6, hy6⟩ : ∃ x, x = f.2.2.2.2.2.2.1 := ⟨_, rfl⟩
      obtain ⟨y7, hy7⟩ : ∃ x, x = f.2.2.2.2.2.2.2 := ⟨_, rfl⟩
      rw [← hy5] at q5
      rw [← hy6] at q6
      rw [← hy7] at q7
      have HP : Hid (Ob.okP (Ob.at' M k) = (decide (y5 = 0) && (decide (y6 = 0) && !y7))) := by
        show _ = _
        unfold Ob.okP Ob.at'
        rw [← HF.out, ← hy5, ← hy6, ← hy7]
      clear hy5 hy6 hy7
      by_cases z5 : y5 = 0
      case neg =>
        have HA : Hid (Ob.right B A n = false) := by
          show _ = _
          have e1 : Ob.plain (B ++ A) = false := by rw [← HM.out]; exact Ob.upTo_no hlt (by rw [HP.out]; simp [z5])
          rw [Ob.right_both, e1]; rfl
        have t1 : decide (y5 = 0) = false := decide_eq_false z5
        have t2 : (y5 == 0) = false := by simpa using z5
        have t3 : (y5 != 0) = true := by simpa using z5
        go_wp2_with fail
        go_ret
        exact ⟨by rw [HA.out]; rfl, HBL.out⟩
      subst z5
      by_cases z6 : y6 = 0
      case neg =>
        have HA : Hid (Ob.right B A n = false) := by
          show _ = _
          have e1 : Ob.plain (B ++ A) = false := by rw [← HM.out]; exact Ob.upTo_no hlt (by rw [HP.out]; simp [z6])
          rw [Ob.right_both, e1]; rfl
        have t1 : decide (y6 = 0) = false := decide_eq_false z6
        have t2 : (y6 == 0) = false := by simpa using z6
        have t3 : (y6 != 0) = true := by simpa using z6
        go_wp2_with fail
        go_ret
        exact ⟨by rw [HA.out]; rfl, HBL.out⟩
      subst z6
      cases y7 with
      | true =>
        have HA : Hid (Ob.right B A n = false) := by
          show _ = _
          have e1 : Ob.plain (B ++ A) = false := by rw [← HM.out]; exact Ob.upTo_no hlt (by rw [HP.out]; simp)
          rw [Ob.right_both, e1]; rfl
        go_wp2_with fail
        go_ret
        exact ⟨by rw [HA.out]; rfl, HBL.out⟩
      | false =>
        go_wp2_with fail
        go_roundw
        case rel =>
          refine ⟨k + 1, by omega, by go_num, (fun j hj => ?_), bel⟩
          by_cases e : j = k
          · rw [e, HP.out]; rfl
          · exact HK.out j (by omega)
        case measure => simp [intOf]; omega
    · have e : k = M.length := by omega
      have HA : Hid (Ob.right B A n = Ob.both B A n) := by
        show _ = _
        have e1 : Ob.plain (B ++ A) = true := by rw [← HM.out]; exact Ob.upTo_yes (fun i hi => HK.out i (by omega))
        rw [Ob.right_both, e1]; rfl
      have g0 := (bel.cell (p := ⟨w.heap.size, 0, none⟩) (by show w.heap.size < _; have := hb2.out; omega)).trans f0
      have g1 := (bel.cell (p := ⟨w.heap.size, 1, none⟩) (by show w.heap.size < _; have := hb2.out; omega)).trans f1
      have g2 := (bel.cell (p := ⟨w.heap.size, 2, none⟩) (by show w.heap.size < _; have := hb2.out; omega)).trans f2
      go_wp2_with fail
      refine (l06Both_any _ _ _ B A _ (HU.out.below HBL.out) (HV.out.below HBL.out) su sv l0 l1).mono ?_
      rintro e w9 ⟨rfl, k9⟩
      have HB9 : Hid (Below w.heap.size w w9) := HBL.out.trans (k9.mono HBL.out.size)
      clear k9
      go_wp2_with fail
      go_ret
      exact ⟨by rw [HA.out]; rfl, HB9.out⟩
end Go.Proofs.Ytnhpcknbnmhlhaa

/- The walk of the specification's l07Open. -/
import Derived.Test.YtnhpcknbnmhlhaaNewOpenSpec
namespace Go.Proofs.Ytnhpcknbnmhlhaa
open Go.RowKit
set_option linter.unusedVariables false
set_option linter.unusedSimpArgs false
/-- the specification's book at work, of a newer book -/
def Nb.Opened (w w' : World) (x y : Value) (b : Nat) (B A : List Lv.E) (n : Int) (FB FA : List Or.E) : Prop :=
  Ob.Two w' w.heap.size 87 x y FB FA ∧ w.heap.size ≤ b ∧ b < w'.heap.size ∧ (w'.cell? ⟨b, 0, none⟩ = some x ∧ w'.cell? ⟨b, 1, none⟩ = some y ∧ w'.cell? ⟨b, 2, none⟩ = some (.int .i64 n) ∧ w'.cell? ⟨b, 3, none⟩ = some (.slice none 0 0)) ∧ (Nb.right B A n = true → FB = Nb.flat B ∧ FA = Nb.flat A) ∧ FB.length ≤ 1048576 ∧ FA.length ≤ 1048576
set_option maxRecDepth 100000 in
set_option maxHeartbeats 8000000 in
theorem l07Open_any (u v : Value) (n : Int) (B A : List Lv.E) (w : World) (hu : Lv.View w u B) (hv : Lv.View w v A) (l0 : B.length ≤ 1048576) (l1 : A.length ≤ 1048576) (m0 : (Nb.flat B).length ≤ 1048576) (m1 : (Nb.flat A).length ≤ 1048576) :
    Calls Try.prog 28 #[.agg #[u, v, .int .i64 n]] w fun e w' => (∃ x y b FB FA, e = .returned (.tuple #[.pointer (some ⟨b, 0, none⟩), .bool (Nb.right B A n)]) ∧ Nb.Opened w w' x y b B A n FB FA) ∧ Below w.heap.size w w' := by
  obtain ⟨i0, hi, hz0, hz1, hz2⟩ := info_parts infoOrdS
  obtain ⟨W, hW⟩ : ∃ W, W = w.alloc (.cells #[u, v, .int .i64 n] 37) := ⟨_, rfl⟩
  have b0 : Below w.heap.size w W := by rw [hW]; exact (Below.refl _ _).alloc (Nat.le_refl _) _
  have c0 : W.cell? ⟨w.heap.size, 0, none⟩ = some u := by rw [hW, Fk.cellTop _ _ _ _ _ rfl]; rfl
  have c1 : W.cell? ⟨w.heap.size, 1, none⟩ = some v := by rw [hW, Fk.cellTop _ _ _ _ _ rfl]; rfl
  have c2 : W.cell? ⟨w.heap.size, 2, none⟩ = some (.int .i64 n) := by rw [hW, Fk.cellTop _ _ _ _ _ rfl]; rfl
  have hz : w.heap.size < W.heap.size := by rw [hW]; simp
  have HU := Fk.hide hu
  have HV := Fk.hide hv
  obtain ⟨a0, cap0, rfl⟩ := hu.slice
  obtain ⟨a1, cap1, rfl⟩ := hv.slice
  have HW := Fk.hide hW
  clear hW hu hv
  go_enter Try.func28, Try.ntmps28
  go_wp2_with fail
  rw [← HW.out]
  refine (l07Flat_any _ B _ (HU.out.below b0) l0 m0).mono ?_
  rintro e w1 ⟨⟨u1, FB, rfl, ow1, lF1, eF1⟩, k1⟩
  have HB1 : Hid (Below w.heap.size w w1) := b0.trans (k1.mono b0.size)
  have sz1 : w.heap.size < w1.heap.size := Nat.lt_of_lt_of_le hz k1.size
  have d0 := (k1.cell (p := ⟨w.heap.size, 0, none⟩) (by show w.heap.size < _; omega)).trans c0
  have d1 := (k1.cell (p := ⟨w.heap.size, 1, none⟩) (by show w.heap.size < _; omega)).trans c1
  have d2 := (k1.cell (p := ⟨w.heap.size, 2, none⟩) (by show w.heap.size < _; omega)).trans c2
  obtain ⟨x1, y1, rfl⟩ := ow1.slice
  have O1 : Hid (Rk.Own Or.S w1 (w.heap.size + 1) 87 (.slice x1 FB.length y1) FB) := Rk.Own.mono ow1 hz
  obtain ⟨r1, hr1⟩ : ∃ r, r = Nb.lvls B := ⟨_, rfl⟩
  rw [← hr1] at eF1 ⊢
  have H1 := Fk.hide hr1
  have E1 := Fk.hide eF1
  clear k1 ow1 hr1 eF1 c0 c1 c2 b0
  go_wp2_with fail
  refine (l07Flat_any _ A _ (HV.out.below HB1.out) l1 m1).mono ?_
  rintro e w2 ⟨⟨u2, FA, rfl, ow2, lF2, eF2⟩, k2⟩
  have HB2 : Hid (Below w.heap.size w w2) := HB1.out.trans (k2.mono HB1.out.size)
  have sz2 : w.heap.size < w2.heap.size := Nat.lt_of_lt_of_le sz1 k2.size
  have f2 := (k2.cell (p := ⟨w.heap.size, 2, none⟩) (by show w.heap.size < _; omega)).trans d2
  obtain ⟨x2, y2, rfl⟩ := ow2.slice
  have HT : Hid (Ob.Two w2 (w.heap.size + 1) 87 (.slice x1 FB.length y1) (.slice x2 FA.length y2) FB FA) := ⟨O1.out.below k2, Rk.Own.mono ow2 sz1, fun k hk hk' => by have h1 := O1.out.lt k hk; have h2 := ow2.lt k hk'; omega⟩
  obtain ⟨r2, hr2⟩ : ∃ r, r = Nb.lvls A := ⟨_, rfl⟩
  rw [← hr2] at eF2 ⊢
  have H2 := Fk.hide hr2
  have E2 := Fk.hide eF2
  clear k2 ow2 hr2 eF2 d0 d1 d2 O1
  obtain ⟨Z, hZ⟩ : ∃ W, W = w2.alloc (.cells #[.slice x1 FB.length y1, .slice x2 FA.length y2, .int .i64 n, .slice none 0 0] 70) := ⟨_, rfl⟩
  have bZ : Below w2.heap.size w2 Z := by rw [hZ]; exact (Below.refl _ _).alloc (Nat.le_refl _) _
  have HB3 : Hid (Below w.heap.size w Z) := HB2.out.trans (bZ.mono HB2.out.size)
  have HT3 := Fk.hide (HT.out.below bZ)
  have szZ : w2.heap.size < Z.heap.size := by rw [hZ]; simp
  have g2 := (bZ.cell (p := ⟨w.heap.size, 2, none⟩) (by show w.heap.size < _; omega)).trans f2
  have HC : Hid (Z.cell? ⟨w2.heap.size, 0, none⟩ = some (.slice x1 FB.length y1) ∧ Z.cell? ⟨w2.heap.size, 1, none⟩ = some (.slice x2 FA.length y2) ∧ Z.cell? ⟨w2.heap.size, 2, none⟩ = some (.int .i64 n) ∧ Z.cell? ⟨w2.heap.size, 3, none⟩ = some (.slice none 0 0)) := by
    rw [hZ]
    exact ⟨by rw [Fk.cellTop _ _ _ _ _ rfl]; rfl, by rw [Fk.cellTop _ _ _ _ _ rfl]; rfl, by rw [Fk.cellTop _ _ _ _ _ rfl]; rfl, by rw [Fk.cellTop _ _ _ _ _ rfl]; rfl⟩
  have HZ := Fk.hide hZ
  have HFR : Hid (∀ w', Below Z.heap.size Z w' → (Nb.right B A n = true → FB = Nb.flat B ∧ FA = Nb.flat A) → Nb.Opened w w' (.slice x1 FB.length y1) (.slice x2 FA.length y2) w2.heap.size B A n FB FA) := fun w' k h => by
    have t := HT3.out.below k
    refine ⟨⟨t.b.mono (by omega), t.a.mono (by omega), t.ne⟩, HB2.out.size, Nat.lt_of_lt_of_le szZ k.size, ⟨?_, ?_, ?_, ?_⟩, h, lF1, lF2⟩
    · exact (k.cell (by show w2.heap.size < _; omega)).trans HC.out.1
    · exact (k.cell (by show w2.heap.size < _; omega)).trans HC.out.2.1
    · exact (k.cell (by show w2.heap.size < _; omega)).trans HC.out.2.2.1
    · exact (k.cell (by show w2.heap.size < _; omega)).trans HC.out.2.2.2
  clear hZ bZ
  have gl : (w2.alloc (.cells #[.slice x1 FB.length y1, .slice x2 FA.length y2, .int .i64 n, .slice none 0 0] 70)).cell? ⟨w.heap.size, 2, none⟩ = some (.int .i64 n) := by rw [Fk.cellOld _ _ _ _ (by omega)]; exact f2
  cases r1 with
  | false =>
    have HN : Hid (Nb.right B A n = false) := by show _ = _; unfold Nb.right; rw [← H1.out]; rfl
    go_wp2_with fail
    rw [← HZ.out]
    refine bodyPost_ret (v := .tuple #[.pointer (some ⟨w2.heap.size, 0, none⟩), .bool false]) (by simp [results, Try.results28, go_sem]) rfl ⟨⟨_, _, _, FB, FA, by rw [HN.out], HFR.out _ (Below.refl _ _) (fun h => by rw [HN.out] at h; cases h)⟩, HB3.out⟩
  | true =>
  cases r2 with
  | false =>
    have HN : Hid (Nb.right B A n = false) := by show _ = _; unfold Nb.right; rw [← H2.out]; simp
    go_wp2_with fail
    rw [← HZ.out]
    refine bodyPost_ret (v := .tuple #[.pointer (some ⟨w2.heap.size, 0, none⟩), .bool false]) (by simp [results, Try.results28, go_sem]) rfl ⟨⟨_, _, _, FB, FA, by rw [HN.out], HFR.out _ (Below.refl _ _) (fun h => by rw [HN.out] at h; cases h)⟩, HB3.out⟩
  | true =>
  have EB : Hid (FB = Nb.flat B) := E1.out rfl
  have EA : Hid (FA = Nb.flat A) := E2.out rfl
  go_wp2_with fail
  rw [← HZ.out]
  refine (l06Both_any _ _ _ FB FA _ HT3.out.b.view HT3.out.a.view HT3.out.b.shut HT3.out.a.shut lF1 lF2).mono ?_
  rintro e w3 ⟨rfl, k3⟩
  obtain ⟨r3, hr3⟩ : ∃ r, r = Ob.both FB FA n := ⟨_, rfl⟩
  rw [← hr3]
  have H3 := Fk.hide hr3
  have HK3 := Fk.hide k3
  have HB4 : Hid (Below w.heap.size w w3) := HB3.out.trans (k3.mono HB3.out.size)
  clear hr3 k3 gl g2 f2
  cases r3 with
  | false =>
    have HN : Hid (Nb.right B A n = false) := by show _ = _; unfold Nb.right; rw [← EB.out, ← EA.out, ← H3.out]; simp
    go_wp2_with fail
    refine bodyPost_ret (v := .tuple #[.pointer (some ⟨w2.heap.size, 0, none⟩), .bool false]) (by simp [results, Try.results28, go_sem]) rfl ⟨⟨_, _, _, FB, FA, by rw [HN.out], HFR.out _ HK3.out (fun h => by rw [HN.out] at h; cases h)⟩, HB4.out⟩
  | true =>
  have HT4 := Fk.hide (HT3.out.below HK3.out)
  have HAM := Fk.hide (Nb.both_amount H3.out.symm)
  have hfr : FB.length + FA.length ≤ 24 := by
    have := (Nb.both_inv H3.out.symm).1
    unfold Ob.frame at this
    omega
  have hM0 : Rk.Own Or.S (w3.alloc (.cells #[] 87)) w3.heap.size 87 (.slice (some ⟨w3.heap.size, 0, none⟩) 0 0) [] := Rk.own_empty w3 87 w3.heap.size (Nat.le_refl _)
  have kb : Below w3.heap.size w3 (w3.alloc (.cells #[] 87)) := (Below.refl _ _).alloc (Nat.le_refl _) _
  have HKB := Fk.hide kb
  have HT5 := Fk.hide (HT4.out.below kb)
  have hb3 : Hid (w3.heap.size ≤ (w3.alloc (.cells #[] 87)).heap.size) := by show _ ≤ _; simp
  have HM0 := Fk.hide hM0
  clear hM0 kb
  go_wp2_with (first
    | (at_builtin; refine Rk.wpList_append_view _ rfl _ _ 32 rfl w3.heap.size 87 i0 _ 8 64 rfl Try.underlying32 hi hz0 hz1 hz2 rfl (by decide) (.slice (some ⟨w3.heap.size, 0, none⟩) 0 0) (.slice x1 FB.length y1) [] FB rfl rfl HM0.out HT5.out.b.view HT5.out.b.shut (by simp; omega) hb3.out ?_; intro u4 w4 o4 g4; rw [List.nil_append] at o4; obtain ⟨a4, n4, c4, rfl⟩ := o4.slice'; have HO4 := Fk.hide o4; have HKC : Hid (Below w3.heap.size w3 w4) := HKB.out.grown g4 hb3.out (fun j hj => (HM0.out.lt j hj).1); clear o4 g4)
    | (at_builtin; refine Rk.wpList_append_view _ rfl _ _ 32 rfl w3.heap.size 87 i0 _ 8 64 rfl Try.underlying32 hi hz0 hz1 hz2 rfl (by decide) (.slice a4 n4 c4) (.slice x2 FA.length y2) FB FA rfl rfl HO4.out (HT4.out.below HKC.out).a.view HT4.out.a.shut (by omega) HKC.out.size ?_; intro u5 w5 o5 g5; obtain ⟨a5, n5, c5, rfl⟩ := o5.slice'; have HO5 := Fk.hide o5; have HKD : Hid (Below w3.heap.size w3 w5) := HKC.out.grown g5 HKC.out.size (fun j hj => (HO4.out.lt j hj).1); clear o5 g5))
  obtain ⟨M, hM⟩ : ∃ M, M = FB ++ FA := ⟨_, rfl⟩
  rw [← hM] at HO5 HAM
  have hlM : M.length ≤ 24 := by rw [hM]; simp; omega
  have HRT : Hid (Nb.right B A n = Nb.peaks M) := by show _ = _; unfold Nb.right; rw [← H1.out, ← H2.out, ← EB.out, ← EA.out, ← H3.out, hM]; simp
  obtain rfl : n5 = M.length := by obtain ⟨x1, x2, hx⟩ := HO5.out.slice; simp only [Value.slice.injEq] at hx; exact hx.2.1
  clear hM
  have hgM : Hid (0 < M.length → ∃ g o, a5 = some ⟨g, o, none⟩ ∧ g < w5.heap.size ∧ Rk.Sees Or.S w5 g o M) := fun h => by
    obtain ⟨a', c', e, hh⟩ := HO5.out.view
    simp only [Value.slice.injEq] at e
    obtain ⟨e1, _⟩ := e
    rw [← e1] at hh
    exact hh h
  have HK5 : Hid (Below Z.heap.size Z w5) := HK3.out.trans (HKD.out.mono HK3.out.size)
  have HB5 : Hid (Below w.heap.size w w5) := HB3.out.trans (HK5.out.mono HB3.out.size)
  go_loopw [10] (fun i wr => ∃ k : Nat, k ≤ M.length ∧ i = .int .i64 k ∧ Hid (∀ j, j < k → Nb.peak (Ob.at' M j) = true) ∧ Below w5.heap.size w5 wr) (fun i _ => M.length - (intOf i).toNat)
  case atStart => exact ⟨0, Nat.zero_le _, rfl, fun j hj => absurd hj (by omega), Below.refl _ _⟩
  case round =>
    obtain ⟨k, hk, rfl, HK, bel⟩ := hrel
    have HKE : Hid (Below Z.heap.size Z wr) := HK5.out.trans (bel.mono HK5.out.size)
    have HBE : Hid (Below w.heap.size w wr) := HB5.out.trans (bel.mono HB5.out.size)
    by_cases hlt : k < M.length
    · obtain ⟨g, o, rfl, hg, hs⟩ := hgM.out (by omega)
      have hs' := hs.below hg bel
      have q0 := Or.c0 hs' hlt
      have q1 := Or.c1 hs' hlt
      have q2 := Or.c2 hs' hlt
      have q3 := Or.c3 hs' hlt
      have q4 := Or.c4 hs' hlt
      have q5 := Or.c5 hs' hlt
      have q6 := Or.c6 hs' hlt
      have q7 := Or.c7 hs' hlt
      obtain ⟨f, hf⟩ : ∃ f, f = Rk.at_ Or.S M k := ⟨_, rfl⟩
      rw [← hf] at q0 q1 q2 q3 q4 q5 q6 q7
      have HF : Hid (f = Ob.at' M k) := hf
      have hfa : 1 ≤ f.2.2.2.1 ∧ f.2.2.2.1 ≤ 1000 := by rw [hf]; exact HAM.out _ (Rk.at_mem M k hlt)
      clear hf hs' hs
      go_wp2_with fail
      refine (l07Order_any f _ hfa.1 hfa.2).mono ?_
      rintro e w6 ⟨rfl, k6⟩
      have HK6 : Hid (Below w5.heap.size w5 w6) := bel.trans (k6.mono bel.size)
      obtain ⟨r6, hr6⟩ : ∃ r, r = Nb.peak f := ⟨_, rfl⟩
      rw [← hr6]
      have H6 := Fk.hide hr6
      clear hr6 k6 q0 q1 q2 q3 q4 q5 q6 q7
      cases r6 with
      | false =>
        have HN : Hid (Nb.right B A n = false) := by show _ = _; rw [HRT.out]; exact Ob.upTo_no hlt (by show Nb.peak (Ob.at' M k) = false; rw [← HF.out, ← H6.out])
        have HK7 : Hid (Below Z.heap.size Z w6) := HK5.out.trans (HK6.out.mono HK5.out.size)
        have HB7 : Hid (Below w.heap.size w w6) := HB5.out.trans (HK6.out.mono HB5.out.size)
        go_wp2_with fail
        refine bodyPost_ret (v := .tuple #[.pointer (some ⟨w2.heap.size, 0, none⟩), .bool false]) (by simp [results, Try.results28, go_sem]) rfl ⟨⟨_, _, _, FB, FA, by rw [HN.out], HFR.out _ HK7.out (fun h => by rw [HN.out] at h; cases h)⟩, HB7.out⟩
      | true =>
        have HIT : Hid (Nb.peak (Ob.at' M k) = true) := by show _ = _; rw [← HF.out, ← H6.out]
        go_wp2_with fail
        go_roundw
        case rel => exact ⟨k + 1, by omega, by go_num, fun j hj => (by rcases Nat.lt_succ_iff_lt_or_eq.1 hj with h | rfl; exact HK.out j h; exact HIT.out), HK6.out⟩
        case measure => simp [intOf]; omega
    · have e : k = M.length := by omega
      subst e
      have HN : Hid (Nb.right B A n = true) := by show _ = _; rw [HRT.out]; exact Ob.upTo_yes HK.out
      go_wp2_with fail
      refine bodyPost_ret (v := .tuple #[.pointer (some ⟨w2.heap.size, 0, none⟩), .bool true]) (by simp [results, Try.results28, go_sem]) rfl ⟨⟨_, _, _, FB, FA, by rw [HN.out], HFR.out _ HKE.out (fun h => ⟨EB.out, EA.out⟩)⟩, HBE.out⟩

end Go.Proofs.Ytnhpcknbnmhlhaa

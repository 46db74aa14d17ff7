/- The walk of the program's Alike. -/
import Derived.Test.YtnhpcknbnmhlhaaAlikeLevels
import Derived.Test.YtnhpcknbnmhlhaaUpImpl
namespace Go.Proofs.Ytnhpcknbnmhlhaa
open Go.RowKit
set_option linter.unusedVariables false
set_option linter.unusedSimpArgs false
set_option maxRecDepth 100000 in
set_option maxHeartbeats 16000000 in
theorem alike_impl' (u v x y : Value) (n0 n : Int) (B0 A0 : List Or.E) (B A : List Lv.E) (w : World) (hu : Rk.View Or.S w u B0) (hv : Rk.View Or.S w v A0) (su : Rk.Shut u) (sv : Rk.Shut v) (fu : Rk.Fit u) (fv : Rk.Fit v) (hx : Lv.View w x B) (hy : Lv.View w y A) (l0 : B0.length ≤ 1048576) (l1 : A0.length ≤ 1048576) (l2 : B.length ≤ 1048576) (l3 : A.length ≤ 1048576) (m0 : (Nb.flat B).length ≤ 1048576) (m1 : (Nb.flat A).length ≤ 1048576) :
    Calls Try.prog 20 #[.agg #[u, v, .int .i64 n0], .agg #[x, y, .int .i64 n]] w fun e w' => e = .returned (.bool (Nb.alike B0 A0 n0 B A n)) ∧ Below w.heap.size w w' := by
  obtain ⟨W, hW⟩ : ∃ W, W = (w.alloc (.cells #[u, v, .int .i64 n0] 34)).alloc (.cells #[x, y, .int .i64 n] 37) := ⟨_, rfl⟩
  have b0 : Below w.heap.size w W := by
    rw [hW]
    repeat (first | exact Below.refl _ _ | refine Below.alloc ?_ (by simp <;> omega) _)
  have hz : W.heap.size = w.heap.size + 2 := by rw [hW]; simp
  have ao0 : W.cell? ⟨w.heap.size, 0, none⟩ = some (u) := by rw [hW, Fk.cellOld _ _ _ _ (by simp), Fk.cellTop _ _ _ _ _ rfl]; rfl
  have ao1 : W.cell? ⟨w.heap.size, 1, none⟩ = some (v) := by rw [hW, Fk.cellOld _ _ _ _ (by simp), Fk.cellTop _ _ _ _ _ rfl]; rfl
  have ao2 : W.cell? ⟨w.heap.size, 2, none⟩ = some (.int .i64 n0) := by rw [hW, Fk.cellOld _ _ _ _ (by simp), Fk.cellTop _ _ _ _ _ rfl]; rfl
  have an0 : W.cell? ⟨w.heap.size + 1, 0, none⟩ = some (x) := by rw [hW, Fk.cellTop _ _ _ _ _ (by simp)]; rfl
  have an1 : W.cell? ⟨w.heap.size + 1, 1, none⟩ = some (y) := by rw [hW, Fk.cellTop _ _ _ _ _ (by simp)]; rfl
  have an2 : W.cell? ⟨w.heap.size + 1, 2, none⟩ = some (.int .i64 n) := by rw [hW, Fk.cellTop _ _ _ _ _ (by simp)]; rfl
  have HZ : Hid (w.heap.size < W.heap.size ∧ w.heap.size + 1 < W.heap.size) := by show _ ∧ _; omega
  have HU := Fk.hide (hu.below b0)
  have HV := Fk.hide (hv.below b0)
  have HX := Fk.hide (hx.below b0)
  have HY := Fk.hide (hy.below b0)
  have HSU := Fk.hide su
  have HFU := Fk.hide fu
  have HSV := Fk.hide sv
  have HFV := Fk.hide fv
  obtain ⟨a0, cap0, rfl, _⟩ := hu
  obtain ⟨a1, cap1, rfl, _⟩ := hv
  obtain ⟨b0', cap2, rfl⟩ := hx.slice
  obtain ⟨b1', cap3, rfl⟩ := hy.slice
  have HB0 := Fk.hide b0
  have HW := Fk.hide hW
  clear hW b0 hz su sv hx hy fu fv
  go_enter Try.func20, Try.ntmps20
  go_wp2_with fail
  rw [← HW.out]
  refine (oldRight_impl _ _ _ B0 A0 _ HU.out HV.out HSU.out HSV.out l0 l1).mono ?_
  rintro e w1 ⟨rfl, k1⟩
  have HB1 : Hid (Below w.heap.size w w1) := HB0.out.trans (k1.mono HB0.out.size)
  have po0 := (k1.cell (p := ⟨w.heap.size, 0, none⟩) (by exact HZ.out.1)).trans ao0
  have po1 := (k1.cell (p := ⟨w.heap.size, 1, none⟩) (by exact HZ.out.1)).trans ao1
  have po2 := (k1.cell (p := ⟨w.heap.size, 2, none⟩) (by exact HZ.out.1)).trans ao2
  have pn0 := (k1.cell (p := ⟨w.heap.size + 1, 0, none⟩) (by exact HZ.out.2)).trans an0
  have pn1 := (k1.cell (p := ⟨w.heap.size + 1, 1, none⟩) (by exact HZ.out.2)).trans an1
  have pn2 := (k1.cell (p := ⟨w.heap.size + 1, 2, none⟩) (by exact HZ.out.2)).trans an2
  have HS1 : Hid (w.heap.size < w1.heap.size ∧ w.heap.size + 1 < w1.heap.size) := by have h1 := HZ.out; have h3 := k1.size; show _ ∧ _; omega
  have HU1 := Fk.hide (HU.out.below k1)
  have HV1 := Fk.hide (HV.out.below k1)
  have HX1 := Fk.hide (HX.out.below k1)
  have HY1 := Fk.hide (HY.out.below k1)
  obtain ⟨r, hr⟩ : ∃ r, r = Ob.right B0 A0 n0 := ⟨_, rfl⟩
  rw [← hr]
  have HR := Fk.hide hr
  clear hr k1 ao0 ao1 ao2 an0 an1 an2 HU HV HX HY
  cases r with
  | false =>
    have HE : Hid (Nb.alike B0 A0 n0 B A n = false) := by show _ = _; unfold Nb.alike; rw [← HR.out]; rfl
    go_wp2_with fail
    go_ret
    exact ⟨by rw [HE.out]; rfl, HB1.out⟩
  | true =>
    have HAL : Hid (Nb.alike B0 A0 n0 B A n = (decide (n0 = n) && (decide (Nb.levels B0 = B) && decide (Nb.levels A0 = A)))) := by show _ = _; unfold Nb.alike; rw [← HR.out]; rfl
    have HUP : Hid (Nb.up B0 A0 n0 = (Nb.levels B0, Nb.levels A0, n0)) := by show _ = _; unfold Nb.up; rw [if_pos HR.out.symm]
    go_wp2_with fail
    refine (up_impl _ _ n0 B0 A0 _ HU1.out HV1.out HSU.out HSV.out HFU.out HFV.out l0 l1).mono ?_
    rintro e w2 ⟨⟨x5, y5, rfl, hl⟩, k2⟩
    rw [HUP.out] at hl ⊢
    simp only at hl ⊢
    obtain ⟨P, hP⟩ : ∃ z, z = Nb.levels B0 := ⟨_, rfl⟩
    obtain ⟨Q, hQ⟩ : ∃ z, z = Nb.levels A0 := ⟨_, rfl⟩
    rw [← hP, ← hQ] at HAL hl
    have HPL : Hid (P.length ≤ 1048576 ∧ ∀ i, i < P.length → (Lv.at' P i).2.length ≤ 1048576) := by show _ ∧ _; rw [hP]; exact ⟨Nat.le_trans (Nb.levels_length B0) l0, fun i hi => Nat.le_trans (Nb.each_le _ i hi) (by rw [Nb.flat_levels]; exact l0)⟩
    have HQL : Hid (Q.length ≤ 1048576 ∧ ∀ i, i < Q.length → (Lv.at' Q i).2.length ≤ 1048576) := by show _ ∧ _; rw [hQ]; exact ⟨Nat.le_trans (Nb.levels_length A0) l1, fun i hi => Nat.le_trans (Nb.each_le _ i hi) (by rw [Nb.flat_levels]; exact l1)⟩
    have HBL : Hid (∀ i, i < B.length → (Lv.at' B i).2.length ≤ 1048576) := fun i hi => Nat.le_trans (Nb.each_le B i hi) m0
    have HAE : Hid (∀ i, i < A.length → (Lv.at' A i).2.length ≤ 1048576) := fun i hi => Nat.le_trans (Nb.each_le A i hi) m1
    clear hP hQ HUP
    have HB2 : Hid (Below w.heap.size w w2) := HB1.out.trans (k2.mono HB1.out.size)
    have qo2 := (k2.cell (p := ⟨w.heap.size, 2, none⟩) (by exact HS1.out.1)).trans po2
    have qn0 := (k2.cell (p := ⟨w.heap.size + 1, 0, none⟩) (by exact HS1.out.2)).trans pn0
    have qn1 := (k2.cell (p := ⟨w.heap.size + 1, 1, none⟩) (by exact HS1.out.2)).trans pn1
    have qn2 := (k2.cell (p := ⟨w.heap.size + 1, 2, none⟩) (by exact HS1.out.2)).trans pn2
    have HS2 : Hid (w.heap.size + 1 < w2.heap.size) := Nat.lt_of_lt_of_le HS1.out.2 k2.size
    have HX2 := Fk.hide (HX1.out.below k2)
    have HY2 := Fk.hide (HY1.out.below k2)
    have hvl := hl.views
    obtain ⟨xa, xc, rfl⟩ := hvl.1.slice
    obtain ⟨ya, yc, rfl⟩ := hvl.2.slice
    obtain ⟨X, hX⟩ : ∃ X, X = w2.alloc (.cells #[.slice xa P.length xc, .slice ya Q.length yc, .int .i64 n0] 37) := ⟨_, rfl⟩
    have bX : Below w2.heap.size w2 X := by rw [hX]; exact (Below.refl _ _).alloc (Nat.le_refl _) _
    have u0 : X.cell? ⟨w2.heap.size, 0, none⟩ = some (.slice xa P.length xc) := by rw [hX, Fk.cellTop _ _ _ _ _ rfl]; rfl
    have u1 : X.cell? ⟨w2.heap.size, 1, none⟩ = some (.slice ya Q.length yc) := by rw [hX, Fk.cellTop _ _ _ _ _ rfl]; rfl
    have u2 : X.cell? ⟨w2.heap.size, 2, none⟩ = some (.int .i64 n0) := by rw [hX, Fk.cellTop _ _ _ _ _ rfl]; rfl
    have rn0 := (bX.cell (p := ⟨w.heap.size + 1, 0, none⟩) (by exact HS2.out)).trans qn0
    have rn1 := (bX.cell (p := ⟨w.heap.size + 1, 1, none⟩) (by exact HS2.out)).trans qn1
    have rn2 := (bX.cell (p := ⟨w.heap.size + 1, 2, none⟩) (by exact HS2.out)).trans qn2
    have HBX : Hid (Below w.heap.size w X) := HB2.out.trans (bX.mono HB2.out.size)
    have HVP := Fk.hide (hvl.1.below bX)
    have HVQ := Fk.hide (hvl.2.below bX)
    have HX3 := Fk.hide (HX2.out.below bX)
    have HY3 := Fk.hide (HY2.out.below bX)
    have HZX : Hid (w2.heap.size < X.heap.size ∧ w.heap.size + 1 < X.heap.size) := by have h1 := HS2.out; have h2 : X.heap.size = w2.heap.size + 1 := (by rw [hX]; simp); show _ ∧ _; omega
    have HXX := Fk.hide hX
    have lrn0 : (w2.alloc (.cells #[.slice xa P.length xc, .slice ya Q.length yc, .int .i64 n0] 37)).cell? ⟨w.heap.size + 1, 0, none⟩ = some (.slice b0' B.length cap2) := by rw [← hX]; exact rn0
    have lrn1 : (w2.alloc (.cells #[.slice xa P.length xc, .slice ya Q.length yc, .int .i64 n0] 37)).cell? ⟨w.heap.size + 1, 1, none⟩ = some (.slice b1' A.length cap3) := by rw [← hX]; exact rn1
    have lrn2 : (w2.alloc (.cells #[.slice xa P.length xc, .slice ya Q.length yc, .int .i64 n0] 37)).cell? ⟨w.heap.size + 1, 2, none⟩ = some (.int .i64 n) := by rw [← hX]; exact rn2
    clear hX bX hvl hl k2 po0 po1 po2 pn0 pn1 pn2 qo2 qn0 qn1 qn2
    by_cases hn : n0 = n
    case neg =>
      have d1 : decide (n0 = n) = false := decide_eq_false hn
      have d2 : (n0 == n) = false := by simpa using hn
      have HE : Hid (Nb.alike B0 A0 n0 B A n = false) := by show _ = _; rw [HAL.out, d1]; rfl
      go_wp2_with fail
      rw [← HXX.out]
      go_ret
      exact ⟨by rw [HE.out]; rfl, HBX.out⟩
    subst hn
    go_wp2_with fail
    rw [← HXX.out]
    clear lrn0 lrn1 lrn2
    refine (equalFunc_any _ _ P B _ HVP.out HX3.out HPL.out.1 l2 HPL.out.2 HBL.out).mono ?_
    rintro e w3 ⟨rfl, k3⟩
    have HB3 : Hid (Below w.heap.size w w3) := HBX.out.trans (k3.mono HBX.out.size)
    have s1 := (k3.cell (p := ⟨w2.heap.size, 1, none⟩) (by exact HZX.out.1)).trans u1
    have s2 := (k3.cell (p := ⟨w.heap.size + 1, 1, none⟩) (by exact HZX.out.2)).trans rn1
    have HVQ2 := Fk.hide (HVQ.out.below k3)
    have HY4 := Fk.hide (HY3.out.below k3)
    obtain ⟨e, he⟩ : ∃ z, z = decide (P = B) := ⟨_, rfl⟩
    rw [← he] at HAL ⊢
    clear he k3 u0 u1 u2 rn0 rn1 rn2
    cases e with
    | false =>
      have HE : Hid (Nb.alike B0 A0 n0 B A n0 = false) := by show _ = _; rw [HAL.out]; simp
      go_wp2_with fail
      go_ret
      exact ⟨by rw [HE.out]; rfl, HB3.out⟩
    | true =>
      go_wp2_with fail
      refine (equalFunc_any _ _ Q A _ HVQ2.out HY4.out HQL.out.1 l3 HQL.out.2 HAE.out).mono ?_
      rintro e w4 ⟨rfl, k4⟩
      have HB4 : Hid (Below w.heap.size w w4) := HB3.out.trans (k4.mono HB3.out.size)
      obtain ⟨g, hg⟩ : ∃ z, z = decide (Q = A) := ⟨_, rfl⟩
      rw [← hg] at HAL ⊢
      clear hg k4 s1 s2
      have HE : Hid (Nb.alike B0 A0 n0 B A n0 = g) := by show _ = _; rw [HAL.out]; simp
      go_wp2_with fail
      go_ret
      exact ⟨by rw [HE.out]; rfl, HB4.out⟩
end Go.Proofs.Ytnhpcknbnmhlhaa

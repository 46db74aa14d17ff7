/- The walks of the law's own copies of newer books. -/
import Derived.Test.YtnhpcknbnmhlhaaNewLaw
import Derived.Test.YtnhpcknbnmhlhaaLevelMore
namespace Go.Proofs.Ytnhpcknbnmhlhaa
open Go.RowKit
set_option linter.unusedVariables false
set_option linter.unusedSimpArgs false
set_option maxHeartbeats 2000000 in
theorem toLevelS_any (v : Value) (L : List Lv.E) (w : World) (hv : Lv.View w v L) (hl : L.length ≤ 1048576) (hm : ∀ i, i < L.length → (Lv.at' L i).2.length ≤ 1048576) :
    Calls Try.prog 32 #[v] w fun e w' =>
      (∃ u Hs, e = .returned u ∧ Lv.Own w' w.heap.size 76 87 u L Hs) ∧ Below w.heap.size w w' := by
  have HV := Fk.hide hv
  have HM := Fk.hide hm
  obtain ⟨a, cap, rfl⟩ := hv.slice
  clear hv hm
  obtain ⟨i0, hi, hz0, hz1, hz2⟩ := info_parts infoLevel
  go_enter Try.func32, Try.ntmps32
  go_wp2_with (at_make; refine wpList_make_full _ rfl _ _ 35 rfl w.heap.size 76 i0 _ 2 Try.underlying35 hi hz0 hz1 _ _ _ _ L.length rfl rfl rfl rfl (by rw [hz2]; omega) (by unfold maxLen; omega) (Nat.le_refl _) ?_; intro w1 hown hgrow)
  have hpart : Lv.Part w1 w.heap.size 76 87 (.slice (some ⟨w.heap.size, 0, none⟩) L.length L.length) L (List.replicate L.length Lv.S.z) 0 := by
    refine ⟨by simp, ?_, fun i hi => absurd hi (by omega), fun i hi => absurd hi (by omega), fun i j hi => absurd hi (by omega)⟩
    unfold Rk.Own
    rw [← Rk.flat_made (S := Lv.S) L.length #[.int .i64 0, .slice none 0 0] rfl, List.length_replicate]
    exact hown
  have bel0 : Below w.heap.size w w1 := (Below.refl _ _).grown hgrow (Nat.le_refl _) (fun j hj => by cases hj)
  have hz1 : w.heap.size < w1.heap.size := (hpart.row.lt w.heap.size rfl).2
  clear hown hgrow
  go_wp2_with fail
  go_loopw [4] (fun i wr => ∃ (k : Nat) (Hs : List Lv.H), k ≤ L.length ∧ i = .int .i64 k ∧ Hid (Lv.Part wr w.heap.size 76 87 (.slice (some ⟨w.heap.size, 0, none⟩) L.length L.length) L Hs k) ∧ Below w.heap.size w wr) (fun i _ => L.length - (intOf i).toNat)
  case atStart => exact ⟨0, _, Nat.zero_le _, rfl, hpart, bel0⟩
  case round =>
    obtain ⟨k, Hs, hk, rfl, HP, bel⟩ := hrel
    clear hpart bel0
    by_cases hlt : k < L.length
    · obtain ⟨b, o, q, m, c, rfl, hb, p0, p1, hmm, hvi, _⟩ := (HV.out.below bel).at hlt
      obtain ⟨pr, hpr⟩ : ∃ x, x = (Lv.at' L k).1 := ⟨_, rfl⟩
      rw [← hpr] at p0
      have HPR := Fk.hide hpr
      have HVI := Fk.hide hvi
      have HBR : Hid (w.heap.size < wr.heap.size) := (HP.out.row.lt w.heap.size rfl).2
      clear hpr hvi hmm
      go_wp2_with fail
      refine (toLevel_any _ _ _ _ HVI.out (HM.out k hlt)).mono ?_
      rintro e w2 ⟨⟨u, rfl, ho⟩, k2⟩
      obtain ⟨x, n, y, rfl⟩ := ho.slice'
      have HB2 : Hid (Below w.heap.size w w2) := bel.trans (k2.mono bel.size)
      have HP2 := Fk.hide (HP.out.below k2)
      have HKL : Hid (k < Hs.length) := by show _ < _; rw [HP.out.len]; exact hlt
      have HF : Hid (Lv.Part ((w2.setCell ⟨w.heap.size, k * 2, none⟩ (.int .i64 pr)).setCell ⟨w.heap.size, k * 2 + 1, none⟩ (.slice x n y)) w.heap.size 76 87 (.slice (some ⟨w.heap.size, 0, none⟩) L.length L.length) L (Hs.set k (pr, x, n, y)) (k + 1)) := HP.out.step hlt k2 HBR.out (pr, x, n, y) HPR.out ho
      have s0 := Lv.o0 HP2.out.row HKL.out
      have s1 := Lv.o1 HP2.out.row HKL.out
      have f0 := HP2.out.row.frozen (k * 2)
      have f1 := HP2.out.row.frozen (k * 2 + 1)
      obtain ⟨z0, hz0⟩ : ∃ z, z = (Rk.at_ Lv.S Hs k).1 := ⟨_, rfl⟩
      obtain ⟨z1, hz1⟩ : ∃ z, z = Lv.sl (Rk.at_ Lv.S Hs k) := ⟨_, rfl⟩
      rw [← hz0] at s0
      rw [← hz1] at s1
      clear hz0 hz1 k2 ho p0 p1 HVI HP
      go_wp2_with fail
      go_roundw
      case rel => exact ⟨k + 1, _, by omega, by go_num, HF, (HB2.out.setCell (Nat.le_refl _) _).setCell (Nat.le_refl _) _⟩
      case measure => simp [intOf]; omega
    · have e : k = L.length := by omega
      subst e
      go_wp2_with fail
      go_ret
      exact ⟨⟨_, _, rfl, HP.out.all⟩, bel⟩

set_option maxHeartbeats 2000000 in
theorem toNew_any (v0 v1 : Value) (n : Int) (B A : List Lv.E) (w : World) (h0 : Lv.View w v0 B) (h1 : Lv.View w v1 A) (l0 : B.length ≤ 1048576) (l1 : A.length ≤ 1048576) (n0 : ∀ i, i < B.length → (Lv.at' B i).2.length ≤ 1048576) (n1 : ∀ i, i < A.length → (Lv.at' A i).2.length ≤ 1048576) :
    Calls Try.prog 19 #[.agg #[v0, v1, .int .i64 n]] w fun e w' =>
      (∃ u v HB HA mid, e = .returned (.agg #[u, v, .int .i64 n]) ∧ Lv.Own w' w.heap.size 76 87 u B HB ∧ Lv.Own w' mid 76 87 v A HA ∧ Lv.Under mid u B HB ∧ w.heap.size ≤ mid ∧ mid ≤ w'.heap.size) ∧ Below w.heap.size w w' := by
  obtain ⟨W, hW⟩ : ∃ W, W = ((w.alloc (.cells #[v0, v1, .int .i64 n] 27)).alloc (.cells #[.slice none 0 0, .slice none 0 0, .int .i64 0] 37)).alloc (.cells #[.slice none 0 0, .slice none 0 0, .int .i64 0] 37) := ⟨_, rfl⟩
  have b0 : Below w.heap.size w W := by
    rw [hW]
    repeat (first | exact Below.refl _ _ | refine Below.alloc ?_ (by simp <;> omega) _)
  have H0 := Fk.hide (h0.below b0)
  have HA := Fk.hide h1
  have hsz : W.heap.size = w.heap.size + 3 := by rw [hW]; simp
  have N0 := Fk.hide n0
  have N1 := Fk.hide n1
  obtain ⟨a0, cap0, rfl⟩ := h0.slice
  obtain ⟨a1, cap1, rfl⟩ := h1.slice
  clear h0 h1 n0 n1
  have HW := Fk.hide hW
  have p1 : W.cell? ⟨w.heap.size, 1, none⟩ = some (.slice a1 A.length cap1) := by rw [hW, Fk.cellOld _ _ _ _ (by simp <;> omega), Fk.cellOld _ _ _ _ (by simp), Fk.cellTop _ _ _ _ _ rfl]; rfl
  have p2 : W.cell? ⟨w.heap.size, 2, none⟩ = some (.int .i64 n) := by rw [hW, Fk.cellOld _ _ _ _ (by simp <;> omega), Fk.cellOld _ _ _ _ (by simp), Fk.cellTop _ _ _ _ _ rfl]; rfl
  have e0 : W.cell? ⟨w.heap.size + 2, 0, none⟩ = some (.slice none 0 0) := by rw [hW, Fk.cellTop _ _ _ _ _ (by simp)]; rfl
  have e1 : W.cell? ⟨w.heap.size + 2, 1, none⟩ = some (.slice none 0 0) := by rw [hW, Fk.cellTop _ _ _ _ _ (by simp)]; rfl
  have e2 : W.cell? ⟨w.heap.size + 2, 2, none⟩ = some (.int .i64 0) := by rw [hW, Fk.cellTop _ _ _ _ _ (by simp)]; rfl
  have d0 : W.cell? ⟨w.heap.size + 1, 0, none⟩ = some (.slice none 0 0) := by rw [hW, Fk.cellOld _ _ _ _ (by simp), Fk.cellTop _ _ _ _ _ (by simp)]; rfl
  have d1 : W.cell? ⟨w.heap.size + 1, 1, none⟩ = some (.slice none 0 0) := by rw [hW, Fk.cellOld _ _ _ _ (by simp), Fk.cellTop _ _ _ _ _ (by simp)]; rfl
  have d2 : W.cell? ⟨w.heap.size + 1, 2, none⟩ = some (.int .i64 0) := by rw [hW, Fk.cellOld _ _ _ _ (by simp), Fk.cellTop _ _ _ _ _ (by simp)]; rfl
  have ef : ∀ j, W.frozen? ⟨w.heap.size + 2, j, none⟩ = false := fun j => by rw [hW, Fk.frozTop _ _ _ _ _ (by simp)]
  have df : ∀ j, W.frozen? ⟨w.heap.size + 1, j, none⟩ = false := fun j => by rw [hW, Fk.frozOld _ _ _ _ (by simp), Fk.frozTop _ _ _ _ _ (by simp)]
  clear hW
  go_enter Try.func19, Try.ntmps19
  go_wp2_with fail
  rw [← HW.out]
  refine (toLevelS_any _ _ _ H0.out l0 N0.out).mono ?_
  rintro e w1 ⟨⟨u, HsB, rfl, o0⟩, k1⟩
  have HB0 : Hid (Below w.heap.size w w1) := b0.trans (k1.mono b0.size)
  have hs1 : w.heap.size + 3 ≤ w1.heap.size := by rw [← hsz]; exact k1.size
  have q1 := (k1.cell (p := ⟨w.heap.size, 1, none⟩) (by show w.heap.size < _; omega)).trans p1
  have q2 := (k1.cell (p := ⟨w.heap.size, 2, none⟩) (by show w.heap.size < _; omega)).trans p2
  have g0 := (k1.cell (p := ⟨w.heap.size + 2, 0, none⟩) (by show w.heap.size + 2 < _; omega)).trans e0
  have g1 := (k1.cell (p := ⟨w.heap.size + 2, 1, none⟩) (by show w.heap.size + 2 < _; omega)).trans e1
  have g2 := (k1.cell (p := ⟨w.heap.size + 2, 2, none⟩) (by show w.heap.size + 2 < _; omega)).trans e2
  have j0 := (k1.cell (p := ⟨w.heap.size + 1, 0, none⟩) (by show w.heap.size + 1 < _; omega)).trans d0
  have j1 := (k1.cell (p := ⟨w.heap.size + 1, 1, none⟩) (by show w.heap.size + 1 < _; omega)).trans d1
  have j2 := (k1.cell (p := ⟨w.heap.size + 1, 2, none⟩) (by show w.heap.size + 1 < _; omega)).trans d2
  have gf : ∀ j, w1.frozen? ⟨w.heap.size + 2, j, none⟩ = false := fun j => (k1.frozen (by show w.heap.size + 2 < _; omega)).trans (ef j)
  have jf : ∀ j, w1.frozen? ⟨w.heap.size + 1, j, none⟩ = false := fun j => (k1.frozen (by show w.heap.size + 1 < _; omega)).trans (df j)
  obtain ⟨x0, y0, rfl⟩ := o0.slice
  have HO0 := Fk.hide o0
  have HUN := Fk.hide o0.under
  clear o0 k1 p1 p2 e0 e1 e2 d0 d1 d2 ef df H0
  go_wp2_with fail
  obtain ⟨w2, hw2⟩ : ∃ W, W = w1.setCell ⟨w.heap.size + 2, 0, none⟩ (.slice x0 B.length y0) := ⟨_, rfl⟩
  rw [← hw2]
  have hz2 : w2.heap.size = w1.heap.size := by rw [hw2]; simp
  have HB2 : Hid (Below w.heap.size w w2) := by rw [hw2]; exact HB0.out.setCell (by show w.heap.size ≤ w.heap.size + 2; omega) _
  have HO2 : Hid (Lv.Own w2 W.heap.size 76 87 (.slice x0 B.length y0) B HsB) := by rw [hw2]; exact HO0.out.setBelow (by omega) _ _
  have hs2 : w.heap.size + 3 ≤ w2.heap.size := by omega
  have r1 : w2.cell? ⟨w.heap.size, 1, none⟩ = some (.slice a1 A.length cap1) := by rw [hw2, World.cell?_setCell_other _ _ _ _ (by intro h; simp only [Addr.mk.injEq] at h; omega)]; exact q1
  have r2 : w2.cell? ⟨w.heap.size, 2, none⟩ = some (.int .i64 n) := by rw [hw2, World.cell?_setCell_other _ _ _ _ (by intro h; simp only [Addr.mk.injEq] at h; omega)]; exact q2
  have s0 : w2.cell? ⟨w.heap.size + 2, 0, none⟩ = some (.slice x0 B.length y0) := by rw [hw2]; exact World.cell?_setCell_same _ _ _ g0
  have s1 : w2.cell? ⟨w.heap.size + 2, 1, none⟩ = some (.slice none 0 0) := by rw [hw2, World.cell?_setCell_other _ _ _ _ (by intro h; simp only [Addr.mk.injEq] at h; omega)]; exact g1
  have s2 : w2.cell? ⟨w.heap.size + 2, 2, none⟩ = some (.int .i64 0) := by rw [hw2, World.cell?_setCell_other _ _ _ _ (by intro h; simp only [Addr.mk.injEq] at h; omega)]; exact g2
  have i0 : w2.cell? ⟨w.heap.size + 1, 0, none⟩ = some (.slice none 0 0) := by rw [hw2, World.cell?_setCell_other _ _ _ _ (by intro h; simp only [Addr.mk.injEq] at h; omega)]; exact j0
  have i1 : w2.cell? ⟨w.heap.size + 1, 1, none⟩ = some (.slice none 0 0) := by rw [hw2, World.cell?_setCell_other _ _ _ _ (by intro h; simp only [Addr.mk.injEq] at h; omega)]; exact j1
  have i2 : w2.cell? ⟨w.heap.size + 1, 2, none⟩ = some (.int .i64 0) := by rw [hw2, World.cell?_setCell_other _ _ _ _ (by intro h; simp only [Addr.mk.injEq] at h; omega)]; exact j2
  have sf : ∀ j, w2.frozen? ⟨w.heap.size + 2, j, none⟩ = false := fun j => by rw [hw2]; simpa using gf j
  have if_ : ∀ j, w2.frozen? ⟨w.heap.size + 1, j, none⟩ = false := fun j => by rw [hw2]; simpa using jf j
  clear hw2 q1 q2 g0 g1 g2 j0 j1 j2 gf jf HB0 HO0
  refine (toLevelS_any _ _ _ (HA.out.below HB2.out) l1 N1.out).mono ?_
  rintro e w3 ⟨⟨u, HsA, rfl, o1⟩, k3⟩
  have HB3 : Hid (Below w.heap.size w w3) := HB2.out.trans (k3.mono HB2.out.size)
  have hs3 : w.heap.size + 3 ≤ w3.heap.size := Nat.le_trans hs2 k3.size
  have q2 := (k3.cell (p := ⟨w.heap.size, 2, none⟩) (by show w.heap.size < _; omega)).trans r2
  have g0 := (k3.cell (p := ⟨w.heap.size + 2, 0, none⟩) (by show w.heap.size + 2 < _; omega)).trans s0
  have g1 := (k3.cell (p := ⟨w.heap.size + 2, 1, none⟩) (by show w.heap.size + 2 < _; omega)).trans s1
  have g2 := (k3.cell (p := ⟨w.heap.size + 2, 2, none⟩) (by show w.heap.size + 2 < _; omega)).trans s2
  have j0 := (k3.cell (p := ⟨w.heap.size + 1, 0, none⟩) (by show w.heap.size + 1 < _; omega)).trans i0
  have j1 := (k3.cell (p := ⟨w.heap.size + 1, 1, none⟩) (by show w.heap.size + 1 < _; omega)).trans i1
  have j2 := (k3.cell (p := ⟨w.heap.size + 1, 2, none⟩) (by show w.heap.size + 1 < _; omega)).trans i2
  have gf : ∀ j, w3.frozen? ⟨w.heap.size + 2, j, none⟩ = false := fun j => (k3.frozen (by show w.heap.size + 2 < _; omega)).trans (sf j)
  have jf : ∀ j, w3.frozen? ⟨w.heap.size + 1, j, none⟩ = false := fun j => (k3.frozen (by show w.heap.size + 1 < _; omega)).trans (if_ j)
  obtain ⟨x1, y1, rfl⟩ := o1.slice
  have HP : Hid (Lv.Own w3 (w.heap.size + 3) 76 87 (.slice x0 B.length y0) B HsB ∧ Lv.Own w3 w2.heap.size 76 87 (.slice x1 A.length y1) A HsA) := ⟨(HO2.out.below k3).mono (by omega), o1⟩
  have HUM : Hid (Lv.Under w2.heap.size (.slice x0 B.length y0) B HsB) := HUN.out.mono (by omega)
  have hs23 : Hid (w2.heap.size ≤ w3.heap.size) := k3.size
  clear o1 k3 r1 r2 s0 s1 s2 i0 i1 i2 sf if_ HO2 HB2
  go_wp2_with fail
  refine bodyPost_ret (v := .agg #[.slice x0 B.length y0, .slice x1 A.length y1, .int .i64 n]) (by simp [results, Try.results19, go_sem, g0, g1, g2, j0, j1, j2] <;> rfl) rfl ⟨⟨_, _, HsB, HsA, w2.heap.size, rfl, ?_, ?_, HUM.out, by omega, ?_⟩, ?_⟩
  · refine Lv.Own.mono ?_ (Nat.le_add_right _ 3)
    repeat (refine Lv.Own.setBelow ?_ (by omega) _ _)
    exact HP.out.1
  · repeat (refine Lv.Own.setBelow ?_ (by omega) _ _)
    exact HP.out.2
  · simpa using hs23.out
  · repeat (refine Below.setCell ?_ (by simp <;> omega) _)
    exact HB3.out
end Go.Proofs.Ytnhpcknbnmhlhaa

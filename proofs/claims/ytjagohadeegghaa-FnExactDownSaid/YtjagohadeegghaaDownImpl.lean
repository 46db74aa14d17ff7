/- The walk of the program's Down. -/
import Derived.Test.YtjagohadeegghaaFirstNewImpl
import Derived.Test.YtjagohadeegghaaDownSpec
import Derived.Deep.RegionHeld3
namespace Go.Proofs.Ytjagohadeegghaa
open Go.RowKit
set_option linter.unusedVariables false
set_option linter.unusedSimpArgs false
theorem Aw.past5 {w : World} {b p i : Nat} {x y z s t v : Value} (hb : p ≠ b) (h : w.cell? ⟨p, i, none⟩ = some v) : (((((w.setCell ⟨b, 0, none⟩ x).setCell ⟨b, 1, none⟩ y).setCell ⟨b, 2, none⟩ z).setCell ⟨b, 3, none⟩ s).setCell ⟨b, 4, none⟩ t).cell? ⟨p, i, none⟩ = some v := by
  have hne : ∀ j, (⟨b, j, none⟩ : Addr) ≠ ⟨p, i, none⟩ := fun j e => by simp only [Addr.mk.injEq] at e; exact hb e.1.symm
  rw [World.cell?_setCell_other _ _ _ _ (by first | exact hne 4 | exact (hne 4).symm), World.cell?_setCell_other _ _ _ _ (by first | exact hne 3 | exact (hne 3).symm), World.cell?_setCell_other _ _ _ _ (by first | exact hne 2 | exact (hne 2).symm), World.cell?_setCell_other _ _ _ _ (by first | exact hne 1 | exact (hne 1).symm), World.cell?_setCell_other _ _ _ _ (by first | exact hne 0 | exact (hne 0).symm)]
  exact h
theorem Aw.two {w w' : World} {base : Nat} {e : TypeId} {u v : Value} {F G : List Or.E} (h1 : Rk.Own Or.S w base e u F) (h2 : Rk.Own Or.S w' w.heap.size e v G) (hB : Below w.heap.size w w') (hb : base ≤ w.heap.size) : Ob.Two w' base e u v F G :=
  ⟨h1.below hB, h2.mono hb, fun k hk hk' => by have a1 := (h1.lt k hk).2; have a2 := (h2.lt k hk').1; omega⟩
set_option maxRecDepth 100000 in
set_option maxHeartbeats 8000000 in
theorem down_impl (u v : Value) (n : Int) (B A : List Lv.E) (w : World) (hu : Lv.View w u B) (hv : Lv.View w v A) (l0 : B.length ≤ 1048576) (l1 : A.length ≤ 1048576) (m0 : (Nb.flat B).length ≤ 1048576) (m1 : (Nb.flat A).length ≤ 1048576) :
    Calls Try.prog 27 #[.agg #[u, v, .int .i64 n]] w fun e w' => (∃ x y, e = .returned (.agg #[x, y, .int .i64 (Nb.down B A n).2.2.1, .int .i64 (Nb.down B A n).2.2.2.1, .int .i64 (Nb.down B A n).2.2.2.2]) ∧ Aw.Ord w' 55 w.heap.size w'.heap.size x y (Nb.down B A n).1 (Nb.down B A n).2.1) ∧ Below w.heap.size w w' := by
  obtain ⟨W, hW⟩ : ∃ W, W = (w.alloc (.cells #[u, v, .int .i64 n] 28)).alloc (.cells #[.slice none 0 0, .slice none 0 0, .int .i64 0, .int .i64 0, .int .i64 0] 44) := ⟨_, rfl⟩
  have b0 : Below w.heap.size w W := by
    rw [hW]
    repeat (first | exact Below.refl _ _ | refine Below.alloc ?_ (by simp <;> omega) _)
  have hz : W.heap.size = w.heap.size + 2 := by rw [hW]; simp
  have a0 : W.cell? ⟨w.heap.size, 0, none⟩ = some (u) := by rw [hW, Fk.cellOld _ _ _ _ (by simp), Fk.cellTop _ _ _ _ _ rfl]; rfl
  have a1 : W.cell? ⟨w.heap.size, 1, none⟩ = some (v) := by rw [hW, Fk.cellOld _ _ _ _ (by simp), Fk.cellTop _ _ _ _ _ rfl]; rfl
  have a2 : W.cell? ⟨w.heap.size, 2, none⟩ = some (.int .i64 n) := by rw [hW, Fk.cellOld _ _ _ _ (by simp), Fk.cellTop _ _ _ _ _ rfl]; rfl
  have z0 : W.cell? ⟨w.heap.size + 1, 0, none⟩ = some (.slice none 0 0) := by rw [hW, Fk.cellTop _ _ _ _ _ (by simp)]; rfl
  have z1 : W.cell? ⟨w.heap.size + 1, 1, none⟩ = some (.slice none 0 0) := by rw [hW, Fk.cellTop _ _ _ _ _ (by simp)]; rfl
  have z2 : W.cell? ⟨w.heap.size + 1, 2, none⟩ = some (.int .i64 0) := by rw [hW, Fk.cellTop _ _ _ _ _ (by simp)]; rfl
  have z3 : W.cell? ⟨w.heap.size + 1, 3, none⟩ = some (.int .i64 0) := by rw [hW, Fk.cellTop _ _ _ _ _ (by simp)]; rfl
  have z4 : W.cell? ⟨w.heap.size + 1, 4, none⟩ = some (.int .i64 0) := by rw [hW, Fk.cellTop _ _ _ _ _ (by simp)]; rfl
  have zf : ∀ j, W.frozen? ⟨w.heap.size + 1, j, none⟩ = false := fun j => by rw [hW, Fk.frozTop _ _ _ _ _ (by simp)]
  have HZ : Hid (w.heap.size < W.heap.size ∧ w.heap.size + 1 < W.heap.size) := by show _ ∧ _; omega
  have HU := Fk.hide (hu.below b0)
  have HV := Fk.hide (hv.below b0)
  obtain ⟨a0', cap0, rfl⟩ := hu.slice
  obtain ⟨a1', cap1, rfl⟩ := hv.slice
  have HB0 := Fk.hide b0
  have HW := Fk.hide hW
  clear hu hv hW b0 hz
  go_enter Try.func27, Try.ntmps27
  go_wp2_with fail
  rw [← HW.out]
  refine (newRight_impl _ _ _ B A _ HU.out HV.out l0 l1 m0 m1).mono ?_
  rintro e w1 ⟨rfl, k1⟩
  have HB1 : Hid (Below w.heap.size w w1) := HB0.out.trans (k1.mono HB0.out.size)
  have ap0 : w1.cell? ⟨w.heap.size, 0, none⟩ = some (.slice a0' B.length cap0) := (k1.cell (by show w.heap.size < _; have := HZ.out.1; omega)).trans a0
  have ap1 : w1.cell? ⟨w.heap.size, 1, none⟩ = some (.slice a1' A.length cap1) := (k1.cell (by show w.heap.size < _; have := HZ.out.1; omega)).trans a1
  have ap2 : w1.cell? ⟨w.heap.size, 2, none⟩ = some (.int .i64 n) := (k1.cell (by show w.heap.size < _; have := HZ.out.1; omega)).trans a2
  have zp0 : w1.cell? ⟨w.heap.size + 1, 0, none⟩ = some (.slice none 0 0) := (k1.cell (by show w.heap.size + 1 < _; have := HZ.out.2; omega)).trans z0
  have zp1 : w1.cell? ⟨w.heap.size + 1, 1, none⟩ = some (.slice none 0 0) := (k1.cell (by show w.heap.size + 1 < _; have := HZ.out.2; omega)).trans z1
  have zp2 : w1.cell? ⟨w.heap.size + 1, 2, none⟩ = some (.int .i64 0) := (k1.cell (by show w.heap.size + 1 < _; have := HZ.out.2; omega)).trans z2
  have zp3 : w1.cell? ⟨w.heap.size + 1, 3, none⟩ = some (.int .i64 0) := (k1.cell (by show w.heap.size + 1 < _; have := HZ.out.2; omega)).trans z3
  have zp4 : w1.cell? ⟨w.heap.size + 1, 4, none⟩ = some (.int .i64 0) := (k1.cell (by show w.heap.size + 1 < _; have := HZ.out.2; omega)).trans z4
  have zpf : ∀ j, w1.frozen? ⟨w.heap.size + 1, j, none⟩ = false := fun j => (k1.frozen (by show w.heap.size + 1 < _; have := HZ.out.2; omega)).trans (zf j)
  have yp0 := zpf 0
  have yp1 := zpf 1
  have yp2 := zpf 2
  have yp3 := zpf 3
  have yp4 := zpf 4
  have HS1 : Hid (W.heap.size ≤ w1.heap.size) := k1.size
  have HU1 := Fk.hide (HU.out.below k1)
  have HV1 := Fk.hide (HV.out.below k1)
  obtain ⟨r, hr⟩ : ∃ r, r = Nb.right B A n := ⟨_, rfl⟩
  rw [← hr]
  have HR := Fk.hide hr
  clear hr k1 z0 z1 z2 z3 z4 zf a0 a1 a2 HU HV
  cases r with
  | false =>
    go_wp2_with fail
    have HD : Hid (Nb.down B A n = ([], [], 0, 0, 1)) := by show _ = _; unfold Nb.down; rw [← HR.out]; rfl
    have HFB : Hid (Below w.heap.size w (((((w1.setCell ⟨w.heap.size + 1, 0, none⟩ (.slice none 0 0)).setCell ⟨w.heap.size + 1, 1, none⟩ (.slice none 0 0)).setCell ⟨w.heap.size + 1, 2, none⟩ (.int .i64 0)).setCell ⟨w.heap.size + 1, 3, none⟩ (.int .i64 0)).setCell ⟨w.heap.size + 1, 4, none⟩ (.int .i64 1))) := by show Below _ _ _; repeat (first | exact HB1.out | refine Below.drew ?_ | refine Below.setCell ?_ (by show w.heap.size ≤ w.heap.size + 1; omega) _)
    have HFO : Hid (Aw.Ord (((((w1.setCell ⟨w.heap.size + 1, 0, none⟩ (.slice none 0 0)).setCell ⟨w.heap.size + 1, 1, none⟩ (.slice none 0 0)).setCell ⟨w.heap.size + 1, 2, none⟩ (.int .i64 0)).setCell ⟨w.heap.size + 1, 3, none⟩ (.int .i64 0)).setCell ⟨w.heap.size + 1, 4, none⟩ (.int .i64 1)) 55 w.heap.size (((((w1.setCell ⟨w.heap.size + 1, 0, none⟩ (.slice none 0 0)).setCell ⟨w.heap.size + 1, 1, none⟩ (.slice none 0 0)).setCell ⟨w.heap.size + 1, 2, none⟩ (.int .i64 0)).setCell ⟨w.heap.size + 1, 3, none⟩ (.int .i64 0)).setCell ⟨w.heap.size + 1, 4, none⟩ (.int .i64 1)).heap.size (.slice none 0 0) (.slice none 0 0) (Nb.down B A n).1 (Nb.down B A n).2.1) := by
      rw [HD.out]
      refine Aw.Ord.top ?_
      exact ⟨Rk.own_nil _ _ _, Rk.own_nil _ _ _, fun k hk => by simp [Value.ownBlock] at hk⟩
    go_wp2_with fail
    refine bodyPost_ret (v := .agg #[.slice none 0 0, .slice none 0 0, .int .i64 0, .int .i64 0, .int .i64 1]) (by simp [results, Try.results27, go_sem, World.cell?_setCell_same, World.cell?_setCell_other, zp0, zp1, zp2, zp3, zp4] <;> rfl) rfl ⟨⟨_, _, by rw [HD.out], HFO.out⟩, HFB.out⟩
  | true =>
    go_wp2_with fail
    refine (firstNew_impl _ _ _ B A _ HU1.out HV1.out l0 l1 m0 m1).mono ?_
    rintro e w2 ⟨rfl, k2⟩
    have HFE : Hid (Nb.firstNew B A n = Nb.first (Nb.flat B ++ Nb.flat A)) := by show _ = _; unfold Nb.firstNew; rw [if_pos HR.out.symm]
    rw [HFE.out]
    have HB2 : Hid (Below w.heap.size w w2) := HB1.out.trans (k2.mono HB1.out.size)
    have aq0 := (k2.cell (p := ⟨w.heap.size, 0, none⟩) (by show w.heap.size < _; have := HZ.out.1; have := HS1.out; omega)).trans ap0
    have aq1 := (k2.cell (p := ⟨w.heap.size, 1, none⟩) (by show w.heap.size < _; have := HZ.out.1; have := HS1.out; omega)).trans ap1
    have aq2 := (k2.cell (p := ⟨w.heap.size, 2, none⟩) (by show w.heap.size < _; have := HZ.out.1; have := HS1.out; omega)).trans ap2
    have zq0 := (k2.cell (p := ⟨w.heap.size + 1, 0, none⟩) (by show w.heap.size + 1 < _; have := HZ.out.2; have := HS1.out; omega)).trans zp0
    have zq1 := (k2.cell (p := ⟨w.heap.size + 1, 1, none⟩) (by show w.heap.size + 1 < _; have := HZ.out.2; have := HS1.out; omega)).trans zp1
    have zq2 := (k2.cell (p := ⟨w.heap.size + 1, 2, none⟩) (by show w.heap.size + 1 < _; have := HZ.out.2; have := HS1.out; omega)).trans zp2
    have zq3 := (k2.cell (p := ⟨w.heap.size + 1, 3, none⟩) (by show w.heap.size + 1 < _; have := HZ.out.2; have := HS1.out; omega)).trans zp3
    have zq4 := (k2.cell (p := ⟨w.heap.size + 1, 4, none⟩) (by show w.heap.size + 1 < _; have := HZ.out.2; have := HS1.out; omega)).trans zp4
    have zqf : ∀ j, w2.frozen? ⟨w.heap.size + 1, j, none⟩ = false := fun j => (k2.frozen (by show w.heap.size + 1 < _; have := HZ.out.2; have := HS1.out; omega)).trans (zpf j)
    have yq0 := zqf 0
    have yq1 := zqf 1
    have yq2 := zqf 2
    have yq3 := zqf 3
    have yq4 := zqf 4
    have HS2 : Hid (w.heap.size < w2.heap.size ∧ w.heap.size + 1 < w2.heap.size) := by have h1 := HZ.out; have h2 := HS1.out; have h3 := k2.size; show _ ∧ _; omega
    have HU2 := Fk.hide (HU1.out.below k2)
    have HV2 := Fk.hide (HV1.out.below k2)
    obtain ⟨f, hf⟩ : ∃ f, f = Nb.first (Nb.flat B ++ Nb.flat A) := ⟨_, rfl⟩
    rw [← hf]
    have HFF := Fk.hide hf
    clear hf k2 zp0 zp1 zp2 zp3 zp4 zpf yp0 yp1 yp2 yp3 yp4 ap0 ap1 ap2 HU1 HV1
    by_cases hf0 : f = 0
    · subst hf0
      have HD0 : Hid (Below w2.heap.size w2 w2.drew) := Below.drew (Below.refl _ _)
      have g0 : Hid (∀ w', Below w2.heap.size w2 w' → Calls Try.prog 78 #[.slice a0' B.length cap0] w' fun e w'' => (∃ u, e = .returned u ∧ Rk.Own Or.S w'' w'.heap.size 55 u (Nb.flat B)) ∧ Below w'.heap.size w' w'') := fun w' h => inRow_any _ B w' (HU2.out.below h) l0 m0
      have g1 : Hid (∀ w', Below w2.heap.size w2 w' → Calls Try.prog 78 #[.slice a1' A.length cap1] w' fun e w'' => (∃ u, e = .returned u ∧ Rk.Own Or.S w'' w'.heap.size 55 u (Nb.flat A)) ∧ Below w'.heap.size w' w'') := fun w' h => inRow_any _ A w' (HV2.out.below h) l1 m1
      go_wp2_with fail
      go_region_held3 (fun w' => w'.cell? ⟨w.heap.size, 0, none⟩ = some (.slice a0' B.length cap0) ∧ w'.cell? ⟨w.heap.size, 1, none⟩ = some (.slice a1' A.length cap1) ∧ w'.cell? ⟨w.heap.size, 2, none⟩ = some (.int .i64 n))
        (first | go_keep | (go_split_ands; exact ⟨by assumption, by assumption, by assumption⟩))
        (first
          | (have hchk := HB3.out; clear hchk; go_at_call 78; refine (g1.out _ HB3.out).mono ?_; rintro e w4 ⟨⟨u4, rfl, o4⟩, b4⟩; have B4 : Below w2.heap.size w2 w4 := HB3.out.trans (b4.mono HB3.out.size); have uq0 := (B4.cell (p := ⟨w.heap.size, 0, none⟩) (by exact HS2.out.1)).trans aq0; have uq1 := (B4.cell (p := ⟨w.heap.size, 1, none⟩) (by exact HS2.out.1)).trans aq1; have uq2 := (B4.cell (p := ⟨w.heap.size, 2, none⟩) (by exact HS2.out.1)).trans aq2; have uz0 := (B4.cell (p := ⟨w.heap.size + 1, 0, none⟩) (by exact HS2.out.2)).trans zq0; have uf0 := (B4.frozen (p := ⟨w.heap.size + 1, 0, none⟩) (by exact HS2.out.2)).trans yq0; have uz1 := (B4.cell (p := ⟨w.heap.size + 1, 1, none⟩) (by exact HS2.out.2)).trans zq1; have uf1 := (B4.frozen (p := ⟨w.heap.size + 1, 1, none⟩) (by exact HS2.out.2)).trans yq1; have uz2 := (B4.cell (p := ⟨w.heap.size + 1, 2, none⟩) (by exact HS2.out.2)).trans zq2; have uf2 := (B4.frozen (p := ⟨w.heap.size + 1, 2, none⟩) (by exact HS2.out.2)).trans yq2; have uz3 := (B4.cell (p := ⟨w.heap.size + 1, 3, none⟩) (by exact HS2.out.2)).trans zq3; have uf3 := (B4.frozen (p := ⟨w.heap.size + 1, 3, none⟩) (by exact HS2.out.2)).trans yq3; have uz4 := (B4.cell (p := ⟨w.heap.size + 1, 4, none⟩) (by exact HS2.out.2)).trans zq4; have uf4 := (B4.frozen (p := ⟨w.heap.size + 1, 4, none⟩) (by exact HS2.out.2)).trans yq4; have HB4 := Fk.hide B4; have HTW : Hid (Ob.Two w4 w2.heap.size 55 _ _ (Nb.flat B) (Nb.flat A)) := Aw.two HO3.out o4 b4 HB3.out.size; obtain ⟨a4, n4, c4, rfl⟩ := o4.slice'; have fin0 : (((((w4.setCell ⟨w.heap.size + 1, 0, none⟩ (.slice a3 n3 c3)).setCell ⟨w.heap.size + 1, 1, none⟩ (.slice a4 n4 c4)).setCell ⟨w.heap.size + 1, 2, none⟩ (.int .i64 n)).setCell ⟨w.heap.size + 1, 3, none⟩ (.int .i64 0)).setCell ⟨w.heap.size + 1, 4, none⟩ (.int .i64 0)).cell? ⟨w.heap.size, 0, none⟩ = some (.slice a0' B.length cap0) := Aw.past5 (by omega) uq0; have fin1 : (((((w4.setCell ⟨w.heap.size + 1, 0, none⟩ (.slice a3 n3 c3)).setCell ⟨w.heap.size + 1, 1, none⟩ (.slice a4 n4 c4)).setCell ⟨w.heap.size + 1, 2, none⟩ (.int .i64 n)).setCell ⟨w.heap.size + 1, 3, none⟩ (.int .i64 0)).setCell ⟨w.heap.size + 1, 4, none⟩ (.int .i64 0)).cell? ⟨w.heap.size, 1, none⟩ = some (.slice a1' A.length cap1) := Aw.past5 (by omega) uq1; have fin2 : (((((w4.setCell ⟨w.heap.size + 1, 0, none⟩ (.slice a3 n3 c3)).setCell ⟨w.heap.size + 1, 1, none⟩ (.slice a4 n4 c4)).setCell ⟨w.heap.size + 1, 2, none⟩ (.int .i64 n)).setCell ⟨w.heap.size + 1, 3, none⟩ (.int .i64 0)).setCell ⟨w.heap.size + 1, 4, none⟩ (.int .i64 0)).cell? ⟨w.heap.size, 2, none⟩ = some (.int .i64 n) := Aw.past5 (by omega) uq2; clear B4 b4 o4)
          | (go_at_call 78; refine (g0.out _ HD0.out).mono ?_; rintro e w3 ⟨⟨u3, rfl, o3⟩, b3⟩; have B3 : Below w2.heap.size w2 w3 := HD0.out.trans (b3.mono HD0.out.size); have tq0 := (B3.cell (p := ⟨w.heap.size, 0, none⟩) (by exact HS2.out.1)).trans aq0; have tq1 := (B3.cell (p := ⟨w.heap.size, 1, none⟩) (by exact HS2.out.1)).trans aq1; have tq2 := (B3.cell (p := ⟨w.heap.size, 2, none⟩) (by exact HS2.out.1)).trans aq2; have tz0 := (B3.cell (p := ⟨w.heap.size + 1, 0, none⟩) (by exact HS2.out.2)).trans zq0; have tz1 := (B3.cell (p := ⟨w.heap.size + 1, 1, none⟩) (by exact HS2.out.2)).trans zq1; have tz2 := (B3.cell (p := ⟨w.heap.size + 1, 2, none⟩) (by exact HS2.out.2)).trans zq2; have tz3 := (B3.cell (p := ⟨w.heap.size + 1, 3, none⟩) (by exact HS2.out.2)).trans zq3; have tz4 := (B3.cell (p := ⟨w.heap.size + 1, 4, none⟩) (by exact HS2.out.2)).trans zq4; have HB3 := Fk.hide B3; have HO3 := Fk.hide (o3.mono (show w2.heap.size ≤ _ by exact Nat.le_refl _)); obtain ⟨a3, n3, c3, rfl⟩ := o3.slice'; clear B3 b3 o3))
      all_goals
        have HB5 : Hid (Below w.heap.size w w4) := HB2.out.trans (HB4.out.mono HB2.out.size)
        have HD : Hid (Nb.down B A n = (Nb.flat B, Nb.flat A, n, 0, 0)) := by show _ = _; unfold Nb.down; rw [if_pos HR.out.symm, if_pos HFF.out.symm]
        have HFB : Hid (Below w.heap.size w (((((w4.setCell ⟨w.heap.size + 1, 0, none⟩ (.slice a3 n3 c3)).setCell ⟨w.heap.size + 1, 1, none⟩ (.slice a4 n4 c4)).setCell ⟨w.heap.size + 1, 2, none⟩ (.int .i64 n)).setCell ⟨w.heap.size + 1, 3, none⟩ (.int .i64 0)).setCell ⟨w.heap.size + 1, 4, none⟩ (.int .i64 0))) := by show Below _ _ _; repeat (first | exact HB5.out | refine Below.drew ?_ | refine Below.setCell ?_ (by show w.heap.size ≤ w.heap.size + 1; omega) _)
        have HFO : Hid (Aw.Ord (((((w4.setCell ⟨w.heap.size + 1, 0, none⟩ (.slice a3 n3 c3)).setCell ⟨w.heap.size + 1, 1, none⟩ (.slice a4 n4 c4)).setCell ⟨w.heap.size + 1, 2, none⟩ (.int .i64 n)).setCell ⟨w.heap.size + 1, 3, none⟩ (.int .i64 0)).setCell ⟨w.heap.size + 1, 4, none⟩ (.int .i64 0)) 55 w.heap.size (((((w4.setCell ⟨w.heap.size + 1, 0, none⟩ (.slice a3 n3 c3)).setCell ⟨w.heap.size + 1, 1, none⟩ (.slice a4 n4 c4)).setCell ⟨w.heap.size + 1, 2, none⟩ (.int .i64 n)).setCell ⟨w.heap.size + 1, 3, none⟩ (.int .i64 0)).setCell ⟨w.heap.size + 1, 4, none⟩ (.int .i64 0)).heap.size (.slice a3 n3 c3) (.slice a4 n4 c4) (Nb.down B A n).1 (Nb.down B A n).2.1) := by
          rw [HD.out]
          refine Aw.Ord.top ?_
          exact (((((HTW.out.setBelow HS2.out.2 0 _).setBelow HS2.out.2 1 _).setBelow HS2.out.2 2 _).setBelow HS2.out.2 3 _).setBelow HS2.out.2 4 _).mono' (Nat.le_of_lt HS2.out.1)
        go_wp2_with fail
        refine bodyPost_ret (v := .agg #[.slice a3 n3 c3, .slice a4 n4 c4, .int .i64 n, .int .i64 0, .int .i64 0]) (by simp [results, Try.results27, go_sem, World.cell?_setCell_same, World.cell?_setCell_other, uz0, uz1, uz2, uz3, uz4] <;> rfl) rfl ⟨⟨_, _, by rw [HD.out], HFO.out⟩, HFB.out⟩
    · have d1 : decide (f = 0) = false := decide_eq_false hf0
      have d2 : (f == 0) = false := by simpa using hf0
      have d3 : (f != 0) = true := by simpa using hf0
      go_wp2_with fail
      have HD : Hid (Nb.down B A n = ([], [], 0, f, 12)) := by show _ = _; unfold Nb.down; rw [if_pos HR.out.symm, if_neg (by rw [← HFF.out]; exact hf0), ← HFF.out]
      have HFB : Hid (Below w.heap.size w (((((w2.setCell ⟨w.heap.size + 1, 0, none⟩ (.slice none 0 0)).setCell ⟨w.heap.size + 1, 1, none⟩ (.slice none 0 0)).setCell ⟨w.heap.size + 1, 2, none⟩ (.int .i64 0)).setCell ⟨w.heap.size + 1, 3, none⟩ (.int .i64 f)).setCell ⟨w.heap.size + 1, 4, none⟩ (.int .i64 12))) := by show Below _ _ _; repeat (first | exact HB2.out | refine Below.drew ?_ | refine Below.setCell ?_ (by show w.heap.size ≤ w.heap.size + 1; omega) _)
      have HFO : Hid (Aw.Ord (((((w2.setCell ⟨w.heap.size + 1, 0, none⟩ (.slice none 0 0)).setCell ⟨w.heap.size + 1, 1, none⟩ (.slice none 0 0)).setCell ⟨w.heap.size + 1, 2, none⟩ (.int .i64 0)).setCell ⟨w.heap.size + 1, 3, none⟩ (.int .i64 f)).setCell ⟨w.heap.size + 1, 4, none⟩ (.int .i64 12)) 55 w.heap.size (((((w2.setCell ⟨w.heap.size + 1, 0, none⟩ (.slice none 0 0)).setCell ⟨w.heap.size + 1, 1, none⟩ (.slice none 0 0)).setCell ⟨w.heap.size + 1, 2, none⟩ (.int .i64 0)).setCell ⟨w.heap.size + 1, 3, none⟩ (.int .i64 f)).setCell ⟨w.heap.size + 1, 4, none⟩ (.int .i64 12)).heap.size (.slice none 0 0) (.slice none 0 0) (Nb.down B A n).1 (Nb.down B A n).2.1) := by
        rw [HD.out]
        refine Aw.Ord.top ?_
        exact ⟨Rk.own_nil _ _ _, Rk.own_nil _ _ _, fun k hk => by simp [Value.ownBlock] at hk⟩
      go_wp2_with fail
      refine bodyPost_ret (v := .agg #[.slice none 0 0, .slice none 0 0, .int .i64 0, .int .i64 f, .int .i64 12]) (by simp [results, Try.results27, go_sem, World.cell?_setCell_same, World.cell?_setCell_other, zq0, zq1, zq2, zq3, zq4] <;> rfl) rfl ⟨⟨_, _, by rw [HD.out], HFO.out⟩, HFB.out⟩
end Go.Proofs.Ytjagohadeegghaa

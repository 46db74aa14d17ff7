/- The walk of the program's Up. -/
import Derived.Test.YtnhpcknbnmhlhaaUpSpec
import Derived.Test.YtnhpcknbnmhlhaaLevelsPut
import Derived.Test.YtnhpcknbnmhlhaaOldRightImpl
namespace Go.Proofs.Ytnhpcknbnmhlhaa
open Go.RowKit
set_option linter.unusedVariables false
set_option linter.unusedSimpArgs false
set_option maxRecDepth 100000 in
set_option maxHeartbeats 8000000 in
theorem up_impl (u v : Value) (n : Int) (B A : List Or.E) (w : World) (hu : Rk.View Or.S w u B) (hv : Rk.View Or.S w v A) (su : Rk.Shut u) (sv : Rk.Shut v) (fu : Rk.Fit u) (fv : Rk.Fit v) (l0 : B.length ≤ 1048576) (l1 : A.length ≤ 1048576) :
    Calls Try.prog 34 #[.agg #[u, v, .int .i64 n]] w fun e w' => (∃ x y, e = .returned (.agg #[x, y, .int .i64 (Nb.up B A n).2.2]) ∧ Aw.Lev w' 76 87 w.heap.size w'.heap.size x y (Nb.up B A n).1 (Nb.up B A n).2.1) ∧ Below w.heap.size w w' := by
  obtain ⟨W, hW⟩ : ∃ W, W = (w.alloc (.cells #[u, v, .int .i64 n] 34)).alloc (.cells #[.slice none 0 0, .slice none 0 0, .int .i64 0] 37) := ⟨_, rfl⟩
  have b0 : Below w.heap.size w W := by
    rw [hW]
    repeat (first | exact Below.refl _ _ | refine Below.alloc ?_ (by simp <;> omega) _)
  have hz : W.heap.size = w.heap.size + 2 := by rw [hW]; simp
  have a0 : W.cell? ⟨w.heap.size, 0, none⟩ = some (u) := by rw [hW, Fk.cellOld _ _ _ _ (by simp), Fk.cellTop _ _ _ _ _ rfl]; rfl
  have a1 : W.cell? ⟨w.heap.size, 1, none⟩ = some (v) := by rw [hW, Fk.cellOld _ _ _ _ (by simp), Fk.cellTop _ _ _ _ _ rfl]; rfl
  have a2 : W.cell? ⟨w.heap.size, 2, none⟩ = some (.int .i64 n) := by rw [hW, Fk.cellOld _ _ _ _ (by simp), Fk.cellTop _ _ _ _ _ rfl]; rfl
  have z0 : W.cell? ⟨w.heap.size + 1, 0, none⟩ = some (.slice none 0 0) := by rw [hW, Fk.cellTop _ _ _ _ _ (by simp)]; rfl
  have z1 : W.cell? ⟨w.heap.size + 1, 1, none⟩ = some (.slice none 0 0) := by rw [hW, Fk.cellTop _ _ _ _ _ (by simp)]; rfl
  have z2 : W.cell? ⟨w.heap.size + 1, 2, none⟩ = some (.int .i64 0) := by rw [hW, Fk.cellTop _ _ _ _ _ (by simp)]; rfl
  have zf : ∀ j, W.frozen? ⟨w.heap.size + 1, j, none⟩ = false := fun j => by rw [hW, Fk.frozTop _ _ _ _ _ (by simp)]
  have HZ : Hid (w.heap.size < W.heap.size ∧ w.heap.size + 1 < W.heap.size) := by show _ ∧ _; omega
  have HU := Fk.hide (hu.below b0)
  have HSU := Fk.hide su
  have HFU := Fk.hide fu
  have HV := Fk.hide (hv.below b0)
  have HSV := Fk.hide sv
  have HFV := Fk.hide fv
  obtain ⟨a0', cap0, rfl, _⟩ := hu
  obtain ⟨a1', cap1, rfl, _⟩ := hv
  have HB0 := Fk.hide b0
  have HW := Fk.hide hW
  clear hW b0 hz su sv fu fv
  go_enter Try.func34, Try.ntmps34
  go_wp2_with fail
  rw [← HW.out]
  refine (oldRight_impl _ _ _ B A _ HU.out HV.out HSU.out HSV.out l0 l1).mono ?_
  rintro e w1 ⟨rfl, k1⟩
  have HB1 : Hid (Below w.heap.size w w1) := HB0.out.trans (k1.mono HB0.out.size)
  have ap0 := (k1.cell (p := ⟨w.heap.size, 0, none⟩) (by exact HZ.out.1)).trans a0
  have ap1 := (k1.cell (p := ⟨w.heap.size, 1, none⟩) (by exact HZ.out.1)).trans a1
  have ap2 := (k1.cell (p := ⟨w.heap.size, 2, none⟩) (by exact HZ.out.1)).trans a2
  have zp0 := (k1.cell (p := ⟨w.heap.size + 1, 0, none⟩) (by exact HZ.out.2)).trans z0
  have zp1 := (k1.cell (p := ⟨w.heap.size + 1, 1, none⟩) (by exact HZ.out.2)).trans z1
  have zp2 := (k1.cell (p := ⟨w.heap.size + 1, 2, none⟩) (by exact HZ.out.2)).trans z2
  have zpf : ∀ j, w1.frozen? ⟨w.heap.size + 1, j, none⟩ = false := fun j => (k1.frozen (by exact HZ.out.2)).trans (zf j)
  have yp0 := zpf 0
  have yp1 := zpf 1
  have yp2 := zpf 2
  have HS1 : Hid (w.heap.size < w1.heap.size ∧ w.heap.size + 1 < w1.heap.size) := by have h1 := HZ.out; have h3 := k1.size; show _ ∧ _; omega
  have HU1 := Fk.hide (HU.out.below k1)
  have HV1 := Fk.hide (HV.out.below k1)
  obtain ⟨r, hr⟩ : ∃ r, r = Ob.right B A n := ⟨_, rfl⟩
  rw [← hr]
  have HR := Fk.hide hr
  clear hr k1 z0 z1 z2 zf a0 a1 a2 HU HV
  cases r with
  | false =>
    go_wp2_with fail
    have HD : Hid (Nb.up B A n = ([], [], 0)) := by show _ = _; unfold Nb.up; rw [← HR.out]; rfl
    have HFB : Hid (Below w.heap.size w (((w1.setCell ⟨w.heap.size + 1, 0, none⟩ (.slice none 0 0)).setCell ⟨w.heap.size + 1, 1, none⟩ (.slice none 0 0)).setCell ⟨w.heap.size + 1, 2, none⟩ (.int .i64 0))) := by show Below _ _ _; repeat (first | exact HB1.out | refine Below.drew ?_ | refine Below.setCell ?_ (by show w.heap.size ≤ w.heap.size + 1; omega) _)
    have HFO : Hid (Aw.Lev (((w1.setCell ⟨w.heap.size + 1, 0, none⟩ (.slice none 0 0)).setCell ⟨w.heap.size + 1, 1, none⟩ (.slice none 0 0)).setCell ⟨w.heap.size + 1, 2, none⟩ (.int .i64 0)) 76 87 w.heap.size (((w1.setCell ⟨w.heap.size + 1, 0, none⟩ (.slice none 0 0)).setCell ⟨w.heap.size + 1, 1, none⟩ (.slice none 0 0)).setCell ⟨w.heap.size + 1, 2, none⟩ (.int .i64 0)).heap.size (.slice none 0 0) (.slice none 0 0) (Nb.up B A n).1 (Nb.up B A n).2.1) := by
      rw [HD.out]
      refine Aw.Lev.ofPair ?_
      exact Lv.pair_nil _ _ _ _ (by simp [World.setCell]; have := HS1.out.1; omega)
    go_wp2_with fail
    refine bodyPost_ret (v := .agg #[.slice none 0 0, .slice none 0 0, .int .i64 0]) (by simp [results, Try.results34, go_sem, World.cell?_setCell_same, World.cell?_setCell_other, zp0, zp1, zp2] <;> rfl) rfl ⟨⟨_, _, by rw [HD.out], HFO.out⟩, HFB.out⟩
  | true =>
    have HD0 : Hid (Below w1.heap.size w1 w1.drew) := Below.drew (Below.refl _ _)
    have g0 : Hid (∀ w', Below w1.heap.size w1 w' → Calls Try.prog 48 #[.slice a0' B.length cap0] w' fun e w'' => (∃ u Hs, e = .returned u ∧ Lv.Own w'' w'.heap.size 76 87 u (Nb.levels B) Hs) ∧ Below w'.heap.size w' w'') := fun w' h => inLevels_any _ B w' (HU1.out.below h) HFU.out l0
    have g1 : Hid (∀ w', Below w1.heap.size w1 w' → Calls Try.prog 48 #[.slice a1' A.length cap1] w' fun e w'' => (∃ u Hs, e = .returned u ∧ Lv.Own w'' w'.heap.size 76 87 u (Nb.levels A) Hs) ∧ Below w'.heap.size w' w'') := fun w' h => inLevels_any _ A w' (HV1.out.below h) HFV.out l1
    go_wp2_with fail
    go_region_held3 (fun w' => w'.cell? ⟨w.heap.size, 0, none⟩ = some (.slice a0' B.length cap0) ∧ w'.cell? ⟨w.heap.size, 1, none⟩ = some (.slice a1' A.length cap1) ∧ w'.cell? ⟨w.heap.size, 2, none⟩ = some (.int .i64 n))
      (first | go_keep | (go_split_ands; exact ⟨by assumption, by assumption, by assumption⟩))
      (first
        | (have hchk := HB3.out; clear hchk; go_at_call 48; refine (g1.out _ HB3.out).mono ?_; rintro e w4 ⟨⟨u4, Hs4, rfl, o4⟩, b4⟩; have B4 : Below w1.heap.size w1 w4 := HB3.out.trans (b4.mono HB3.out.size); have uq0 := (B4.cell (p := ⟨w.heap.size, 0, none⟩) (by exact HS1.out.1)).trans ap0; have uq1 := (B4.cell (p := ⟨w.heap.size, 1, none⟩) (by exact HS1.out.1)).trans ap1; have uq2 := (B4.cell (p := ⟨w.heap.size, 2, none⟩) (by exact HS1.out.1)).trans ap2; have uz0 := (B4.cell (p := ⟨w.heap.size + 1, 0, none⟩) (by exact HS1.out.2)).trans zp0; have uf0 := (B4.frozen (p := ⟨w.heap.size + 1, 0, none⟩) (by exact HS1.out.2)).trans yp0; have uz1 := (B4.cell (p := ⟨w.heap.size + 1, 1, none⟩) (by exact HS1.out.2)).trans zp1; have uf1 := (B4.frozen (p := ⟨w.heap.size + 1, 1, none⟩) (by exact HS1.out.2)).trans yp1; have uz2 := (B4.cell (p := ⟨w.heap.size + 1, 2, none⟩) (by exact HS1.out.2)).trans zp2; have uf2 := (B4.frozen (p := ⟨w.heap.size + 1, 2, none⟩) (by exact HS1.out.2)).trans yp2; have HB4 := Fk.hide B4; have HPR : Hid (Lv.Pair w4 w1.heap.size 76 87 _ _ _ _) := Lv.Pair.two HO3.out o4 b4 HB3.out.size; obtain ⟨a4, n4, c4, rfl⟩ := o4.row.slice'; have fin0 : (((w4.setCell ⟨w.heap.size + 1, 0, none⟩ (.slice a3 n3 c3)).setCell ⟨w.heap.size + 1, 1, none⟩ (.slice a4 n4 c4)).setCell ⟨w.heap.size + 1, 2, none⟩ (.int .i64 n)).cell? ⟨w.heap.size, 0, none⟩ = some (.slice a0' B.length cap0) := Lv.past3 (by omega) uq0; have fin1 : (((w4.setCell ⟨w.heap.size + 1, 0, none⟩ (.slice a3 n3 c3)).setCell ⟨w.heap.size + 1, 1, none⟩ (.slice a4 n4 c4)).setCell ⟨w.heap.size + 1, 2, none⟩ (.int .i64 n)).cell? ⟨w.heap.size, 1, none⟩ = some (.slice a1' A.length cap1) := Lv.past3 (by omega) uq1; have fin2 : (((w4.setCell ⟨w.heap.size + 1, 0, none⟩ (.slice a3 n3 c3)).setCell ⟨w.heap.size + 1, 1, none⟩ (.slice a4 n4 c4)).setCell ⟨w.heap.size + 1, 2, none⟩ (.int .i64 n)).cell? ⟨w.heap.size, 2, none⟩ = some (.int .i64 n) := Lv.past3 (by omega) uq2; clear B4 b4 o4)
        | (go_at_call 48; refine (g0.out _ HD0.out).mono ?_; rintro e w3 ⟨⟨u3, Hs3, rfl, o3⟩, b3⟩; have B3 : Below w1.heap.size w1 w3 := HD0.out.trans (b3.mono HD0.out.size); have tq0 := (B3.cell (p := ⟨w.heap.size, 0, none⟩) (by exact HS1.out.1)).trans ap0; have tq1 := (B3.cell (p := ⟨w.heap.size, 1, none⟩) (by exact HS1.out.1)).trans ap1; have tq2 := (B3.cell (p := ⟨w.heap.size, 2, none⟩) (by exact HS1.out.1)).trans ap2; have tz0 := (B3.cell (p := ⟨w.heap.size + 1, 0, none⟩) (by exact HS1.out.2)).trans zp0; have tz1 := (B3.cell (p := ⟨w.heap.size + 1, 1, none⟩) (by exact HS1.out.2)).trans zp1; have tz2 := (B3.cell (p := ⟨w.heap.size + 1, 2, none⟩) (by exact HS1.out.2)).trans zp2; have HB3 := Fk.hide B3; have HO3 := Fk.hide (o3.mono (show w1.heap.size ≤ _ by exact Nat.le_refl _)); obtain ⟨a3, n3, c3, rfl⟩ := o3.row.slice'; clear B3 b3 o3))
    all_goals
      have HB5 : Hid (Below w.heap.size w w4) := HB1.out.trans (HB4.out.mono HB1.out.size)
      have HD : Hid (Nb.up B A n = (Nb.levels B, Nb.levels A, n)) := by show _ = _; unfold Nb.up; rw [if_pos HR.out.symm]
      have HFB : Hid (Below w.heap.size w (((w4.setCell ⟨w.heap.size + 1, 0, none⟩ (.slice a3 n3 c3)).setCell ⟨w.heap.size + 1, 1, none⟩ (.slice a4 n4 c4)).setCell ⟨w.heap.size + 1, 2, none⟩ (.int .i64 n))) := by show Below _ _ _; repeat (first | exact HB5.out | refine Below.drew ?_ | refine Below.setCell ?_ (by show w.heap.size ≤ w.heap.size + 1; omega) _)
      have HFO : Hid (Aw.Lev (((w4.setCell ⟨w.heap.size + 1, 0, none⟩ (.slice a3 n3 c3)).setCell ⟨w.heap.size + 1, 1, none⟩ (.slice a4 n4 c4)).setCell ⟨w.heap.size + 1, 2, none⟩ (.int .i64 n)) 76 87 w.heap.size (((w4.setCell ⟨w.heap.size + 1, 0, none⟩ (.slice a3 n3 c3)).setCell ⟨w.heap.size + 1, 1, none⟩ (.slice a4 n4 c4)).setCell ⟨w.heap.size + 1, 2, none⟩ (.int .i64 n)).heap.size (.slice a3 n3 c3) (.slice a4 n4 c4) (Nb.up B A n).1 (Nb.up B A n).2.1) := by
        rw [HD.out]
        refine Aw.Lev.ofPair ?_
        exact (((HPR.out.setBelow HS1.out.2 0 _).setBelow HS1.out.2 1 _).setBelow HS1.out.2 2 _).mono (Nat.le_of_lt HS1.out.1)
      go_wp2_with fail
      refine bodyPost_ret (v := .agg #[.slice a3 n3 c3, .slice a4 n4 c4, .int .i64 n]) (by simp [results, Try.results34, go_sem, World.cell?_setCell_same, World.cell?_setCell_other, uz0, uz1, uz2] <;> rfl) rfl ⟨⟨_, _, by rw [HD.out], HFO.out⟩, HFB.out⟩
end Go.Proofs.Ytnhpcknbnmhlhaa

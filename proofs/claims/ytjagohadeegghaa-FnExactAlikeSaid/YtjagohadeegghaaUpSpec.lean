/- The walk of the specification's Up. -/
import Derived.Test.YtjagohadeegghaaLevelsClose
import Derived.Test.YtjagohadeegghaaLevelsPut
import Derived.Test.YtjagohadeegghaaOldRightSpec2
import Derived.Test.YtjagohadeegghaaAnsKit
namespace Go.Proofs.Ytjagohadeegghaa
open Go.RowKit
set_option linter.unusedVariables false
set_option linter.unusedSimpArgs false
/-- what goes over: both sides' levels and Next -/
def Nb.up (B A : List Or.E) (n : Int) : List Lv.E × List Lv.E × Int := if Ob.right B A n = true then (Nb.levels B, Nb.levels A, n) else ([], [], 0)
theorem Nb.up_length (B A : List Or.E) (n : Int) (h0 : B.length ≤ 1048576) (h1 : A.length ≤ 1048576) : ((Nb.up B A n).1.length ≤ 1048576 ∧ (Nb.up B A n).2.1.length ≤ 1048576) ∧ (Nb.flat (Nb.up B A n).1).length ≤ 1048576 ∧ (Nb.flat (Nb.up B A n).2.1).length ≤ 1048576 := by
  unfold Nb.up
  have e0 := Nb.levels_length B
  have e1 := Nb.levels_length A
  split
  · simp only [Nb.flat_levels]; omega
  · simp [Nb.flat]
theorem Aw.Lev.ofPair {w : World} {eh eo : TypeId} {base : Nat} {u v : Value} {B A : List Lv.E} (h : Lv.Pair w base eh eo u v B A) : Aw.Lev w eh eo base w.heap.size u v B A := by
  obtain ⟨HB, HA, mid, h1, h2, h3, h4, h5⟩ := h
  exact ⟨HB, HA, mid, h1, h2, h3, h2.under, h4, h5, Nat.le_refl _⟩
theorem Lv.pair_nil (w : World) (base : Nat) (eh eo : TypeId) (hb : base ≤ w.heap.size) : Lv.Pair w base eh eo (.slice none 0 0) (.slice none 0 0) [] [] :=
  ⟨[], [], base, Lv.own_nil _ _ _ _, Lv.own_nil _ _ _ _, ⟨fun k hk => by simp [Value.ownBlock] at hk, fun i hi => absurd hi (by simp)⟩, Nat.le_refl _, hb⟩
theorem Lv.pair_slice {w : World} {base : Nat} {eh eo : TypeId} {u v : Value} {B A : List Lv.E} (h : Lv.Pair w base eh eo u v B A) : ∃ a n c, u = .slice a n c := by
  obtain ⟨HB, HA, mid, h1, _⟩ := h
  exact h1.row.slice'
theorem Lv.pair_slice' {w : World} {base : Nat} {eh eo : TypeId} {u v : Value} {B A : List Lv.E} (h : Lv.Pair w base eh eo u v B A) : ∃ a n c, v = .slice a n c := by
  obtain ⟨HB, HA, mid, _, h2, _⟩ := h
  exact h2.row.slice'
set_option maxRecDepth 100000 in
set_option maxHeartbeats 8000000 in
theorem up_spec (u v : Value) (n : Int) (B A : List Or.E) (w : World) (hu : Rk.View Or.S w u B) (hv : Rk.View Or.S w v A) (su : Rk.Shut u) (sv : Rk.Shut v) (fu : Rk.Fit u) (fv : Rk.Fit v) (l0 : B.length ≤ 1048576) (l1 : A.length ≤ 1048576) :
    Calls Try.prog 16 #[.agg #[u, v, .int .i64 n]] w fun e w' => (∃ x y, e = .returned (.agg #[x, y, .int .i64 (Nb.up B A n).2.2]) ∧ Aw.Lev w' 103 55 w.heap.size w'.heap.size x y (Nb.up B A n).1 (Nb.up B A n).2.1) ∧ Below w.heap.size w w' := by
  obtain ⟨W, hW⟩ : ∃ W, W = (w.alloc (.cells #[u, v, .int .i64 n] 32)).alloc (.cells #[.slice none 0 0, .slice none 0 0, .int .i64 0] 28) := ⟨_, rfl⟩
  have b0 : Below w.heap.size w W := by
    rw [hW]
    repeat (first | exact Below.refl _ _ | refine Below.alloc ?_ (by simp <;> omega) _)
  have hz : W.heap.size = w.heap.size + 2 := by rw [hW]; simp
  have a0 : W.cell? ⟨w.heap.size, 0, none⟩ = some (u) := by rw [hW, Fk.cellOld _ _ _ _ (by simp), Fk.cellTop _ _ _ _ _ rfl]; rfl
  have a1 : W.cell? ⟨w.heap.size, 1, none⟩ = some (v) := by rw [hW, Fk.cellOld _ _ _ _ (by simp), Fk.cellTop _ _ _ _ _ rfl]; rfl
  have a2 : W.cell? ⟨w.heap.size, 2, none⟩ = some (.int .i64 n) := by rw [hW, Fk.cellOld _ _ _ _ (by simp), Fk.cellTop _ _ _ _ _ rfl]; rfl
  have z0 : W.cell? ⟨w.heap.size + 1, 0, none⟩ = some (.slice none 0 0) := by rw [hW, Fk.cellTop _ _ _ _ _ (by simp)]; rfl
  have z1 : W.cell? ⟨w.heap.size + 1, 1, none⟩ = some (.slice none 0 0) := by rw [hW, Fk.cellTop _ _ _ _ _ (by simp)]; rfl
  have z2 : W.cell? ⟨w.heap.size + 1, 2, none⟩ = some (.int .i64 0) := by rw [hW, Fk.cellTop _ _ _ _ _ (by simp)]; rfl
  have zf : ∀ j, W.frozen? ⟨w.heap.size + 1, j, none⟩ = false := fun j => by rw [hW, Fk.frozTop _ _ _ _ _ (by simp)]
  have HZ : Hid (w.heap.size < W.heap.size ∧ w.heap.size + 1 < W.heap.size) := by show _ ∧ _; omega
  have HU := Fk.hide (hu.below b0)
  have HSU := Fk.hide su
  have HFU := Fk.hide fu
  have HV := Fk.hide (hv.below b0)
  have HSV := Fk.hide sv
  have HFV := Fk.hide fv
  obtain ⟨a0', cap0, rfl, _⟩ := hu
  obtain ⟨a1', cap1, rfl, _⟩ := hv
  have HB0 := Fk.hide b0
  have HW := Fk.hide hW
  clear hW b0 hz su sv fu fv
  go_enter Try.func16, Try.ntmps16
  go_wp2_with fail
  rw [← HW.out]
  refine (oldRight_spec _ _ _ B A _ HU.out HV.out HSU.out HSV.out l0 l1).mono ?_
  rintro e w1 ⟨rfl, k1⟩
  have HB1 : Hid (Below w.heap.size w w1) := HB0.out.trans (k1.mono HB0.out.size)
  have ap0 := (k1.cell (p := ⟨w.heap.size, 0, none⟩) (by exact HZ.out.1)).trans a0
  have ap1 := (k1.cell (p := ⟨w.heap.size, 1, none⟩) (by exact HZ.out.1)).trans a1
  have ap2 := (k1.cell (p := ⟨w.heap.size, 2, none⟩) (by exact HZ.out.1)).trans a2
  have zp0 := (k1.cell (p := ⟨w.heap.size + 1, 0, none⟩) (by exact HZ.out.2)).trans z0
  have zp1 := (k1.cell (p := ⟨w.heap.size + 1, 1, none⟩) (by exact HZ.out.2)).trans z1
  have zp2 := (k1.cell (p := ⟨w.heap.size + 1, 2, none⟩) (by exact HZ.out.2)).trans z2
  have zpf : ∀ j, w1.frozen? ⟨w.heap.size + 1, j, none⟩ = false := fun j => (k1.frozen (by exact HZ.out.2)).trans (zf j)
  have yp0 := zpf 0
  have yp1 := zpf 1
  have yp2 := zpf 2
  have HS1 : Hid (w.heap.size < w1.heap.size ∧ w.heap.size + 1 < w1.heap.size) := by have h1 := HZ.out; have h3 := k1.size; show _ ∧ _; omega
  have HU1 := Fk.hide (HU.out.below k1)
  have HV1 := Fk.hide (HV.out.below k1)
  obtain ⟨r, hr⟩ : ∃ r, r = Ob.right B A n := ⟨_, rfl⟩
  rw [← hr]
  have HR := Fk.hide hr
  clear hr k1 z0 z1 z2 zf a0 a1 a2 HU HV
  cases r with
  | false =>
    go_wp2_with fail
    have HD : Hid (Nb.up B A n = ([], [], 0)) := by show _ = _; unfold Nb.up; rw [← HR.out]; rfl
    have HFB : Hid (Below w.heap.size w (((w1.setCell ⟨w.heap.size + 1, 0, none⟩ (.slice none 0 0)).setCell ⟨w.heap.size + 1, 1, none⟩ (.slice none 0 0)).setCell ⟨w.heap.size + 1, 2, none⟩ (.int .i64 0))) := by show Below _ _ _; repeat (first | exact HB1.out | refine Below.drew ?_ | refine Below.setCell ?_ (by show w.heap.size ≤ w.heap.size + 1; omega) _)
    have HFO : Hid (Aw.Lev (((w1.setCell ⟨w.heap.size + 1, 0, none⟩ (.slice none 0 0)).setCell ⟨w.heap.size + 1, 1, none⟩ (.slice none 0 0)).setCell ⟨w.heap.size + 1, 2, none⟩ (.int .i64 0)) 103 55 w.heap.size (((w1.setCell ⟨w.heap.size + 1, 0, none⟩ (.slice none 0 0)).setCell ⟨w.heap.size + 1, 1, none⟩ (.slice none 0 0)).setCell ⟨w.heap.size + 1, 2, none⟩ (.int .i64 0)).heap.size (.slice none 0 0) (.slice none 0 0) (Nb.up B A n).1 (Nb.up B A n).2.1) := by
      rw [HD.out]
      refine Aw.Lev.ofPair ?_
      exact Lv.pair_nil _ _ _ _ (by simp [World.setCell]; have := HS1.out.1; omega)
    go_wp2_with fail
    refine bodyPost_ret (v := .agg #[.slice none 0 0, .slice none 0 0, .int .i64 0]) (by simp [results, Try.results16, go_sem, World.cell?_setCell_same, World.cell?_setCell_other, zp0, zp1, zp2] <;> rfl) rfl ⟨⟨_, _, by rw [HD.out], HFO.out⟩, HFB.out⟩
  | true =>
    go_wp2_with fail
    refine (l06Open_any _ _ _ B A _ HU1.out HV1.out HSU.out HSV.out l0 l1).mono ?_
    rintro e w2 ⟨⟨x, y, b, rfl, ht, hb0, hb1, c0, c1, c2, c3⟩, k2⟩
    have HT := Fk.hide ht
    have HBW := Fk.hide hb1
    have HB2 : Hid (Below w.heap.size w w2) := HB1.out.trans (k2.mono HB1.out.size)
    have zq0 := (k2.cell (p := ⟨w.heap.size + 1, 0, none⟩) (by exact HS1.out.2)).trans zp0
    have zq1 := (k2.cell (p := ⟨w.heap.size + 1, 1, none⟩) (by exact HS1.out.2)).trans zp1
    have zq2 := (k2.cell (p := ⟨w.heap.size + 1, 2, none⟩) (by exact HS1.out.2)).trans zp2
    have zqf : ∀ j, w2.frozen? ⟨w.heap.size + 1, j, none⟩ = false := fun j => (k2.frozen (by exact HS1.out.2)).trans (zpf j)
    have HS2 : Hid (w.heap.size < w2.heap.size ∧ w.heap.size + 1 < w2.heap.size) := by have h1 := HS1.out; have h3 := k2.size; show _ ∧ _; omega
    clear k2 ht hb0 zp0 zp1 zp2 zpf yp0 yp1 yp2 ap0 ap1 ap2 c3
    go_wp2_with fail
    refine (l07Close_any b x y n B A _ hb1 c0 c1 c2 HT.out.b.view HT.out.a.view l0 l1).mono ?_
    rintro e w3 ⟨⟨x3, y3, rfl, hp⟩, k3⟩
    have HB3 : Hid (Below w.heap.size w w3) := HB2.out.trans (k3.mono HB2.out.size)
    have zr0 := (k3.cell (p := ⟨w.heap.size + 1, 0, none⟩) (by exact HS2.out.2)).trans zq0
    have zr1 := (k3.cell (p := ⟨w.heap.size + 1, 1, none⟩) (by exact HS2.out.2)).trans zq1
    have zr2 := (k3.cell (p := ⟨w.heap.size + 1, 2, none⟩) (by exact HS2.out.2)).trans zq2
    have yr0 := (k3.frozen (p := ⟨w.heap.size + 1, 0, none⟩) (by exact HS2.out.2)).trans (zqf 0)
    have yr1 := (k3.frozen (p := ⟨w.heap.size + 1, 1, none⟩) (by exact HS2.out.2)).trans (zqf 1)
    have yr2 := (k3.frozen (p := ⟨w.heap.size + 1, 2, none⟩) (by exact HS2.out.2)).trans (zqf 2)
    have HPR := Fk.hide hp
    obtain ⟨x4, xn, xc, rfl⟩ := Lv.pair_slice hp
    obtain ⟨y4, yn, yc, rfl⟩ := Lv.pair_slice' hp
    clear k3 hp c0 c1 c2 zq0 zq1 zq2 zqf
    have HD : Hid (Nb.up B A n = (Nb.levels B, Nb.levels A, n)) := by show _ = _; unfold Nb.up; rw [if_pos HR.out.symm]
    have HFB : Hid (Below w.heap.size w (((w3.setCell ⟨w.heap.size + 1, 0, none⟩ (.slice x4 xn xc)).setCell ⟨w.heap.size + 1, 1, none⟩ (.slice y4 yn yc)).setCell ⟨w.heap.size + 1, 2, none⟩ (.int .i64 n))) := by show Below _ _ _; repeat (first | exact HB3.out | refine Below.drew ?_ | refine Below.setCell ?_ (by show w.heap.size ≤ w.heap.size + 1; omega) _)
    have HFO : Hid (Aw.Lev (((w3.setCell ⟨w.heap.size + 1, 0, none⟩ (.slice x4 xn xc)).setCell ⟨w.heap.size + 1, 1, none⟩ (.slice y4 yn yc)).setCell ⟨w.heap.size + 1, 2, none⟩ (.int .i64 n)) 103 55 w.heap.size (((w3.setCell ⟨w.heap.size + 1, 0, none⟩ (.slice x4 xn xc)).setCell ⟨w.heap.size + 1, 1, none⟩ (.slice y4 yn yc)).setCell ⟨w.heap.size + 1, 2, none⟩ (.int .i64 n)).heap.size (.slice x4 xn xc) (.slice y4 yn yc) (Nb.up B A n).1 (Nb.up B A n).2.1) := by
      rw [HD.out]
      refine Aw.Lev.ofPair ?_
      exact (((HPR.out.setBelow HS2.out.2 0 _).setBelow HS2.out.2 1 _).setBelow HS2.out.2 2 _).mono (Nat.le_of_lt HS2.out.1)
    go_wp2_with fail
    refine bodyPost_ret (v := .agg #[.slice x4 xn xc, .slice y4 yn yc, .int .i64 n]) (by simp [results, Try.results16, go_sem, World.cell?_setCell_same, World.cell?_setCell_other, zr0, zr1, zr2] <;> rfl) rfl ⟨⟨_, _, by rw [HD.out], HFO.out⟩, HFB.out⟩
end Go.Proofs.Ytjagohadeegghaa

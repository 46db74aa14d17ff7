/- The walk of the specification's Down. -/
import Derived.Test.YtjagohadeegghaaFirstNew
import Derived.Test.YtjagohadeegghaaAnsKit
namespace Go.Proofs.Ytjagohadeegghaa
open Go.RowKit
set_option linter.unusedVariables false
set_option linter.unusedSimpArgs false
/-- what Down tells: both sides, Next, the Id and the code -/
def Nb.down (B A : List Lv.E) (n : Int) : List Or.E × List Or.E × Int × Int × Int :=
  if Nb.right B A n = true then (if Nb.first (Nb.flat B ++ Nb.flat A) = 0 then (Nb.flat B, Nb.flat A, n, 0, 0) else ([], [], 0, Nb.first (Nb.flat B ++ Nb.flat A), 12)) else ([], [], 0, 0, 1)
theorem Nb.down_length (B A : List Lv.E) (n : Int) (h0 : (Nb.flat B).length ≤ 1048576) (h1 : (Nb.flat A).length ≤ 1048576) : (Nb.down B A n).1.length ≤ 1048576 ∧ (Nb.down B A n).2.1.length ≤ 1048576 := by
  unfold Nb.down
  split
  · split
    · exact ⟨h0, h1⟩
    · simp
  · simp
theorem Nb.first_pos (L : List Or.E) (h : ∀ o ∈ L, 1 ≤ o.1) : Nb.first L = 0 ∨ 0 < Nb.first L := by
  induction L with
  | nil => exact .inl rfl
  | cons o r ih =>
    unfold Nb.first
    split
    · right; have := h o (by simp); omega
    · exact ih (fun x hx => h x (by simp [hx]))
theorem Ob.Two.setBelow {w : World} {base : Nat} {e : TypeId} {u v : Value} {F G : List Or.E} (h : Ob.Two w base e u v F G) {b : Nat} (hb : b < base) (i : Nat) (x : Value) : Ob.Two (w.setCell ⟨b, i, none⟩ x) base e u v F G :=
  ⟨ownsRow_setCell_below h.b (by show b < _; exact hb) _, ownsRow_setCell_below h.a (by show b < _; exact hb) _, h.ne⟩
theorem Ob.Two.mono' {w : World} {base base' : Nat} {e : TypeId} {u v : Value} {F G : List Or.E} (h : Ob.Two w base e u v F G) (hb : base' ≤ base) : Ob.Two w base' e u v F G := ⟨h.b.mono hb, h.a.mono hb, h.ne⟩
set_option maxRecDepth 100000 in
set_option maxHeartbeats 8000000 in
theorem down_spec (u v : Value) (n : Int) (B A : List Lv.E) (w : World) (hu : Lv.View w u B) (hv : Lv.View w v A) (l0 : B.length ≤ 1048576) (l1 : A.length ≤ 1048576) (m0 : (Nb.flat B).length ≤ 1048576) (m1 : (Nb.flat A).length ≤ 1048576) :
    Calls Try.prog 25 #[.agg #[u, v, .int .i64 n]] w fun e w' => (∃ x y, e = .returned (.agg #[x, y, .int .i64 (Nb.down B A n).2.2.1, .int .i64 (Nb.down B A n).2.2.2.1, .int .i64 (Nb.down B A n).2.2.2.2]) ∧ Aw.Ord w' 55 w.heap.size w'.heap.size x y (Nb.down B A n).1 (Nb.down B A n).2.1) ∧ Below w.heap.size w w' := by
  obtain ⟨W, hW⟩ : ∃ W, W = (w.alloc (.cells #[u, v, .int .i64 n] 28)).alloc (.cells #[.slice none 0 0, .slice none 0 0, .int .i64 0, .int .i64 0, .int .i64 0] 44) := ⟨_, rfl⟩
  have b0 : Below w.heap.size w W := by
    rw [hW]
    repeat (first | exact Below.refl _ _ | refine Below.alloc ?_ (by simp <;> omega) _)
  have hz : W.heap.size = w.heap.size + 2 := by rw [hW]; simp
  have a0 : W.cell? ⟨w.heap.size, 0, none⟩ = some (u) := by rw [hW, Fk.cellOld _ _ _ _ (by simp), Fk.cellTop _ _ _ _ _ rfl]; rfl
  have a1 : W.cell? ⟨w.heap.size, 1, none⟩ = some (v) := by rw [hW, Fk.cellOld _ _ _ _ (by simp), Fk.cellTop _ _ _ _ _ rfl]; rfl
  have a2 : W.cell? ⟨w.heap.size, 2, none⟩ = some (.int .i64 n) := by rw [hW, Fk.cellOld _ _ _ _ (by simp), Fk.cellTop _ _ _ _ _ rfl]; rfl
  have z0 : W.cell? ⟨w.heap.size + 1, 0, none⟩ = some (.slice none 0 0) := by rw [hW, Fk.cellTop _ _ _ _ _ (by simp)]; rfl
  have z1 : W.cell? ⟨w.heap.size + 1, 1, none⟩ = some (.slice none 0 0) := by rw [hW, Fk.cellTop _ _ _ _ _ (by simp)]; rfl
  have z2 : W.cell? ⟨w.heap.size + 1, 2, none⟩ = some (.int .i64 0) := by rw [hW, Fk.cellTop _ _ _ _ _ (by simp)]; rfl
  have z3 : W.cell? ⟨w.heap.size + 1, 3, none⟩ = some (.int .i64 0) := by rw [hW, Fk.cellTop _ _ _ _ _ (by simp)]; rfl
  have z4 : W.cell? ⟨w.heap.size + 1, 4, none⟩ = some (.int .i64 0) := by rw [hW, Fk.cellTop _ _ _ _ _ (by simp)]; rfl
  have zf : ∀ j, W.frozen? ⟨w.heap.size + 1, j, none⟩ = false := fun j => by rw [hW, Fk.frozTop _ _ _ _ _ (by simp)]
  have HZ : Hid (w.heap.size < W.heap.size ∧ w.heap.size + 1 < W.heap.size) := by show _ ∧ _; omega
  have HU := Fk.hide (hu.below b0)
  have HV := Fk.hide (hv.below b0)
  obtain ⟨a0', cap0, rfl⟩ := hu.slice
  obtain ⟨a1', cap1, rfl⟩ := hv.slice
  have HB0 := Fk.hide b0
  have HW := Fk.hide hW
  clear hu hv hW b0 hz
  go_enter Try.func25, Try.ntmps25
  go_wp2_with fail
  rw [← HW.out]
  refine (l07Open_any _ _ _ B A _ HU.out HV.out l0 l1 m0 m1).mono ?_
  rintro e w1 ⟨⟨x, y, b, FB, FA, rfl, ho⟩, k1⟩
  have HB1 : Hid (Below w.heap.size w w1) := HB0.out.trans (k1.mono HB0.out.size)
  have zp0 : w1.cell? ⟨w.heap.size + 1, 0, none⟩ = some (.slice none 0 0) := (k1.cell (by show w.heap.size + 1 < _; have := HZ.out.2; omega)).trans z0
  have zp1 : w1.cell? ⟨w.heap.size + 1, 1, none⟩ = some (.slice none 0 0) := (k1.cell (by show w.heap.size + 1 < _; have := HZ.out.2; omega)).trans z1
  have zp2 : w1.cell? ⟨w.heap.size + 1, 2, none⟩ = some (.int .i64 0) := (k1.cell (by show w.heap.size + 1 < _; have := HZ.out.2; omega)).trans z2
  have zp3 : w1.cell? ⟨w.heap.size + 1, 3, none⟩ = some (.int .i64 0) := (k1.cell (by show w.heap.size + 1 < _; have := HZ.out.2; omega)).trans z3
  have zp4 : w1.cell? ⟨w.heap.size + 1, 4, none⟩ = some (.int .i64 0) := (k1.cell (by show w.heap.size + 1 < _; have := HZ.out.2; omega)).trans z4
  have zpf : ∀ j, w1.frozen? ⟨w.heap.size + 1, j, none⟩ = false := fun j => (k1.frozen (by show w.heap.size + 1 < _; have := HZ.out.2; omega)).trans (zf j)
  have yp0 := zpf 0
  have yp1 := zpf 1
  have yp2 := zpf 2
  have yp3 := zpf 3
  have yp4 := zpf 4
  have HS1 : Hid (W.heap.size ≤ w1.heap.size) := k1.size
  obtain ⟨r, hr⟩ : ∃ r, r = Nb.right B A n := ⟨_, rfl⟩
  have HO := Fk.hide ho
  rw [← hr]
  have HR := Fk.hide hr
  clear hr k1 ho z0 z1 z2 z3 z4 zf a0 a1 a2 HU HV
  cases r with
  | false =>
    go_wp2_with fail
    have HD : Hid (Nb.down B A n = ([], [], 0, 0, 1)) := by show _ = _; unfold Nb.down; rw [← HR.out]; rfl
    have HFB : Hid (Below w.heap.size w (((((w1.setCell ⟨w.heap.size + 1, 0, none⟩ (.slice none 0 0)).setCell ⟨w.heap.size + 1, 1, none⟩ (.slice none 0 0)).setCell ⟨w.heap.size + 1, 2, none⟩ (.int .i64 0)).setCell ⟨w.heap.size + 1, 3, none⟩ (.int .i64 0)).setCell ⟨w.heap.size + 1, 4, none⟩ (.int .i64 1))) := by show Below _ _ _; repeat (first | exact HB1.out | refine Below.drew ?_ | refine Below.setCell ?_ (by show w.heap.size ≤ w.heap.size + 1; omega) _)
    have HFO : Hid (Aw.Ord (((((w1.setCell ⟨w.heap.size + 1, 0, none⟩ (.slice none 0 0)).setCell ⟨w.heap.size + 1, 1, none⟩ (.slice none 0 0)).setCell ⟨w.heap.size + 1, 2, none⟩ (.int .i64 0)).setCell ⟨w.heap.size + 1, 3, none⟩ (.int .i64 0)).setCell ⟨w.heap.size + 1, 4, none⟩ (.int .i64 1)) 55 w.heap.size (((((w1.setCell ⟨w.heap.size + 1, 0, none⟩ (.slice none 0 0)).setCell ⟨w.heap.size + 1, 1, none⟩ (.slice none 0 0)).setCell ⟨w.heap.size + 1, 2, none⟩ (.int .i64 0)).setCell ⟨w.heap.size + 1, 3, none⟩ (.int .i64 0)).setCell ⟨w.heap.size + 1, 4, none⟩ (.int .i64 1)).heap.size (.slice none 0 0) (.slice none 0 0) (Nb.down B A n).1 (Nb.down B A n).2.1) := by
      rw [HD.out]
      refine Aw.Ord.top ?_
      exact ⟨Rk.own_nil _ _ _, Rk.own_nil _ _ _, fun k hk => by simp [Value.ownBlock] at hk⟩
    go_wp2_with fail
    refine bodyPost_ret (v := .agg #[.slice none 0 0, .slice none 0 0, .int .i64 0, .int .i64 0, .int .i64 1]) (by simp [results, Try.results25, go_sem, World.cell?_setCell_same, World.cell?_setCell_other, zp0, zp1, zp2, zp3, zp4] <;> rfl) rfl ⟨⟨_, _, by rw [HD.out], HFO.out⟩, HFB.out⟩
  | true =>
    obtain ⟨t, h1, h2, ⟨c0, c1, c2, c3⟩, h3, h4, h5⟩ := HO.out
    obtain ⟨e1, e2⟩ := h3 HR.out.symm
    have HF1 : Hid (Nb.firstP (FB ++ FA) = Nb.first (Nb.flat B ++ Nb.flat A)) := by show _ = _; rw [e1, e2]; exact Nb.firstP_first _ (Nb.right_peaks HR.out.symm)
    have HT := Fk.hide t
    have HE1 := Fk.hide e1
    have HE2 := Fk.hide e2
    have HBW := Fk.hide h2
    clear e1 e2 h3 t HO
    go_wp2_with fail
    refine (l09First_any b x y FB FA _ h2 c0 c1 HT.out.b.view HT.out.a.view HT.out.b.shut HT.out.a.shut h4 h5).mono ?_
    rintro e w2 ⟨rfl, k2⟩
    rw [HF1.out]
    have HB2 : Hid (Below w.heap.size w w2) := HB1.out.trans (k2.mono HB1.out.size)
    have zq0 := (k2.cell (p := ⟨w.heap.size + 1, 0, none⟩) (by show w.heap.size + 1 < _; have := HZ.out.2; have := HS1.out; omega)).trans zp0
    have zq1 := (k2.cell (p := ⟨w.heap.size + 1, 1, none⟩) (by show w.heap.size + 1 < _; have := HZ.out.2; have := HS1.out; omega)).trans zp1
    have zq2 := (k2.cell (p := ⟨w.heap.size + 1, 2, none⟩) (by show w.heap.size + 1 < _; have := HZ.out.2; have := HS1.out; omega)).trans zp2
    have zq3 := (k2.cell (p := ⟨w.heap.size + 1, 3, none⟩) (by show w.heap.size + 1 < _; have := HZ.out.2; have := HS1.out; omega)).trans zp3
    have zq4 := (k2.cell (p := ⟨w.heap.size + 1, 4, none⟩) (by show w.heap.size + 1 < _; have := HZ.out.2; have := HS1.out; omega)).trans zp4
    have yq0 := (k2.frozen (p := ⟨w.heap.size + 1, 0, none⟩) (by show w.heap.size + 1 < _; have := HZ.out.2; have := HS1.out; omega)).trans (zpf 0)
    have yq1 := (k2.frozen (p := ⟨w.heap.size + 1, 1, none⟩) (by show w.heap.size + 1 < _; have := HZ.out.2; have := HS1.out; omega)).trans (zpf 1)
    have yq2 := (k2.frozen (p := ⟨w.heap.size + 1, 2, none⟩) (by show w.heap.size + 1 < _; have := HZ.out.2; have := HS1.out; omega)).trans (zpf 2)
    have yq3 := (k2.frozen (p := ⟨w.heap.size + 1, 3, none⟩) (by show w.heap.size + 1 < _; have := HZ.out.2; have := HS1.out; omega)).trans (zpf 3)
    have yq4 := (k2.frozen (p := ⟨w.heap.size + 1, 4, none⟩) (by show w.heap.size + 1 < _; have := HZ.out.2; have := HS1.out; omega)).trans (zpf 4)
    have d0 := (k2.cell (p := ⟨b, 0, none⟩) (by exact HBW.out)).trans c0
    have d1 := (k2.cell (p := ⟨b, 1, none⟩) (by exact HBW.out)).trans c1
    have d2 := (k2.cell (p := ⟨b, 2, none⟩) (by exact HBW.out)).trans c2
    have HT2 := Fk.hide (HT.out.below k2)
    obtain ⟨x0, xc, rfl⟩ := HT.out.b.slice
    obtain ⟨y0, yc, rfl⟩ := HT.out.a.slice
    obtain ⟨f, hf⟩ : ∃ f, f = Nb.first (Nb.flat B ++ Nb.flat A) := ⟨_, rfl⟩
    rw [← hf]
    have HFF := Fk.hide hf
    have hf0 : f = 0 ∨ 0 < f := by rw [hf]; exact Nb.first_pos _ (Nb.right_ids HR.out.symm)
    clear hf k2 c0 c1 c2 c3 zp0 zp1 zp2 zp3 zp4 zpf yp0 yp1 yp2 yp3 yp4 HT HF1 h4 h5
    rcases hf0 with rfl | hf0
    · go_wp2_with fail
      go_region
      have HD : Hid (Nb.down B A n = (Nb.flat B, Nb.flat A, n, 0, 0)) := by show _ = _; unfold Nb.down; rw [if_pos HR.out.symm, if_pos HFF.out.symm]
      have HFB : Hid (Below w.heap.size w (((((w2.setCell ⟨w.heap.size + 1, 0, none⟩ (.slice x0 FB.length xc)).setCell ⟨w.heap.size + 1, 1, none⟩ (.slice y0 FA.length yc)).setCell ⟨w.heap.size + 1, 2, none⟩ (.int .i64 n)).setCell ⟨w.heap.size + 1, 3, none⟩ (.int .i64 0)).setCell ⟨w.heap.size + 1, 4, none⟩ (.int .i64 0)).drew) := by show Below _ _ _; repeat (first | exact HB2.out | refine Below.drew ?_ | refine Below.setCell ?_ (by show w.heap.size ≤ w.heap.size + 1; omega) _)
      have HFO : Hid (Aw.Ord (((((w2.setCell ⟨w.heap.size + 1, 0, none⟩ (.slice x0 FB.length xc)).setCell ⟨w.heap.size + 1, 1, none⟩ (.slice y0 FA.length yc)).setCell ⟨w.heap.size + 1, 2, none⟩ (.int .i64 n)).setCell ⟨w.heap.size + 1, 3, none⟩ (.int .i64 0)).setCell ⟨w.heap.size + 1, 4, none⟩ (.int .i64 0)).drew 55 w.heap.size (((((w2.setCell ⟨w.heap.size + 1, 0, none⟩ (.slice x0 FB.length xc)).setCell ⟨w.heap.size + 1, 1, none⟩ (.slice y0 FA.length yc)).setCell ⟨w.heap.size + 1, 2, none⟩ (.int .i64 n)).setCell ⟨w.heap.size + 1, 3, none⟩ (.int .i64 0)).setCell ⟨w.heap.size + 1, 4, none⟩ (.int .i64 0)).drew.heap.size (.slice x0 FB.length xc) (.slice y0 FA.length yc) (Nb.down B A n).1 (Nb.down B A n).2.1) := by
        rw [HD.out]
        refine Aw.Ord.top ?_
        refine Ob.Two.below ?_ (Below.drew (Below.refl _ _))
        rw [← HE1.out, ← HE2.out]; exact (((((HT2.out.setBelow HZ.out.2 0 _).setBelow HZ.out.2 1 _).setBelow HZ.out.2 2 _).setBelow HZ.out.2 3 _).setBelow HZ.out.2 4 _).mono' (Nat.le_of_lt HZ.out.1)
      go_wp2_with fail
      refine bodyPost_ret (v := .agg #[.slice x0 FB.length xc, .slice y0 FA.length yc, .int .i64 n, .int .i64 0, .int .i64 0]) (by simp [results, Try.results25, go_sem, World.cell?_setCell_same, World.cell?_setCell_other, zq0, zq1, zq2, zq3, zq4] <;> rfl) rfl ⟨⟨_, _, by rw [HD.out], HFO.out⟩, HFB.out⟩
    · have hf1 : decide (0 < f) = true := decide_eq_true hf0
      go_wp2_with fail
      have HD : Hid (Nb.down B A n = ([], [], 0, f, 12)) := by show _ = _; unfold Nb.down; rw [if_pos HR.out.symm, if_neg (by rw [← HFF.out]; omega), ← HFF.out]
      have HFB : Hid (Below w.heap.size w (((((w2.setCell ⟨w.heap.size + 1, 0, none⟩ (.slice none 0 0)).setCell ⟨w.heap.size + 1, 1, none⟩ (.slice none 0 0)).setCell ⟨w.heap.size + 1, 2, none⟩ (.int .i64 0)).setCell ⟨w.heap.size + 1, 3, none⟩ (.int .i64 f)).setCell ⟨w.heap.size + 1, 4, none⟩ (.int .i64 12))) := by show Below _ _ _; repeat (first | exact HB2.out | refine Below.drew ?_ | refine Below.setCell ?_ (by show w.heap.size ≤ w.heap.size + 1; omega) _)
      have HFO : Hid (Aw.Ord (((((w2.setCell ⟨w.heap.size + 1, 0, none⟩ (.slice none 0 0)).setCell ⟨w.heap.size + 1, 1, none⟩ (.slice none 0 0)).setCell ⟨w.heap.size + 1, 2, none⟩ (.int .i64 0)).setCell ⟨w.heap.size + 1, 3, none⟩ (.int .i64 f)).setCell ⟨w.heap.size + 1, 4, none⟩ (.int .i64 12)) 55 w.heap.size (((((w2.setCell ⟨w.heap.size + 1, 0, none⟩ (.slice none 0 0)).setCell ⟨w.heap.size + 1, 1, none⟩ (.slice none 0 0)).setCell ⟨w.heap.size + 1, 2, none⟩ (.int .i64 0)).setCell ⟨w.heap.size + 1, 3, none⟩ (.int .i64 f)).setCell ⟨w.heap.size + 1, 4, none⟩ (.int .i64 12)).heap.size (.slice none 0 0) (.slice none 0 0) (Nb.down B A n).1 (Nb.down B A n).2.1) := by
        rw [HD.out]
        refine Aw.Ord.top ?_
        exact ⟨Rk.own_nil _ _ _, Rk.own_nil _ _ _, fun k hk => by simp [Value.ownBlock] at hk⟩
      go_wp2_with fail
      refine bodyPost_ret (v := .agg #[.slice none 0 0, .slice none 0 0, .int .i64 0, .int .i64 f, .int .i64 12]) (by simp [results, Try.results25, go_sem, World.cell?_setCell_same, World.cell?_setCell_other, zq0, zq1, zq2, zq3, zq4] <;> rfl) rfl ⟨⟨_, _, by rw [HD.out], HFO.out⟩, HFB.out⟩
end Go.Proofs.Ytjagohadeegghaa

/- The walk of the specification's l07Close: the newer book that a book at work is. -/
import Derived.Test.YtjagohadeegghaaLevelsSpec
import Derived.Deep.RegionHeld3
namespace Go.Proofs.Ytjagohadeegghaa
open Go.RowKit
set_option linter.unusedVariables false
set_option linter.unusedSimpArgs false
/-- two lists of levels that the call has made, the first below a number, the second from there on -/
def Lv.Pair (w : World) (base : Nat) (eh eo : TypeId) (u v : Value) (B A : List Lv.E) : Prop := ∃ HB HA mid, Lv.Own w base eh eo u B HB ∧ Lv.Own w mid eh eo v A HA ∧ Lv.Under mid u B HB ∧ base ≤ mid ∧ mid ≤ w.heap.size
theorem Lv.Pair.below {w w' : World} {base : Nat} {eh eo : TypeId} {u v : Value} {B A : List Lv.E} (h : Lv.Pair w base eh eo u v B A) (hB : Below w.heap.size w w') : Lv.Pair w' base eh eo u v B A := by
  obtain ⟨HB, HA, mid, h1, h2, h3, h4, h5⟩ := h
  exact ⟨HB, HA, mid, h1.below hB, h2.below hB, h3, h4, Nat.le_trans h5 hB.size⟩
theorem Lv.Pair.mono {w : World} {base base' : Nat} {eh eo : TypeId} {u v : Value} {B A : List Lv.E} (h : Lv.Pair w base eh eo u v B A) (hb : base' ≤ base) : Lv.Pair w base' eh eo u v B A := by
  obtain ⟨HB, HA, mid, h1, h2, h3, h4, h5⟩ := h
  exact ⟨HB, HA, mid, h1.mono hb, h2, h3, by omega, h5⟩
theorem Lv.Pair.setBelow {w : World} {base : Nat} {eh eo : TypeId} {u v : Value} {B A : List Lv.E} (h : Lv.Pair w base eh eo u v B A) {b : Nat} (hb : b < base) (i : Nat) (x : Value) : Lv.Pair (w.setCell ⟨b, i, none⟩ x) base eh eo u v B A := by
  obtain ⟨HB, HA, mid, h1, h2, h3, h4, h5⟩ := h
  exact ⟨HB, HA, mid, h1.setBelow hb i x, h2.setBelow (by omega) i x, h3, h4, by simpa [World.setCell] using h5⟩
theorem Lv.Pair.left {w : World} {base : Nat} {eh eo : TypeId} {u v : Value} {B A : List Lv.E} (h : Lv.Pair w base eh eo u v B A) : Lv.View w u B := by
  obtain ⟨HB, HA, mid, h1, h2, h3, h4, h5⟩ := h
  exact h1.view
theorem Lv.Pair.right {w : World} {base : Nat} {eh eo : TypeId} {u v : Value} {B A : List Lv.E} (h : Lv.Pair w base eh eo u v B A) : Lv.View w v A := by
  obtain ⟨HB, HA, mid, h1, h2, h3, h4, h5⟩ := h
  exact h2.view
theorem Lv.Pair.two {w w' : World} {base : Nat} {eh eo : TypeId} {u v : Value} {B A : List Lv.E} {HB HA : List Lv.H} (h1 : Lv.Own w base eh eo u B HB) (h2 : Lv.Own w' w.heap.size eh eo v A HA) (hB : Below w.heap.size w w') (hb : base ≤ w.heap.size) : Lv.Pair w' base eh eo u v B A :=
  ⟨HB, HA, w.heap.size, h1.below hB, h2, h1.under, hb, hB.size⟩
theorem Lv.past3 {w : World} {b p i : Nat} {x y z v : Value} (hb : p ≠ b) (h : w.cell? ⟨p, i, none⟩ = some v) : (((w.setCell ⟨b, 0, none⟩ x).setCell ⟨b, 1, none⟩ y).setCell ⟨b, 2, none⟩ z).cell? ⟨p, i, none⟩ = some v := by
  have hne : ∀ j, (⟨b, j, none⟩ : Addr) ≠ ⟨p, i, none⟩ := fun j e => by simp only [Addr.mk.injEq] at e; exact hb e.1.symm
  rw [World.cell?_setCell_other _ _ _ _ (by first | exact hne 2 | exact (hne 2).symm), World.cell?_setCell_other _ _ _ _ (by first | exact hne 1 | exact (hne 1).symm), World.cell?_setCell_other _ _ _ _ (by first | exact hne 0 | exact (hne 0).symm)]
  exact h
set_option maxRecDepth 100000 in
set_option maxHeartbeats 8000000 in
theorem l07Close_any (p : Nat) (x y : Value) (n : Int) (B A : List Or.E) (w : World) (hp : p < w.heap.size) (c0 : w.cell? ⟨p, 0, none⟩ = some x) (c1 : w.cell? ⟨p, 1, none⟩ = some y) (c2 : w.cell? ⟨p, 2, none⟩ = some (.int .i64 n)) (hx : Rk.View Or.S w x B) (hy : Rk.View Or.S w y A) (l0 : B.length ≤ 1048576) (l1 : A.length ≤ 1048576) :
    Calls Try.prog 64 #[.pointer (some ⟨p, 0, none⟩)] w fun e w' => (∃ u v, e = .returned (.agg #[u, v, .int .i64 n]) ∧ Lv.Pair w' w.heap.size 103 55 u v (Nb.levels B) (Nb.levels A)) ∧ Below w.heap.size w w' := by
  obtain ⟨W, hW⟩ : ∃ W, W = w.alloc (.cells #[.slice none 0 0, .slice none 0 0, .int .i64 0] 28) := ⟨_, rfl⟩
  have b0 : Below w.heap.size w W := by rw [hW]; exact (Below.refl _ _).alloc (Nat.le_refl _) _
  have z0 : W.cell? ⟨w.heap.size, 0, none⟩ = some (.slice none 0 0) := by rw [hW, Fk.cellTop _ _ _ _ _ rfl]; rfl
  have z1 : W.cell? ⟨w.heap.size, 1, none⟩ = some (.slice none 0 0) := by rw [hW, Fk.cellTop _ _ _ _ _ rfl]; rfl
  have z2 : W.cell? ⟨w.heap.size, 2, none⟩ = some (.int .i64 0) := by rw [hW, Fk.cellTop _ _ _ _ _ rfl]; rfl
  have zf : Hid (∀ j, W.frozen? ⟨w.heap.size, j, none⟩ = false) := fun j => by rw [hW, Fk.frozTop _ _ _ _ _ rfl]
  have hz : W.heap.size = w.heap.size + 1 := by rw [hW]; simp
  have HZ : Hid (w.heap.size < W.heap.size) := by show _ < _; omega
  have HP : Hid (p < W.heap.size) := by show _ < _; omega
  have HPW : Hid (p ≠ w.heap.size) := by show _ ≠ _; omega
  have HX := Fk.hide (hx.below b0)
  have HY := Fk.hide (hy.below b0)
  have e0 : W.cell? ⟨p, 0, none⟩ = some x := (b0.cell (by exact hp)).trans c0
  have e1 : W.cell? ⟨p, 1, none⟩ = some y := (b0.cell (by exact hp)).trans c1
  have e2 : W.cell? ⟨p, 2, none⟩ = some (.int .i64 n) := (b0.cell (by exact hp)).trans c2
  have HB0 := Fk.hide b0
  have HW := Fk.hide hW
  have HD : Hid (Below W.heap.size W W.drew) := Below.drew (Below.refl _ _)
  obtain ⟨a0, cap0, rfl, _⟩ := hx
  obtain ⟨a1, cap1, rfl, _⟩ := hy
  have g0 : Hid (∀ w', Below W.heap.size W w' → Calls Try.prog 110 #[.slice a0 B.length cap0] w' fun e w'' => (∃ u Hs, e = .returned u ∧ Lv.Own w'' w'.heap.size 103 55 u (Nb.levels B) Hs) ∧ Below w'.heap.size w' w'') := fun w' h => l07Levels_any _ B w' (HX.out.below h) l0
  have g1 : Hid (∀ w', Below W.heap.size W w' → Calls Try.prog 110 #[.slice a1 A.length cap1] w' fun e w'' => (∃ u Hs, e = .returned u ∧ Lv.Own w'' w'.heap.size 103 55 u (Nb.levels A) Hs) ∧ Below w'.heap.size w' w'') := fun w' h => l07Levels_any _ A w' (HY.out.below h) l1
  clear hW b0 c0 c1 c2 hp hz
  go_enter Try.func64, Try.ntmps64
  go_wp2_with fail
  rw [← HW.out]
  go_region_held3 (fun w' => w'.cell? ⟨p, 0, none⟩ = some (.slice a0 B.length cap0) ∧ w'.cell? ⟨p, 1, none⟩ = some (.slice a1 A.length cap1) ∧ w'.cell? ⟨p, 2, none⟩ = some (.int .i64 n))
    (first | go_keep | (go_split_ands; exact ⟨by assumption, by assumption, by assumption⟩))
    (first
      | (have hchk := HB3.out; clear hchk; go_at_call 110; refine (g1.out _ HB3.out).mono ?_; rintro e w4 ⟨⟨u4, Hs4, rfl, o4⟩, b4⟩; have B4 : Below W.heap.size W w4 := HB3.out.trans (b4.mono HB3.out.size); have uq0 := (B4.cell (p := ⟨p, 0, none⟩) (by exact HP.out)).trans e0; have uq1 := (B4.cell (p := ⟨p, 1, none⟩) (by exact HP.out)).trans e1; have uq2 := (B4.cell (p := ⟨p, 2, none⟩) (by exact HP.out)).trans e2; have ur0 := (B4.cell (p := ⟨w.heap.size, 0, none⟩) (by exact HZ.out)).trans z0; have ur1 := (B4.cell (p := ⟨w.heap.size, 1, none⟩) (by exact HZ.out)).trans z1; have ur2 := (B4.cell (p := ⟨w.heap.size, 2, none⟩) (by exact HZ.out)).trans z2; have us0 := (B4.frozen (p := ⟨w.heap.size, 0, none⟩) (by exact HZ.out)).trans (zf.out 0); have us1 := (B4.frozen (p := ⟨w.heap.size, 1, none⟩) (by exact HZ.out)).trans (zf.out 1); have us2 := (B4.frozen (p := ⟨w.heap.size, 2, none⟩) (by exact HZ.out)).trans (zf.out 2); have HB4 := Fk.hide B4; have HPR : Hid (Lv.Pair w4 W.heap.size 103 55 _ _ _ _) := Lv.Pair.two HO3.out o4 b4 HB3.out.size; obtain ⟨a4, c4, rfl⟩ := o4.slice; have fin0 : (((w4.setCell ⟨w.heap.size, 0, none⟩ (.slice a3 (Nb.levels B).length c3)).setCell ⟨w.heap.size, 1, none⟩ (.slice a4 (Nb.levels A).length c4)).setCell ⟨w.heap.size, 2, none⟩ (.int .i64 n)).cell? ⟨p, 0, none⟩ = some (.slice a0 B.length cap0) := Lv.past3 HPW.out uq0; have fin1 : (((w4.setCell ⟨w.heap.size, 0, none⟩ (.slice a3 (Nb.levels B).length c3)).setCell ⟨w.heap.size, 1, none⟩ (.slice a4 (Nb.levels A).length c4)).setCell ⟨w.heap.size, 2, none⟩ (.int .i64 n)).cell? ⟨p, 1, none⟩ = some (.slice a1 A.length cap1) := Lv.past3 HPW.out uq1; have fin2 : (((w4.setCell ⟨w.heap.size, 0, none⟩ (.slice a3 (Nb.levels B).length c3)).setCell ⟨w.heap.size, 1, none⟩ (.slice a4 (Nb.levels A).length c4)).setCell ⟨w.heap.size, 2, none⟩ (.int .i64 n)).cell? ⟨p, 2, none⟩ = some (.int .i64 n) := Lv.past3 HPW.out uq2; clear B4 b4 o4)
      | (go_at_call 110; refine (g0.out _ HD.out).mono ?_; rintro e w3 ⟨⟨u3, Hs3, rfl, o3⟩, b3⟩; have B3 : Below W.heap.size W w3 := HD.out.trans (b3.mono HD.out.size); have tq0 := (B3.cell (p := ⟨p, 0, none⟩) (by exact HP.out)).trans e0; have tq1 := (B3.cell (p := ⟨p, 1, none⟩) (by exact HP.out)).trans e1; have tq2 := (B3.cell (p := ⟨p, 2, none⟩) (by exact HP.out)).trans e2; have tr0 := (B3.cell (p := ⟨w.heap.size, 0, none⟩) (by exact HZ.out)).trans z0; have tr1 := (B3.cell (p := ⟨w.heap.size, 1, none⟩) (by exact HZ.out)).trans z1; have tr2 := (B3.cell (p := ⟨w.heap.size, 2, none⟩) (by exact HZ.out)).trans z2; have ts0 := (B3.frozen (p := ⟨w.heap.size, 0, none⟩) (by exact HZ.out)).trans (zf.out 0); have ts1 := (B3.frozen (p := ⟨w.heap.size, 1, none⟩) (by exact HZ.out)).trans (zf.out 1); have ts2 := (B3.frozen (p := ⟨w.heap.size, 2, none⟩) (by exact HZ.out)).trans (zf.out 2); have HB3 := Fk.hide B3; have HO3 := Fk.hide (o3.mono (Nat.le_refl _)); obtain ⟨a3, c3, rfl⟩ := o3.slice; clear B3 b3 o3))
  all_goals
    have HF : Hid (Lv.Pair (((w4.setCell ⟨w.heap.size, 0, none⟩ (.slice a3 (Nb.levels B).length c3)).setCell ⟨w.heap.size, 1, none⟩ (.slice a4 (Nb.levels A).length c4)).setCell ⟨w.heap.size, 2, none⟩ (.int .i64 n)) w.heap.size 103 55 (.slice a3 (Nb.levels B).length c3) (.slice a4 (Nb.levels A).length c4) (Nb.levels B) (Nb.levels A)) := (((HPR.out.setBelow HZ.out 0 _).setBelow HZ.out 1 _).setBelow HZ.out 2 _).mono (Nat.le_of_lt HZ.out)
    have HFB : Hid (Below w.heap.size w (((w4.setCell ⟨w.heap.size, 0, none⟩ (.slice a3 (Nb.levels B).length c3)).setCell ⟨w.heap.size, 1, none⟩ (.slice a4 (Nb.levels A).length c4)).setCell ⟨w.heap.size, 2, none⟩ (.int .i64 n))) := (((HB0.out.trans (HB4.out.mono HB0.out.size)).setCell (Nat.le_refl _) _).setCell (Nat.le_refl _) _).setCell (Nat.le_refl _) _
    go_wp2_with fail
    refine bodyPost_ret (v := .agg #[.slice a3 (Nb.levels B).length c3, .slice a4 (Nb.levels A).length c4, .int .i64 n]) (by simp [results, Try.results64, go_sem, World.cell?_setCell_same, World.cell?_setCell_other, ur0, ur1, ur2] <;> rfl) rfl ⟨⟨_, _, rfl, HF.out⟩, HFB.out⟩
end Go.Proofs.Ytjagohadeegghaa

/- The walks of the law's own functions on a Shadow: sizes, copies, comparisons. -/
import Derived.Test.YtnhpcknbnmhlhaaAnsKit
import Derived.Test.YtnhpcknbnmhlhaaNewTo
import Derived.Test.YtnhpcknbnmhlhaaNewEq
namespace Go.Proofs.Ytnhpcknbnmhlhaa
open Go.RowKit
set_option linter.unusedVariables false
set_option linter.unusedSimpArgs false
theorem Sh.so (lo hi : Nat) (W : World) (c i : Nat) (x : Value) (h1 : lo ≤ c) (h2 : c < hi) : Lv.Only lo hi W (W.setCell ⟨c, i, none⟩ x) := Lv.Only.of_grown (Fk.grownBy_setCell _ _ _ _) (fun q hq => by cases hq; omega)
set_option maxHeartbeats 1000000 in
theorem szShadow_any (v0 v1 v2 v3 : Value) (n m : Int) (B A : List Or.E) (C D : List Lv.E) (w : World) (left : Int) (h0 : Rk.View Or.S w v0 B) (h1 : Rk.View Or.S w v1 A) (h2 : Lv.View w v2 C) (h3 : Lv.View w v3 D) (l0 : B.length ≤ maxLen) (l1 : A.length ≤ maxLen) (l2 : C.length ≤ maxLen) (l3 : D.length ≤ maxLen) (m0 : ∀ i, i < C.length → (Lv.at' C i).2.length ≤ maxLen) (m1 : ∀ i, i < D.length → (Lv.at' D i).2.length ≤ maxLen) (hl0 : 0 ≤ left) (hl1 : left ≤ 1048576) :
    Calls Try.prog 5 #[.agg #[v0, v1, .int .i64 n, v2, v3, .int .i64 m], .int .i64 left] w fun e w' =>
      (∃ r, e = .returned (.int .i64 r) ∧ (r = -1 ∨ (0 ≤ r ∧ r = left - B.length - A.length - C.length - (Nb.flat C).length - D.length - (Nb.flat D).length))) ∧ Below w.heap.size w w' := by
  obtain ⟨W, hW⟩ : ∃ W, W = w.alloc (.cells #[v0, v1, .int .i64 n, v2, v3, .int .i64 m] 29) := ⟨_, rfl⟩
  have b0 : Below w.heap.size w W := by rw [hW]; exact (Below.refl _ _).alloc (Nat.le_refl _) _
  have hz : w.heap.size < W.heap.size := by rw [hW]; simp
  have H0 := h0.below b0
  have H1 := h1.below b0
  have H2 := Fk.hide (h2.below b0)
  have H3 := Fk.hide (h3.below b0)
  obtain ⟨a0, cap0, rfl, _⟩ := h0
  obtain ⟨a1, cap1, rfl, _⟩ := h1
  obtain ⟨a2, cap2, rfl⟩ := h2.slice
  obtain ⟨a3, cap3, rfl⟩ := h3.slice
  have c0 : W.cell? ⟨w.heap.size, 0, none⟩ = some (.slice a0 B.length cap0) := by rw [hW, Fk.cellTop _ _ _ _ _ rfl]; rfl
  have c1 : W.cell? ⟨w.heap.size, 1, none⟩ = some (.slice a1 A.length cap1) := by rw [hW, Fk.cellTop _ _ _ _ _ rfl]; rfl
  have c2 : W.cell? ⟨w.heap.size, 2, none⟩ = some (.int .i64 n) := by rw [hW, Fk.cellTop _ _ _ _ _ rfl]; rfl
  have c3 : W.cell? ⟨w.heap.size, 3, none⟩ = some (.slice a2 C.length cap2) := by rw [hW, Fk.cellTop _ _ _ _ _ rfl]; rfl
  have c4 : W.cell? ⟨w.heap.size, 4, none⟩ = some (.slice a3 D.length cap3) := by rw [hW, Fk.cellTop _ _ _ _ _ rfl]; rfl
  have c5 : W.cell? ⟨w.heap.size, 5, none⟩ = some (.int .i64 m) := by rw [hW, Fk.cellTop _ _ _ _ _ rfl]; rfl
  have HW := Fk.hide hW
  clear hW c0 c1 c2
  go_enter Try.func5, Try.ntmps5
  go_wp2_with fail
  rw [← HW.out]
  refine (szOld_any _ _ _ _ _ _ _ H0 H1 l0 l1 hl0 hl1).mono ?_
  rintro e w1 ⟨⟨r, rfl, hr⟩, k1⟩
  have bel1 : Below w.heap.size w w1 := b0.trans (k1.mono b0.size)
  have d3 := (k1.cell (p := ⟨w.heap.size, 3, none⟩) (by show w.heap.size < _; omega)).trans c3
  have d4 := (k1.cell (p := ⟨w.heap.size, 4, none⟩) (by show w.heap.size < _; omega)).trans c4
  have d5 := (k1.cell (p := ⟨w.heap.size, 5, none⟩) (by show w.heap.size < _; omega)).trans c5
  have H2' := Fk.hide (H2.out.below k1)
  have H3' := Fk.hide (H3.out.below k1)
  clear k1 c3 c4 c5 H0 H1
  rcases hr with rfl | ⟨hr0, hr⟩
  · go_wp2
    go_ret
    exact ⟨⟨_, rfl, .inl rfl⟩, bel1⟩
  have hr1 : r ≤ 1048576 := by omega
  have HR := Fk.hide hr
  clear hr
  go_wp2_with fail
  refine (szNew_any _ _ _ _ _ _ _ H2'.out H3'.out l2 l3 m0 m1 hr0 hr1).mono ?_
  rintro e w2 ⟨⟨r2, rfl, hq⟩, k2⟩
  have bel2 : Below w.heap.size w w2 := bel1.trans (k2.mono bel1.size)
  clear k2
  rcases hq with rfl | ⟨hq0, hq⟩
  · go_wp2
    go_ret
    exact ⟨⟨_, rfl, .inl rfl⟩, bel2⟩
  have HQ := Fk.hide hq
  clear hq
  go_wp2
  go_ret
  exact ⟨⟨_, rfl, .inr ⟨hq0, by rw [HQ.out, HR.out]⟩⟩, bel2⟩
theorem Sh.only3 (w : World) (b i j k : Nat) (x y z : Value) : Lv.Only b (b + 1) w (((w.setCell ⟨b, i, none⟩ x).setCell ⟨b, j, none⟩ y).setCell ⟨b, k, none⟩ z) :=
  ((Lv.Only.of_grown (Fk.grownBy_setCell _ _ _ _) (fun q hq => by cases hq; omega)).trans (Lv.Only.of_grown (Fk.grownBy_setCell _ _ _ _) (fun q hq => by cases hq; omega))).trans (Lv.Only.of_grown (Fk.grownBy_setCell _ _ _ _) (fun q hq => by cases hq; omega))
set_option maxHeartbeats 2000000 in
theorem toShadow_any (v0 v1 v2 v3 : Value) (n m : Int) (B A : List Or.E) (C D : List Lv.E) (w : World) (h0 : Rk.View Or.S w v0 B) (h1 : Rk.View Or.S w v1 A) (h2 : Lv.View w v2 C) (h3 : Lv.View w v3 D) (l0 : B.length ≤ 1048576) (l1 : A.length ≤ 1048576) (l2 : C.length ≤ 1048576) (l3 : D.length ≤ 1048576) (m0 : ∀ i, i < C.length → (Lv.at' C i).2.length ≤ 1048576) (m1 : ∀ i, i < D.length → (Lv.at' D i).2.length ≤ 1048576) :
    Calls Try.prog 7 #[.agg #[v0, v1, .int .i64 n, v2, v3, .int .i64 m]] w fun e w' =>
      (∃ u v x y mid, e = .returned (.agg #[u, v, .int .i64 n, x, y, .int .i64 m]) ∧ Aw.Ord w' 87 w.heap.size mid u v B A ∧ Aw.Lev w' 76 87 mid w'.heap.size x y C D ∧ w.heap.size ≤ mid ∧ mid ≤ w'.heap.size) ∧ Below w.heap.size w w' := by
  obtain ⟨W, hW⟩ : ∃ W, W = ((w.alloc (.cells #[v0, v1, .int .i64 n, v2, v3, .int .i64 m] 29)).alloc (.cells #[.slice none 0 0, .slice none 0 0, .int .i64 0, .slice none 0 0, .slice none 0 0, .int .i64 0] 39)).alloc (.cells #[.slice none 0 0, .slice none 0 0, .int .i64 0, .slice none 0 0, .slice none 0 0, .int .i64 0] 39) := ⟨_, rfl⟩
  have b0 : Below w.heap.size w W := by
    rw [hW]
    repeat (first | exact Below.refl _ _ | refine Below.alloc ?_ (by simp <;> omega) _)
  have hsz : W.heap.size = w.heap.size + 3 := by rw [hW]; simp
  have H0 := h0.below b0
  have H1 := h1.below b0
  have H2 := Fk.hide (h2.below b0)
  have H3 := Fk.hide (h3.below b0)
  obtain ⟨a0, cap0, rfl, _⟩ := h0
  obtain ⟨a1, cap1, rfl, _⟩ := h1
  obtain ⟨a2, cap2, rfl⟩ := h2.slice
  obtain ⟨a3, cap3, rfl⟩ := h3.slice
  have c0 : W.cell? ⟨w.heap.size, 0, none⟩ = some (.slice a0 B.length cap0) := by rw [hW, Fk.cellOld _ _ _ _ (by simp <;> omega), Fk.cellOld _ _ _ _ (by simp <;> omega), Fk.cellTop _ _ _ _ _ rfl]; rfl
  have c1 : W.cell? ⟨w.heap.size, 1, none⟩ = some (.slice a1 A.length cap1) := by rw [hW, Fk.cellOld _ _ _ _ (by simp <;> omega), Fk.cellOld _ _ _ _ (by simp <;> omega), Fk.cellTop _ _ _ _ _ rfl]; rfl
  have c2 : W.cell? ⟨w.heap.size, 2, none⟩ = some (.int .i64 n) := by rw [hW, Fk.cellOld _ _ _ _ (by simp <;> omega), Fk.cellOld _ _ _ _ (by simp <;> omega), Fk.cellTop _ _ _ _ _ rfl]; rfl
  have c3 : W.cell? ⟨w.heap.size, 3, none⟩ = some (.slice a2 C.length cap2) := by rw [hW, Fk.cellOld _ _ _ _ (by simp <;> omega), Fk.cellOld _ _ _ _ (by simp <;> omega), Fk.cellTop _ _ _ _ _ rfl]; rfl
  have c4 : W.cell? ⟨w.heap.size, 4, none⟩ = some (.slice a3 D.length cap3) := by rw [hW, Fk.cellOld _ _ _ _ (by simp <;> omega), Fk.cellOld _ _ _ _ (by simp <;> omega), Fk.cellTop _ _ _ _ _ rfl]; rfl
  have c5 : W.cell? ⟨w.heap.size, 5, none⟩ = some (.int .i64 m) := by rw [hW, Fk.cellOld _ _ _ _ (by simp <;> omega), Fk.cellOld _ _ _ _ (by simp <;> omega), Fk.cellTop _ _ _ _ _ rfl]; rfl
  have e0 : W.cell? ⟨w.heap.size + 2, 0, none⟩ = some (.slice none 0 0) := by rw [hW, Fk.cellTop _ _ _ _ _ (by simp)]; rfl
  have e1 : W.cell? ⟨w.heap.size + 2, 1, none⟩ = some (.slice none 0 0) := by rw [hW, Fk.cellTop _ _ _ _ _ (by simp)]; rfl
  have e2 : W.cell? ⟨w.heap.size + 2, 2, none⟩ = some (.int .i64 0) := by rw [hW, Fk.cellTop _ _ _ _ _ (by simp)]; rfl
  have e3 : W.cell? ⟨w.heap.size + 2, 3, none⟩ = some (.slice none 0 0) := by rw [hW, Fk.cellTop _ _ _ _ _ (by simp)]; rfl
  have e4 : W.cell? ⟨w.heap.size + 2, 4, none⟩ = some (.slice none 0 0) := by rw [hW, Fk.cellTop _ _ _ _ _ (by simp)]; rfl
  have e5 : W.cell? ⟨w.heap.size + 2, 5, none⟩ = some (.int .i64 0) := by rw [hW, Fk.cellTop _ _ _ _ _ (by simp)]; rfl
  have d0 : W.cell? ⟨w.heap.size + 1, 0, none⟩ = some (.slice none 0 0) := by rw [hW, Fk.cellOld _ _ _ _ (by simp <;> omega), Fk.cellTop _ _ _ _ _ (by simp)]; rfl
  have d1 : W.cell? ⟨w.heap.size + 1, 1, none⟩ = some (.slice none 0 0) := by rw [hW, Fk.cellOld _ _ _ _ (by simp <;> omega), Fk.cellTop _ _ _ _ _ (by simp)]; rfl
  have d2 : W.cell? ⟨w.heap.size + 1, 2, none⟩ = some (.int .i64 0) := by rw [hW, Fk.cellOld _ _ _ _ (by simp <;> omega), Fk.cellTop _ _ _ _ _ (by simp)]; rfl
  have d3 : W.cell? ⟨w.heap.size + 1, 3, none⟩ = some (.slice none 0 0) := by rw [hW, Fk.cellOld _ _ _ _ (by simp <;> omega), Fk.cellTop _ _ _ _ _ (by simp)]; rfl
  have d4 : W.cell? ⟨w.heap.size + 1, 4, none⟩ = some (.slice none 0 0) := by rw [hW, Fk.cellOld _ _ _ _ (by simp <;> omega), Fk.cellTop _ _ _ _ _ (by simp)]; rfl
  have d5 : W.cell? ⟨w.heap.size + 1, 5, none⟩ = some (.int .i64 0) := by rw [hW, Fk.cellOld _ _ _ _ (by simp <;> omega), Fk.cellTop _ _ _ _ _ (by simp)]; rfl
  have ef : ∀ j, W.frozen? ⟨w.heap.size + 2, j, none⟩ = false := fun j => by rw [hW, Fk.frozTop _ _ _ _ _ (by simp)]
  have df : ∀ j, W.frozen? ⟨w.heap.size + 1, j, none⟩ = false := fun j => by rw [hW, Fk.frozOld _ _ _ _ (by simp), Fk.frozTop _ _ _ _ _ (by simp)]
  have HW := Fk.hide hW
  clear hW
  go_enter Try.func7, Try.ntmps7
  go_wp2_with fail
  rw [← HW.out]
  clear c0 c1 c2
  refine (toOld_any _ _ _ _ _ _ H0 H1 l0 l1).mono ?_
  rintro e w1 ⟨⟨u, v, rfl, o0⟩, k1⟩
  have HB0 : Hid (Below w.heap.size w w1) := b0.trans (k1.mono b0.size)
  have hs1 : w.heap.size + 3 ≤ w1.heap.size := by rw [← hsz]; exact k1.size
  have q3 := (k1.cell (p := ⟨w.heap.size, 3, none⟩) (by show w.heap.size < _; omega)).trans c3
  have q4 := (k1.cell (p := ⟨w.heap.size, 4, none⟩) (by show w.heap.size < _; omega)).trans c4
  have q5 := (k1.cell (p := ⟨w.heap.size, 5, none⟩) (by show w.heap.size < _; omega)).trans c5
  have g0 := (k1.cell (p := ⟨w.heap.size + 2, 0, none⟩) (by show w.heap.size + 2 < _; omega)).trans e0
  have g1 := (k1.cell (p := ⟨w.heap.size + 2, 1, none⟩) (by show w.heap.size + 2 < _; omega)).trans e1
  have g2 := (k1.cell (p := ⟨w.heap.size + 2, 2, none⟩) (by show w.heap.size + 2 < _; omega)).trans e2
  have g3 := (k1.cell (p := ⟨w.heap.size + 2, 3, none⟩) (by show w.heap.size + 2 < _; omega)).trans e3
  have g4 := (k1.cell (p := ⟨w.heap.size + 2, 4, none⟩) (by show w.heap.size + 2 < _; omega)).trans e4
  have g5 := (k1.cell (p := ⟨w.heap.size + 2, 5, none⟩) (by show w.heap.size + 2 < _; omega)).trans e5
  have j0 := (k1.cell (p := ⟨w.heap.size + 1, 0, none⟩) (by show w.heap.size + 1 < _; omega)).trans d0
  have j1 := (k1.cell (p := ⟨w.heap.size + 1, 1, none⟩) (by show w.heap.size + 1 < _; omega)).trans d1
  have j2 := (k1.cell (p := ⟨w.heap.size + 1, 2, none⟩) (by show w.heap.size + 1 < _; omega)).trans d2
  have j3 := (k1.cell (p := ⟨w.heap.size + 1, 3, none⟩) (by show w.heap.size + 1 < _; omega)).trans d3
  have j4 := (k1.cell (p := ⟨w.heap.size + 1, 4, none⟩) (by show w.heap.size + 1 < _; omega)).trans d4
  have j5 := (k1.cell (p := ⟨w.heap.size + 1, 5, none⟩) (by show w.heap.size + 1 < _; omega)).trans d5
  have gf : ∀ j, w1.frozen? ⟨w.heap.size + 2, j, none⟩ = false := fun j => (k1.frozen (by show w.heap.size + 2 < _; omega)).trans (ef j)
  have jf : ∀ j, w1.frozen? ⟨w.heap.size + 1, j, none⟩ = false := fun j => (k1.frozen (by show w.heap.size + 1 < _; omega)).trans (df j)
  have HO := Fk.hide (Aw.Ord.top o0)
  obtain ⟨x0, y0, z0, x1, y1, z1, rfl, rfl⟩ := HO.out.slices
  have H2' := Fk.hide (H2.out.below k1)
  have H3' := Fk.hide (H3.out.below k1)
  clear o0 k1 c3 c4 c5 e0 e1 e2 e3 e4 e5 d0 d1 d2 d3 d4 d5 ef df H0 H1 H2 H3
  go_wp2_with fail
  obtain ⟨w2, hw2⟩ : ∃ W, W = ((w1.setCell ⟨w.heap.size + 2, 0, none⟩ (.slice x0 y0 z0)).setCell ⟨w.heap.size + 2, 1, none⟩ (.slice x1 y1 z1)).setCell ⟨w.heap.size + 2, 2, none⟩ (.int .i64 n) := ⟨_, rfl⟩
  rw [← hw2]
  have hz2 : w2.heap.size = w1.heap.size := by rw [hw2]; simp
  have HY : Hid (Lv.Only (w.heap.size + 2) (w.heap.size + 2 + 1) w1 w2) := by show Lv.Only _ _ _ _; rw [hw2]; exact Sh.only3 _ _ _ _ _ _ _ _
  have HB2 : Hid (Below w.heap.size w w2) := HY.out.below HB0.out (by omega) (by omega)
  have HO2 := Fk.hide (HO.out.keep HY.out (.inr (by omega)))
  have r3 : w2.cell? ⟨w.heap.size, 3, none⟩ = some (.slice a2 C.length cap2) := HY.out.cell q3 (.inl (by show w.heap.size < _; omega))
  have r4 : w2.cell? ⟨w.heap.size, 4, none⟩ = some (.slice a3 D.length cap3) := HY.out.cell q4 (.inl (by show w.heap.size < _; omega))
  have r5 : w2.cell? ⟨w.heap.size, 5, none⟩ = some (.int .i64 m) := HY.out.cell q5 (.inl (by show w.heap.size < _; omega))
  have i0 : w2.cell? ⟨w.heap.size + 1, 0, none⟩ = some (.slice none 0 0) := HY.out.cell j0 (.inl (by show w.heap.size + 1 < _; omega))
  have i1 : w2.cell? ⟨w.heap.size + 1, 1, none⟩ = some (.slice none 0 0) := HY.out.cell j1 (.inl (by show w.heap.size + 1 < _; omega))
  have i2 : w2.cell? ⟨w.heap.size + 1, 2, none⟩ = some (.int .i64 0) := HY.out.cell j2 (.inl (by show w.heap.size + 1 < _; omega))
  have i3 : w2.cell? ⟨w.heap.size + 1, 3, none⟩ = some (.slice none 0 0) := HY.out.cell j3 (.inl (by show w.heap.size + 1 < _; omega))
  have i4 : w2.cell? ⟨w.heap.size + 1, 4, none⟩ = some (.slice none 0 0) := HY.out.cell j4 (.inl (by show w.heap.size + 1 < _; omega))
  have i5 : w2.cell? ⟨w.heap.size + 1, 5, none⟩ = some (.int .i64 0) := HY.out.cell j5 (.inl (by show w.heap.size + 1 < _; omega))
  have s0 : w2.cell? ⟨w.heap.size + 2, 0, none⟩ = some (.slice x0 y0 z0) := by rw [hw2, World.cell?_setCell_other _ _ _ _ (by intro h; simp only [Addr.mk.injEq] at h; omega), World.cell?_setCell_other _ _ _ _ (by intro h; simp only [Addr.mk.injEq] at h; omega)]; exact World.cell?_setCell_same _ _ _ g0
  have s1 : w2.cell? ⟨w.heap.size + 2, 1, none⟩ = some (.slice x1 y1 z1) := by rw [hw2, World.cell?_setCell_other _ _ _ _ (by intro h; simp only [Addr.mk.injEq] at h; omega)]; exact World.cell?_setCell_same _ _ _ ((World.cell?_setCell_other _ _ _ _ (by intro h; simp only [Addr.mk.injEq] at h; omega)).trans g1)
  have s2 : w2.cell? ⟨w.heap.size + 2, 2, none⟩ = some (.int .i64 n) := by rw [hw2]; exact World.cell?_setCell_same _ _ _ ((World.cell?_setCell_other _ _ _ _ (by intro h; simp only [Addr.mk.injEq] at h; omega)).trans ((World.cell?_setCell_other _ _ _ _ (by intro h; simp only [Addr.mk.injEq] at h; omega)).trans g2))
  have s3 : w2.cell? ⟨w.heap.size + 2, 3, none⟩ = some (.slice none 0 0) := by rw [hw2, World.cell?_setCell_other _ _ _ _ (by intro h; simp only [Addr.mk.injEq] at h; omega), World.cell?_setCell_other _ _ _ _ (by intro h; simp only [Addr.mk.injEq] at h; omega), World.cell?_setCell_other _ _ _ _ (by intro h; simp only [Addr.mk.injEq] at h; omega)]; exact g3
  have s4 : w2.cell? ⟨w.heap.size + 2, 4, none⟩ = some (.slice none 0 0) := by rw [hw2, World.cell?_setCell_other _ _ _ _ (by intro h; simp only [Addr.mk.injEq] at h; omega), World.cell?_setCell_other _ _ _ _ (by intro h; simp only [Addr.mk.injEq] at h; omega), World.cell?_setCell_other _ _ _ _ (by intro h; simp only [Addr.mk.injEq] at h; omega)]; exact g4
  have s5 : w2.cell? ⟨w.heap.size + 2, 5, none⟩ = some (.int .i64 0) := by rw [hw2, World.cell?_setCell_other _ _ _ _ (by intro h; simp only [Addr.mk.injEq] at h; omega), World.cell?_setCell_other _ _ _ _ (by intro h; simp only [Addr.mk.injEq] at h; omega), World.cell?_setCell_other _ _ _ _ (by intro h; simp only [Addr.mk.injEq] at h; omega)]; exact g5
  have sf : ∀ j, w2.frozen? ⟨w.heap.size + 2, j, none⟩ = false := fun j => by rw [hw2]; simpa using gf j
  have if_ : ∀ j, w2.frozen? ⟨w.heap.size + 1, j, none⟩ = false := fun j => by rw [hw2]; simpa using jf j
  have hs2 : w.heap.size + 3 ≤ w2.heap.size := by omega
  have V2 := Fk.hide (H2'.out)
  clear hw2 q3 q4 q5 g0 g1 g2 g3 g4 g5 j0 j1 j2 j3 j4 j5 gf jf HB0 HO
  have hv2 : Lv.View w2 (.slice a2 C.length cap2) C := h2.below HB2.out
  have hv3 : Lv.View w2 (.slice a3 D.length cap3) D := h3.below HB2.out
  refine (toNew_any _ _ _ _ _ _ hv2 hv3 l2 l3 m0 m1).mono ?_
  rintro e w3 ⟨⟨ux, uy, HB_, HA_, mid, rfl, px, py, un, hi, hj⟩, k3⟩
  have HL : Hid (Aw.Lev w3 76 87 w2.heap.size w3.heap.size ux uy C D) := ⟨HB_, HA_, mid, px, py, un, py.under, hi, hj, Nat.le_refl _⟩
  clear px py un hi hj
  obtain ⟨x2, y2, z2, x3, y3, z3, rfl, rfl⟩ := HL.out.slices
  have HB3 : Hid (Below w.heap.size w w3) := HB2.out.trans (k3.mono HB2.out.size)
  have hs3 : w.heap.size + 3 ≤ w3.heap.size := Nat.le_trans hs2 k3.size
  have hs23 : w2.heap.size ≤ w3.heap.size := k3.size
  have HO3 := Fk.hide (HO2.out.below k3)
  have g0 := (k3.cell (p := ⟨w.heap.size + 2, 0, none⟩) (by show w.heap.size + 2 < _; omega)).trans s0
  have g1 := (k3.cell (p := ⟨w.heap.size + 2, 1, none⟩) (by show w.heap.size + 2 < _; omega)).trans s1
  have g2 := (k3.cell (p := ⟨w.heap.size + 2, 2, none⟩) (by show w.heap.size + 2 < _; omega)).trans s2
  have g3 := (k3.cell (p := ⟨w.heap.size + 2, 3, none⟩) (by show w.heap.size + 2 < _; omega)).trans s3
  have g4 := (k3.cell (p := ⟨w.heap.size + 2, 4, none⟩) (by show w.heap.size + 2 < _; omega)).trans s4
  have g5 := (k3.cell (p := ⟨w.heap.size + 2, 5, none⟩) (by show w.heap.size + 2 < _; omega)).trans s5
  have j0 := (k3.cell (p := ⟨w.heap.size + 1, 0, none⟩) (by show w.heap.size + 1 < _; omega)).trans i0
  have j1 := (k3.cell (p := ⟨w.heap.size + 1, 1, none⟩) (by show w.heap.size + 1 < _; omega)).trans i1
  have j2 := (k3.cell (p := ⟨w.heap.size + 1, 2, none⟩) (by show w.heap.size + 1 < _; omega)).trans i2
  have j3 := (k3.cell (p := ⟨w.heap.size + 1, 3, none⟩) (by show w.heap.size + 1 < _; omega)).trans i3
  have j4 := (k3.cell (p := ⟨w.heap.size + 1, 4, none⟩) (by show w.heap.size + 1 < _; omega)).trans i4
  have j5 := (k3.cell (p := ⟨w.heap.size + 1, 5, none⟩) (by show w.heap.size + 1 < _; omega)).trans i5
  have gf : ∀ j, w3.frozen? ⟨w.heap.size + 2, j, none⟩ = false := fun j => (k3.frozen (by show w.heap.size + 2 < _; omega)).trans (sf j)
  have jf : ∀ j, w3.frozen? ⟨w.heap.size + 1, j, none⟩ = false := fun j => (k3.frozen (by show w.heap.size + 1 < _; omega)).trans (if_ j)
  clear k3 r3 r4 r5 s0 s1 s2 s3 s4 s5 i0 i1 i2 i3 i4 i5 sf if_ hv2 hv3 V2 HO2 HY H2' H3'
  go_wp2_with fail
  refine bodyPost_ret (v := .agg #[.slice x0 y0 z0, .slice x1 y1 z1, .int .i64 n, .slice x2 y2 z2, .slice x3 y3 z3, .int .i64 m]) (by simp [results, Try.results7, go_sem, g0, g1, g2, g3, g4, g5, j0, j1, j2, j3, j4, j5] <;> rfl) rfl ⟨⟨_, _, _, _, w2.heap.size, rfl, ?_, ?_, ?_, ?_⟩, ?_⟩
  · have hs9 : ∀ (X : World), Lv.Only (w.heap.size + 1) (w.heap.size + 3) w3 X → Aw.Ord X 87 w.heap.size w2.heap.size (.slice x0 y0 z0) (.slice x1 y1 z1) B A := fun X ho => by
      have K := HO3.out.keep ho (.inr (by omega))
      exact ⟨⟨Rk.Own.mono K.1.b (by omega), Rk.Own.mono K.1.a (by omega), K.1.ne⟩, fun k hk => by have := K.2.1 k hk; omega, fun k hk => by have := K.2.2 k hk; omega⟩
    refine hs9 _ ?_
    repeat (refine Lv.Only.trans ?_ (Sh.so _ _ _ _ _ _ (by omega) (by omega)))
    exact Lv.Only.refl _ _ _
  · have hs9 : ∀ (X : World), X.heap.size = w3.heap.size → Lv.Only (w.heap.size + 1) (w.heap.size + 3) w3 X → Aw.Lev X 76 87 w2.heap.size X.heap.size (.slice x2 y2 z2) (.slice x3 y3 z3) C D := fun X he ho => by
      rw [he]
      exact HL.out.keep ho (.inr (by omega))
    refine hs9 _ (by simp) ?_
    repeat (refine Lv.Only.trans ?_ (Sh.so _ _ _ _ _ _ (by omega) (by omega)))
    exact Lv.Only.refl _ _ _
  · omega
  · simpa using hs23
  · repeat (refine Below.setCell ?_ (by simp <;> omega) _)
    exact HB3.out
set_option maxHeartbeats 1000000 in
theorem eqShadow_same (v0 v1 v2 v3 u0 u1 u2 u3 : Value) (n m : Int) (B A : List Or.E) (C D : List Lv.E) (w : World) (h0 : Rk.View Or.S w v0 B) (h1 : Rk.View Or.S w v1 A) (h2 : Lv.View w v2 C) (h3 : Lv.View w v3 D) (k0 : Rk.View Or.S w u0 B) (k1 : Rk.View Or.S w u1 A) (k2 : Lv.View w u2 C) (k3 : Lv.View w u3 D) (l0 : B.length ≤ 1048576) (l1 : A.length ≤ 1048576) (l2 : C.length ≤ 1048576) (l3 : D.length ≤ 1048576) (m0 : ∀ i, i < C.length → (Lv.at' C i).2.length ≤ 1048576) (m1 : ∀ i, i < D.length → (Lv.at' D i).2.length ≤ 1048576) :
    Calls Try.prog 9 #[.agg #[v0, v1, .int .i64 n, v2, v3, .int .i64 m], .agg #[u0, u1, .int .i64 n, u2, u3, .int .i64 m]] w fun e w' => e = .returned (.bool true) ∧ Below w.heap.size w w' := by
  obtain ⟨W, hW⟩ : ∃ W, W = (w.alloc (.cells #[v0, v1, .int .i64 n, v2, v3, .int .i64 m] 39)).alloc (.cells #[u0, u1, .int .i64 n, u2, u3, .int .i64 m] 39) := ⟨_, rfl⟩
  have b0 : Below w.heap.size w W := by
    rw [hW]
    repeat (first | exact Below.refl _ _ | refine Below.alloc ?_ (by simp <;> omega) _)
  have hz : W.heap.size = w.heap.size + 2 := by rw [hW]; simp
  have H0' := h0.below b0
  have H1' := h1.below b0
  have H2' := Fk.hide (h2.below b0)
  have H3' := Fk.hide (h3.below b0)
  have K0' := k0.below b0
  have K1' := k1.below b0
  have K2' := Fk.hide (k2.below b0)
  have K3' := Fk.hide (k3.below b0)
  obtain ⟨a0, cap0, rfl, _⟩ := h0
  obtain ⟨a1, cap1, rfl, _⟩ := h1
  obtain ⟨a2, cap2, rfl⟩ := h2.slice
  obtain ⟨a3, cap3, rfl⟩ := h3.slice
  obtain ⟨e0, dap0, rfl, _⟩ := k0
  obtain ⟨e1, dap1, rfl, _⟩ := k1
  obtain ⟨e2, dap2, rfl⟩ := k2.slice
  obtain ⟨e3, dap3, rfl⟩ := k3.slice
  have c0 : W.cell? ⟨w.heap.size, 0, none⟩ = some (.slice a0 B.length cap0) := by rw [hW, Fk.cellOld _ _ _ _ (by simp <;> omega), Fk.cellTop _ _ _ _ _ rfl]; rfl
  have c1 : W.cell? ⟨w.heap.size, 1, none⟩ = some (.slice a1 A.length cap1) := by rw [hW, Fk.cellOld _ _ _ _ (by simp <;> omega), Fk.cellTop _ _ _ _ _ rfl]; rfl
  have c2 : W.cell? ⟨w.heap.size, 2, none⟩ = some (.int .i64 n) := by rw [hW, Fk.cellOld _ _ _ _ (by simp <;> omega), Fk.cellTop _ _ _ _ _ rfl]; rfl
  have c3 : W.cell? ⟨w.heap.size, 3, none⟩ = some (.slice a2 C.length cap2) := by rw [hW, Fk.cellOld _ _ _ _ (by simp <;> omega), Fk.cellTop _ _ _ _ _ rfl]; rfl
  have c4 : W.cell? ⟨w.heap.size, 4, none⟩ = some (.slice a3 D.length cap3) := by rw [hW, Fk.cellOld _ _ _ _ (by simp <;> omega), Fk.cellTop _ _ _ _ _ rfl]; rfl
  have c5 : W.cell? ⟨w.heap.size, 5, none⟩ = some (.int .i64 m) := by rw [hW, Fk.cellOld _ _ _ _ (by simp <;> omega), Fk.cellTop _ _ _ _ _ rfl]; rfl
  have d0 : W.cell? ⟨w.heap.size + 1, 0, none⟩ = some (.slice e0 B.length dap0) := by rw [hW, Fk.cellTop _ _ _ _ _ (by simp)]; rfl
  have d1 : W.cell? ⟨w.heap.size + 1, 1, none⟩ = some (.slice e1 A.length dap1) := by rw [hW, Fk.cellTop _ _ _ _ _ (by simp)]; rfl
  have d2 : W.cell? ⟨w.heap.size + 1, 2, none⟩ = some (.int .i64 n) := by rw [hW, Fk.cellTop _ _ _ _ _ (by simp)]; rfl
  have d3 : W.cell? ⟨w.heap.size + 1, 3, none⟩ = some (.slice e2 C.length dap2) := by rw [hW, Fk.cellTop _ _ _ _ _ (by simp)]; rfl
  have d4 : W.cell? ⟨w.heap.size + 1, 4, none⟩ = some (.slice e3 D.length dap3) := by rw [hW, Fk.cellTop _ _ _ _ _ (by simp)]; rfl
  have d5 : W.cell? ⟨w.heap.size + 1, 5, none⟩ = some (.int .i64 m) := by rw [hW, Fk.cellTop _ _ _ _ _ (by simp)]; rfl
  have HW := Fk.hide hW
  clear hW
  go_enter Try.func9, Try.ntmps9
  go_wp2_with fail
  rw [← HW.out]
  clear c0 c1 c2 d0 d1 d2
  refine (eqOld_same _ _ _ _ _ _ _ _ H0' H1' K0' K1' l0 l1).mono ?_
  rintro e w1 ⟨rfl, m1_⟩
  have f3 := (m1_.cell (p := ⟨w.heap.size, 3, none⟩) (by show w.heap.size < _; omega)).trans c3
  have f4 := (m1_.cell (p := ⟨w.heap.size, 4, none⟩) (by show w.heap.size < _; omega)).trans c4
  have f5 := (m1_.cell (p := ⟨w.heap.size, 5, none⟩) (by show w.heap.size < _; omega)).trans c5
  have g3 := (m1_.cell (p := ⟨w.heap.size + 1, 3, none⟩) (by show w.heap.size + 1 < _; omega)).trans d3
  have g4 := (m1_.cell (p := ⟨w.heap.size + 1, 4, none⟩) (by show w.heap.size + 1 < _; omega)).trans d4
  have g5 := (m1_.cell (p := ⟨w.heap.size + 1, 5, none⟩) (by show w.heap.size + 1 < _; omega)).trans d5
  have HB1 : Hid (Below w.heap.size w w1) := b0.trans (m1_.mono b0.size)
  have H22 := Fk.hide (H2'.out.below m1_)
  have H32 := Fk.hide (H3'.out.below m1_)
  have K22 := Fk.hide (K2'.out.below m1_)
  have K32 := Fk.hide (K3'.out.below m1_)
  clear m1_ c3 c4 c5 d3 d4 d5 H0' H1' K0' K1'
  go_wp2_with fail
  refine (eqNew_same _ _ _ _ _ _ _ _ H22.out H32.out K22.out K32.out l2 l3 m0 m1).mono ?_
  rintro e w2 ⟨rfl, m2_⟩
  have HB2 : Hid (Below w.heap.size w w2) := HB1.out.trans (m2_.mono HB1.out.size)
  clear m2_
  go_wp2_with fail
  go_ret
  exact ⟨rfl, HB2.out⟩
end Go.Proofs.Ytnhpcknbnmhlhaa

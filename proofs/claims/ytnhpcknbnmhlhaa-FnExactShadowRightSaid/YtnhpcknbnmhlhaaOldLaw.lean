/- The walks of the law's own functions on older books: sizes, copies, comparisons, marks. -/
import Derived.Test.YtnhpcknbnmhlhaaOrderLaw
import Derived.Test.YtnhpcknbnmhlhaaOrderMark
namespace Go.Proofs.Ytnhpcknbnmhlhaa
open Go.RowKit
set_option linter.unusedVariables false
set_option linter.unusedSimpArgs false
/-- two owned lists that share no memory -/
structure Ob.Two (w : World) (base : Nat) (e : TypeId) (u v : Value) (B A : List Or.E) : Prop where
  b : Rk.Own Or.S w base e u B
  a : Rk.Own Or.S w base e v A
  ne : ∀ k, u.ownBlock = some k → v.ownBlock ≠ some k
theorem Ob.Two.below {w w' : World} {base : Nat} {e : TypeId} {u v : Value} {B A : List Or.E} (h : Ob.Two w base e u v B A) (hB : Below w.heap.size w w') : Ob.Two w' base e u v B A := ⟨h.b.below hB, h.a.below hB, h.ne⟩

set_option maxHeartbeats 1000000 in
theorem szOld_any (v0 v1 : Value) (n : Int) (B A : List Or.E) (left : Int) (w : World) (h0 : Rk.View Or.S w v0 B) (h1 : Rk.View Or.S w v1 A) (l0 : B.length ≤ maxLen) (l1 : A.length ≤ maxLen) (hl0 : 0 ≤ left) (hl1 : left ≤ 1048576) :
    Calls Try.prog 15 #[.agg #[v0, v1, .int .i64 n], .int .i64 left] w fun e w' =>
      (∃ r, e = .returned (.int .i64 r) ∧ (r = -1 ∨ (0 ≤ r ∧ r = left - B.length - A.length))) ∧ Below w.heap.size w w' := by
  obtain ⟨W, hW⟩ : ∃ W, W = w.alloc (.cells #[v0, v1, .int .i64 n] 24) := ⟨_, rfl⟩
  have b0 : Below w.heap.size w W := by rw [hW]; exact (Below.refl _ _).alloc (Nat.le_refl _) _
  have HA := Fk.hide (h1.below b0)
  have h0' := h0.below b0
  have c1 : W.cell? ⟨w.heap.size, 1, none⟩ = some v1 := by rw [hW, Fk.cellTop _ _ _ _ _ rfl]; rfl
  have hz : w.heap.size < W.heap.size := by rw [hW]; simp
  have HW := Fk.hide hW
  clear hW
  obtain ⟨a0, cap0, rfl, _⟩ := h0
  obtain ⟨a1, cap1, rfl, _⟩ := h1
  go_enter Try.func15, Try.ntmps15
  go_wp2_with fail
  rw [← HW.out]
  refine (szOrderS_any _ _ _ _ h0' l0 hl0 hl1).mono ?_
  rintro e w1 ⟨⟨r, rfl, hr⟩, k1⟩
  have bel1 : Below w.heap.size w w1 := b0.trans (k1.mono b0.size)
  have d1 := (k1.cell (p := ⟨w.heap.size, 1, none⟩) (by show w.heap.size < _; omega)).trans c1
  have HA1 := Fk.hide (HA.out.below k1)
  clear k1 c1 h0'
  rcases hr with rfl | ⟨hr0, hr⟩
  · go_wp2
    go_ret
    exact ⟨⟨_, rfl, .inl rfl⟩, bel1⟩
  have hr1 : r ≤ 1048576 := by omega
  have HR := Fk.hide hr
  clear hr
  go_wp2_with fail
  refine (szOrderS_any _ _ _ _ HA1.out l1 hr0 hr1).mono ?_
  rintro e w2 ⟨⟨r2, rfl, hq⟩, k2⟩
  have bel2 : Below w.heap.size w w2 := bel1.trans (k2.mono bel1.size)
  clear k2
  rcases hq with rfl | ⟨hq0, hq⟩
  · go_wp2
    go_ret
    exact ⟨⟨_, rfl, .inl rfl⟩, bel2⟩
  have HQ := Fk.hide hq
  clear hq
  go_wp2
  go_ret
  exact ⟨⟨_, rfl, .inr ⟨hq0, by rw [HQ.out, HR.out]⟩⟩, bel2⟩

set_option maxHeartbeats 2000000 in
theorem toOld_any (v0 v1 : Value) (n : Int) (B A : List Or.E) (w : World) (h0 : Rk.View Or.S w v0 B) (h1 : Rk.View Or.S w v1 A) (l0 : B.length ≤ 1048576) (l1 : A.length ≤ 1048576) :
    Calls Try.prog 18 #[.agg #[v0, v1, .int .i64 n]] w fun e w' =>
      (∃ u v, e = .returned (.agg #[u, v, .int .i64 n]) ∧ Ob.Two w' w.heap.size 87 u v B A) ∧ Below w.heap.size w w' := by
  obtain ⟨W, hW⟩ : ∃ W, W = ((w.alloc (.cells #[v0, v1, .int .i64 n] 24)).alloc (.cells #[.slice none 0 0, .slice none 0 0, .int .i64 0] 34)).alloc (.cells #[.slice none 0 0, .slice none 0 0, .int .i64 0] 34) := ⟨_, rfl⟩
  have b0 : Below w.heap.size w W := by
    rw [hW]
    repeat (first | exact Below.refl _ _ | refine Below.alloc ?_ (by simp <;> omega) _)
  have h0' := h0.below b0
  have HA := Fk.hide h1
  have hsz : W.heap.size = w.heap.size + 3 := by rw [hW]; simp
  obtain ⟨a0, cap0, rfl, _⟩ := h0
  obtain ⟨a1, cap1, rfl, _⟩ := h1
  have HW := Fk.hide hW
  have p1 : W.cell? ⟨w.heap.size, 1, none⟩ = some (.slice a1 A.length cap1) := by rw [hW, Fk.cellOld _ _ _ _ (by simp <;> omega), Fk.cellOld _ _ _ _ (by simp), Fk.cellTop _ _ _ _ _ rfl]; rfl
  have p2 : W.cell? ⟨w.heap.size, 2, none⟩ = some (.int .i64 n) := by rw [hW, Fk.cellOld _ _ _ _ (by simp <;> omega), Fk.cellOld _ _ _ _ (by simp), Fk.cellTop _ _ _ _ _ rfl]; rfl
  have e0 : W.cell? ⟨w.heap.size + 2, 0, none⟩ = some (.slice none 0 0) := by rw [hW, Fk.cellTop _ _ _ _ _ (by simp)]; rfl
  have e1 : W.cell? ⟨w.heap.size + 2, 1, none⟩ = some (.slice none 0 0) := by rw [hW, Fk.cellTop _ _ _ _ _ (by simp)]; rfl
  have e2 : W.cell? ⟨w.heap.size + 2, 2, none⟩ = some (.int .i64 0) := by rw [hW, Fk.cellTop _ _ _ _ _ (by simp)]; rfl
  have d0 : W.cell? ⟨w.heap.size + 1, 0, none⟩ = some (.slice none 0 0) := by rw [hW, Fk.cellOld _ _ _ _ (by simp), Fk.cellTop _ _ _ _ _ (by simp)]; rfl
  have d1 : W.cell? ⟨w.heap.size + 1, 1, none⟩ = some (.slice none 0 0) := by rw [hW, Fk.cellOld _ _ _ _ (by simp), Fk.cellTop _ _ _ _ _ (by simp)]; rfl
  have d2 : W.cell? ⟨w.heap.size + 1, 2, none⟩ = some (.int .i64 0) := by rw [hW, Fk.cellOld _ _ _ _ (by simp), Fk.cellTop _ _ _ _ _ (by simp)]; rfl
  have ef : ∀ j, W.frozen? ⟨w.heap.size + 2, j, none⟩ = false := fun j => by rw [hW, Fk.frozTop _ _ _ _ _ (by simp)]
  have df : ∀ j, W.frozen? ⟨w.heap.size + 1, j, none⟩ = false := fun j => by rw [hW, Fk.frozOld _ _ _ _ (by simp), Fk.frozTop _ _ _ _ _ (by simp)]
  clear hW
  go_enter Try.func18, Try.ntmps18
  go_wp2_with fail
  rw [← HW.out]
  refine (toOrderS_any _ _ _ h0' l0).mono ?_
  rintro e w1 ⟨⟨u, rfl, o0⟩, k1⟩
  have HB0 : Hid (Below w.heap.size w w1) := b0.trans (k1.mono b0.size)
  have hs1 : w.heap.size + 3 ≤ w1.heap.size := by rw [← hsz]; exact k1.size
  have q1 := (k1.cell (p := ⟨w.heap.size, 1, none⟩) (by show w.heap.size < _; omega)).trans p1
  have q2 := (k1.cell (p := ⟨w.heap.size, 2, none⟩) (by show w.heap.size < _; omega)).trans p2
  have g0 := (k1.cell (p := ⟨w.heap.size + 2, 0, none⟩) (by show w.heap.size + 2 < _; omega)).trans e0
  have g1 := (k1.cell (p := ⟨w.heap.size + 2, 1, none⟩) (by show w.heap.size + 2 < _; omega)).trans e1
  have g2 := (k1.cell (p := ⟨w.heap.size + 2, 2, none⟩) (by show w.heap.size + 2 < _; omega)).trans e2
  have j0 := (k1.cell (p := ⟨w.heap.size + 1, 0, none⟩) (by show w.heap.size + 1 < _; omega)).trans d0
  have j1 := (k1.cell (p := ⟨w.heap.size + 1, 1, none⟩) (by show w.heap.size + 1 < _; omega)).trans d1
  have j2 := (k1.cell (p := ⟨w.heap.size + 1, 2, none⟩) (by show w.heap.size + 1 < _; omega)).trans d2
  have gf : ∀ j, w1.frozen? ⟨w.heap.size + 2, j, none⟩ = false := fun j => (k1.frozen (by show w.heap.size + 2 < _; omega)).trans (ef j)
  have jf : ∀ j, w1.frozen? ⟨w.heap.size + 1, j, none⟩ = false := fun j => (k1.frozen (by show w.heap.size + 1 < _; omega)).trans (df j)
  obtain ⟨x0, m0, y0, rfl⟩ := o0.slice'
  have HO0 := Fk.hide o0
  have HX0 : Hid (∀ k, (Value.slice x0 m0 y0).ownBlock = some k → W.heap.size ≤ k ∧ k < w1.heap.size) := fun k hk => World.ownsRow.lt o0 k hk
  clear o0 k1 p1 p2 e0 e1 e2 d0 d1 d2 ef df h0'
  go_wp2_with fail
  obtain ⟨w2, hw2⟩ : ∃ W, W = w1.setCell ⟨w.heap.size + 2, 0, none⟩ (.slice x0 m0 y0) := ⟨_, rfl⟩
  rw [← hw2]
  have hz2 : w2.heap.size = w1.heap.size := by rw [hw2]; simp
  have HB2 : Hid (Below w.heap.size w w2) := by rw [hw2]; exact HB0.out.setCell (by show w.heap.size ≤ w.heap.size + 2; omega) _
  have HO2 : Hid (Rk.Own Or.S w2 W.heap.size 87 (.slice x0 m0 y0) B) := by rw [hw2]; exact ownsRow_setCell_below HO0.out (by show w.heap.size + 2 < _; omega) _
  have hs2 : w.heap.size + 3 ≤ w2.heap.size := by omega
  have r1 : w2.cell? ⟨w.heap.size, 1, none⟩ = some (.slice a1 A.length cap1) := by rw [hw2, World.cell?_setCell_other _ _ _ _ (by intro h; simp only [Addr.mk.injEq] at h; omega)]; exact q1
  have r2 : w2.cell? ⟨w.heap.size, 2, none⟩ = some (.int .i64 n) := by rw [hw2, World.cell?_setCell_other _ _ _ _ (by intro h; simp only [Addr.mk.injEq] at h; omega)]; exact q2
  have s0 : w2.cell? ⟨w.heap.size + 2, 0, none⟩ = some (.slice x0 m0 y0) := by rw [hw2]; exact World.cell?_setCell_same _ _ _ g0
  have s1 : w2.cell? ⟨w.heap.size + 2, 1, none⟩ = some (.slice none 0 0) := by rw [hw2, World.cell?_setCell_other _ _ _ _ (by intro h; simp only [Addr.mk.injEq] at h; omega)]; exact g1
  have s2 : w2.cell? ⟨w.heap.size + 2, 2, none⟩ = some (.int .i64 0) := by rw [hw2, World.cell?_setCell_other _ _ _ _ (by intro h; simp only [Addr.mk.injEq] at h; omega)]; exact g2
  have i0 : w2.cell? ⟨w.heap.size + 1, 0, none⟩ = some (.slice none 0 0) := by rw [hw2, World.cell?_setCell_other _ _ _ _ (by intro h; simp only [Addr.mk.injEq] at h; omega)]; exact j0
  have i1 : w2.cell? ⟨w.heap.size + 1, 1, none⟩ = some (.slice none 0 0) := by rw [hw2, World.cell?_setCell_other _ _ _ _ (by intro h; simp only [Addr.mk.injEq] at h; omega)]; exact j1
  have i2 : w2.cell? ⟨w.heap.size + 1, 2, none⟩ = some (.int .i64 0) := by rw [hw2, World.cell?_setCell_other _ _ _ _ (by intro h; simp only [Addr.mk.injEq] at h; omega)]; exact j2
  have sf : ∀ j, w2.frozen? ⟨w.heap.size + 2, j, none⟩ = false := fun j => by rw [hw2]; simpa using gf j
  have if_ : ∀ j, w2.frozen? ⟨w.heap.size + 1, j, none⟩ = false := fun j => by rw [hw2]; simpa using jf j
  clear hw2 q1 q2 g0 g1 g2 j0 j1 j2 gf jf HB0 HO0
  refine (toOrderS_any _ _ _ (HA.out.below HB2.out) l1).mono ?_
  rintro e w3 ⟨⟨u, rfl, o1⟩, k3⟩
  have HB3 : Hid (Below w.heap.size w w3) := HB2.out.trans (k3.mono HB2.out.size)
  have hs3 : w.heap.size + 3 ≤ w3.heap.size := Nat.le_trans hs2 k3.size
  have q2 := (k3.cell (p := ⟨w.heap.size, 2, none⟩) (by show w.heap.size < _; omega)).trans r2
  have g0 := (k3.cell (p := ⟨w.heap.size + 2, 0, none⟩) (by show w.heap.size + 2 < _; omega)).trans s0
  have g1 := (k3.cell (p := ⟨w.heap.size + 2, 1, none⟩) (by show w.heap.size + 2 < _; omega)).trans s1
  have g2 := (k3.cell (p := ⟨w.heap.size + 2, 2, none⟩) (by show w.heap.size + 2 < _; omega)).trans s2
  have j0 := (k3.cell (p := ⟨w.heap.size + 1, 0, none⟩) (by show w.heap.size + 1 < _; omega)).trans i0
  have j1 := (k3.cell (p := ⟨w.heap.size + 1, 1, none⟩) (by show w.heap.size + 1 < _; omega)).trans i1
  have j2 := (k3.cell (p := ⟨w.heap.size + 1, 2, none⟩) (by show w.heap.size + 1 < _; omega)).trans i2
  have gf : ∀ j, w3.frozen? ⟨w.heap.size + 2, j, none⟩ = false := fun j => (k3.frozen (by show w.heap.size + 2 < _; omega)).trans (sf j)
  have jf : ∀ j, w3.frozen? ⟨w.heap.size + 1, j, none⟩ = false := fun j => (k3.frozen (by show w.heap.size + 1 < _; omega)).trans (if_ j)
  obtain ⟨x1, m1, y1, rfl⟩ := o1.slice'
  have HT : Hid (Ob.Two w3 w.heap.size 87 (.slice x0 m0 y0) (.slice x1 m1 y1) B A) := by
    refine ⟨(HO2.out.below k3).mono (by omega), Rk.Own.mono o1 (by omega), fun k hk hk' => ?_⟩
    have h1 := HX0.out k hk
    have h2 := World.ownsRow.lt o1 k hk'
    omega
  have HX1 : Hid (∀ k, (Value.slice x1 m1 y1).ownBlock = some k → w.heap.size + 3 ≤ k) := fun k hk => by have := World.ownsRow.lt o1 k hk; omega
  have HX2 : Hid (∀ k, (Value.slice x0 m0 y0).ownBlock = some k → w.heap.size + 3 ≤ k) := fun k hk => by have := HX0.out k hk; omega
  have HP : Hid (Rk.Own Or.S w3 (w.heap.size + 3) 87 (.slice x0 m0 y0) B ∧ Rk.Own Or.S w3 (w.heap.size + 3) 87 (.slice x1 m1 y1) A) := ⟨(HO2.out.below k3).mono (by omega), Rk.Own.mono o1 hs2⟩
  clear o1 k3 r1 r2 s0 s1 s2 i0 i1 i2 sf if_ HO2 HX0 HB2
  go_wp2_with fail
  refine bodyPost_ret (v := .agg #[.slice x0 m0 y0, .slice x1 m1 y1, .int .i64 n]) (by simp [results, Try.results18, go_sem, g0, g1, g2, j0, j1, j2] <;> rfl) rfl ⟨⟨_, _, rfl, ?_⟩, ?_⟩
  · have set : ∀ {W : World} {u : Value} {L : List Or.E} (b i : Nat) (x : Value), b < w.heap.size + 3 → Rk.Own Or.S W (w.heap.size + 3) 87 u L → Rk.Own Or.S (W.setCell ⟨b, i, none⟩ x) (w.heap.size + 3) 87 u L := fun b i x hb h => ownsRow_setCell_below h (by show b < _; exact hb) _
    refine ⟨Rk.Own.mono ?_ (Nat.le_add_right _ 3), Rk.Own.mono ?_ (Nat.le_add_right _ 3), HT.out.ne⟩
    · repeat (refine set _ _ _ (by omega) ?_)
      exact HP.out.1
    · repeat (refine set _ _ _ (by omega) ?_)
      exact HP.out.2
  · repeat (refine Below.setCell ?_ (by simp <;> omega) _)
    exact HB3.out

set_option maxHeartbeats 1000000 in
theorem eqOld_same (v0 v1 u0 u1 : Value) (n : Int) (B A : List Or.E) (w : World) (h0 : Rk.View Or.S w v0 B) (h1 : Rk.View Or.S w v1 A) (k0 : Rk.View Or.S w u0 B) (k1 : Rk.View Or.S w u1 A) (l0 : B.length ≤ 1048576) (l1 : A.length ≤ 1048576) :
    Calls Try.prog 21 #[.agg #[v0, v1, .int .i64 n], .agg #[u0, u1, .int .i64 n]] w fun e w' => e = .returned (.bool true) ∧ Below w.heap.size w w' := by
  obtain ⟨W, hW⟩ : ∃ W, W = (w.alloc (.cells #[v0, v1, .int .i64 n] 34)).alloc (.cells #[u0, u1, .int .i64 n] 34) := ⟨_, rfl⟩
  have b0 : Below w.heap.size w W := by
    rw [hW]
    repeat (first | exact Below.refl _ _ | refine Below.alloc ?_ (by simp <;> omega) _)
  have hz : W.heap.size = w.heap.size + 2 := by rw [hW]; simp
  have c1 : W.cell? ⟨w.heap.size, 1, none⟩ = some v1 := by rw [hW, Fk.cellOld _ _ _ _ (by simp), Fk.cellTop _ _ _ _ _ rfl]; rfl
  have c2 : W.cell? ⟨w.heap.size, 2, none⟩ = some (.int .i64 n) := by rw [hW, Fk.cellOld _ _ _ _ (by simp), Fk.cellTop _ _ _ _ _ rfl]; rfl
  have d1 : W.cell? ⟨w.heap.size + 1, 1, none⟩ = some u1 := by rw [hW, Fk.cellTop _ _ _ _ _ (by simp)]; rfl
  have d2 : W.cell? ⟨w.heap.size + 1, 2, none⟩ = some (.int .i64 n) := by rw [hW, Fk.cellTop _ _ _ _ _ (by simp)]; rfl
  have h0' := h0.below b0
  have k0' := k0.below b0
  have HV := Fk.hide (h1.below b0)
  have KV := Fk.hide (k1.below b0)
  have HW := Fk.hide hW
  clear hW
  obtain ⟨_, _, rfl, _⟩ := h0
  obtain ⟨_, _, rfl, _⟩ := h1
  obtain ⟨_, _, rfl, _⟩ := k0
  obtain ⟨_, _, rfl, _⟩ := k1
  go_enter Try.func21, Try.ntmps21
  go_wp2_with fail
  rw [← HW.out]
  refine (eqOrderS_same _ _ _ _ h0' k0' l0).mono ?_
  rintro e w1 ⟨rfl, m1⟩
  have f1 := (m1.cell (p := ⟨w.heap.size, 1, none⟩) (by show w.heap.size < _; omega)).trans c1
  have f2 := (m1.cell (p := ⟨w.heap.size, 2, none⟩) (by show w.heap.size < _; omega)).trans c2
  have g1 := (m1.cell (p := ⟨w.heap.size + 1, 1, none⟩) (by show w.heap.size + 1 < _; omega)).trans d1
  have g2 := (m1.cell (p := ⟨w.heap.size + 1, 2, none⟩) (by show w.heap.size + 1 < _; omega)).trans d2
  have HB1 : Hid (Below w.heap.size w w1) := b0.trans (m1.mono b0.size)
  have hz1 : w.heap.size + 2 ≤ w1.heap.size := by rw [← hz]; exact m1.size
  have HV1 := Fk.hide (HV.out.below m1)
  have KV1 := Fk.hide (KV.out.below m1)
  clear m1 c1 c2 d1 d2 h0' k0'
  go_wp2_with fail
  refine (eqOrderS_same _ _ _ _ HV1.out KV1.out l1).mono ?_
  rintro e w2 ⟨rfl, m2⟩
  have p2 := (m2.cell (p := ⟨w.heap.size, 2, none⟩) (by show w.heap.size < _; omega)).trans f2
  have q2 := (m2.cell (p := ⟨w.heap.size + 1, 2, none⟩) (by show w.heap.size + 1 < _; omega)).trans g2
  have HB2 : Hid (Below w.heap.size w w2) := HB1.out.trans (m2.mono HB1.out.size)
  clear m2 f1 f2 g1 g2
  go_wp2_with fail
  go_ret
  exact ⟨rfl, HB2.out⟩

end Go.Proofs.Ytnhpcknbnmhlhaa

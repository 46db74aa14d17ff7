/- The walks of what the law of ladders draws: an older book and a side. -/
import Derived.Test.YtfagldipjpaceaaDrawOld
namespace Go.Proofs.Ytfagldipjpaceaa
open Go.RowKit
set_option linter.unusedVariables false
set_option linter.unusedSimpArgs false
/-- a drawn book beside its box, the answer's box and the source -/
structure Bo.Near (B S P q : Nat) (w0 Z : World) (u v : Value) (n : Int) (X Y : List Or.E) : Prop where
  s : Dk.Src B Z S
  b : Below P w0 Z
  c0 : Z.cell? ⟨q, 0, none⟩ = some u
  c1 : Z.cell? ⟨q, 1, none⟩ = some v
  c2 : Z.cell? ⟨q, 2, none⟩ = some (.int .i64 n)
  p0 : ∃ x, Z.cell? ⟨P, 0, none⟩ = some x
  p1 : ∃ x, Z.cell? ⟨P, 1, none⟩ = some x
  p2 : ∃ x, Z.cell? ⟨P, 2, none⟩ = some x
  pf : ∀ j, Z.frozen? ⟨P, j, none⟩ = false
  two : Ob.Two Z (S + 1) 40 u v X Y
  qz : q < Z.heap.size
theorem Bo.Near.next {B S P q : Nat} {w0 Z Z' : World} {u v : Value} {n : Int} {X Y : List Or.E} (h : Bo.Near B S P q w0 Z u v n X Y) (hPS : P < S) (hSq : S < q) (hs : Dk.Src B Z' S) (hg : Z.grownBy Z' (some S)) : Bo.Near B S P q w0 Z' u v n X Y := by
  have hq := h.qz
  have far : ∀ (k i : Nat), k < Z.heap.size → k ≠ S → Z'.cell? ⟨k, i, none⟩ = Z.cell? ⟨k, i, none⟩ := fun k i hk hne => hg.cell_far ⟨k, i, none⟩ hk (fun e => hne (Option.some.inj e))
  exact { s := hs, b := h.b.grown hg (by have := h.b.size; omega) (fun k hk => by have := Option.some.inj hk; omega), c0 := (far q 0 hq (by omega)).trans h.c0, c1 := (far q 1 hq (by omega)).trans h.c1, c2 := (far q 2 hq (by omega)).trans h.c2, p0 := h.p0.imp fun x hx => (far P 0 (by omega) (by omega)).trans hx, p1 := h.p1.imp fun x hx => (far P 1 (by omega) (by omega)).trans hx, p2 := h.p2.imp fun x hx => (far P 2 (by omega) (by omega)).trans hx, pf := fun j => (World.frozen?_of_block (hg.block P (by omega) (fun e => by have := Option.some.inj e; omega))).trans (h.pf j), two := h.two.grown hg (fun j hj => ⟨fun e => by have := (h.two.b.lt j e).1; have := Option.some.inj hj; omega, fun e => by have := (h.two.a.lt j e).1; have := Option.some.inj hj; omega⟩), qz := Nat.lt_of_lt_of_le hq hg.size }
theorem Bo.Near.put {B S P q : Nat} {w0 Z : World} {u v : Value} {n : Int} {X Y : List Or.E} (h : Bo.Near B S P q w0 Z u v n X Y) (hB : B ≤ P) (hPS : P < S) (hSq : S < q) (x y z : Value) : Bo.Near B S P q w0 (((Z.setCell ⟨P, 0, none⟩ x).setCell ⟨P, 1, none⟩ y).setCell ⟨P, 2, none⟩ z) u v n X Y ∧ (((Z.setCell ⟨P, 0, none⟩ x).setCell ⟨P, 1, none⟩ y).setCell ⟨P, 2, none⟩ z).cell? ⟨P, 0, none⟩ = some x ∧ (((Z.setCell ⟨P, 0, none⟩ x).setCell ⟨P, 1, none⟩ y).setCell ⟨P, 2, none⟩ z).cell? ⟨P, 1, none⟩ = some y ∧ (((Z.setCell ⟨P, 0, none⟩ x).setCell ⟨P, 1, none⟩ y).setCell ⟨P, 2, none⟩ z).cell? ⟨P, 2, none⟩ = some z := by
  have hq := h.qz
  obtain ⟨x0, e0⟩ := h.p0
  obtain ⟨x1, e1⟩ := h.p1
  obtain ⟨x2, e2⟩ := h.p2
  have hf := h.pf
  have hg : Z.grownBy (((Z.setCell ⟨P, 0, none⟩ x).setCell ⟨P, 1, none⟩ y).setCell ⟨P, 2, none⟩ z) (some P) := Fk.grownBy_trans (Fk.grownBy_trans (Fk.grownBy_setCell _ _ _ _) (Fk.grownBy_setCell _ _ _ _)) (Fk.grownBy_setCell _ _ _ _)
  have far : ∀ (k i : Nat), k < Z.heap.size → k ≠ P → (((Z.setCell ⟨P, 0, none⟩ x).setCell ⟨P, 1, none⟩ y).setCell ⟨P, 2, none⟩ z).cell? ⟨k, i, none⟩ = Z.cell? ⟨k, i, none⟩ := fun k i hk hne => hg.cell_far ⟨k, i, none⟩ hk (fun e => hne (Option.some.inj e))
  have a0 : (((Z.setCell ⟨P, 0, none⟩ x).setCell ⟨P, 1, none⟩ y).setCell ⟨P, 2, none⟩ z).cell? ⟨P, 0, none⟩ = some x := by simp [go_sem, e0, e1, e2]
  have a1 : (((Z.setCell ⟨P, 0, none⟩ x).setCell ⟨P, 1, none⟩ y).setCell ⟨P, 2, none⟩ z).cell? ⟨P, 1, none⟩ = some y := by simp [go_sem, e0, e1, e2]
  have a2 : (((Z.setCell ⟨P, 0, none⟩ x).setCell ⟨P, 1, none⟩ y).setCell ⟨P, 2, none⟩ z).cell? ⟨P, 2, none⟩ = some z := by simp [go_sem, e0, e1, e2]
  have a3 : ∀ j, (((Z.setCell ⟨P, 0, none⟩ x).setCell ⟨P, 1, none⟩ y).setCell ⟨P, 2, none⟩ z).frozen? ⟨P, j, none⟩ = false := fun j => by simp [hf]
  refine ⟨{ s := h.s.far hg (fun e => by have := Option.some.inj e; omega) (fun b hb e => by have := Option.some.inj e; omega), b := h.b.grown hg (by have := h.b.size; omega) (fun k hk => by have := Option.some.inj hk; omega), c0 := (far q 0 hq (by omega)).trans h.c0, c1 := (far q 1 hq (by omega)).trans h.c1, c2 := (far q 2 hq (by omega)).trans h.c2, p0 := ⟨_, a0⟩, p1 := ⟨_, a1⟩, p2 := ⟨_, a2⟩, pf := a3, two := h.two.grown hg (fun j hj => ⟨fun e => by have := (h.two.b.lt j e).1; have := Option.some.inj hj; omega, fun e => by have := (h.two.a.lt j e).1; have := Option.some.inj hj; omega⟩), qz := Nat.lt_of_lt_of_le hq hg.size }, a0, a1, a2⟩
theorem Ob.Two.mono {X : World} {b b' : Nat} {e : TypeId} {u v : Value} {B A : List Or.E} (h : Ob.Two X b e u v B A) (hb : b' ≤ b) : Ob.Two X b' e u v B A := ⟨h.b.mono hb, h.a.mono hb, h.ne⟩
theorem Bo.Near.drew {B S P q : Nat} {w0 Z : World} {u v : Value} {n : Int} {X Y : List Or.E} (h : Bo.Near B S P q w0 Z u v n X Y) : Bo.Near B S P q w0 Z.drew u v n X Y :=
  { s := h.s.below (Below.drew (Below.refl _ _)), b := h.b.drew, c0 := h.c0, c1 := h.c1, c2 := h.c2, p0 := h.p0, p1 := h.p1, p2 := h.p2, pf := h.pf, two := h.two.below (Below.drew (Below.refl _ _)), qz := h.qz }
/-- what holds of the operations done so far where the book and a coin are answered -/
structure Bo.Rl (B S P q : Nat) (w0 : World) (u v : Value) (n : Int) (X Y : List Or.E) (l : Array Bool) (Z : World) (x10 x11 x12 x3 : Value) : Prop where
  sz : l.size = 5
  h : Bo.Near B S P q w0 Z u v n X Y
  d0 : l.getD 0 false = true → x10 = .agg #[u, v, .int .i64 n]
  d1 : l.getD 1 false = true → x11 = .pointer (some ⟨S, 0, none⟩)
  d2 : l.getD 2 false = true → ∃ b : Bool, x12 = .bool b
  d3 : l.getD 3 false = true → Z.cell? ⟨P, 0, none⟩ = some u ∧ Z.cell? ⟨P, 1, none⟩ = some v ∧ Z.cell? ⟨P, 2, none⟩ = some (.int .i64 n)
  d4 : l.getD 4 false = true → ∃ b : Bool, x3 = .bool b
set_option maxRecDepth 100000 in
set_option maxHeartbeats 4000000 in
theorem drawOldBest_any (ca : Option Addr) (cn cc : Nat) (w : World) (hn : cn ≤ 1048576) (hby : Dk.Bytes w.heap.size w ca cn) :
    Calls Try.prog 8 #[.slice ca cn cc] w fun e w' => (∃ (u v : Value) (n : Int) (X Y : List Or.E) (b : Bool), e = .returned (.tuple #[.agg #[u, v, .int .i64 n], .bool b]) ∧ Ob.Two w' w.heap.size 40 u v X Y ∧ X.length + Y.length ≤ 60) ∧ Below w.heap.size w w' := by
  obtain ⟨W, hW⟩ : ∃ W, W = w.alloc (.cells #[.slice none 0 0, .slice none 0 0, .int .i64 0] 25) := ⟨_, rfl⟩
  have b0 : Below w.heap.size w W := by rw [hW]; exact (Below.refl _ _).alloc (Nat.le_refl _) _
  have z0 : W.cell? ⟨w.heap.size, 0, none⟩ = some (.slice none 0 0) := by rw [hW, Fk.cellTop _ _ _ _ _ rfl]; rfl
  have z1 : W.cell? ⟨w.heap.size, 1, none⟩ = some (.slice none 0 0) := by rw [hW, Fk.cellTop _ _ _ _ _ rfl]; rfl
  have z2 : W.cell? ⟨w.heap.size, 2, none⟩ = some (.int .i64 0) := by rw [hW, Fk.cellTop _ _ _ _ _ rfl]; rfl
  have zf : ∀ j, W.frozen? ⟨w.heap.size, j, none⟩ = false := fun j => by rw [hW, Fk.frozTop _ _ _ _ _ rfl]
  have hz : W.heap.size = w.heap.size + 1 := by rw [hW]; simp
  have HW := Fk.hide hW
  clear hW
  go_enter Try.func8, Try.ntmps8
  go_wp2_with fail
  rw [← HW.out]
  have hby1 : Dk.Bytes w.heap.size W ca cn := fun i hi => by
    obtain ⟨b, o, x, e1, hb, hx, hc⟩ := hby i hi
    exact ⟨b, o, x, e1, hb, hx, (b0.cell (by exact hb)).trans hc⟩
  refine (source_any w.heap.size ca cn cc W (by omega) hn hby1).mono ?_
  rintro e w1 ⟨rfl, s1, b1⟩
  obtain ⟨S, hS⟩ : ∃ S, S = W.heap.size := ⟨_, rfl⟩
  have HS := Fk.hide hS
  rw [← hS] at s1 ⊢
  have hSw : S < w1.heap.size := s1.lt.2
  have y0 := (b1.cell (p := ⟨w.heap.size, 0, none⟩) (by show w.heap.size < _; omega)).trans z0
  have y1 := (b1.cell (p := ⟨w.heap.size, 1, none⟩) (by show w.heap.size < _; omega)).trans z1
  have y2 := (b1.cell (p := ⟨w.heap.size, 2, none⟩) (by show w.heap.size < _; omega)).trans z2
  have yf : ∀ j, w1.frozen? ⟨w.heap.size, j, none⟩ = false := fun j => (World.frozen?_of_block (b1.block w.heap.size (by omega))).trans (zf j)
  have B1 : Below w.heap.size w w1 := b0.trans (b1.mono b0.size)
  clear hS b1 hby hby1 hn z0 z1 z2 zf b0
  go_wp2_with fail
  refine (drawOld_any w.heap.size S w1 s1).mono ?_
  rintro e w2 ⟨⟨u, v, n, X, Y, rfl, ht, hl⟩, s2, g2⟩
  have hz2 := g2.size
  obtain ⟨ua, uc, rfl⟩ := ht.b.slice
  obtain ⟨va, vc, rfl⟩ := ht.a.slice
  have hPS : w.heap.size < S := by rw [HS.out]; omega
  have far : ∀ i, w2.cell? ⟨w.heap.size, i, none⟩ = w1.cell? ⟨w.heap.size, i, none⟩ := fun i => g2.cell_far ⟨w.heap.size, i, none⟩ (by show w.heap.size < _; omega) (fun e => by have h9 : w.heap.size = S := Option.some.inj e; omega)
  have HT := Fk.hide ht
  have HL := Fk.hide hl
  have HS2 := Fk.hide s2
  have HB2 : Hid (Below w.heap.size w w2) := B1.grown g2 (by omega) (fun k hk => by have h9 := Option.some.inj hk; omega)
  have x0 := (far 0).trans y0
  have x1 := (far 1).trans y1
  have x2 := (far 2).trans y2
  have xf : ∀ j, w2.frozen? ⟨w.heap.size, j, none⟩ = false := fun j => (World.frozen?_of_block (g2.block w.heap.size (by omega) (fun e => by have h9 : w.heap.size = S := Option.some.inj e; omega))).trans (yf j)
  obtain ⟨W3, hW3⟩ : ∃ W, W = w2.alloc (.cells #[.slice ua X.length uc, .slice va Y.length vc, .int .i64 n] 25) := ⟨_, rfl⟩
  have bA : Below w2.heap.size w2 W3 := by rw [hW3]; exact (Below.refl _ _).alloc (Nat.le_refl _) _
  have hP2 : w.heap.size < w2.heap.size := by omega
  have hq3 : w2.heap.size < W3.heap.size := by rw [hW3]; simp
  have HN : Hid (Bo.Near w.heap.size S w.heap.size w2.heap.size w W3 (.slice ua X.length uc) (.slice va Y.length vc) n X Y) :=
    { s := HS2.out.below bA, b := HB2.out.trans (bA.mono HB2.out.size), c0 := by rw [hW3, Fk.cellTop _ _ _ _ _ rfl]; rfl, c1 := by rw [hW3, Fk.cellTop _ _ _ _ _ rfl]; rfl, c2 := by rw [hW3, Fk.cellTop _ _ _ _ _ rfl]; rfl, p0 := ⟨_, (bA.cell (by exact hP2)).trans x0⟩, p1 := ⟨_, (bA.cell (by exact hP2)).trans x1⟩, p2 := ⟨_, (bA.cell (by exact hP2)).trans x2⟩, pf := fun j => (World.frozen?_of_block (bA.block w.heap.size hP2)).trans (xf j), two := (HT.out.below bA).mono (by omega), qz := hq3 }
  have HW3 := Fk.hide hW3
  have hSq : S < w2.heap.size := by omega
  clear hW3 bA x0 x1 x2 xf y0 y1 y2 yf far ht hl s2 g2 hP2 hq3 B1
  go_wp2_with fail
  rw [← HW3.out]
  obtain ⟨q, hq⟩ : ∃ q, q = w2.heap.size := ⟨_, rfl⟩
  rw [← hq] at HN hSq ⊢
  have HQ := Fk.hide hq
  clear hq
  refine wp_region_any (by kernel_rfl) ?_
  obtain ⟨J, hJ⟩ : ∃ J : Array Bool → Act → World → Prop, J = fun l a Z => ∃ x10 x11 x12 x3 : Value, a = { tmps := #[.slice ca cn cc, undef, .pointer (some ⟨w.heap.size, 0, none⟩), x3, .pointer (some ⟨S, 0, none⟩), .pointer (some ⟨q, 0, none⟩), .slice ca cn cc, .pointer (some ⟨S, 0, none⟩), .pointer (some ⟨S, 0, none⟩), .agg #[.slice ua X.length uc, .slice va Y.length vc, .int .i64 n], x10, x11, x12], defers := [] } ∧ Bo.Rl w.heap.size S w.heap.size q w (.slice ua X.length uc) (.slice va Y.length vc) n X Y l Z x10 x11 x12 x3 := ⟨_, rfl⟩
  have HJ := Fk.hide hJ
  clear hJ
  refine Ri.any_inv J ?step ?done _ _ _ _ (by decide) ?init
  case init =>
    rw [HJ.out]
    refine ⟨_, _, _, _, rfl, ?_⟩
    exact { sz := rfl, h := HN.out.drew, d0 := fun e => absurd e (by decide), d1 := fun e => absurd e (by decide), d2 := fun e => absurd e (by decide), d3 := fun e => absurd e (by decide), d4 := fun e => absurd e (by decide) }
  case done =>
    intro l a Z hr hJl
    rw [HJ.out] at hJl
    obtain ⟨x10, x11, x12, x3, rfl, h⟩ := hJl
    have hall := Ri.all_done' hr (by rw [h.sz]; decide) (by decide)
    obtain ⟨e0, e1, e2⟩ := h.d3 (hall 3 (by decide))
    obtain ⟨b, rfl⟩ := h.d4 (hall 4 (by decide))
    have HT7 := Fk.hide (h.h.two.mono (show w.heap.size ≤ S + 1 by omega))
    have HB7 := Fk.hide h.h.b
    clear h hall hr HJ
    go_wp2_with fail
    refine bodyPost_ret (v := .tuple #[.agg #[.slice ua X.length uc, .slice va Y.length vc, .int .i64 n], .bool b]) (by simp [results, Try.results8, go_sem, e0, e1, e2] <;> rfl) rfl ?_
    exact ⟨⟨_, _, n, X, Y, b, rfl, HT7.out, HL.out⟩, HB7.out⟩
  case step =>
    intro i l a Z hi hJl
    rw [HJ.out] at hJl
    obtain ⟨x10, x11, x12, x3, rfl, h⟩ := hJl
    have hib : i < 5 := (Ri.ready_mem hi).1
    rcases (by omega : i = 0 ∨ i = 1 ∨ i = 2 ∨ i = 3 ∨ i = 4) with rfl | rfl | rfl | rfl | rfl
    · have c0 := h.h.c0
      have c1 := h.h.c1
      have c2 := h.h.c2
      refine Ri.op (by rfl) rfl ?_
      go_simp
      rw [HJ.out]
      exact ⟨_, _, _, _, rfl, { sz := by simp [h.sz], h := h.h, d0 := fun _ => rfl, d1 := fun e => h.d1 (Ri.was e (by decide)), d2 := fun e => h.d2 (Ri.was e (by decide)), d3 := fun e => h.d3 (Ri.was e (by decide)), d4 := fun e => h.d4 (Ri.was e (by decide)) }⟩
    · refine Ri.op (by rfl) rfl ?_
      go_simp
      rw [HJ.out]
      exact ⟨_, _, _, _, rfl, { sz := by simp [h.sz], h := h.h, d0 := fun e => h.d0 (Ri.was e (by decide)), d1 := fun _ => rfl, d2 := fun e => h.d2 (Ri.was e (by decide)), d3 := fun e => h.d3 (Ri.was e (by decide)), d4 := fun e => h.d4 (Ri.was e (by decide)) }⟩
    · have e1 := h.d1 (Ri.dep hi (by rfl) (by rfl))
      subst e1
      refine Ri.op (by rfl) rfl ?_
      go_simp
      refine (drawOne_any w.heap.size S 2 Z h.h.s (by omega)).mono ?_
      rintro e Z2 ⟨⟨r, rfl⟩, s1, g1⟩
      have h2 := h.h.next hPS hSq s1 g1
      go_simp
      rw [HJ.out]
      have far : ∀ i, Z2.cell? ⟨w.heap.size, i, none⟩ = Z.cell? ⟨w.heap.size, i, none⟩ := fun i => g1.cell_far ⟨w.heap.size, i, none⟩ (by have := h.h.b.size; have := h.h.qz; show w.heap.size < _; omega) (fun e => by have h9 : w.heap.size = S := Option.some.inj e; omega)
      exact ⟨_, _, _, _, rfl, { sz := by simp [h.sz], h := h2, d0 := fun e => h.d0 (Ri.was e (by decide)), d1 := fun e => h.d1 (Ri.was e (by decide)), d2 := fun _ => ⟨r, rfl⟩, d3 := fun e => (h.d3 (Ri.was e (by decide))).imp (far 0).trans (fun x => x.imp (far 1).trans (far 2).trans), d4 := fun e => h.d4 (Ri.was e (by decide)) }⟩
    · have e1 := h.d0 (Ri.dep hi (by rfl) (by rfl))
      subst e1
      obtain ⟨y0, p0⟩ := h.h.p0
      obtain ⟨y1, p1⟩ := h.h.p1
      obtain ⟨y2, p2⟩ := h.h.p2
      have pf := h.h.pf
      obtain ⟨h2, a0, a1, a2⟩ := h.h.put (Nat.le_refl _) hPS hSq (.slice ua X.length uc) (.slice va Y.length vc) (.int .i64 n)
      refine Ri.op (by rfl) rfl ?_
      go_simp
      rw [HJ.out]
      exact ⟨_, _, _, _, rfl, { sz := by simp [h.sz], h := h2, d0 := fun e => h.d0 (Ri.was e (by decide)), d1 := fun e => h.d1 (Ri.was e (by decide)), d2 := fun e => h.d2 (Ri.was e (by decide)), d3 := fun _ => ⟨a0, a1, a2⟩, d4 := fun e => h.d4 (Ri.was e (by decide)) }⟩
    · obtain ⟨b, e1⟩ := h.d2 (Ri.dep hi (by rfl) (by rfl))
      subst e1
      refine Ri.op (by rfl) rfl ?_
      go_simp
      rw [HJ.out]
      exact ⟨_, _, _, _, rfl, { sz := by simp [h.sz], h := h.h, d0 := fun e => h.d0 (Ri.was e (by decide)), d1 := fun e => h.d1 (Ri.was e (by decide)), d2 := fun e => h.d2 (Ri.was e (by decide)), d3 := fun e => h.d3 (Ri.was e (by decide)), d4 := fun _ => ⟨b, rfl⟩ }⟩
set_option maxRecDepth 100000 in
set_option maxHeartbeats 4000000 in
theorem drawOldLadder_any (ca : Option Addr) (cn cc : Nat) (w : World) (hn : cn ≤ 1048576) (hby : Dk.Bytes w.heap.size w ca cn) :
    Calls Try.prog 24 #[.slice ca cn cc] w fun e w' => (∃ (u v : Value) (n : Int) (X Y : List Or.E) (b : Bool), e = .returned (.tuple #[.agg #[u, v, .int .i64 n], .bool b]) ∧ Ob.Two w' w.heap.size 40 u v X Y ∧ X.length + Y.length ≤ 60) ∧ Below w.heap.size w w' := by
  obtain ⟨W, hW⟩ : ∃ W, W = w.alloc (.cells #[.slice none 0 0, .slice none 0 0, .int .i64 0] 25) := ⟨_, rfl⟩
  have b0 : Below w.heap.size w W := by rw [hW]; exact (Below.refl _ _).alloc (Nat.le_refl _) _
  have z0 : W.cell? ⟨w.heap.size, 0, none⟩ = some (.slice none 0 0) := by rw [hW, Fk.cellTop _ _ _ _ _ rfl]; rfl
  have z1 : W.cell? ⟨w.heap.size, 1, none⟩ = some (.slice none 0 0) := by rw [hW, Fk.cellTop _ _ _ _ _ rfl]; rfl
  have z2 : W.cell? ⟨w.heap.size, 2, none⟩ = some (.int .i64 0) := by rw [hW, Fk.cellTop _ _ _ _ _ rfl]; rfl
  have zf : ∀ j, W.frozen? ⟨w.heap.size, j, none⟩ = false := fun j => by rw [hW, Fk.frozTop _ _ _ _ _ rfl]
  have hz : W.heap.size = w.heap.size + 1 := by rw [hW]; simp
  have HW := Fk.hide hW
  clear hW
  have hby1 : Dk.Bytes W.heap.size W ca cn := fun i hi => by
    obtain ⟨b, o, x, e1, hb, hx, hc⟩ := hby i hi
    exact ⟨b, o, x, e1, Nat.lt_of_lt_of_le hb b0.size, hx, (b0.cell (by exact hb)).trans hc⟩
  go_enter Try.func24, Try.ntmps24
  go_wp2_with fail
  rw [← HW.out]
  refine (drawOldBest_any ca cn cc W hn hby1).mono ?_
  rintro e w2 ⟨⟨u, v, n, X, Y, b, rfl, ht, hl⟩, b2⟩
  obtain ⟨ua, uc, rfl⟩ := ht.b.slice
  obtain ⟨va, vc, rfl⟩ := ht.a.slice
  have HT := Fk.hide ht
  have hP2 : w.heap.size < W.heap.size := by omega
  have x0 := (b2.cell (p := ⟨w.heap.size, 0, none⟩) (by exact hP2)).trans z0
  have x1 := (b2.cell (p := ⟨w.heap.size, 1, none⟩) (by exact hP2)).trans z1
  have x2 := (b2.cell (p := ⟨w.heap.size, 2, none⟩) (by exact hP2)).trans z2
  have xf : ∀ j, w2.frozen? ⟨w.heap.size, j, none⟩ = false := fun j => (World.frozen?_of_block (b2.block w.heap.size hP2)).trans (zf j)
  have HB : Hid (Below w.heap.size w w2) := b0.trans (b2.mono b0.size)
  have HF : Hid (∀ x y z, Ob.Two (((w2.setCell ⟨w.heap.size, 0, none⟩ x).setCell ⟨w.heap.size, 1, none⟩ y).setCell ⟨w.heap.size, 2, none⟩ z) w.heap.size 40 (.slice ua X.length uc) (.slice va Y.length vc) X Y ∧ Below w.heap.size w (((w2.setCell ⟨w.heap.size, 0, none⟩ x).setCell ⟨w.heap.size, 1, none⟩ y).setCell ⟨w.heap.size, 2, none⟩ z)) := fun x y z => by
    have hg : w2.grownBy (((w2.setCell ⟨w.heap.size, 0, none⟩ x).setCell ⟨w.heap.size, 1, none⟩ y).setCell ⟨w.heap.size, 2, none⟩ z) (some w.heap.size) := Fk.grownBy_trans (Fk.grownBy_trans (Fk.grownBy_setCell _ _ _ _) (Fk.grownBy_setCell _ _ _ _)) (Fk.grownBy_setCell _ _ _ _)
    exact ⟨(HT.out.grown hg (fun j hj => ⟨fun e => by have := (HT.out.b.lt j e).1; have := Option.some.inj hj; omega, fun e => by have := (HT.out.a.lt j e).1; have := Option.some.inj hj; omega⟩)).mono (by omega), HB.out.grown hg HB.out.size (fun k hk => by have := Option.some.inj hk; omega)⟩
  clear b2 ht z0 z1 z2 zf b0 hby hby1
  go_wp2_with fail
  refine bodyPost_ret (v := .tuple #[.agg #[.slice ua X.length uc, .slice va Y.length vc, .int .i64 n], .bool b]) (by simp [results, Try.results24, go_sem, x0, x1, x2, xf] <;> rfl) rfl ?_
  exact ⟨⟨_, _, n, X, Y, b, rfl, (HF.out _ _ _).1, hl⟩, (HF.out _ _ _).2⟩
end Go.Proofs.Ytfagldipjpaceaa

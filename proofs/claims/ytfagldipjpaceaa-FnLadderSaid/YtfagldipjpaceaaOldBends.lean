/- A drawn older book behind a variable, while it is bent: what holds of the variable and the answer's box, apart from the lists. No function of the program here. -/
import Derived.Test.YtfagldipjpaceaaJoined8
import Derived.Test.YtfagldipjpaceaaJoined4
namespace Go.Proofs.Ytfagldipjpaceaa
open Go.RowKit
set_option linter.unusedVariables false
set_option linter.unusedSimpArgs false
/-- the book's cells behind a variable (block q), the answer's box as it was made, and a source -/
structure Bo.Pre (B S q : Nat) (w wr : World) (u v : Value) (n : Int) : Prop where
  c0 : wr.cell? ⟨q, 0, none⟩ = some u
  c1 : wr.cell? ⟨q, 1, none⟩ = some v
  c2 : wr.cell? ⟨q, 2, none⟩ = some (.int .i64 n)
  cf : ∀ j, wr.frozen? ⟨q, j, none⟩ = false
  z0 : wr.cell? ⟨w.heap.size, 0, none⟩ = some (.slice none 0 0)
  z1 : wr.cell? ⟨w.heap.size, 1, none⟩ = some (.slice none 0 0)
  z2 : wr.cell? ⟨w.heap.size, 2, none⟩ = some (.int .i64 0)
  zf : ∀ j, wr.frozen? ⟨w.heap.size, j, none⟩ = false
  q0 : w.heap.size < q
  q1 : q < wr.heap.size
  hS : S < w.heap.size
  hB : B ≤ w.heap.size
  t : Dk.T B S w wr
theorem Bo.Pre.grown {B S q : Nat} {w X Y : World} {u v : Value} {n : Int} {row : Option Nat} (h : Bo.Pre B S q w X u v n) (hg : X.grownBy Y row) (hr : ∀ j, row = some j → j ≠ q ∧ j ≠ w.heap.size) (t : Dk.T B S w Y) : Bo.Pre B S q w Y u v n := by
  have q0 := h.q0
  have q1 := h.q1
  have n1 : some q ≠ row := fun e => (hr q e.symm).1 rfl
  have n2 : some w.heap.size ≠ row := fun e => (hr _ e.symm).2 rfl
  have f1 : ∀ i, Y.cell? ⟨q, i, none⟩ = X.cell? ⟨q, i, none⟩ := fun i => hg.cell_far ⟨q, i, none⟩ q1 n1
  have f2 : ∀ i, Y.cell? ⟨w.heap.size, i, none⟩ = X.cell? ⟨w.heap.size, i, none⟩ := fun i => hg.cell_far ⟨w.heap.size, i, none⟩ (by show w.heap.size < _; omega) n2
  exact ⟨(f1 0).trans h.c0, (f1 1).trans h.c1, (f1 2).trans h.c2, fun j => (World.frozen?_of_block (hg.block q q1 n1)).trans (h.cf j), (f2 0).trans h.z0, (f2 1).trans h.z1, (f2 2).trans h.z2, fun j => (World.frozen?_of_block (hg.block w.heap.size (by omega) n2)).trans (h.zf j), q0, Nat.lt_of_lt_of_le q1 hg.size, h.hS, h.hB, t⟩
theorem Bo.Pre.setj {B S q : Nat} {w X : World} {u v : Value} {n : Int} (h : Bo.Pre B S q w X u v n) (j : Nat) (y : Value) :
    (∀ i, (X.setCell ⟨q, j, none⟩ y).cell? ⟨w.heap.size, i, none⟩ = X.cell? ⟨w.heap.size, i, none⟩) ∧ (∀ i, (X.setCell ⟨q, j, none⟩ y).frozen? ⟨w.heap.size, i, none⟩ = X.frozen? ⟨w.heap.size, i, none⟩) ∧ q < (X.setCell ⟨q, j, none⟩ y).heap.size ∧ Dk.T B S w (X.setCell ⟨q, j, none⟩ y) := by
  have q0 := h.q0
  have q1 := h.q1
  have hg := Fk.grownBy_setCell X q j y
  have n2 : some w.heap.size ≠ some q := by simp; omega
  have hSq := h.hS
  have hBq := h.hB
  exact ⟨fun i => hg.cell_far ⟨w.heap.size, i, none⟩ (by show w.heap.size < _; omega) n2, fun i => World.frozen?_of_block (hg.block w.heap.size (by omega) n2), Nat.lt_of_lt_of_le q1 hg.size, h.t.set (by omega) (by omega) (by omega) _ _⟩
theorem Bo.Pre.set0 {B S q : Nat} {w X : World} {u v : Value} {n : Int} (h : Bo.Pre B S q w X u v n) (y : Value) : Bo.Pre B S q w (X.setCell ⟨q, 0, none⟩ y) y v n := by
  obtain ⟨f1, f2, f3, f4⟩ := h.setj 0 y
  have h0 := h.c0; have h1 := h.c1; have h2 := h.c2; have hf := h.cf
  exact ⟨by simp [go_sem, h0, h1, h2], by simp [go_sem, h0, h1, h2], by simp [go_sem, h0, h1, h2], fun j => by simp [go_sem, hf], (f1 0).trans h.z0, (f1 1).trans h.z1, (f1 2).trans h.z2, fun j => (f2 j).trans (h.zf j), h.q0, f3, h.hS, h.hB, f4⟩
theorem Bo.Pre.set1 {B S q : Nat} {w X : World} {u v : Value} {n : Int} (h : Bo.Pre B S q w X u v n) (y : Value) : Bo.Pre B S q w (X.setCell ⟨q, 1, none⟩ y) u y n := by
  obtain ⟨f1, f2, f3, f4⟩ := h.setj 1 y
  have h0 := h.c0; have h1 := h.c1; have h2 := h.c2; have hf := h.cf
  exact ⟨by simp [go_sem, h0, h1, h2], by simp [go_sem, h0, h1, h2], by simp [go_sem, h0, h1, h2], fun j => by simp [go_sem, hf], (f1 0).trans h.z0, (f1 1).trans h.z1, (f1 2).trans h.z2, fun j => (f2 j).trans (h.zf j), h.q0, f3, h.hS, h.hB, f4⟩
theorem Bo.Pre.set2 {B S q : Nat} {w X : World} {u v : Value} {n : Int} (h : Bo.Pre B S q w X u v n) (m : Int) : Bo.Pre B S q w (X.setCell ⟨q, 2, none⟩ (.int .i64 m)) u v m := by
  obtain ⟨f1, f2, f3, f4⟩ := h.setj 2 (.int .i64 m)
  have h0 := h.c0; have h1 := h.c1; have h2 := h.c2; have hf := h.cf
  exact ⟨by simp [go_sem, h0, h1, h2], by simp [go_sem, h0, h1, h2], by simp [go_sem, h0, h1, h2], fun j => by simp [go_sem, hf], (f1 0).trans h.z0, (f1 1).trans h.z1, (f1 2).trans h.z2, fun j => (f2 j).trans (h.zf j), h.q0, f3, h.hS, h.hB, f4⟩
theorem Ob.Two.grown {X Y : World} {base : Nat} {e : TypeId} {u v : Value} {B A : List Or.E} {row : Option Nat} (h : Ob.Two X base e u v B A) (hg : X.grownBy Y row) (hr : ∀ j, row = some j → u.ownBlock ≠ some j ∧ v.ownBlock ≠ some j) : Ob.Two Y base e u v B A :=
  ⟨h.b.kept hg (fun k hk e2 => (hr k e2.symm).1 hk), h.a.kept hg (fun k hk e2 => (hr k e2.symm).2 hk), h.ne⟩
/-- a store into the variable leaves the lists -/
theorem Ob.Two.set {X : World} {q : Nat} {e : TypeId} {u v : Value} {B A : List Or.E} (h : Ob.Two X (q + 1) e u v B A) (j : Nat) (y : Value) : Ob.Two (X.setCell ⟨q, j, none⟩ y) (q + 1) e u v B A :=
  h.grown (Fk.grownBy_setCell X q j y) (fun i hi => by
    have e1 := Option.some.inj hi
    exact ⟨fun e2 => by have := (h.b.lt i e2).1; omega, fun e2 => by have := (h.a.lt i e2).1; omega⟩)
/-- one order more behind the first list -/
theorem Ob.Two.more {X Y : World} {base : Nat} {e : TypeId} {u v u' : Value} {B A B' : List Or.E} (h : Ob.Two X base e u v B A) (ho : Rk.Own Or.S Y base e u' B') (hg : X.grownBy Y u.ownBlock) (hw : ∀ k, u'.ownBlock = some k → u.ownBlock = some k ∨ X.heap.size ≤ k) : Ob.Two Y base e u' v B' A :=
  ⟨ho, h.a.kept hg (fun k hk e2 => h.ne k e2.symm hk), fun k hk => by
    rcases hw k hk with h1 | h1
    · exact h.ne k h1
    · intro h2
      have := (h.a.lt k h2).2
      omega⟩
theorem Ob.Two.more2 {X Y : World} {base : Nat} {e : TypeId} {u v v' : Value} {B A A' : List Or.E} (h : Ob.Two X base e u v B A) (ho : Rk.Own Or.S Y base e v' A') (hg : X.grownBy Y v.ownBlock) (hw : ∀ k, v'.ownBlock = some k → v.ownBlock = some k ∨ X.heap.size ≤ k) : Ob.Two Y base e u v' B A' :=
  ⟨h.b.kept hg (fun k hk e2 => h.ne k hk e2.symm), ho, fun k hk h2 => by
    rcases hw k h2 with h1 | h1
    · exact h.ne k hk h1
    · have := (h.b.lt k hk).2
      omega⟩
theorem Rk.view_grown {α : Type} {Sh : Rk.Shape α} {S : Nat} {X Y : World} {x : Value} {M : List α} {g : Nat} {r : Option Nat} (hx : x = .slice (some ⟨g, 0, none⟩) 1 1) (hne : g ≠ S) (h : Rk.View Sh X x M) (hg : X.grownBy Y r) (hr : r = none ∨ r = some S) : Rk.View Sh Y x M := by
  obtain ⟨a, c, e, hs⟩ := h
  refine ⟨a, c, e, fun h0 => ?_⟩
  obtain ⟨b, o, e2, hb, hse⟩ := hs h0
  subst e2
  rw [hx] at e
  simp only [Value.slice.injEq, Option.some.injEq] at e
  have hbg : b = g := by have := e.1; cases this; rfl
  have hn : some b ≠ r := by rcases hr with rfl | rfl <;> simp [hbg, hne]
  exact ⟨b, o, rfl, Nat.lt_of_lt_of_le hb hg.size, fun i hi j hj => (hg.cell_far ⟨b, _, none⟩ hb hn).trans (hse i hi j hj)⟩
/-- the pair of both, in a world that a draw or new memory has grown */ -/
theorem Bo.both_grown {B S q : Nat} {w X Y : World} {u v : Value} {n : Int} {P Q : List Or.E} {e : TypeId} {r : Option Nat} (h : Bo.Pre B S q w X u v n ∧ Ob.Two X (q + 1) e u v P Q) (hg : X.grownBy Y r) (hr : r = none ∨ r = some S) (t : Dk.T B S w Y) : Bo.Pre B S q w Y u v n ∧ Ob.Two Y (q + 1) e u v P Q := by
  have hS := h.1.hS
  have q0 := h.1.q0
  refine ⟨h.1.grown hg (fun j hj => ?_) t, h.2.grown hg (fun j hj => ?_)⟩
  · rcases hr with rfl | rfl
    · cases hj
    · have := Option.some.inj hj; exact ⟨by omega, by omega⟩
  · rcases hr with rfl | rfl
    · cases hj
    · have := Option.some.inj hj
      exact ⟨fun e2 => by have := (h.2.b.lt j e2).1; omega, fun e2 => by have := (h.2.a.lt j e2).1; omega⟩
/-- one order more behind the first list, the variable as it was -/
theorem Bo.both_more {B S q : Nat} {w X Y : World} {u v u' : Value} {n : Int} {P Q P' : List Or.E} {e : TypeId} (h : Bo.Pre B S q w X u v n ∧ Ob.Two X (q + 1) e u v P Q) (ho : Rk.Own Or.S Y (q + 1) e u' P') (hg : X.grownBy Y u.ownBlock) (hw : ∀ k, u'.ownBlock = some k → u.ownBlock = some k ∨ X.heap.size ≤ k) : Bo.Pre B S q w Y u v n ∧ Ob.Two Y (q + 1) e u' v P' Q := by
  have hS := h.1.hS
  have hB := h.1.hB
  have q0 := h.1.q0
  exact ⟨h.1.grown hg (fun j hj => by have := (h.2.b.lt j hj).1; exact ⟨by omega, by omega⟩) (h.1.t.far hg (fun j hj => by have := (h.2.b.lt j hj).1; exact ⟨by omega, by omega, by omega⟩)), h.2.more ho hg hw⟩
theorem Bo.both_more2 {B S q : Nat} {w X Y : World} {u v v' : Value} {n : Int} {P Q Q' : List Or.E} {e : TypeId} (h : Bo.Pre B S q w X u v n ∧ Ob.Two X (q + 1) e u v P Q) (ho : Rk.Own Or.S Y (q + 1) e v' Q') (hg : X.grownBy Y v.ownBlock) (hw : ∀ k, v'.ownBlock = some k → v.ownBlock = some k ∨ X.heap.size ≤ k) : Bo.Pre B S q w Y u v n ∧ Ob.Two Y (q + 1) e u v' P Q' := by
  have hS := h.1.hS
  have hB := h.1.hB
  have q0 := h.1.q0
  exact ⟨h.1.grown hg (fun j hj => by have := (h.2.a.lt j hj).1; exact ⟨by omega, by omega⟩) (h.1.t.far hg (fun j hj => by have := (h.2.a.lt j hj).1; exact ⟨by omega, by omega, by omega⟩)), h.2.more2 ho hg hw⟩
/-- one cell of the second list's first order is stored -/
theorem Bo.both_put2 {B S q g : Nat} {w X : World} {u : Value} {n : Int} {k c : Nat} {P Q : List Or.E} {e : TypeId} (h : Bo.Pre B S q w X u (.slice (some ⟨g, 0, none⟩) k c) n ∧ Ob.Two X (q + 1) e u (.slice (some ⟨g, 0, none⟩) k c) P Q) (h0 : 0 < Q.length) (j : Nat) (hj : j < 8) (y : Value) (f : Or.E) (hf : Or.S.cs f = (Or.S.cs (Rk.at_ Or.S Q 0)).set j y) :
    Bo.Pre B S q w (X.setCell ⟨g, j, none⟩ y) u (.slice (some ⟨g, 0, none⟩) k c) n ∧ Ob.Two (X.setCell ⟨g, j, none⟩ y) (q + 1) e u (.slice (some ⟨g, 0, none⟩) k c) P (Q.set 0 f) := by
  have hS := h.1.hS
  have hB := h.1.hB
  have q0 := h.1.q0
  have hgq := (h.2.a.lt g rfl).1
  have hg := Fk.grownBy_setCell X g j y
  have ho := h.2.a.put (k := 0) h0 j hj y f hf
  rw [show 0 * Or.S.m + j = j by omega] at ho
  refine ⟨h.1.grown hg (fun i hi => by have := Option.some.inj hi; exact ⟨by omega, by omega⟩) (h.1.t.set (by omega) (by omega) (by omega) _ _), ?_⟩
  exact ⟨h.2.b.kept hg (fun i hi e2 => h.2.ne i hi (by rw [e2]; rfl)), ho, h.2.ne⟩
theorem Bo.both_put {B S q g : Nat} {w X : World} {v : Value} {n : Int} {k c : Nat} {P Q : List Or.E} {e : TypeId} (h : Bo.Pre B S q w X (.slice (some ⟨g, 0, none⟩) k c) v n ∧ Ob.Two X (q + 1) e (.slice (some ⟨g, 0, none⟩) k c) v P Q) (h0 : 0 < P.length) (j : Nat) (hj : j < 8) (y : Value) (f : Or.E) (hf : Or.S.cs f = (Or.S.cs (Rk.at_ Or.S P 0)).set j y) :
    Bo.Pre B S q w (X.setCell ⟨g, j, none⟩ y) (.slice (some ⟨g, 0, none⟩) k c) v n ∧ Ob.Two (X.setCell ⟨g, j, none⟩ y) (q + 1) e (.slice (some ⟨g, 0, none⟩) k c) v (P.set 0 f) Q := by
  have hS := h.1.hS
  have hB := h.1.hB
  have q0 := h.1.q0
  have hgq := (h.2.b.lt g rfl).1
  have hg := Fk.grownBy_setCell X g j y
  have ho := h.2.b.put (k := 0) h0 j hj y f hf
  rw [show 0 * Or.S.m + j = j by omega] at ho
  refine ⟨h.1.grown hg (fun i hi => by have := Option.some.inj hi; exact ⟨by omega, by omega⟩) (h.1.t.set (by omega) (by omega) (by omega) _ _), ?_⟩
  exact ⟨ho, h.2.a.kept hg (fun i hi e2 => h.2.ne g rfl (by rw [hi]; exact e2)), h.2.ne⟩
end Go.Proofs.Ytfagldipjpaceaa

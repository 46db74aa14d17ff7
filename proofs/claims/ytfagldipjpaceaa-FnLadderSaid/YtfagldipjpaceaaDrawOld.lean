/- The walk of the drawn older book. -/
import Derived.Test.YtfagldipjpaceaaDrawCmdOld
import Derived.Test.YtfagldipjpaceaaBookLen
import Derived.Test.YtfagldipjpaceaaBookOldDo2
import Derived.Test.YtfagldipjpaceaaJoined7
import Derived.Test.YtfagldipjpaceaaOldBends
namespace Go.Proofs.Ytfagldipjpaceaa
open Go.RowKit
set_option linter.unusedVariables false
set_option linter.unusedSimpArgs false
/-- a book behind a variable (block q), the answer's box as it was made, and a source -/
structure Bo.Hold (B S q : Nat) (w wr : World) (u v : Value) (n : Int) (X Y : List Or.E) : Prop where
  c0 : wr.cell? ⟨q, 0, none⟩ = some u
  c1 : wr.cell? ⟨q, 1, none⟩ = some v
  c2 : wr.cell? ⟨q, 2, none⟩ = some (.int .i64 n)
  cf : ∀ j, wr.frozen? ⟨q, j, none⟩ = false
  z0 : wr.cell? ⟨w.heap.size, 0, none⟩ = some (.slice none 0 0)
  z1 : wr.cell? ⟨w.heap.size, 1, none⟩ = some (.slice none 0 0)
  z2 : wr.cell? ⟨w.heap.size, 2, none⟩ = some (.int .i64 0)
  zf : ∀ j, wr.frozen? ⟨w.heap.size, j, none⟩ = false
  q0 : w.heap.size < q
  q1 : q < wr.heap.size
  two : Ob.Two wr (q + 1) 40 u v X Y
  t : Dk.T B S w wr
theorem Bo.Hold.next {B S q : Nat} {w wr w' : World} {u v : Value} {n : Int} {X Y : List Or.E} (h : Bo.Hold B S q w wr u v n X Y) (hS : S < w.heap.size) (hs : Dk.Src B w' S) (hg : wr.grownBy w' (some S)) : Bo.Hold B S q w w' u v n X Y := by
  have hq := h.q1
  have hq0 := h.q0
  have far : ∀ b i, b < wr.heap.size → b ≠ S → w'.cell? ⟨b, i, none⟩ = wr.cell? ⟨b, i, none⟩ := fun b i hb hne => hg.cell_far ⟨b, i, none⟩ hb (fun e => hne (Option.some.inj e))
  have fro : ∀ b j, b < wr.heap.size → b ≠ S → w'.frozen? ⟨b, j, none⟩ = wr.frozen? ⟨b, j, none⟩ := fun b j hb hne => World.frozen?_of_block (hg.block b hb (fun e => hne (Option.some.inj e)))
  exact ⟨(far q 0 hq (by omega)).trans h.c0, (far q 1 hq (by omega)).trans h.c1, (far q 2 hq (by omega)).trans h.c2, fun j => (fro q j hq (by omega)).trans (h.cf j),
    (far w.heap.size 0 (by omega) (by omega)).trans h.z0, (far w.heap.size 1 (by omega) (by omega)).trans h.z1, (far w.heap.size 2 (by omega) (by omega)).trans h.z2, fun j => (fro w.heap.size j (by omega) (by omega)).trans (h.zf j),
    hq0, Nat.lt_of_lt_of_le hq hg.size,
    ⟨h.two.b.kept hg (fun k hk e => by have := (h.two.b.lt k hk).1; cases e; omega), h.two.a.kept hg (fun k hk e => by have := (h.two.a.lt k hk).1; cases e; omega), h.two.ne⟩,
    h.t.next hs hg⟩
theorem Bo.Hold.below {B S q : Nat} {w wr w' : World} {u v : Value} {n : Int} {X Y : List Or.E} (h : Bo.Hold B S q w wr u v n X Y) (hS : S < w.heap.size) (hB : Below wr.heap.size wr w') : Bo.Hold B S q w w' u v n X Y :=
  h.next hS (h.t.1.below hB) (Fk.grownBy_below _ hB)
theorem Bo.Hold.held {B S q : Nat} {w wr : World} {u v : Value} {n : Int} {X Y : List Or.E} (h : Bo.Hold B S q w wr u v n X Y) : wr.cell? ⟨q, 0, none⟩ = some u ∧ wr.cell? ⟨q, 1, none⟩ = some v ∧ wr.cell? ⟨q, 2, none⟩ = some (.int .i64 n) ∧ Hid (Bo.Hold B S q w wr u v n X Y) := ⟨h.c0, h.c1, h.c2, h⟩
/-- the box of an answer of OldDo, as it was made -/
structure Bo.Box (w : World) (b : Nat) : Prop where
  d0 : w.cell? ⟨b, 0, none⟩ = some (.slice none 0 0)
  d1 : w.cell? ⟨b, 1, none⟩ = some (.slice none 0 0)
  d2 : w.cell? ⟨b, 2, none⟩ = some (.int .i64 0)
  d3 : w.cell? ⟨b, 3, none⟩ = some (.slice none 0 0)
  d4 : w.cell? ⟨b, 4, none⟩ = some (.int .i64 0)
  df : ∀ j, w.frozen? ⟨b, j, none⟩ = false
  lt : b < w.heap.size
theorem Bo.Box.new (w : World) : Bo.Box (w.alloc (.cells #[.slice none 0 0, .slice none 0 0, .int .i64 0, .slice none 0 0, .int .i64 0] 32)) w.heap.size :=
  ⟨by rw [Fk.cellTop _ _ _ _ _ rfl]; rfl, by rw [Fk.cellTop _ _ _ _ _ rfl]; rfl, by rw [Fk.cellTop _ _ _ _ _ rfl]; rfl, by rw [Fk.cellTop _ _ _ _ _ rfl]; rfl, by rw [Fk.cellTop _ _ _ _ _ rfl]; rfl, fun j => by rw [Fk.frozTop _ _ _ _ _ rfl], by simp⟩
theorem Bo.Box.next {w w' : World} {b S : Nat} (h : Bo.Box w b) (hg : w.grownBy w' (some S)) (hne : b ≠ S) : Bo.Box w' b := by
  have far : ∀ i, w'.cell? ⟨b, i, none⟩ = w.cell? ⟨b, i, none⟩ := fun i => hg.cell_far ⟨b, i, none⟩ h.lt (fun e => hne (Option.some.inj e))
  exact ⟨(far 0).trans h.d0, (far 1).trans h.d1, (far 2).trans h.d2, (far 3).trans h.d3, (far 4).trans h.d4, fun j => (World.frozen?_of_block (hg.block b h.lt (fun e => hne (Option.some.inj e)))).trans (h.df j), Nat.lt_of_lt_of_le h.lt hg.size⟩
def Bo.five (w : World) (b : Nat) (x y z s t : Value) : World := (((((w.setCell ⟨b, 0, none⟩ x).setCell ⟨b, 1, none⟩ y).setCell ⟨b, 2, none⟩ z).setCell ⟨b, 3, none⟩ s).setCell ⟨b, 4, none⟩ t)
theorem Bo.five_cells {w : World} {b : Nat} (x y z s t : Value) (h : Bo.Box w b) : (Bo.five w b x y z s t).cell? ⟨b, 0, none⟩ = some x ∧ (Bo.five w b x y z s t).cell? ⟨b, 1, none⟩ = some y ∧ (Bo.five w b x y z s t).cell? ⟨b, 2, none⟩ = some z ∧ (Bo.five w b x y z s t).cell? ⟨b, 3, none⟩ = some s ∧ (Bo.five w b x y z s t).cell? ⟨b, 4, none⟩ = some t ∧ (∀ j, (Bo.five w b x y z s t).frozen? ⟨b, j, none⟩ = false) := by
  obtain ⟨h0, h1, h2, h3, h4, hf, _⟩ := h
  unfold Bo.five
  refine ⟨?_, ?_, ?_, ?_, ?_, fun j => ?_⟩ <;> simp [go_sem, h0, h1, h2, h3, h4, hf]
theorem Bo.five_grown (w : World) (b : Nat) (x y z s t : Value) : w.grownBy (Bo.five w b x y z s t) (some b) :=
  Fk.grownBy_trans (Fk.grownBy_trans (Fk.grownBy_trans (Fk.grownBy_trans (Fk.grownBy_setCell _ _ _ _) (Fk.grownBy_setCell _ _ _ _)) (Fk.grownBy_setCell _ _ _ _)) (Fk.grownBy_setCell _ _ _ _)) (Fk.grownBy_setCell _ _ _ _)
theorem Bo.Hold.five {B S q b : Nat} {w wr : World} {u v : Value} {n : Int} {X Y : List Or.E} (h : Bo.Hold B S q w wr u v n X Y) (hB : B ≤ w.heap.size) (hq : q < b) (hS : b ≠ S) (hu : ∀ k, u.ownBlock = some k → k ≠ b) (hv : ∀ k, v.ownBlock = some k → k ≠ b) (x y z s t : Value) : Bo.Hold B S q w (Bo.five wr b x y z s t) u v n X Y := by
  have hg := Bo.five_grown wr b x y z s t
  have hq0 := h.q0
  have q1 := h.q1
  have far : ∀ p i, p < wr.heap.size → p ≠ b → (Bo.five wr b x y z s t).cell? ⟨p, i, none⟩ = wr.cell? ⟨p, i, none⟩ := fun p i hp hne => hg.cell_far ⟨p, i, none⟩ hp (fun e => hne (Option.some.inj e))
  have fro : ∀ p j, p < wr.heap.size → p ≠ b → (Bo.five wr b x y z s t).frozen? ⟨p, j, none⟩ = wr.frozen? ⟨p, j, none⟩ := fun p j hp hne => World.frozen?_of_block (hg.block p hp (fun e => hne (Option.some.inj e)))
  exact ⟨(far q 0 q1 (by omega)).trans h.c0, (far q 1 q1 (by omega)).trans h.c1, (far q 2 q1 (by omega)).trans h.c2, fun j => (fro q j q1 (by omega)).trans (h.cf j),
    (far w.heap.size 0 (by omega) (by omega)).trans h.z0, (far w.heap.size 1 (by omega) (by omega)).trans h.z1, (far w.heap.size 2 (by omega) (by omega)).trans h.z2, fun j => (fro w.heap.size j (by omega) (by omega)).trans (h.zf j),
    hq0, Nat.lt_of_lt_of_le q1 hg.size, ⟨h.two.b.kept hg (fun k hk e => hu k hk (Option.some.inj e)), h.two.a.kept hg (fun k hk e => hv k hk (Option.some.inj e)), h.two.ne⟩,
    ((((h.t.set (by omega) (by omega) hS _ _).set (by omega) (by omega) hS _ _).set (by omega) (by omega) hS _ _).set (by omega) (by omega) hS _ _).set (by omega) (by omega) hS _ _⟩
theorem Bo.Hold.put {B S q : Nat} {w wr : World} {u v x y : Value} {n m : Int} {X Y X' Y' : List Or.E} (h : Bo.Hold B S q w wr u v n X Y) (hB : B ≤ w.heap.size) (hS : S < w.heap.size) (hT : Ob.Two wr (q + 1) 40 x y X' Y') : Bo.Hold B S q w (((wr.setCell ⟨q, 0, none⟩ x).setCell ⟨q, 1, none⟩ y).setCell ⟨q, 2, none⟩ (.int .i64 m)) x y m X' Y' := by
  have hg : wr.grownBy (((wr.setCell ⟨q, 0, none⟩ x).setCell ⟨q, 1, none⟩ y).setCell ⟨q, 2, none⟩ (.int .i64 m)) (some q) := Fk.grownBy_trans (Fk.grownBy_trans (Fk.grownBy_setCell _ _ _ _) (Fk.grownBy_setCell _ _ _ _)) (Fk.grownBy_setCell _ _ _ _)
  have hq0 := h.q0
  have q1 := h.q1
  have h0 := h.c0
  have h1 := h.c1
  have h2 := h.c2
  have hf := h.cf
  have far : ∀ i, (((wr.setCell ⟨q, 0, none⟩ x).setCell ⟨q, 1, none⟩ y).setCell ⟨q, 2, none⟩ (.int .i64 m)).cell? ⟨w.heap.size, i, none⟩ = wr.cell? ⟨w.heap.size, i, none⟩ := fun i => hg.cell_far ⟨w.heap.size, i, none⟩ (by show w.heap.size < _; omega) (fun e => by have := Option.some.inj e; simp at this; omega)
  exact ⟨by simp [go_sem, h0, h1, h2], by simp [go_sem, h0, h1, h2], by simp [go_sem, h0, h1, h2], fun j => by simp [hf],
    (far 0).trans h.z0, (far 1).trans h.z1, (far 2).trans h.z2, fun j => (World.frozen?_of_block (hg.block w.heap.size (by omega) (fun e => by have := Option.some.inj e; omega))).trans (h.zf j),
    hq0, Nat.lt_of_lt_of_le q1 hg.size, ⟨hT.b.kept hg (fun k hk e => by have := (hT.b.lt k hk).1; cases e; omega), hT.a.kept hg (fun k hk e => by have := (hT.a.lt k hk).1; cases e; omega), hT.ne⟩,
    ((h.t.set (by omega) (by omega) (by omega) _ _).set (by omega) (by omega) (by omega) _ _).set (by omega) (by omega) (by omega) _ _⟩
theorem Bo.Hold.fin {B S q : Nat} {w wr : World} {u v : Value} {n : Int} {X Y : List Or.E} (h : Bo.Hold B S q w wr u v n X Y) (hB : B ≤ w.heap.size) (hS : S < w.heap.size) (x y z : Value) : Ob.Two (((wr.setCell ⟨w.heap.size, 0, none⟩ x).setCell ⟨w.heap.size, 1, none⟩ y).setCell ⟨w.heap.size, 2, none⟩ z) w.heap.size 40 u v X Y ∧ Dk.T B S w (((wr.setCell ⟨w.heap.size, 0, none⟩ x).setCell ⟨w.heap.size, 1, none⟩ y).setCell ⟨w.heap.size, 2, none⟩ z) := by
  have hg : wr.grownBy (((wr.setCell ⟨w.heap.size, 0, none⟩ x).setCell ⟨w.heap.size, 1, none⟩ y).setCell ⟨w.heap.size, 2, none⟩ z) (some w.heap.size) := Fk.grownBy_trans (Fk.grownBy_trans (Fk.grownBy_setCell _ _ _ _) (Fk.grownBy_setCell _ _ _ _)) (Fk.grownBy_setCell _ _ _ _)
  have hq0 := h.q0
  exact ⟨⟨(h.two.b.kept hg (fun k hk e => by have := (h.two.b.lt k hk).1; cases e; omega)).mono (by omega), (h.two.a.kept hg (fun k hk e => by have := (h.two.a.lt k hk).1; cases e; omega)).mono (by omega), h.two.ne⟩,
    ((h.t.set (Nat.le_refl _) hB (by omega) _ _).set (Nat.le_refl _) hB (by omega) _ _).set (Nat.le_refl _) hB (by omega) _ _⟩
theorem Bo.Hold.pre {B S q : Nat} {w wr : World} {u v : Value} {n : Int} {X Y : List Or.E} (h : Bo.Hold B S q w wr u v n X Y) (hB : B ≤ w.heap.size) (hS : S < w.heap.size) : Bo.Pre B S q w wr u v n ∧ Ob.Two wr (q + 1) 40 u v X Y :=
  ⟨⟨h.c0, h.c1, h.c2, h.cf, h.z0, h.z1, h.z2, h.zf, h.q0, h.q1, hS, hB, h.t⟩, h.two⟩
theorem Bo.Pre.hold {B S q : Nat} {w wr : World} {u v : Value} {n : Int} {X Y : List Or.E} (h : Bo.Pre B S q w wr u v n ∧ Ob.Two wr (q + 1) 40 u v X Y) : Bo.Hold B S q w wr u v n X Y :=
  ⟨h.1.c0, h.1.c1, h.1.c2, h.1.cf, h.1.z0, h.1.z1, h.1.z2, h.1.zf, h.1.q0, h.1.q1, h.2, h.1.t⟩
structure Bo.R16 (B S q : Nat) (w : World) (u v : Value) (n : Int) (LX LY : List Or.E) (y1 : Int) (l : Array Bool) (Wd : World) (x50 x51 x52 x53 x54 x55 x56 x57 x58 : Value) : Prop where
  sz : l.size = 10
  w0 : l.getD 9 false = false → Bo.Pre B S q w Wd u v n ∧ Ob.Two Wd (q + 1) 40 u v LX LY
  wf : l.getD 9 false = true → ∃ m : Int, Bo.Pre B S q w Wd u v m ∧ Ob.Two Wd (q + 1) 40 u v LX LY
  d0 : l.getD 0 false = true → x50 = .pointer (some ⟨q, 2, none⟩)
  d1 : l.getD 1 false = true → x51 = .int .i64 n
  d2 : l.getD 2 false = true → x52 = .int .i64 y1
  d3 : l.getD 9 false = false → l.getD 3 false = true → Dk.Lit S [0, y1, 1000000, 1000001] Wd x53
  d4 : l.getD 4 false = true → x54 = .pointer (some ⟨S, 0, none⟩)
  d5 : l.getD 5 false = true → Dk.Idx 4 x55
  d6 : l.getD 9 false = false → l.getD 6 false = true → Dk.Ptr S [0, y1, 1000000, 1000001] Wd x56
  d7 : l.getD 7 false = true → Dk.Num [0, y1, 1000000, 1000001] x57
  d8 : l.getD 8 false = true → x58 = .pointer (some ⟨q, 2, none⟩)
  e1 : l.getD 1 false = true → l.getD 0 false = true
  e2 : l.getD 2 false = true → l.getD 1 false = true
  e3 : l.getD 3 false = true → l.getD 2 false = true
  e5 : l.getD 5 false = true → l.getD 4 false = true
  e6 : l.getD 6 false = true → l.getD 3 false = true ∧ l.getD 5 false = true
  e7 : l.getD 7 false = true → l.getD 6 false = true
  e9 : l.getD 9 false = true → l.getD 8 false = true ∧ l.getD 7 false = true

structure Bo.R18 (B S q : Nat) (w : World) (u v : Value) (n : Int) (LX LY : List Or.E) (l : Array Bool) (Wd : World) (x61 x62 x63 x64 x65 x66 x67 x68 x69 : Value) : Prop where
  sz : l.size = 10
  w0 : l.getD 7 false = false → Bo.Pre B S q w Wd u v n ∧ Ob.Two Wd (q + 1) 40 u v LX LY
  w1 : l.getD 7 false = true → l.getD 9 false = false → ∃ o : Or.E, Bo.Pre B S q w Wd u v n ∧ Ob.Two Wd (q + 1) 40 x68 v (LX ++ [o]) LY
  wf : l.getD 9 false = true → ∃ (xa : Option Addr) (xn xc : Nat) (o : Or.E), Bo.Pre B S q w Wd (.slice xa xn xc) v n ∧ Ob.Two Wd (q + 1) 40 (.slice xa xn xc) v (LX ++ [o]) LY
  d0 : l.getD 0 false = true → x61 = .pointer (some ⟨q, 0, none⟩)
  d1 : l.getD 1 false = true → x62 = u
  d2 : l.getD 2 false = true → x63 = .pointer (some ⟨S, 0, none⟩)
  d3 : l.getD 3 false = true → Dk.Idx 30 x64
  d4 : l.getD 4 false = true → ∃ r : Int, x65 = .int .i64 r
  d5 : l.getD 5 false = true → ∃ r : Int, x66 = .agg #[.int .i64 1, .int .i64 1, .int .i64 r, .int .i64 1, .bool false, .int .i64 0, .int .i64 0, .bool false]
  d6 : l.getD 7 false = false → l.getD 6 false = true → ∃ (g : Nat) (r : Int), x67 = .slice (some ⟨g, 0, none⟩) 1 1 ∧ g ≠ S ∧ Rk.View Or.S Wd x67 [(1, 1, r, 1, false, 0, 0, false)]
  d8 : l.getD 8 false = true → x69 = .pointer (some ⟨q, 0, none⟩)
  e1 : l.getD 1 false = true → l.getD 0 false = true
  e3 : l.getD 3 false = true → l.getD 2 false = true
  e4 : l.getD 4 false = true → l.getD 3 false = true
  e5 : l.getD 5 false = true → l.getD 4 false = true
  e6 : l.getD 6 false = true → l.getD 5 false = true
  e7 : l.getD 7 false = true → l.getD 1 false = true ∧ l.getD 6 false = true
  e9 : l.getD 9 false = true → l.getD 8 false = true ∧ l.getD 7 false = true

structure Bo.R24 (B S q : Nat) (w : World) (u v : Value) (n : Int) (LX LY : List Or.E) (g : Nat) (l : Array Bool) (Wd : World) (x86 x87 x88 x89 x90 x91 x92 x93 x94 : Value) : Prop where
  sz : l.size = 10
  w0 : l.getD 9 false = false → Bo.Pre B S q w Wd u v n ∧ Ob.Two Wd (q + 1) 40 u v LX LY
  wf : l.getD 9 false = true → ∃ LY' : List Or.E, LY'.length = LY.length ∧ Bo.Pre B S q w Wd u v n ∧ Ob.Two Wd (q + 1) 40 u v LX LY'
  d0 : l.getD 0 false = true → x86 = .pointer (some ⟨q, 1, none⟩)
  d1 : l.getD 1 false = true → x87 = v
  d2 : l.getD 9 false = false → l.getD 2 false = true → Dk.Lit S [0, 1000, 1001] Wd x88
  d3 : l.getD 3 false = true → x89 = .pointer (some ⟨S, 0, none⟩)
  d4 : l.getD 4 false = true → Dk.Idx 3 x90
  d5 : l.getD 9 false = false → l.getD 5 false = true → Dk.Ptr S [0, 1000, 1001] Wd x91
  d6 : l.getD 6 false = true → Dk.Num [0, 1000, 1001] x92
  d7 : l.getD 7 false = true → x93 = .pointer (some ⟨g, 0, none⟩)
  d8 : l.getD 8 false = true → x94 = .pointer (some ⟨g, 3, none⟩)
  e1 : l.getD 1 false = true → l.getD 0 false = true
  e4 : l.getD 4 false = true → l.getD 3 false = true
  e5 : l.getD 5 false = true → l.getD 2 false = true ∧ l.getD 4 false = true
  e6 : l.getD 6 false = true → l.getD 5 false = true
  e7 : l.getD 7 false = true → l.getD 1 false = true
  e8 : l.getD 8 false = true → l.getD 7 false = true
  e9 : l.getD 9 false = true → l.getD 8 false = true ∧ l.getD 6 false = true

set_option maxRecDepth 100000 in
set_option maxHeartbeats 8000000 in
theorem drawOld_any (B S : Nat) (w : World) (hs : Dk.Src B w S) :
    Calls Try.prog 30 #[.pointer (some ⟨S, 0, none⟩)] w fun e w' => (∃ u v n X Y, e = .returned (.agg #[u, v, .int .i64 n]) ∧ Ob.Two w' w.heap.size 40 u v X Y ∧ X.length + Y.length ≤ 60) ∧ Dk.Src B w' S ∧ w.grownBy w' (some S) := by
  obtain ⟨hBS, hSw⟩ := hs.lt
  obtain ⟨i0, hi0, hz0, hz1, hz2⟩ := info_parts infoOrder
  have HS := Fk.hide hs
  clear hs
  go_enter Try.func30, Try.ntmps30
  go_wp2_with fail
  refine (oldNew_spec _).mono ?_
  rintro e w1 ⟨rfl, b1⟩
  have B1 : Below w.heap.size w w1 := ((Below.refl _ _).alloc (Nat.le_refl _) _).trans (b1.mono (by simp))
  have hz1 : w.heap.size < w1.heap.size := by have := b1.size; simp at this; omega
  have z0 : w1.cell? ⟨w.heap.size, 0, none⟩ = some (.slice none 0 0) := (b1.cell (p := ⟨w.heap.size, 0, none⟩) (by simp)).trans (by rw [Fk.cellTop _ _ _ _ _ rfl]; rfl)
  have z1 : w1.cell? ⟨w.heap.size, 1, none⟩ = some (.slice none 0 0) := (b1.cell (p := ⟨w.heap.size, 1, none⟩) (by simp)).trans (by rw [Fk.cellTop _ _ _ _ _ rfl]; rfl)
  have z2 : w1.cell? ⟨w.heap.size, 2, none⟩ = some (.int .i64 0) := (b1.cell (p := ⟨w.heap.size, 2, none⟩) (by simp)).trans (by rw [Fk.cellTop _ _ _ _ _ rfl]; rfl)
  have zf : ∀ j, w1.frozen? ⟨w.heap.size, j, none⟩ = false := fun j => (b1.frozen (p := ⟨w.heap.size, j, none⟩) (by simp)).trans (by rw [Fk.frozTop _ _ _ _ _ rfl])
  have S1 : Hid (Dk.Src B w1 S) := HS.out.below B1
  obtain ⟨a, nn, cc, kk, mix, size, _, _, _, _, _, hsz, hAt, _⟩ := S1.out
  have s3 := hAt.c3
  clear hAt
  have hS1 : S < w1.heap.size := by omega
  have hne1 : w1.heap.size ≠ S := by omega
  have hw10 : IntKind.i64.wrap (10 + size) = 10 + size := by rw [IntKind.wrap_i64]; omega
  have HT1 : Hid (Dk.T B S w w1) := ⟨S1.out, Fk.grownBy_below (some S) B1⟩
  clear b1 B1
  go_wp2_with fail
  obtain ⟨W2, hW2⟩ : ∃ W, W = w1.alloc (.cells #[.slice none 0 0, .slice none 0 0, .int .i64 1] 25) := ⟨_, rfl⟩
  rw [← hW2]
  have H2 : Hid (Bo.Hold B S w1.heap.size w W2 (.slice none 0 0) (.slice none 0 0) 1 [] []) := by
    show Bo.Hold _ _ _ _ _ _ _ _ _ _
    rw [hW2]
    exact ⟨by rw [Fk.cellTop _ _ _ _ _ rfl]; rfl, by rw [Fk.cellTop _ _ _ _ _ rfl]; rfl, by rw [Fk.cellTop _ _ _ _ _ rfl]; rfl, fun j => by rw [Fk.frozTop _ _ _ _ _ rfl], (Fk.cellOld _ _ _ _ hz1).trans z0, (Fk.cellOld _ _ _ _ hz1).trans z1, (Fk.cellOld _ _ _ _ hz1).trans z2, fun j => (Fk.frozOld _ _ _ _ hz1).trans (zf j), hz1, by simp, ⟨Rk.own_nil _ _ _, Rk.own_nil _ _ _, by intro k hk; simp [Value.ownBlock] at hk⟩, HT1.out.alloc _⟩
  obtain ⟨q, hq⟩ : ∃ q, q = w1.heap.size := ⟨_, rfl⟩
  rw [← hq] at H2 ⊢
  clear hW2 z0 z1 z2 zf S1 s3 hS1 hne1 HT1 hz1 hq
  refine (drawN_any B S (10 + size) W2 H2.out.t.1 (by omega)).mono ?_
  rintro e w3 ⟨⟨k0, rfl, hk0, hk1, _⟩, s3, g3⟩
  have hk : k0 < 10 + size := hk1 (by omega)
  have H3 := Fk.hide (H2.out.next hSw s3 g3)
  clear s3 g3 hk1 H2 hw10
  go_wp2_with fail
  go_loopw [4] (fun i wr => ∃ (k : Int) (u v : Value) (n : Int) (X Y : List Or.E), i = .int .i64 k ∧ 0 ≤ k ∧ (X.length : Int) + Y.length + k ≤ 22 ∧ Hid (Bo.Hold B S q w wr u v n X Y)) (fun i _ => (intOf i).toNat)
  case atStart => exact ⟨k0, _, _, _, _, _, rfl, hk0, by simp; omega, H3.out⟩
  case round =>
    obtain ⟨k, u, v, n, X, Y, rfl, hk0, hk9, HO⟩ := hrel
    by_cases hlt : 0 < k
    · go_wp2_with fail
      have HD := Fk.hide (HO.out.below hSw (Below.drew (Below.refl _ _)))
      refine wp_region_held_drew (S := (fun w' => w'.cell? ⟨q, 0, none⟩ = some u ∧ w'.cell? ⟨q, 1, none⟩ = some v ∧ w'.cell? ⟨q, 2, none⟩ = some (.int .i64 n) ∧ Hid (Bo.Hold B S q w w' u v n X Y))) (by kernel_rfl) ?_ (fun hH => ?_)
      · (try dsimp only); exact HD.out.held
      obtain ⟨X0, hX0⟩ : ∃ X, X = wr.drew := ⟨_, rfl⟩
      rw [← hX0] at hH HD ⊢
      clear hX0 HO
      refine wpAnyH_take (i := 0) (oi := ?_) (v := ?_) ?_ (by kernel_rfl) (by kernel_rfl) (by kernel_rfl) ?_ ?_ (by assumption) ?_
      rotate_left
      rotate_left
      · (simp only [List.getElem?_toArray, List.getElem?_cons_succ, List.getElem?_cons_zero]; rfl)
      · exact fun _ _ _ h => h
      · refine Or.inl ⟨by rfl, ?_⟩; (intro w hSw; (try dsimp only at hSw); go_simp; first | done | with_reducible rfl)
      (try simp only [Act.put, List.setIfInBounds_toArray, List.set_cons_zero, List.set_cons_succ])
      refine wpAnyH_take (i := 1) (oi := ?_) (v := ?_) ?_ (by kernel_rfl) (by kernel_rfl) (by kernel_rfl) ?_ ?_ (by assumption) ?_
      rotate_left
      rotate_left
      · (simp only [List.getElem?_toArray, List.getElem?_cons_succ, List.getElem?_cons_zero]; rfl)
      · exact fun _ _ _ h => h
      · refine Or.inl ⟨by rfl, ?_⟩; (intro w hSw; (try dsimp only at hSw); go_simp; first | done | with_reducible rfl)
      (try simp only [Act.put, List.setIfInBounds_toArray, List.set_cons_zero, List.set_cons_succ])
      refine wpAnyH_ready (rs := [2, 4]) (by kernel_rfl) (by simp) ?_
      refine AllReadyH.cons (o := ?_) ?_ (fun K hK => ?_) ?_
      rotate_left
      · (simp only [List.getElem?_toArray, List.getElem?_cons_succ, List.getElem?_cons_zero]; rfl)
      · go_simp
        go_at_call 33
        refine (drawOldCmd_any B S _ HD.out.t.1).mono ?_
        rintro e wA ⟨⟨c, rfl⟩, sA, gA⟩
        have HA := Fk.hide (HD.out.next hSw sA gA)
        clear sA gA
        (try go_wp2_with fail)
        refine hK.out _ _ ?_ (fun hH2 => ?_)
        · (try dsimp only); exact HA.out.held
        clear hK K hH
        have hH := hH2
        clear hH2
        (try simp only [Act.put, List.setIfInBounds_toArray, List.set_cons_zero, List.set_cons_succ])
        refine wpAnyH_ready (rs := [3, 4]) (by kernel_rfl) (by simp) ?_
        refine AllReadyH.cons (o := ?_) ?_ (fun K hK => ?_) ?_
        rotate_left
        · (simp only [List.getElem?_toArray, List.getElem?_cons_succ, List.getElem?_cons_zero]; rfl)
        · go_simp
          go_at_call 11
          obtain ⟨r, hr⟩ : ∃ r, r = Dm.oldDo c X Y n := ⟨_, rfl⟩
          have hcall := oldDo_spec u v n X Y c _ HA.out.two.b.view HA.out.two.a.view HA.out.two.b.shut HA.out.two.a.shut (by omega) (by omega)
          rw [← hr] at hcall
          have hmany : r.2.b.length + r.2.a.length ≤ X.length + Y.length + 1 := by rw [hr]; exact Dm.oldDo_many c X Y n
          clear hr
          refine hcall.mono ?_
          clear hcall
          rintro e wB ⟨⟨x, y, z, rfl, hT, hV⟩, bB⟩
          obtain ⟨xa, xn, xc, rfl⟩ := hT.b.slice'
          obtain ⟨ya, yn, yc, rfl⟩ := hT.a.slice'
          obtain ⟨za, zn, zc, rfl⟩ := hV.slice'
          clear hV
          have HB := Fk.hide (HA.out.below hSw bB)
          have HT := Fk.hide hT
          clear bB hT
          (try go_wp2_with fail)
          refine hK.out _ _ ?_ (fun hH2 => ?_)
          · (try dsimp only); exact HB.out.held
          clear hK K hH
          have hH := hH2
          clear hH2
          (try simp only [Act.put, List.setIfInBounds_toArray, List.set_cons_zero, List.set_cons_succ])
          have HX : Hid (Bo.Box (wB.alloc (.cells #[.slice none 0 0, .slice none 0 0, .int .i64 0, .slice none 0 0, .int .i64 0] 32)) wB.heap.size) := Bo.Box.new wB
          have HC := Fk.hide (HB.out.below hSw ((Below.refl _ _).alloc (Nat.le_refl _) (.cells #[.slice none 0 0, .slice none 0 0, .int .i64 0, .slice none 0 0, .int .i64 0] 32)))
          refine wpAnyH_ready (rs := [4]) (by kernel_rfl) (by simp) ?_
          refine AllReadyH.cons (o := ?_) ?_ (fun K hK => ?_) AllReadyH.nil
          rotate_left
          · (simp only [List.getElem?_toArray, List.getElem?_cons_succ, List.getElem?_cons_zero]; rfl)
          go_simp
          skip
          (try go_wp2_with fail)
          refine hK.out _ _ ?_ (fun hH2 => ?_)
          · (try dsimp only); exact HC.out.held
          clear hK K hH
          have hH := hH2
          clear hH2
          (try simp only [Act.put, List.setIfInBounds_toArray, List.set_cons_zero, List.set_cons_succ])
          have HN : Hid (q < wB.heap.size ∧ wB.heap.size ≠ S ∧ (∀ k, u.ownBlock = some k → k ≠ wB.heap.size) ∧ (∀ k, v.ownBlock = some k → k ≠ wB.heap.size) ∧ (∀ k, Value.ownBlock (.slice xa xn xc) = some k → k ≠ wB.heap.size) ∧ (∀ k, Value.ownBlock (.slice ya yn yc) = some k → k ≠ wB.heap.size)) := ⟨HB.out.q1, by have := HB.out.t.1.lt; omega, fun k hk => Nat.ne_of_lt (HB.out.two.b.lt k hk).2, fun k hk => Nat.ne_of_lt (HB.out.two.a.lt k hk).2, fun k hk => Nat.ne_of_lt (HT.out.b.lt k hk).2, fun k hk => Nat.ne_of_lt (HT.out.a.lt k hk).2⟩
          have HT : Hid (Ob.Two (wB.alloc (.cells #[.slice none 0 0, .slice none 0 0, .int .i64 0, .slice none 0 0, .int .i64 0] 32)) (q + 1) 40 (.slice xa xn xc) (.slice ya yn yc) r.2.b r.2.a) := by have h := HT.out.below ((Below.refl _ _).alloc (Nat.le_refl _) (.cells #[.slice none 0 0, .slice none 0 0, .int .i64 0, .slice none 0 0, .int .i64 0] 32)); exact ⟨h.b.mono HA.out.q1, h.a.mono HA.out.q1, h.ne⟩
          obtain ⟨Z, hZ⟩ : ∃ Z, Z = wB.alloc (.cells #[.slice none 0 0, .slice none 0 0, .int .i64 0, .slice none 0 0, .int .i64 0] 32) := ⟨_, rfl⟩
          rw [← hZ] at HX HC hH HT ⊢
          clear hZ
          obtain ⟨b, hb⟩ : ∃ b, b = wB.heap.size := ⟨_, rfl⟩
          rw [← hb] at HX HN ⊢
          clear hb
          have hqb := HN.out.1
          have hbS : b ≠ S := HN.out.2.1
          have HF := Fk.hide (HC.out.five (b := b) (by omega) hqb hbS HN.out.2.2.1 HN.out.2.2.2.1 (.slice xa xn xc) (.slice ya yn yc) (.int .i64 r.2.n) (.slice za zn zc) (.int .i64 r.1))
          have HG := Fk.hide (Bo.five_cells (.slice xa xn xc) (.slice ya yn yc) (.int .i64 r.2.n) (.slice za zn zc) (.int .i64 r.1) HX.out)
          have HT6 : Hid (Ob.Two (Bo.five Z b (.slice xa xn xc) (.slice ya yn yc) (.int .i64 r.2.n) (.slice za zn zc) (.int .i64 r.1)) (q + 1) 40 (.slice xa xn xc) (.slice ya yn yc) r.2.b r.2.a) := ⟨(HT.out.b.kept (Bo.five_grown Z b _ _ _ _ _) (fun k hk e => HN.out.2.2.2.2.1 k hk (Option.some.inj e))), (HT.out.a.kept (Bo.five_grown Z b _ _ _ _ _) (fun k hk e => HN.out.2.2.2.2.2 k hk (Option.some.inj e))), HT.out.ne⟩
          obtain ⟨d0, d1, d2, d3, d4, df, _⟩ := HX.out
          clear HT HC HX
          refine wpAnyH_ready (rs := [5]) (by kernel_rfl) (by simp) ?_
          refine AllReadyH.cons (o := ?_) ?_ (fun K hK => ?_) AllReadyH.nil
          rotate_left
          · (simp only [List.getElem?_toArray, List.getElem?_cons_succ, List.getElem?_cons_zero]; rfl)
          go_simp
          skip
          (try go_wp2_with fail)
          refine hK.out _ _ ?_ (fun hH2 => ?_)
          · (try dsimp only); exact HF.out.held
          clear hK K hH
          have hH := hH2
          clear hH2
          (try simp only [Act.put, List.setIfInBounds_toArray, List.set_cons_zero, List.set_cons_succ])
          refine wpAnyH_done (by kernel_rfl) ?_ _
          clear d0 d1 d2 d3 d4 df hH
          obtain ⟨W6, hW6⟩ : ∃ W, W = Bo.five Z b (.slice xa xn xc) (.slice ya yn yc) (.int .i64 r.2.n) (.slice za zn zc) (.int .i64 r.1) := ⟨_, rfl⟩
          rw [← hW6] at HF HG HT6
          unfold Bo.five at hW6
          rw [← hW6]
          clear hW6
          obtain ⟨g0, g1, g2, g3, g4, gf⟩ := HG.out
          clear HG
          have f0 := HF.out.c0
          have f1 := HF.out.c1
          have f2 := HF.out.c2
          have ff := HF.out.cf
          have hwk : IntKind.i64.wrap (k - 1) = k - 1 := by rw [IntKind.wrap_i64]; omega
          by_cases hz : r.1 = 0
          · go_wp2_with fail
            exact ⟨⟨k - 1, _, _, _, _, _, rfl, by omega, by omega, HF.out.put (by omega) hSw HT6.out⟩, by simp only [intOf]; omega⟩
          · go_wp2_with fail
            exact ⟨⟨k - 1, _, _, _, _, _, rfl, by omega, by omega, HF.out⟩, by simp only [intOf]; omega⟩
        · refine AllReadyH.cons (o := ?_) ?_ (fun K hK => ?_) AllReadyH.nil
          rotate_left
          · (simp only [List.getElem?_toArray, List.getElem?_cons_succ, List.getElem?_cons_zero]; rfl)
          have HX0 : Hid (Bo.Box (wA.alloc (.cells #[.slice none 0 0, .slice none 0 0, .int .i64 0, .slice none 0 0, .int .i64 0] 32)) wA.heap.size) := Bo.Box.new wA
          have HE := Fk.hide (HA.out.below hSw ((Below.refl _ _).alloc (Nat.le_refl _) (.cells #[.slice none 0 0, .slice none 0 0, .int .i64 0, .slice none 0 0, .int .i64 0] 32)))
          have HN1 : Hid (q < wA.heap.size ∧ wA.heap.size ≠ S ∧ (∀ k, u.ownBlock = some k → k ≠ wA.heap.size) ∧ (∀ k, v.ownBlock = some k → k ≠ wA.heap.size)) := ⟨HA.out.q1, by have := HA.out.t.1.lt; omega, fun k hk => Nat.ne_of_lt (HA.out.two.b.lt k hk).2, fun k hk => Nat.ne_of_lt (HA.out.two.a.lt k hk).2⟩
          go_simp
          (try go_wp2_with fail)
          refine hK.out _ _ ?_ (fun hH2 => ?_)
          · (try dsimp only); exact HE.out.held
          clear hK K hH
          have hH := hH2
          clear hH2
          (try simp only [Act.put, List.setIfInBounds_toArray, List.set_cons_zero, List.set_cons_succ])
          obtain ⟨wC, hwC⟩ : ∃ W, W = wA.alloc (.cells #[.slice none 0 0, .slice none 0 0, .int .i64 0, .slice none 0 0, .int .i64 0] 32) := ⟨_, rfl⟩
          rw [← hwC] at HX0 HE hH ⊢
          clear hwC
          obtain ⟨b, hb⟩ : ∃ b, b = wA.heap.size := ⟨_, rfl⟩
          rw [← hb] at HX0 HN1 ⊢
          clear hb
          refine wpAnyH_ready (rs := [3]) (by kernel_rfl) (by simp) ?_
          refine AllReadyH.cons (o := ?_) ?_ (fun K hK => ?_) AllReadyH.nil
          rotate_left
          · (simp only [List.getElem?_toArray, List.getElem?_cons_succ, List.getElem?_cons_zero]; rfl)
          go_simp
          go_at_call 11
          obtain ⟨r, hr⟩ : ∃ r, r = Dm.oldDo c X Y n := ⟨_, rfl⟩
          have hcall := oldDo_spec u v n X Y c _ HE.out.two.b.view HE.out.two.a.view HE.out.two.b.shut HE.out.two.a.shut (by omega) (by omega)
          rw [← hr] at hcall
          have hmany : r.2.b.length + r.2.a.length ≤ X.length + Y.length + 1 := by rw [hr]; exact Dm.oldDo_many c X Y n
          clear hr
          refine hcall.mono ?_
          clear hcall
          rintro e wB ⟨⟨x, y, z, rfl, hT, hV⟩, bB⟩
          obtain ⟨xa, xn, xc, rfl⟩ := hT.b.slice'
          obtain ⟨ya, yn, yc, rfl⟩ := hT.a.slice'
          obtain ⟨za, zn, zc, rfl⟩ := hV.slice'
          clear hV
          have HB := Fk.hide (HE.out.below hSw bB)
          have HX := Fk.hide (HX0.out.next (Fk.grownBy_below (some S) bB) HN1.out.2.1)
          have HN : Hid (q < b ∧ b ≠ S ∧ (∀ k, u.ownBlock = some k → k ≠ b) ∧ (∀ k, v.ownBlock = some k → k ≠ b) ∧ (∀ k, Value.ownBlock (.slice xa xn xc) = some k → k ≠ b) ∧ (∀ k, Value.ownBlock (.slice ya yn yc) = some k → k ≠ b)) := ⟨HN1.out.1, HN1.out.2.1, HN1.out.2.2.1, HN1.out.2.2.2, fun k hk => Nat.ne_of_gt (Nat.lt_of_lt_of_le HX0.out.lt (hT.b.lt k hk).1), fun k hk => Nat.ne_of_gt (Nat.lt_of_lt_of_le HX0.out.lt (hT.a.lt k hk).1)⟩
          have HT : Hid (Ob.Two wB (q + 1) 40 (.slice xa xn xc) (.slice ya yn yc) r.2.b r.2.a) := ⟨hT.b.mono HE.out.q1, hT.a.mono HE.out.q1, hT.ne⟩
          have HC := HB
          clear bB hT
          (try go_wp2_with fail)
          refine hK.out _ _ ?_ (fun hH2 => ?_)
          · (try dsimp only); exact HB.out.held
          clear hK K hH
          have hH := hH2
          clear hH2
          (try simp only [Act.put, List.setIfInBounds_toArray, List.set_cons_zero, List.set_cons_succ])
          obtain ⟨Z, hZ⟩ : ∃ Z, Z = wB := ⟨_, rfl⟩
          rw [← hZ] at HX HC hH HT ⊢
          clear hZ
          have hqb := HN.out.1
          have hbS : b ≠ S := HN.out.2.1
          have HF := Fk.hide (HC.out.five (b := b) (by omega) hqb hbS HN.out.2.2.1 HN.out.2.2.2.1 (.slice xa xn xc) (.slice ya yn yc) (.int .i64 r.2.n) (.slice za zn zc) (.int .i64 r.1))
          have HG := Fk.hide (Bo.five_cells (.slice xa xn xc) (.slice ya yn yc) (.int .i64 r.2.n) (.slice za zn zc) (.int .i64 r.1) HX.out)
          have HT6 : Hid (Ob.Two (Bo.five Z b (.slice xa xn xc) (.slice ya yn yc) (.int .i64 r.2.n) (.slice za zn zc) (.int .i64 r.1)) (q + 1) 40 (.slice xa xn xc) (.slice ya yn yc) r.2.b r.2.a) := ⟨(HT.out.b.kept (Bo.five_grown Z b _ _ _ _ _) (fun k hk e => HN.out.2.2.2.2.1 k hk (Option.some.inj e))), (HT.out.a.kept (Bo.five_grown Z b _ _ _ _ _) (fun k hk e => HN.out.2.2.2.2.2 k hk (Option.some.inj e))), HT.out.ne⟩
          obtain ⟨d0, d1, d2, d3, d4, df, _⟩ := HX.out
          clear HT HC HX
          refine wpAnyH_ready (rs := [5]) (by kernel_rfl) (by simp) ?_
          refine AllReadyH.cons (o := ?_) ?_ (fun K hK => ?_) AllReadyH.nil
          rotate_left
          · (simp only [List.getElem?_toArray, List.getElem?_cons_succ, List.getElem?_cons_zero]; rfl)
          go_simp
          skip
          (try go_wp2_with fail)
          refine hK.out _ _ ?_ (fun hH2 => ?_)
          · (try dsimp only); exact HF.out.held
          clear hK K hH
          have hH := hH2
          clear hH2
          (try simp only [Act.put, List.setIfInBounds_toArray, List.set_cons_zero, List.set_cons_succ])
          refine wpAnyH_done (by kernel_rfl) ?_ _
          clear d0 d1 d2 d3 d4 df hH
          obtain ⟨W6, hW6⟩ : ∃ W, W = Bo.five Z b (.slice xa xn xc) (.slice ya yn yc) (.int .i64 r.2.n) (.slice za zn zc) (.int .i64 r.1) := ⟨_, rfl⟩
          rw [← hW6] at HF HG HT6
          unfold Bo.five at hW6
          rw [← hW6]
          clear hW6
          obtain ⟨g0, g1, g2, g3, g4, gf⟩ := HG.out
          clear HG
          have f0 := HF.out.c0
          have f1 := HF.out.c1
          have f2 := HF.out.c2
          have ff := HF.out.cf
          have hwk : IntKind.i64.wrap (k - 1) = k - 1 := by rw [IntKind.wrap_i64]; omega
          by_cases hz : r.1 = 0
          · go_wp2_with fail
            exact ⟨⟨k - 1, _, _, _, _, _, rfl, by omega, by omega, HF.out.put (by omega) hSw HT6.out⟩, by simp only [intOf]; omega⟩
          · go_wp2_with fail
            exact ⟨⟨k - 1, _, _, _, _, _, rfl, by omega, by omega, HF.out⟩, by simp only [intOf]; omega⟩
      · refine AllReadyH.cons (o := ?_) ?_ (fun K hK => ?_) AllReadyH.nil
        rotate_left
        · (simp only [List.getElem?_toArray, List.getElem?_cons_succ, List.getElem?_cons_zero]; rfl)
        have HX0 : Hid (Bo.Box (X0.alloc (.cells #[.slice none 0 0, .slice none 0 0, .int .i64 0, .slice none 0 0, .int .i64 0] 32)) X0.heap.size) := Bo.Box.new X0
        have HE := Fk.hide (HD.out.below hSw ((Below.refl _ _).alloc (Nat.le_refl _) (.cells #[.slice none 0 0, .slice none 0 0, .int .i64 0, .slice none 0 0, .int .i64 0] 32)))
        have HN1 : Hid (q < X0.heap.size ∧ X0.heap.size ≠ S ∧ (∀ k, u.ownBlock = some k → k ≠ X0.heap.size) ∧ (∀ k, v.ownBlock = some k → k ≠ X0.heap.size)) := ⟨HD.out.q1, by have := HD.out.t.1.lt; omega, fun k hk => Nat.ne_of_lt (HD.out.two.b.lt k hk).2, fun k hk => Nat.ne_of_lt (HD.out.two.a.lt k hk).2⟩
        go_simp
        (try go_wp2_with fail)
        refine hK.out _ _ ?_ (fun hH2 => ?_)
        · (try dsimp only); exact HE.out.held
        clear hK K hH
        have hH := hH2
        clear hH2
        (try simp only [Act.put, List.setIfInBounds_toArray, List.set_cons_zero, List.set_cons_succ])
        obtain ⟨wC, hwC⟩ : ∃ W, W = X0.alloc (.cells #[.slice none 0 0, .slice none 0 0, .int .i64 0, .slice none 0 0, .int .i64 0] 32) := ⟨_, rfl⟩
        rw [← hwC] at HX0 HE hH ⊢
        clear hwC
        obtain ⟨b, hb⟩ : ∃ b, b = X0.heap.size := ⟨_, rfl⟩
        rw [← hb] at HX0 HN1 ⊢
        clear hb
        refine wpAnyH_ready (rs := [2]) (by kernel_rfl) (by simp) ?_
        refine AllReadyH.cons (o := ?_) ?_ (fun K hK => ?_) AllReadyH.nil
        rotate_left
        · (simp only [List.getElem?_toArray, List.getElem?_cons_succ, List.getElem?_cons_zero]; rfl)
        go_simp
        go_at_call 33
        refine (drawOldCmd_any B S _ HE.out.t.1).mono ?_
        rintro e wA ⟨⟨c, rfl⟩, sA, gA⟩
        have HA := Fk.hide (HE.out.next hSw sA gA)
        have HX1 := Fk.hide (HX0.out.next gA HN1.out.2.1)
        clear sA gA
        (try go_wp2_with fail)
        refine hK.out _ _ ?_ (fun hH2 => ?_)
        · (try dsimp only); exact HA.out.held
        clear hK K hH
        have hH := hH2
        clear hH2
        (try simp only [Act.put, List.setIfInBounds_toArray, List.set_cons_zero, List.set_cons_succ])
        refine wpAnyH_ready (rs := [3]) (by kernel_rfl) (by simp) ?_
        refine AllReadyH.cons (o := ?_) ?_ (fun K hK => ?_) AllReadyH.nil
        rotate_left
        · (simp only [List.getElem?_toArray, List.getElem?_cons_succ, List.getElem?_cons_zero]; rfl)
        go_simp
        go_at_call 11
        obtain ⟨r, hr⟩ : ∃ r, r = Dm.oldDo c X Y n := ⟨_, rfl⟩
        have hcall := oldDo_spec u v n X Y c _ HA.out.two.b.view HA.out.two.a.view HA.out.two.b.shut HA.out.two.a.shut (by omega) (by omega)
        rw [← hr] at hcall
        have hmany : r.2.b.length + r.2.a.length ≤ X.length + Y.length + 1 := by rw [hr]; exact Dm.oldDo_many c X Y n
        clear hr
        refine hcall.mono ?_
        clear hcall
        rintro e wB ⟨⟨x, y, z, rfl, hT, hV⟩, bB⟩
        obtain ⟨xa, xn, xc, rfl⟩ := hT.b.slice'
        obtain ⟨ya, yn, yc, rfl⟩ := hT.a.slice'
        obtain ⟨za, zn, zc, rfl⟩ := hV.slice'
        clear hV
        have HB := Fk.hide (HA.out.below hSw bB)
        have HX := Fk.hide (HX1.out.next (Fk.grownBy_below (some S) bB) HN1.out.2.1)
        have HN : Hid (q < b ∧ b ≠ S ∧ (∀ k, u.ownBlock = some k → k ≠ b) ∧ (∀ k, v.ownBlock = some k → k ≠ b) ∧ (∀ k, Value.ownBlock (.slice xa xn xc) = some k → k ≠ b) ∧ (∀ k, Value.ownBlock (.slice ya yn yc) = some k → k ≠ b)) := ⟨HN1.out.1, HN1.out.2.1, HN1.out.2.2.1, HN1.out.2.2.2, fun k hk => Nat.ne_of_gt (Nat.lt_of_lt_of_le HX1.out.lt (hT.b.lt k hk).1), fun k hk => Nat.ne_of_gt (Nat.lt_of_lt_of_le HX1.out.lt (hT.a.lt k hk).1)⟩
        have HT : Hid (Ob.Two wB (q + 1) 40 (.slice xa xn xc) (.slice ya yn yc) r.2.b r.2.a) := ⟨hT.b.mono HA.out.q1, hT.a.mono HA.out.q1, hT.ne⟩
        have HC := HB
        clear bB hT
        (try go_wp2_with fail)
        refine hK.out _ _ ?_ (fun hH2 => ?_)
        · (try dsimp only); exact HB.out.held
        clear hK K hH
        have hH := hH2
        clear hH2
        (try simp only [Act.put, List.setIfInBounds_toArray, List.set_cons_zero, List.set_cons_succ])
        obtain ⟨Z, hZ⟩ : ∃ Z, Z = wB := ⟨_, rfl⟩
        rw [← hZ] at HX HC hH HT ⊢
        clear hZ
        have hqb := HN.out.1
        have hbS : b ≠ S := HN.out.2.1
        have HF := Fk.hide (HC.out.five (b := b) (by omega) hqb hbS HN.out.2.2.1 HN.out.2.2.2.1 (.slice xa xn xc) (.slice ya yn yc) (.int .i64 r.2.n) (.slice za zn zc) (.int .i64 r.1))
        have HG := Fk.hide (Bo.five_cells (.slice xa xn xc) (.slice ya yn yc) (.int .i64 r.2.n) (.slice za zn zc) (.int .i64 r.1) HX.out)
        have HT6 : Hid (Ob.Two (Bo.five Z b (.slice xa xn xc) (.slice ya yn yc) (.int .i64 r.2.n) (.slice za zn zc) (.int .i64 r.1)) (q + 1) 40 (.slice xa xn xc) (.slice ya yn yc) r.2.b r.2.a) := ⟨(HT.out.b.kept (Bo.five_grown Z b _ _ _ _ _) (fun k hk e => HN.out.2.2.2.2.1 k hk (Option.some.inj e))), (HT.out.a.kept (Bo.five_grown Z b _ _ _ _ _) (fun k hk e => HN.out.2.2.2.2.2 k hk (Option.some.inj e))), HT.out.ne⟩
        obtain ⟨d0, d1, d2, d3, d4, df, _⟩ := HX.out
        clear HT HC HX
        refine wpAnyH_ready (rs := [5]) (by kernel_rfl) (by simp) ?_
        refine AllReadyH.cons (o := ?_) ?_ (fun K hK => ?_) AllReadyH.nil
        rotate_left
        · (simp only [List.getElem?_toArray, List.getElem?_cons_succ, List.getElem?_cons_zero]; rfl)
        go_simp
        skip
        (try go_wp2_with fail)
        refine hK.out _ _ ?_ (fun hH2 => ?_)
        · (try dsimp only); exact HF.out.held
        clear hK K hH
        have hH := hH2
        clear hH2
        (try simp only [Act.put, List.setIfInBounds_toArray, List.set_cons_zero, List.set_cons_succ])
        refine wpAnyH_done (by kernel_rfl) ?_ _
        clear d0 d1 d2 d3 d4 df hH
        obtain ⟨W6, hW6⟩ : ∃ W, W = Bo.five Z b (.slice xa xn xc) (.slice ya yn yc) (.int .i64 r.2.n) (.slice za zn zc) (.int .i64 r.1) := ⟨_, rfl⟩
        rw [← hW6] at HF HG HT6
        unfold Bo.five at hW6
        rw [← hW6]
        clear hW6
        obtain ⟨g0, g1, g2, g3, g4, gf⟩ := HG.out
        clear HG
        have f0 := HF.out.c0
        have f1 := HF.out.c1
        have f2 := HF.out.c2
        have ff := HF.out.cf
        have hwk : IntKind.i64.wrap (k - 1) = k - 1 := by rw [IntKind.wrap_i64]; omega
        by_cases hz : r.1 = 0
        · go_wp2_with fail
          exact ⟨⟨k - 1, _, _, _, _, _, rfl, by omega, by omega, HF.out.put (by omega) hSw HT6.out⟩, by simp only [intOf]; omega⟩
        · go_wp2_with fail
          exact ⟨⟨k - 1, _, _, _, _, _, rfl, by omega, by omega, HF.out⟩, by simp only [intOf]; omega⟩
    · go_wp2_with fail
      refine (drawOne_any B S 20 wr HO.out.t.1 (by omega)).mono ?_
      rintro e w4 ⟨⟨rb, rfl⟩, s4, g4⟩
      have H4 := Fk.hide (HO.out.next hSw s4 g4)
      clear s4 g4 HO
      obtain ⟨ua, un, uc, rfl⟩ := H4.out.two.b.slice'
      obtain ⟨va, vn, vc, rfl⟩ := H4.out.two.a.slice'
      cases rb with
      | false =>
        have oc0 := H4.out.c0
        have oc1 := H4.out.c1
        have oc2 := H4.out.c2
        have ocf := H4.out.cf
        have oz0 := H4.out.z0
        have oz1 := H4.out.z1
        have oz2 := H4.out.z2
        have ozf := H4.out.zf
        have hqq : q ≠ w.heap.size := by have := H4.out.q0; omega
        have hqr : w.heap.size ≠ q := by omega
        go_wp2_with fail
        refine bodyPost_ret (v := .agg #[.slice ua un uc, .slice va vn vc, .int .i64 n]) (by simp [results, Try.results30, go_sem, oz0, oz1, oz2] <;> rfl) rfl ⟨⟨_, _, _, X, Y, rfl, (H4.out.fin (by omega) hSw _ _ _).1, by omega⟩, (H4.out.fin (by omega) hSw _ _ _).2⟩
      | true =>
        go_wp2_with fail
        refine (drawN_any B S 5 w4 H4.out.t.1 (by omega)).mono ?_
        rintro e w5 ⟨⟨rg, rfl, rg0, rg1, _⟩, s5, g5⟩
        have rgl := rg1 (by omega)
        have H5 := Fk.hide (H4.out.next hSw s5 g5)
        clear s5 g5 rg1 H4
        by_cases c4 : rg = 0 ∨ rg = 1 ∨ rg = 2 ∨ rg = 3
        · rcases c4 with rfl | rfl | rfl | rfl
          · skip
            obtain ⟨y1, hy1⟩ : ∃ y, y = IntKind.i64.wrap (n - 1) := ⟨_, rfl⟩
            have hwr1 : IntKind.i64.wrap (n - 1) = y1 := hy1.symm
            clear hy1
            go_wp2_with fail
            refine wp_region_any (by kernel_rfl) ?_
            obtain ⟨J, hJ⟩ : ∃ J : Array Bool → Act → World → Prop, J = fun l a Wd => ∃ x50 x51 x52 x53 x54 x55 x56 x57 x58 : Value, a = { tmps := (((.pointer (some ⟨S, 0, none⟩)) :: (undef) :: (.pointer (some ⟨w.heap.size, 0, none⟩)) :: (.pointer (some ⟨q, 0, none⟩)) :: (.int .i64 k) :: (u5) :: (undef) :: (.agg #[.slice none 0 0, .slice none 0 0,   .int .i64 1]) :: (.pointer (some ⟨S, 0, none⟩)) :: (.pointer (some ⟨S, 0, none⟩)) :: (.pointer (some ⟨S, 0, none⟩)) :: (.pointer (some ⟨S, 3, none⟩)) :: (.int .i64 size) :: (.int .i64 (10 + size)) :: (.int .i64 k0) :: (.int .i64 k) :: (.bool false) :: (u17) :: (u18) :: (u19) :: (u20) :: (u21) :: (u22) :: (u23) :: (u24) :: (u25) :: (u26) :: (u27) :: (.pointer (some ⟨S, 0, none⟩)) :: (.bool true) :: (.pointer (some ⟨S, 0, none⟩)) :: (.int .i64 0) :: (undef) :: (undef) :: (undef) :: (undef) :: (undef) :: (undef) :: (undef) :: (undef) :: (undef) :: (undef) :: (undef) :: (undef) :: (undef) :: (undef) :: (undef) :: (undef) :: (.bool true) :: (.bool true) :: (x50) :: (x51) :: (x52) :: (x53) :: (x54) :: (x55) :: (x56) :: (x57) :: (x58) :: (undef) :: (undef) :: (undef) :: (undef) :: (undef) :: (undef) :: (undef) :: (undef) :: (undef) :: (undef) :: (undef) :: (undef) :: (undef) :: (undef) :: (undef) :: (undef) :: (undef) :: (undef) :: (undef) :: (undef) :: (undef) :: (undef) :: (undef) :: (undef) :: (undef) :: (undef) :: (undef) :: (undef) :: (undef) :: (undef) :: (undef) :: (undef) :: (undef) :: (undef) :: (undef) :: (undef) :: (undef) :: []) : List Value).toArray, defers := [] } ∧ Bo.R16 B S q w (.slice ua un uc) (.slice va vn vc) n X Y y1 l Wd x50 x51 x52 x53 x54 x55 x56 x57 x58 := ⟨_, rfl⟩
            have HJ := Fk.hide hJ
            clear hJ
            refine Ri.any_inv J ?step ?done _ _ _ _ (by decide) ?init
            case init =>
              rw [HJ.out]
              refine ⟨_, _, _, _, _, _, _, _, _, rfl, ?_⟩
              exact { sz := rfl, w0 := fun _ => (H5.out.below hSw (Below.drew (Below.refl _ _))).pre (by omega) hSw, wf := fun e => absurd e (by decide), d0 := fun e => absurd e (by decide), d1 := fun e => absurd e (by decide), d2 := fun e => absurd e (by decide), d3 := fun _ e => absurd e (by decide), d4 := fun e => absurd e (by decide), d5 := fun e => absurd e (by decide), d6 := fun _ e => absurd e (by decide), d7 := fun e => absurd e (by decide), d8 := fun e => absurd e (by decide), e1 := fun e => absurd e (by decide), e2 := fun e => absurd e (by decide), e3 := fun e => absurd e (by decide), e5 := fun e => absurd e (by decide), e6 := fun e => absurd e (by decide), e7 := fun e => absurd e (by decide), e9 := fun e => absurd e (by decide) }
            case done =>
              intro l a Wd hr hJl
              rw [HJ.out] at hJl
              obtain ⟨x50, x51, x52, x53, x54, x55, x56, x57, x58, rfl, h⟩ := hJl
              have hall := Ri.all_done' hr (by rw [h.sz]; decide) (by decide)
              have hfin := h.wf (hall 9 (by decide))
              clear h hall hr HJ
              obtain ⟨m, hp, ht⟩ := hfin
              have H6 := Fk.hide (Bo.Pre.hold ⟨hp, ht⟩)
              clear hp ht
              have oc0 := H6.out.c0
              have oc1 := H6.out.c1
              have oc2 := H6.out.c2
              have ocf := H6.out.cf
              have oz0 := H6.out.z0
              have oz1 := H6.out.z1
              have oz2 := H6.out.z2
              have ozf := H6.out.zf
              have hqq : q ≠ w.heap.size := by have := H6.out.q0; omega
              have hqr : w.heap.size ≠ q := by omega
              go_wp2_with fail
              refine bodyPost_ret (v := .agg #[.slice ua un uc, .slice va vn vc, .int .i64 m]) (by simp [results, Try.results30, go_sem, oz0, oz1, oz2] <;> rfl) rfl ⟨⟨_, _, _, X, Y, rfl, (H6.out.fin (by omega) hSw _ _ _).1, by omega⟩, (H6.out.fin (by omega) hSw _ _ _).2⟩
            case step =>
              intro i l a Wd hi hJl
              rw [HJ.out] at hJl
              obtain ⟨x50, x51, x52, x53, x54, x55, x56, x57, x58, rfl, h⟩ := hJl
              have hib : i < 10 := (Ri.ready_mem hi).1
              have hnot := Ri.not_yet (Ri.ready_mem hi).2.1
              rcases (by omega : i = 0 ∨ i = 1 ∨ i = 2 ∨ i = 3 ∨ i = 4 ∨ i = 5 ∨ i = 6 ∨ i = 7 ∨ i = 8 ∨ i = 9) with rfl | rfl | rfl | rfl | rfl | rfl | rfl | rfl | rfl | rfl
              · -- operation 0
                refine Ri.op (by rfl) rfl ?_
                go_simp
                rw [HJ.out]
                exact ⟨_, _, _, _, _, _, _, _, _, rfl, { sz := by simp [h.sz], w0 := fun e => h.w0 (Ri.wasf e), wf := fun e => h.wf (Ri.was e (by decide)), d0 := fun _ => rfl, d1 := fun e => h.d1 (Ri.was e (by decide)), d2 := fun e => h.d2 (Ri.was e (by decide)), d3 := fun n e => h.d3 (Ri.wasf n) (Ri.was e (by decide)), d4 := fun e => h.d4 (Ri.was e (by decide)), d5 := fun e => h.d5 (Ri.was e (by decide)), d6 := fun n e => h.d6 (Ri.wasf n) (Ri.was e (by decide)), d7 := fun e => h.d7 (Ri.was e (by decide)), d8 := fun e => h.d8 (Ri.was e (by decide)), e1 := fun e => Ri.keep (h.e1 (Ri.was e (by decide))), e2 := fun e => Ri.keep (h.e2 (Ri.was e (by decide))), e3 := fun e => Ri.keep (h.e3 (Ri.was e (by decide))), e5 := fun e => Ri.keep (h.e5 (Ri.was e (by decide))), e6 := fun e => ⟨Ri.keep (h.e6 (Ri.was e (by decide))).1, Ri.keep (h.e6 (Ri.was e (by decide))).2⟩, e7 := fun e => Ri.keep (h.e7 (Ri.was e (by decide))), e9 := fun e => ⟨Ri.keep (h.e9 (Ri.was e (by decide))).1, Ri.keep (h.e9 (Ri.was e (by decide))).2⟩ }⟩
              · -- operation 1
                have n9 : l.getD 9 false = false := by
                  cases hx : l.getD 9 false with
                  | false => rfl
                  | true =>
                    have a9 := hx
                    have a7 := (h.e9 a9).2
                    have a6 := (h.e7 a7)
                    have a3 := (h.e6 a6).1
                    have a2 := (h.e3 a3)
                    have a1 := (h.e2 a2)
                    rw [hnot] at a1
                    cases a1
                have kc2 := (h.w0 n9).1.c2
                have v0 := h.d0 (Ri.dep hi (by rfl) (by rfl))
                subst v0
                refine Ri.op (by rfl) rfl ?_
                go_simp
                rw [HJ.out]
                exact ⟨_, _, _, _, _, _, _, _, _, rfl, { sz := by simp [h.sz], w0 := fun e => h.w0 (Ri.wasf e), wf := fun e => h.wf (Ri.was e (by decide)), d0 := fun e => h.d0 (Ri.was e (by decide)), d1 := fun _ => rfl, d2 := fun e => h.d2 (Ri.was e (by decide)), d3 := fun n e => h.d3 (Ri.wasf n) (Ri.was e (by decide)), d4 := fun e => h.d4 (Ri.was e (by decide)), d5 := fun e => h.d5 (Ri.was e (by decide)), d6 := fun n e => h.d6 (Ri.wasf n) (Ri.was e (by decide)), d7 := fun e => h.d7 (Ri.was e (by decide)), d8 := fun e => h.d8 (Ri.was e (by decide)), e1 := fun _ => Ri.keep (Ri.dep hi (by rfl) (by rfl)), e2 := fun e => Ri.keep (h.e2 (Ri.was e (by decide))), e3 := fun e => Ri.keep (h.e3 (Ri.was e (by decide))), e5 := fun e => Ri.keep (h.e5 (Ri.was e (by decide))), e6 := fun e => ⟨Ri.keep (h.e6 (Ri.was e (by decide))).1, Ri.keep (h.e6 (Ri.was e (by decide))).2⟩, e7 := fun e => Ri.keep (h.e7 (Ri.was e (by decide))), e9 := fun e => ⟨Ri.keep (h.e9 (Ri.was e (by decide))).1, Ri.keep (h.e9 (Ri.was e (by decide))).2⟩ }⟩
              · -- operation 2
                have v1 := h.d1 (Ri.dep hi (by rfl) (by rfl))
                subst v1
                refine Ri.op (by rfl) rfl ?_
                go_simp
                rw [HJ.out]
                exact ⟨_, _, _, _, _, _, _, _, _, rfl, { sz := by simp [h.sz], w0 := fun e => h.w0 (Ri.wasf e), wf := fun e => h.wf (Ri.was e (by decide)), d0 := fun e => h.d0 (Ri.was e (by decide)), d1 := fun e => h.d1 (Ri.was e (by decide)), d2 := fun _ => rfl, d3 := fun n e => h.d3 (Ri.wasf n) (Ri.was e (by decide)), d4 := fun e => h.d4 (Ri.was e (by decide)), d5 := fun e => h.d5 (Ri.was e (by decide)), d6 := fun n e => h.d6 (Ri.wasf n) (Ri.was e (by decide)), d7 := fun e => h.d7 (Ri.was e (by decide)), d8 := fun e => h.d8 (Ri.was e (by decide)), e1 := fun e => Ri.keep (h.e1 (Ri.was e (by decide))), e2 := fun _ => Ri.keep (Ri.dep hi (by rfl) (by rfl)), e3 := fun e => Ri.keep (h.e3 (Ri.was e (by decide))), e5 := fun e => Ri.keep (h.e5 (Ri.was e (by decide))), e6 := fun e => ⟨Ri.keep (h.e6 (Ri.was e (by decide))).1, Ri.keep (h.e6 (Ri.was e (by decide))).2⟩, e7 := fun e => Ri.keep (h.e7 (Ri.was e (by decide))), e9 := fun e => ⟨Ri.keep (h.e9 (Ri.was e (by decide))).1, Ri.keep (h.e9 (Ri.was e (by decide))).2⟩ }⟩
              · -- operation 3
                have n9 : l.getD 9 false = false := by
                  cases hx : l.getD 9 false with
                  | false => rfl
                  | true =>
                    have a9 := hx
                    have a7 := (h.e9 a9).2
                    have a6 := (h.e7 a7)
                    have a3 := (h.e6 a6).1
                    rw [hnot] at a3
                    cases a3
                have v2 := h.d2 (Ri.dep hi (by rfl) (by rfl))
                subst v2
                refine Ri.op (by rfl) rfl ?_
                go_simp
                have hbl : Below Wd.heap.size Wd (Wd.alloc (.cells #[.int .i64 0, .int .i64 y1, .int .i64 1000000, .int .i64 1000001] 2)) := (Below.refl _ _).alloc (Nat.le_refl _) _
                have hg := World.grownBy_alloc Wd (.cells #[.int .i64 0, .int .i64 y1, .int .i64 1000000, .int .i64 1000001] 2) none
                have hW := h.w0 n9
                have ht' := hW.1.t.alloc (.cells #[.int .i64 0, .int .i64 y1, .int .i64 1000000, .int .i64 1000001] 2)
                have hlit : Dk.Lit S [0, y1, 1000000, 1000001] (Wd.alloc (.cells #[.int .i64 0, .int .i64 y1, .int .i64 1000000, .int .i64 1000001] 2)) (.slice (some ⟨Wd.heap.size, 0, none⟩) 4 4) := by
                  refine ⟨Wd.heap.size, rfl, by simp, by have := hW.1.t.1.lt.2; omega, fun i hi => ?_⟩
                  rw [Fk.cellTop _ _ _ _ _ rfl]
                  match i, hi with
                  | 0, _ => rfl
                  | 1, _ => rfl
                  | 2, _ => rfl
                  | 3, _ => rfl
                rw [HJ.out]
                exact ⟨_, _, _, _, _, _, _, _, _, rfl, { sz := by simp [h.sz], w0 := fun _ => Bo.both_grown hW hg (.inl rfl) ht', wf := fun e => absurd (Ri.was e (by decide)) (by rw [n9]; decide), d0 := fun e => h.d0 (Ri.was e (by decide)), d1 := fun e => h.d1 (Ri.was e (by decide)), d2 := fun e => h.d2 (Ri.was e (by decide)), d3 := fun _ _ => hlit, d4 := fun e => h.d4 (Ri.was e (by decide)), d5 := fun e => h.d5 (Ri.was e (by decide)), d6 := fun n e => (h.d6 (Ri.wasf n) (Ri.was e (by decide))).grown hg (.inl rfl), d7 := fun e => h.d7 (Ri.was e (by decide)), d8 := fun e => h.d8 (Ri.was e (by decide)), e1 := fun e => Ri.keep (h.e1 (Ri.was e (by decide))), e2 := fun e => Ri.keep (h.e2 (Ri.was e (by decide))), e3 := fun _ => Ri.keep (Ri.dep hi (by rfl) (by rfl)), e5 := fun e => Ri.keep (h.e5 (Ri.was e (by decide))), e6 := fun e => ⟨Ri.keep (h.e6 (Ri.was e (by decide))).1, Ri.keep (h.e6 (Ri.was e (by decide))).2⟩, e7 := fun e => Ri.keep (h.e7 (Ri.was e (by decide))), e9 := fun e => ⟨Ri.keep (h.e9 (Ri.was e (by decide))).1, Ri.keep (h.e9 (Ri.was e (by decide))).2⟩ }⟩
              · -- operation 4
                refine Ri.op (by rfl) rfl ?_
                go_simp
                rw [HJ.out]
                exact ⟨_, _, _, _, _, _, _, _, _, rfl, { sz := by simp [h.sz], w0 := fun e => h.w0 (Ri.wasf e), wf := fun e => h.wf (Ri.was e (by decide)), d0 := fun e => h.d0 (Ri.was e (by decide)), d1 := fun e => h.d1 (Ri.was e (by decide)), d2 := fun e => h.d2 (Ri.was e (by decide)), d3 := fun n e => h.d3 (Ri.wasf n) (Ri.was e (by decide)), d4 := fun _ => rfl, d5 := fun e => h.d5 (Ri.was e (by decide)), d6 := fun n e => h.d6 (Ri.wasf n) (Ri.was e (by decide)), d7 := fun e => h.d7 (Ri.was e (by decide)), d8 := fun e => h.d8 (Ri.was e (by decide)), e1 := fun e => Ri.keep (h.e1 (Ri.was e (by decide))), e2 := fun e => Ri.keep (h.e2 (Ri.was e (by decide))), e3 := fun e => Ri.keep (h.e3 (Ri.was e (by decide))), e5 := fun e => Ri.keep (h.e5 (Ri.was e (by decide))), e6 := fun e => ⟨Ri.keep (h.e6 (Ri.was e (by decide))).1, Ri.keep (h.e6 (Ri.was e (by decide))).2⟩, e7 := fun e => Ri.keep (h.e7 (Ri.was e (by decide))), e9 := fun e => ⟨Ri.keep (h.e9 (Ri.was e (by decide))).1, Ri.keep (h.e9 (Ri.was e (by decide))).2⟩ }⟩
              · -- operation 5
                have n9 : l.getD 9 false = false := by
                  cases hx : l.getD 9 false with
                  | false => rfl
                  | true =>
                    have a9 := hx
                    have a7 := (h.e9 a9).2
                    have a6 := (h.e7 a7)
                    have a5 := (h.e6 a6).2
                    rw [hnot] at a5
                    cases a5
                have e1 := h.d4 (Ri.dep hi (by rfl) (by rfl))
                subst e1
                have hW := h.w0 n9
                refine Ri.op (by rfl) rfl ?_
                go_simp
                refine (drawN_any B S 4 Wd hW.1.t.1 (by omega)).mono ?_
                rintro e Y ⟨⟨r, rfl, r0, r1, _⟩, s1, hg⟩
                have r2 := r1 (by omega)
                have ht' := hW.1.t.next s1 hg
                have er : ((r.toNat : Nat) : Int) = r := by omega
                have hidx : Dk.Idx 4 (.int .i64 r) := ⟨r.toNat, by omega, by rw [er]⟩
                go_simp
                rw [HJ.out]
                exact ⟨_, _, _, _, _, _, _, _, _, rfl, { sz := by simp [h.sz], w0 := fun _ => Bo.both_grown hW hg (.inr rfl) ht', wf := fun e => absurd (Ri.was e (by decide)) (by rw [n9]; decide), d0 := fun e => h.d0 (Ri.was e (by decide)), d1 := fun e => h.d1 (Ri.was e (by decide)), d2 := fun e => h.d2 (Ri.was e (by decide)), d3 := fun n e => (h.d3 (Ri.wasf n) (Ri.was e (by decide))).grown hg (.inr rfl), d4 := fun e => h.d4 (Ri.was e (by decide)), d5 := fun _ => hidx, d6 := fun n e => (h.d6 (Ri.wasf n) (Ri.was e (by decide))).grown hg (.inr rfl), d7 := fun e => h.d7 (Ri.was e (by decide)), d8 := fun e => h.d8 (Ri.was e (by decide)), e1 := fun e => Ri.keep (h.e1 (Ri.was e (by decide))), e2 := fun e => Ri.keep (h.e2 (Ri.was e (by decide))), e3 := fun e => Ri.keep (h.e3 (Ri.was e (by decide))), e5 := fun _ => Ri.keep (Ri.dep hi (by rfl) (by rfl)), e6 := fun e => ⟨Ri.keep (h.e6 (Ri.was e (by decide))).1, Ri.keep (h.e6 (Ri.was e (by decide))).2⟩, e7 := fun e => Ri.keep (h.e7 (Ri.was e (by decide))), e9 := fun e => ⟨Ri.keep (h.e9 (Ri.was e (by decide))).1, Ri.keep (h.e9 (Ri.was e (by decide))).2⟩ }⟩
              · -- operation 6
                have n9 : l.getD 9 false = false := by
                  cases hx : l.getD 9 false with
                  | false => rfl
                  | true =>
                    have a9 := hx
                    have a7 := (h.e9 a9).2
                    have a6 := (h.e7 a7)
                    rw [hnot] at a6
                    cases a6
                obtain ⟨g, e1, g1, g2, g3⟩ := h.d3 n9 (Ri.dep hi (by rfl) (by rfl))
                obtain ⟨j, j1, e2⟩ := h.d5 (Ri.dep hi (by rfl) (by rfl))
                subst e1 e2
                have j2 : j < ([0, y1, 1000000, 1000001] : List Int).length := j1
                have hc := g3 j j2
                have j3 : (j : Int) < 4 := by omega
                refine Ri.op (by rfl) rfl ?_
                go_simp
                rw [HJ.out]
                exact ⟨_, _, _, _, _, _, _, _, _, rfl, { sz := by simp [h.sz], w0 := fun e => h.w0 (Ri.wasf e), wf := fun e => h.wf (Ri.was e (by decide)), d0 := fun e => h.d0 (Ri.was e (by decide)), d1 := fun e => h.d1 (Ri.was e (by decide)), d2 := fun e => h.d2 (Ri.was e (by decide)), d3 := fun n e => h.d3 (Ri.wasf n) (Ri.was e (by decide)), d4 := fun e => h.d4 (Ri.was e (by decide)), d5 := fun e => h.d5 (Ri.was e (by decide)), d6 := fun _ _ => ⟨g, j, rfl, g1, g2, j2, hc⟩, d7 := fun e => h.d7 (Ri.was e (by decide)), d8 := fun e => h.d8 (Ri.was e (by decide)), e1 := fun e => Ri.keep (h.e1 (Ri.was e (by decide))), e2 := fun e => Ri.keep (h.e2 (Ri.was e (by decide))), e3 := fun e => Ri.keep (h.e3 (Ri.was e (by decide))), e5 := fun e => Ri.keep (h.e5 (Ri.was e (by decide))), e6 := fun _ => ⟨Ri.keep (Ri.dep hi (by rfl) (by rfl)), Ri.keep (Ri.dep hi (by rfl) (by rfl))⟩, e7 := fun e => Ri.keep (h.e7 (Ri.was e (by decide))), e9 := fun e => ⟨Ri.keep (h.e9 (Ri.was e (by decide))).1, Ri.keep (h.e9 (Ri.was e (by decide))).2⟩ }⟩
              · -- operation 7
                have n9 : l.getD 9 false = false := by
                  cases hx : l.getD 9 false with
                  | false => rfl
                  | true =>
                    have a9 := hx
                    have a7 := (h.e9 a9).2
                    rw [hnot] at a7
                    cases a7
                obtain ⟨g, j, e1, g1, g2, g3, hc⟩ := h.d6 n9 (Ri.dep hi (by rfl) (by rfl))
                subst e1
                obtain ⟨y, hy⟩ : ∃ y, y = List.getD ([0, y1, 1000000, 1000001] : List Int) j 0 := ⟨_, rfl⟩
                rw [← hy] at hc
                have HY := Fk.hide hy
                clear hy
                refine Ri.op (by rfl) rfl ?_
                go_simp
                rw [HJ.out]
                exact ⟨_, _, _, _, _, _, _, _, _, rfl, { sz := by simp [h.sz], w0 := fun e => h.w0 (Ri.wasf e), wf := fun e => h.wf (Ri.was e (by decide)), d0 := fun e => h.d0 (Ri.was e (by decide)), d1 := fun e => h.d1 (Ri.was e (by decide)), d2 := fun e => h.d2 (Ri.was e (by decide)), d3 := fun n e => h.d3 (Ri.wasf n) (Ri.was e (by decide)), d4 := fun e => h.d4 (Ri.was e (by decide)), d5 := fun e => h.d5 (Ri.was e (by decide)), d6 := fun n e => h.d6 (Ri.wasf n) (Ri.was e (by decide)), d7 := fun _ => ⟨j, g3, by rw [HY.out]⟩, d8 := fun e => h.d8 (Ri.was e (by decide)), e1 := fun e => Ri.keep (h.e1 (Ri.was e (by decide))), e2 := fun e => Ri.keep (h.e2 (Ri.was e (by decide))), e3 := fun e => Ri.keep (h.e3 (Ri.was e (by decide))), e5 := fun e => Ri.keep (h.e5 (Ri.was e (by decide))), e6 := fun e => ⟨Ri.keep (h.e6 (Ri.was e (by decide))).1, Ri.keep (h.e6 (Ri.was e (by decide))).2⟩, e7 := fun _ => Ri.keep (Ri.dep hi (by rfl) (by rfl)), e9 := fun e => ⟨Ri.keep (h.e9 (Ri.was e (by decide))).1, Ri.keep (h.e9 (Ri.was e (by decide))).2⟩ }⟩
              · -- operation 8
                refine Ri.op (by rfl) rfl ?_
                go_simp
                rw [HJ.out]
                exact ⟨_, _, _, _, _, _, _, _, _, rfl, { sz := by simp [h.sz], w0 := fun e => h.w0 (Ri.wasf e), wf := fun e => h.wf (Ri.was e (by decide)), d0 := fun e => h.d0 (Ri.was e (by decide)), d1 := fun e => h.d1 (Ri.was e (by decide)), d2 := fun e => h.d2 (Ri.was e (by decide)), d3 := fun n e => h.d3 (Ri.wasf n) (Ri.was e (by decide)), d4 := fun e => h.d4 (Ri.was e (by decide)), d5 := fun e => h.d5 (Ri.was e (by decide)), d6 := fun n e => h.d6 (Ri.wasf n) (Ri.was e (by decide)), d7 := fun e => h.d7 (Ri.was e (by decide)), d8 := fun _ => rfl, e1 := fun e => Ri.keep (h.e1 (Ri.was e (by decide))), e2 := fun e => Ri.keep (h.e2 (Ri.was e (by decide))), e3 := fun e => Ri.keep (h.e3 (Ri.was e (by decide))), e5 := fun e => Ri.keep (h.e5 (Ri.was e (by decide))), e6 := fun e => ⟨Ri.keep (h.e6 (Ri.was e (by decide))).1, Ri.keep (h.e6 (Ri.was e (by decide))).2⟩, e7 := fun e => Ri.keep (h.e7 (Ri.was e (by decide))), e9 := fun e => ⟨Ri.keep (h.e9 (Ri.was e (by decide))).1, Ri.keep (h.e9 (Ri.was e (by decide))).2⟩ }⟩
              · -- operation 9
                have v8 := h.d8 (Ri.dep hi (by rfl) (by rfl))
                obtain ⟨j, j1, e7⟩ := h.d7 (Ri.dep hi (by rfl) (by rfl))
                obtain ⟨y, hy⟩ : ∃ y, y = List.getD ([0, y1, 1000000, 1000001] : List Int) j 0 := ⟨_, rfl⟩
                rw [← hy] at e7
                clear hy
                subst v8 e7
                have hW := h.w0 hnot
                have k2 := hW.1.c2
                have kf := hW.1.cf
                refine Ri.op (by rfl) rfl ?_
                go_simp
                rw [HJ.out]
                exact ⟨_, _, _, _, _, _, _, _, _, rfl, { sz := by simp [h.sz], w0 := fun e => absurd e (by simp [Array.getD, h.sz]), wf := fun _ => ⟨y, hW.1.set2 y, hW.2.set 2 _⟩, d0 := fun e => h.d0 (Ri.was e (by decide)), d1 := fun e => h.d1 (Ri.was e (by decide)), d2 := fun e => h.d2 (Ri.was e (by decide)), d3 := fun n _ => absurd n (by simp [Array.getD, h.sz]), d4 := fun e => h.d4 (Ri.was e (by decide)), d5 := fun e => h.d5 (Ri.was e (by decide)), d6 := fun n _ => absurd n (by simp [Array.getD, h.sz]), d7 := fun e => h.d7 (Ri.was e (by decide)), d8 := fun e => h.d8 (Ri.was e (by decide)), e1 := fun e => Ri.keep (h.e1 (Ri.was e (by decide))), e2 := fun e => Ri.keep (h.e2 (Ri.was e (by decide))), e3 := fun e => Ri.keep (h.e3 (Ri.was e (by decide))), e5 := fun e => Ri.keep (h.e5 (Ri.was e (by decide))), e6 := fun e => ⟨Ri.keep (h.e6 (Ri.was e (by decide))).1, Ri.keep (h.e6 (Ri.was e (by decide))).2⟩, e7 := fun e => Ri.keep (h.e7 (Ri.was e (by decide))), e9 := fun _ => ⟨Ri.keep (Ri.dep hi (by rfl) (by rfl)), Ri.keep (Ri.dep hi (by rfl) (by rfl))⟩ }⟩
          · skip
            go_wp2_with fail
            refine wp_region_any (by kernel_rfl) ?_
            obtain ⟨J, hJ⟩ : ∃ J : Array Bool → Act → World → Prop, J = fun l a Wd => ∃ x61 x62 x63 x64 x65 x66 x67 x68 x69 : Value, a = { tmps := (((.pointer (some ⟨S, 0, none⟩)) :: (undef) :: (.pointer (some ⟨w.heap.size, 0, none⟩)) :: (.pointer (some ⟨q, 0, none⟩)) :: (.int .i64 k) :: (u5) :: (undef) :: (.agg #[.slice none 0 0, .slice none 0 0,   .int .i64 1]) :: (.pointer (some ⟨S, 0, none⟩)) :: (.pointer (some ⟨S, 0, none⟩)) :: (.pointer (some ⟨S, 0, none⟩)) :: (.pointer (some ⟨S, 3, none⟩)) :: (.int .i64 size) :: (.int .i64 (10 + size)) :: (.int .i64 k0) :: (.int .i64 k) :: (.bool false) :: (u17) :: (u18) :: (u19) :: (u20) :: (u21) :: (u22) :: (u23) :: (u24) :: (u25) :: (u26) :: (u27) :: (.pointer (some ⟨S, 0, none⟩)) :: (.bool true) :: (.pointer (some ⟨S, 0, none⟩)) :: (.int .i64 1) :: (undef) :: (undef) :: (undef) :: (undef) :: (undef) :: (undef) :: (undef) :: (undef) :: (undef) :: (undef) :: (undef) :: (undef) :: (undef) :: (undef) :: (undef) :: (undef) :: (.bool false) :: (.bool false) :: (undef) :: (undef) :: (undef) :: (undef) :: (undef) :: (undef) :: (undef) :: (undef) :: (undef) :: (.bool true) :: (.bool true) :: (x61) :: (x62) :: (x63) :: (x64) :: (x65) :: (x66) :: (x67) :: (x68) :: (x69) :: (undef) :: (undef) :: (undef) :: (undef) :: (undef) :: (undef) :: (undef) :: (undef) :: (undef) :: (undef) :: (undef) :: (undef) :: (undef) :: (undef) :: (undef) :: (undef) :: (undef) :: (undef) :: (undef) :: (undef) :: (undef) :: (undef) :: (undef) :: (undef) :: (undef) :: (undef) :: []) : List Value).toArray, defers := [] } ∧ Bo.R18 B S q w (.slice ua un uc) (.slice va vn vc) n X Y l Wd x61 x62 x63 x64 x65 x66 x67 x68 x69 := ⟨_, rfl⟩
            have HJ := Fk.hide hJ
            clear hJ
            refine Ri.any_inv J ?step ?done _ _ _ _ (by decide) ?init
            case init =>
              rw [HJ.out]
              refine ⟨_, _, _, _, _, _, _, _, _, rfl, ?_⟩
              exact { sz := rfl, w0 := fun _ => (H5.out.below hSw (Below.drew (Below.refl _ _))).pre (by omega) hSw, w1 := fun e => absurd e (by decide), wf := fun e => absurd e (by decide), d0 := fun e => absurd e (by decide), d1 := fun e => absurd e (by decide), d2 := fun e => absurd e (by decide), d3 := fun e => absurd e (by decide), d4 := fun e => absurd e (by decide), d5 := fun e => absurd e (by decide), d6 := fun _ e => absurd e (by decide), d8 := fun e => absurd e (by decide), e1 := fun e => absurd e (by decide), e3 := fun e => absurd e (by decide), e4 := fun e => absurd e (by decide), e5 := fun e => absurd e (by decide), e6 := fun e => absurd e (by decide), e7 := fun e => absurd e (by decide), e9 := fun e => absurd e (by decide) }
            case done =>
              intro l a Wd hr hJl
              rw [HJ.out] at hJl
              obtain ⟨x61, x62, x63, x64, x65, x66, x67, x68, x69, rfl, h⟩ := hJl
              have hall := Ri.all_done' hr (by rw [h.sz]; decide) (by decide)
              have hfin := h.wf (hall 9 (by decide))
              clear h hall hr HJ
              obtain ⟨xa, xn, xc, o, hp, ht⟩ := hfin
              have H6 := Fk.hide (Bo.Pre.hold ⟨hp, ht⟩)
              clear hp ht
              have oc0 := H6.out.c0
              have oc1 := H6.out.c1
              have oc2 := H6.out.c2
              have ocf := H6.out.cf
              have oz0 := H6.out.z0
              have oz1 := H6.out.z1
              have oz2 := H6.out.z2
              have ozf := H6.out.zf
              have hqq : q ≠ w.heap.size := by have := H6.out.q0; omega
              have hqr : w.heap.size ≠ q := by omega
              go_wp2_with fail
              refine bodyPost_ret (v := .agg #[.slice xa xn xc, .slice va vn vc, .int .i64 n]) (by simp [results, Try.results30, go_sem, oz0, oz1, oz2] <;> rfl) rfl ⟨⟨_, _, _, X ++ [o], Y, rfl, (H6.out.fin (by omega) hSw _ _ _).1, by simp; omega⟩, (H6.out.fin (by omega) hSw _ _ _).2⟩
            case step =>
              intro i l a Wd hi hJl
              rw [HJ.out] at hJl
              obtain ⟨x61, x62, x63, x64, x65, x66, x67, x68, x69, rfl, h⟩ := hJl
              have hib : i < 10 := (Ri.ready_mem hi).1
              have hnot := Ri.not_yet (Ri.ready_mem hi).2.1
              rcases (by omega : i = 0 ∨ i = 1 ∨ i = 2 ∨ i = 3 ∨ i = 4 ∨ i = 5 ∨ i = 6 ∨ i = 7 ∨ i = 8 ∨ i = 9) with rfl | rfl | rfl | rfl | rfl | rfl | rfl | rfl | rfl | rfl
              · -- operation 0
                refine Ri.op (by rfl) rfl ?_
                go_simp
                rw [HJ.out]
                exact ⟨_, _, _, _, _, _, _, _, _, rfl, { sz := by simp [h.sz], w0 := fun e => h.w0 (Ri.wasf e), w1 := fun e e2 => h.w1 (Ri.was e (by decide)) (Ri.wasf e2), wf := fun e => h.wf (Ri.was e (by decide)), d0 := fun _ => rfl, d1 := fun e => h.d1 (Ri.was e (by decide)), d2 := fun e => h.d2 (Ri.was e (by decide)), d3 := fun e => h.d3 (Ri.was e (by decide)), d4 := fun e => h.d4 (Ri.was e (by decide)), d5 := fun e => h.d5 (Ri.was e (by decide)), d6 := fun n e => h.d6 (Ri.wasf n) (Ri.was e (by decide)), d8 := fun e => h.d8 (Ri.was e (by decide)), e1 := fun e => Ri.keep (h.e1 (Ri.was e (by decide))), e3 := fun e => Ri.keep (h.e3 (Ri.was e (by decide))), e4 := fun e => Ri.keep (h.e4 (Ri.was e (by decide))), e5 := fun e => Ri.keep (h.e5 (Ri.was e (by decide))), e6 := fun e => Ri.keep (h.e6 (Ri.was e (by decide))), e7 := fun e => ⟨Ri.keep (h.e7 (Ri.was e (by decide))).1, Ri.keep (h.e7 (Ri.was e (by decide))).2⟩, e9 := fun e => ⟨Ri.keep (h.e9 (Ri.was e (by decide))).1, Ri.keep (h.e9 (Ri.was e (by decide))).2⟩ }⟩
              · -- operation 1
                have n7 : l.getD 7 false = false := by
                  cases hx : l.getD 7 false with
                  | false => rfl
                  | true =>
                    have a7 := hx
                    have a1 := (h.e7 a7).1
                    rw [hnot] at a1
                    cases a1
                have kc0 := (h.w0 n7).1.c0
                have v0 := h.d0 (Ri.dep hi (by rfl) (by rfl))
                subst v0
                refine Ri.op (by rfl) rfl ?_
                go_simp
                rw [HJ.out]
                exact ⟨_, _, _, _, _, _, _, _, _, rfl, { sz := by simp [h.sz], w0 := fun e => h.w0 (Ri.wasf e), w1 := fun e e2 => h.w1 (Ri.was e (by decide)) (Ri.wasf e2), wf := fun e => h.wf (Ri.was e (by decide)), d0 := fun e => h.d0 (Ri.was e (by decide)), d1 := fun _ => rfl, d2 := fun e => h.d2 (Ri.was e (by decide)), d3 := fun e => h.d3 (Ri.was e (by decide)), d4 := fun e => h.d4 (Ri.was e (by decide)), d5 := fun e => h.d5 (Ri.was e (by decide)), d6 := fun n e => h.d6 (Ri.wasf n) (Ri.was e (by decide)), d8 := fun e => h.d8 (Ri.was e (by decide)), e1 := fun _ => Ri.keep (Ri.dep hi (by rfl) (by rfl)), e3 := fun e => Ri.keep (h.e3 (Ri.was e (by decide))), e4 := fun e => Ri.keep (h.e4 (Ri.was e (by decide))), e5 := fun e => Ri.keep (h.e5 (Ri.was e (by decide))), e6 := fun e => Ri.keep (h.e6 (Ri.was e (by decide))), e7 := fun e => ⟨Ri.keep (h.e7 (Ri.was e (by decide))).1, Ri.keep (h.e7 (Ri.was e (by decide))).2⟩, e9 := fun e => ⟨Ri.keep (h.e9 (Ri.was e (by decide))).1, Ri.keep (h.e9 (Ri.was e (by decide))).2⟩ }⟩
              · -- operation 2
                refine Ri.op (by rfl) rfl ?_
                go_simp
                rw [HJ.out]
                exact ⟨_, _, _, _, _, _, _, _, _, rfl, { sz := by simp [h.sz], w0 := fun e => h.w0 (Ri.wasf e), w1 := fun e e2 => h.w1 (Ri.was e (by decide)) (Ri.wasf e2), wf := fun e => h.wf (Ri.was e (by decide)), d0 := fun e => h.d0 (Ri.was e (by decide)), d1 := fun e => h.d1 (Ri.was e (by decide)), d2 := fun _ => rfl, d3 := fun e => h.d3 (Ri.was e (by decide)), d4 := fun e => h.d4 (Ri.was e (by decide)), d5 := fun e => h.d5 (Ri.was e (by decide)), d6 := fun n e => h.d6 (Ri.wasf n) (Ri.was e (by decide)), d8 := fun e => h.d8 (Ri.was e (by decide)), e1 := fun e => Ri.keep (h.e1 (Ri.was e (by decide))), e3 := fun e => Ri.keep (h.e3 (Ri.was e (by decide))), e4 := fun e => Ri.keep (h.e4 (Ri.was e (by decide))), e5 := fun e => Ri.keep (h.e5 (Ri.was e (by decide))), e6 := fun e => Ri.keep (h.e6 (Ri.was e (by decide))), e7 := fun e => ⟨Ri.keep (h.e7 (Ri.was e (by decide))).1, Ri.keep (h.e7 (Ri.was e (by decide))).2⟩, e9 := fun e => ⟨Ri.keep (h.e9 (Ri.was e (by decide))).1, Ri.keep (h.e9 (Ri.was e (by decide))).2⟩ }⟩
              · -- operation 3
                have n9 : l.getD 9 false = false := by
                  cases hx : l.getD 9 false with
                  | false => rfl
                  | true =>
                    have a9 := hx
                    have a7 := (h.e9 a9).2
                    have a6 := (h.e7 a7).2
                    have a5 := (h.e6 a6)
                    have a4 := (h.e5 a5)
                    have a3 := (h.e4 a4)
                    rw [hnot] at a3
                    cases a3
                have n7 : l.getD 7 false = false := by
                  cases hx : l.getD 7 false with
                  | false => rfl
                  | true =>
                    have a7 := hx
                    have a6 := (h.e7 a7).2
                    have a5 := (h.e6 a6)
                    have a4 := (h.e5 a5)
                    have a3 := (h.e4 a4)
                    rw [hnot] at a3
                    cases a3
                have e1 := h.d2 (Ri.dep hi (by rfl) (by rfl))
                subst e1
                have hW := h.w0 n7
                refine Ri.op (by rfl) rfl ?_
                go_simp
                refine (drawN_any B S 30 Wd hW.1.t.1 (by omega)).mono ?_
                rintro e Y ⟨⟨r, rfl, r0, r1, _⟩, s1, hg⟩
                have r2 := r1 (by omega)
                have ht' := hW.1.t.next s1 hg
                have er : ((r.toNat : Nat) : Int) = r := by omega
                have hidx : Dk.Idx 30 (.int .i64 r) := ⟨r.toNat, by omega, by rw [er]⟩
                go_simp
                rw [HJ.out]
                exact ⟨_, _, _, _, _, _, _, _, _, rfl, { sz := by simp [h.sz], w0 := fun _ => Bo.both_grown hW hg (.inr rfl) ht', w1 := fun e => absurd (Ri.was e (by decide)) (by rw [n7]; decide), wf := fun e => absurd (Ri.was e (by decide)) (by rw [n9]; decide), d0 := fun e => h.d0 (Ri.was e (by decide)), d1 := fun e => h.d1 (Ri.was e (by decide)), d2 := fun e => h.d2 (Ri.was e (by decide)), d3 := fun _ => hidx, d4 := fun e => h.d4 (Ri.was e (by decide)), d5 := fun e => h.d5 (Ri.was e (by decide)), d6 := fun n e => by obtain ⟨g, r, h1, h2, h3⟩ := h.d6 (Ri.wasf n) (Ri.was e (by decide)); exact ⟨g, r, h1, h2, Rk.view_grown h1 h2 h3 hg (.inr rfl)⟩, d8 := fun e => h.d8 (Ri.was e (by decide)), e1 := fun e => Ri.keep (h.e1 (Ri.was e (by decide))), e3 := fun _ => Ri.keep (Ri.dep hi (by rfl) (by rfl)), e4 := fun e => Ri.keep (h.e4 (Ri.was e (by decide))), e5 := fun e => Ri.keep (h.e5 (Ri.was e (by decide))), e6 := fun e => Ri.keep (h.e6 (Ri.was e (by decide))), e7 := fun e => ⟨Ri.keep (h.e7 (Ri.was e (by decide))).1, Ri.keep (h.e7 (Ri.was e (by decide))).2⟩, e9 := fun e => ⟨Ri.keep (h.e9 (Ri.was e (by decide))).1, Ri.keep (h.e9 (Ri.was e (by decide))).2⟩ }⟩
              · -- operation 4
                obtain ⟨j, j1, e1⟩ := h.d3 (Ri.dep hi (by rfl) (by rfl))
                subst e1
                refine Ri.op (by rfl) rfl ?_
                go_simp
                rw [HJ.out]
                exact ⟨_, _, _, _, _, _, _, _, _, rfl, { sz := by simp [h.sz], w0 := fun e => h.w0 (Ri.wasf e), w1 := fun e e2 => h.w1 (Ri.was e (by decide)) (Ri.wasf e2), wf := fun e => h.wf (Ri.was e (by decide)), d0 := fun e => h.d0 (Ri.was e (by decide)), d1 := fun e => h.d1 (Ri.was e (by decide)), d2 := fun e => h.d2 (Ri.was e (by decide)), d3 := fun e => h.d3 (Ri.was e (by decide)), d4 := fun _ => ⟨_, rfl⟩, d5 := fun e => h.d5 (Ri.was e (by decide)), d6 := fun n e => h.d6 (Ri.wasf n) (Ri.was e (by decide)), d8 := fun e => h.d8 (Ri.was e (by decide)), e1 := fun e => Ri.keep (h.e1 (Ri.was e (by decide))), e3 := fun e => Ri.keep (h.e3 (Ri.was e (by decide))), e4 := fun _ => Ri.keep (Ri.dep hi (by rfl) (by rfl)), e5 := fun e => Ri.keep (h.e5 (Ri.was e (by decide))), e6 := fun e => Ri.keep (h.e6 (Ri.was e (by decide))), e7 := fun e => ⟨Ri.keep (h.e7 (Ri.was e (by decide))).1, Ri.keep (h.e7 (Ri.was e (by decide))).2⟩, e9 := fun e => ⟨Ri.keep (h.e9 (Ri.was e (by decide))).1, Ri.keep (h.e9 (Ri.was e (by decide))).2⟩ }⟩
              · -- operation 5
                obtain ⟨r, e1⟩ := h.d4 (Ri.dep hi (by rfl) (by rfl))
                subst e1
                refine Ri.op (by rfl) rfl ?_
                go_simp
                rw [HJ.out]
                exact ⟨_, _, _, _, _, _, _, _, _, rfl, { sz := by simp [h.sz], w0 := fun e => h.w0 (Ri.wasf e), w1 := fun e e2 => h.w1 (Ri.was e (by decide)) (Ri.wasf e2), wf := fun e => h.wf (Ri.was e (by decide)), d0 := fun e => h.d0 (Ri.was e (by decide)), d1 := fun e => h.d1 (Ri.was e (by decide)), d2 := fun e => h.d2 (Ri.was e (by decide)), d3 := fun e => h.d3 (Ri.was e (by decide)), d4 := fun e => h.d4 (Ri.was e (by decide)), d5 := fun _ => ⟨_, rfl⟩, d6 := fun n e => h.d6 (Ri.wasf n) (Ri.was e (by decide)), d8 := fun e => h.d8 (Ri.was e (by decide)), e1 := fun e => Ri.keep (h.e1 (Ri.was e (by decide))), e3 := fun e => Ri.keep (h.e3 (Ri.was e (by decide))), e4 := fun e => Ri.keep (h.e4 (Ri.was e (by decide))), e5 := fun _ => Ri.keep (Ri.dep hi (by rfl) (by rfl)), e6 := fun e => Ri.keep (h.e6 (Ri.was e (by decide))), e7 := fun e => ⟨Ri.keep (h.e7 (Ri.was e (by decide))).1, Ri.keep (h.e7 (Ri.was e (by decide))).2⟩, e9 := fun e => ⟨Ri.keep (h.e9 (Ri.was e (by decide))).1, Ri.keep (h.e9 (Ri.was e (by decide))).2⟩ }⟩
              · -- operation 6
                have n7 : l.getD 7 false = false := by
                  cases hx : l.getD 7 false with
                  | false => rfl
                  | true =>
                    have a7 := hx
                    have a6 := (h.e7 a7).2
                    rw [hnot] at a6
                    cases a6
                have n9 : l.getD 9 false = false := by
                  cases hx : l.getD 9 false with
                  | false => rfl
                  | true =>
                    have a9 := hx
                    have a7 := (h.e9 a9).2
                    have a6 := (h.e7 a7).2
                    rw [hnot] at a6
                    cases a6
                obtain ⟨r, e1⟩ := h.d5 (Ri.dep hi (by rfl) (by rfl))
                subst e1
                have hW := h.w0 n7
                refine Ri.op (by rfl) rfl ?_
                go_simp
                have hg := World.grownBy_alloc Wd (.cells #[.int .i64 1, .int .i64 1, .int .i64 r, .int .i64 1, .bool false, .int .i64 0, .int .i64 0, .bool false] 40) none
                have ht' := hW.1.t.alloc (.cells #[.int .i64 1, .int .i64 1, .int .i64 r, .int .i64 1, .bool false, .int .i64 0, .int .i64 0, .bool false] 40)
                have hvw := Rk.view_lit1 (S := Or.S) Wd 40 #[.int .i64 1, .int .i64 1, .int .i64 r, .int .i64 1, .bool false, .int .i64 0, .int .i64 0, .bool false] (1, 1, r, 1, false, 0, 0, false) rfl
                rw [HJ.out]
                exact ⟨_, _, _, _, _, _, _, _, _, rfl, { sz := by simp [h.sz], w0 := fun _ => Bo.both_grown hW hg (.inl rfl) ht', w1 := fun e => absurd (Ri.was e (by decide)) (by rw [n7]; decide), wf := fun e => absurd (Ri.was e (by decide)) (by rw [n9]; decide), d0 := fun e => h.d0 (Ri.was e (by decide)), d1 := fun e => h.d1 (Ri.was e (by decide)), d2 := fun e => h.d2 (Ri.was e (by decide)), d3 := fun e => h.d3 (Ri.was e (by decide)), d4 := fun e => h.d4 (Ri.was e (by decide)), d5 := fun e => h.d5 (Ri.was e (by decide)), d6 := fun _ _ => ⟨Wd.heap.size, r, rfl, by have := hW.1.t.1.lt.2; omega, hvw⟩, d8 := fun e => h.d8 (Ri.was e (by decide)), e1 := fun e => Ri.keep (h.e1 (Ri.was e (by decide))), e3 := fun e => Ri.keep (h.e3 (Ri.was e (by decide))), e4 := fun e => Ri.keep (h.e4 (Ri.was e (by decide))), e5 := fun e => Ri.keep (h.e5 (Ri.was e (by decide))), e6 := fun _ => Ri.keep (Ri.dep hi (by rfl) (by rfl)), e7 := fun e => ⟨Ri.keep (h.e7 (Ri.was e (by decide))).1, Ri.keep (h.e7 (Ri.was e (by decide))).2⟩, e9 := fun e => ⟨Ri.keep (h.e9 (Ri.was e (by decide))).1, Ri.keep (h.e9 (Ri.was e (by decide))).2⟩ }⟩
              · -- operation 7
                have n7 := hnot
                have n9 : l.getD 9 false = false := by
                  cases hx : l.getD 9 false with
                  | false => rfl
                  | true =>
                    have a9 := hx
                    have a7 := (h.e9 a9).2
                    rw [hnot] at a7
                    cases a7
                have v1 := h.d1 (Ri.dep hi (by rfl) (by rfl))
                obtain ⟨g, r, e6, g6, hvw⟩ := h.d6 n7 (Ri.dep hi (by rfl) (by rfl))
                subst v1
                have hW := h.w0 n7
                refine Ri.opIf (E := True) (by rfl) rfl ?_
                refine Rk.step_append_where Wd (by rfl) (.tmp 62) (.tmp 67) 23 (by rfl) (q + 1) 40 i0 _ 8 64 rfl Try.underlying23 hi0 hz0 hz1 hz2 rfl (by decide) (.slice ua un uc) x67 X [(1, 1, r, 1, false, 0, 0, false)] (by rfl) (by rfl) hW.2.b hvw (by rw [e6]; exact Rk.shut_some _ _ _) (by simp; omega) (by have := hW.1.q1; omega) ?_
                intro u6 w6 o6 g7 ne6
                have hb6 := Bo.both_more hW o6 g7 ne6
                rw [HJ.out]
                exact ⟨_, _, _, _, _, _, _, _, _, rfl, { sz := by simp [h.sz], w0 := fun e => absurd e (by simp [Array.getD, h.sz]), w1 := fun _ _ => ⟨_, hb6⟩, wf := fun e => absurd (Ri.was e (by decide)) (by rw [n9]; decide), d0 := fun e => h.d0 (Ri.was e (by decide)), d1 := fun e => h.d1 (Ri.was e (by decide)), d2 := fun e => h.d2 (Ri.was e (by decide)), d3 := fun e => h.d3 (Ri.was e (by decide)), d4 := fun e => h.d4 (Ri.was e (by decide)), d5 := fun e => h.d5 (Ri.was e (by decide)), d6 := fun n _ => absurd n (by simp [Array.getD, h.sz]), d8 := fun e => h.d8 (Ri.was e (by decide)), e1 := fun e => Ri.keep (h.e1 (Ri.was e (by decide))), e3 := fun e => Ri.keep (h.e3 (Ri.was e (by decide))), e4 := fun e => Ri.keep (h.e4 (Ri.was e (by decide))), e5 := fun e => Ri.keep (h.e5 (Ri.was e (by decide))), e6 := fun e => Ri.keep (h.e6 (Ri.was e (by decide))), e7 := fun _ => ⟨Ri.keep (Ri.dep hi (by rfl) (by rfl)), Ri.keep (Ri.dep hi (by rfl) (by rfl))⟩, e9 := fun e => ⟨Ri.keep (h.e9 (Ri.was e (by decide))).1, Ri.keep (h.e9 (Ri.was e (by decide))).2⟩ }⟩
              · -- operation 8
                refine Ri.op (by rfl) rfl ?_
                go_simp
                rw [HJ.out]
                exact ⟨_, _, _, _, _, _, _, _, _, rfl, { sz := by simp [h.sz], w0 := fun e => h.w0 (Ri.wasf e), w1 := fun e e2 => h.w1 (Ri.was e (by decide)) (Ri.wasf e2), wf := fun e => h.wf (Ri.was e (by decide)), d0 := fun e => h.d0 (Ri.was e (by decide)), d1 := fun e => h.d1 (Ri.was e (by decide)), d2 := fun e => h.d2 (Ri.was e (by decide)), d3 := fun e => h.d3 (Ri.was e (by decide)), d4 := fun e => h.d4 (Ri.was e (by decide)), d5 := fun e => h.d5 (Ri.was e (by decide)), d6 := fun n e => h.d6 (Ri.wasf n) (Ri.was e (by decide)), d8 := fun _ => rfl, e1 := fun e => Ri.keep (h.e1 (Ri.was e (by decide))), e3 := fun e => Ri.keep (h.e3 (Ri.was e (by decide))), e4 := fun e => Ri.keep (h.e4 (Ri.was e (by decide))), e5 := fun e => Ri.keep (h.e5 (Ri.was e (by decide))), e6 := fun e => Ri.keep (h.e6 (Ri.was e (by decide))), e7 := fun e => ⟨Ri.keep (h.e7 (Ri.was e (by decide))).1, Ri.keep (h.e7 (Ri.was e (by decide))).2⟩, e9 := fun e => ⟨Ri.keep (h.e9 (Ri.was e (by decide))).1, Ri.keep (h.e9 (Ri.was e (by decide))).2⟩ }⟩
              · -- operation 9
                have b7 : l.getD 7 false = true := Ri.dep hi (by rfl) (by rfl)
                have v8 := h.d8 (Ri.dep hi (by rfl) (by rfl))
                subst v8
                obtain ⟨o, hp, ht⟩ := h.w1 b7 hnot
                obtain ⟨xa, xn, xc, rfl⟩ := ht.b.slice'
                have k0 := hp.c0
                have kf := hp.cf
                refine Ri.op (by rfl) rfl ?_
                go_simp
                rw [HJ.out]
                exact ⟨_, _, _, _, _, _, _, _, _, rfl, { sz := by simp [h.sz], w0 := fun e => absurd (Ri.wasf e) (by rw [b7]; decide), w1 := fun _ e => absurd e (by simp [Array.getD, h.sz]), wf := fun _ => ⟨xa, xn, xc, o, hp.set0 _, ht.set 0 _⟩, d0 := fun e => h.d0 (Ri.was e (by decide)), d1 := fun e => h.d1 (Ri.was e (by decide)), d2 := fun e => h.d2 (Ri.was e (by decide)), d3 := fun e => h.d3 (Ri.was e (by decide)), d4 := fun e => h.d4 (Ri.was e (by decide)), d5 := fun e => h.d5 (Ri.was e (by decide)), d6 := fun n _ => absurd (Ri.wasf n) (by rw [b7]; decide), d8 := fun e => h.d8 (Ri.was e (by decide)), e1 := fun e => Ri.keep (h.e1 (Ri.was e (by decide))), e3 := fun e => Ri.keep (h.e3 (Ri.was e (by decide))), e4 := fun e => Ri.keep (h.e4 (Ri.was e (by decide))), e5 := fun e => Ri.keep (h.e5 (Ri.was e (by decide))), e6 := fun e => Ri.keep (h.e6 (Ri.was e (by decide))), e7 := fun e => ⟨Ri.keep (h.e7 (Ri.was e (by decide))).1, Ri.keep (h.e7 (Ri.was e (by decide))).2⟩, e9 := fun _ => ⟨Ri.keep (Ri.dep hi (by rfl) (by rfl)), Ri.keep (Ri.dep hi (by rfl) (by rfl))⟩ }⟩
          · have e0 := H5.out.c0
            have ef := H5.out.cf
            by_cases hun : un = 0
            · subst hun
              have oc0 := H5.out.c0
              have oc1 := H5.out.c1
              have oc2 := H5.out.c2
              have ocf := H5.out.cf
              have oz0 := H5.out.z0
              have oz1 := H5.out.z1
              have oz2 := H5.out.z2
              have ozf := H5.out.zf
              have hqq : q ≠ w.heap.size := by have := H5.out.q0; omega
              have hqr : w.heap.size ≠ q := by omega
              go_wp2_with fail
              refine bodyPost_ret (v := .agg #[.slice ua 0 uc, .slice va vn vc, .int .i64 n]) (by simp [results, Try.results30, go_sem, oz0, oz1, oz2] <;> rfl) rfl ⟨⟨_, _, _, X, Y, rfl, (H5.out.fin (by omega) hSw _ _ _).1, by omega⟩, (H5.out.fin (by omega) hSw _ _ _).2⟩
            · skip
              obtain ⟨g, hgv⟩ : ∃ g, ua = some ⟨g, 0, none⟩ := by
                rcases H5.out.two.b.form with ⟨h1, h2⟩ | ⟨g, c', h1, _⟩
                · simp only [Value.slice.injEq] at h1; omega
                · simp only [Value.slice.injEq] at h1; exact ⟨g, h1.1⟩
              subst hgv
              have hup : 0 < un := by omega
              have huq : (0 : Int) < (un : Int) := by omega
              have hx0 : 0 < X.length := by have := H5.out.two.b.len; omega
              have k5 := Or.o5 H5.out.two.b hx0
              simp only [Nat.zero_mul, Nat.zero_add] at k5
              have kf := H5.out.two.b.frozen 5
              have hput := Bo.both_put (H5.out.pre (by omega) hSw) hx0 5 (by decide) (.int .i64 1) ((Rk.at_ Or.S X 0).1, (Rk.at_ Or.S X 0).2.1, (Rk.at_ Or.S X 0).2.2.1, (Rk.at_ Or.S X 0).2.2.2.1, (Rk.at_ Or.S X 0).2.2.2.2.1, 1, (Rk.at_ Or.S X 0).2.2.2.2.2.2) rfl
              have H6 := Fk.hide (Bo.Pre.hold hput)
              have HLN : Hid ((X.set 0 ((Rk.at_ Or.S X 0).1, (Rk.at_ Or.S X 0).2.1, (Rk.at_ Or.S X 0).2.2.1, (Rk.at_ Or.S X 0).2.2.2.1, (Rk.at_ Or.S X 0).2.2.2.2.1, 1, (Rk.at_ Or.S X 0).2.2.2.2.2.2)).length = X.length) := List.length_set
              clear hput
              have oc0 := H6.out.c0
              have oc1 := H6.out.c1
              have oc2 := H6.out.c2
              have ocf := H6.out.cf
              have oz0 := H6.out.z0
              have oz1 := H6.out.z1
              have oz2 := H6.out.z2
              have ozf := H6.out.zf
              have hqq : q ≠ w.heap.size := by have := H6.out.q0; omega
              have hqr : w.heap.size ≠ q := by omega
              go_wp2_with fail
              refine bodyPost_ret (v := .agg #[.slice (some ⟨g, 0, none⟩) un uc, .slice va vn vc, .int .i64 n]) (by simp [results, Try.results30, go_sem, oz0, oz1, oz2] <;> rfl) rfl ⟨⟨_, _, _, _, Y, rfl, (H6.out.fin (by omega) hSw _ _ _).1, by rw [HLN.out]; omega⟩, (H6.out.fin (by omega) hSw _ _ _).2⟩
          · have e0 := H5.out.c1
            have ef := H5.out.cf
            by_cases hvn : vn = 0
            · subst hvn
              have oc0 := H5.out.c0
              have oc1 := H5.out.c1
              have oc2 := H5.out.c2
              have ocf := H5.out.cf
              have oz0 := H5.out.z0
              have oz1 := H5.out.z1
              have oz2 := H5.out.z2
              have ozf := H5.out.zf
              have hqq : q ≠ w.heap.size := by have := H5.out.q0; omega
              have hqr : w.heap.size ≠ q := by omega
              go_wp2_with fail
              refine bodyPost_ret (v := .agg #[.slice ua un uc, .slice va 0 vc, .int .i64 n]) (by simp [results, Try.results30, go_sem, oz0, oz1, oz2] <;> rfl) rfl ⟨⟨_, _, _, X, Y, rfl, (H5.out.fin (by omega) hSw _ _ _).1, by omega⟩, (H5.out.fin (by omega) hSw _ _ _).2⟩
            · skip
              obtain ⟨g, hgv⟩ : ∃ g, va = some ⟨g, 0, none⟩ := by
                rcases H5.out.two.a.form with ⟨h1, h2⟩ | ⟨g, c', h1, _⟩
                · simp only [Value.slice.injEq] at h1; omega
                · simp only [Value.slice.injEq] at h1; exact ⟨g, h1.1⟩
              subst hgv
              have hvp : 0 < vn := by omega
              have hvq : (0 : Int) < (vn : Int) := by omega
              go_wp2_with fail
              refine wp_region_any (by kernel_rfl) ?_
              obtain ⟨J, hJ⟩ : ∃ J : Array Bool → Act → World → Prop, J = fun l a Wd => ∃ x86 x87 x88 x89 x90 x91 x92 x93 x94 : Value, a = { tmps := (((.pointer (some ⟨S, 0, none⟩)) :: (undef) :: (.pointer (some ⟨w.heap.size, 0, none⟩)) :: (.pointer (some ⟨q, 0, none⟩)) :: (.int .i64 k) :: (u5) :: (undef) :: (.agg #[.slice none 0 0, .slice none 0 0,   .int .i64 1]) :: (.pointer (some ⟨S, 0, none⟩)) :: (.pointer (some ⟨S, 0, none⟩)) :: (.pointer (some ⟨S, 0, none⟩)) :: (.pointer (some ⟨S, 3, none⟩)) :: (.int .i64 size) :: (.int .i64 (10 + size)) :: (.int .i64 k0) :: (.int .i64 k) :: (.bool false) :: (u17) :: (u18) :: (u19) :: (u20) :: (u21) :: (u22) :: (u23) :: (u24) :: (u25) :: (u26) :: (u27) :: (.pointer (some ⟨S, 0, none⟩)) :: (.bool true) :: (.pointer (some ⟨S, 0, none⟩)) :: (.int .i64 3) :: (undef) :: (undef) :: (undef) :: (undef) :: (undef) :: (undef) :: (undef) :: (undef) :: (undef) :: (undef) :: (undef) :: (undef) :: (undef) :: (undef) :: (undef) :: (undef) :: (.bool false) :: (.bool false) :: (undef) :: (undef) :: (undef) :: (undef) :: (undef) :: (undef) :: (undef) :: (undef) :: (undef) :: (.bool false) :: (.bool false) :: (undef) :: (undef) :: (undef) :: (undef) :: (undef) :: (undef) :: (undef) :: (undef) :: (undef) :: (.bool false) :: (.bool false) :: (undef) :: (undef) :: (undef) :: (undef) :: (undef) :: (undef) :: (undef) :: (undef) :: (.bool true) :: (.bool true) :: (.pointer (some ⟨q, 1, none⟩)) :: (.slice (some ⟨g, 0, none⟩) vn vc) :: (.int .i64 vn) :: (.bool true) :: (x86) :: (x87) :: (x88) :: (x89) :: (x90) :: (x91) :: (x92) :: (x93) :: (x94) :: (undef) :: []) : List Value).toArray, defers := [] } ∧ Bo.R24 B S q w (.slice ua un uc) (.slice (some ⟨g, 0, none⟩) vn vc) n X Y g l Wd x86 x87 x88 x89 x90 x91 x92 x93 x94 := ⟨_, rfl⟩
              have HJ := Fk.hide hJ
              clear hJ
              refine Ri.any_inv J ?step ?done _ _ _ _ (by decide) ?init
              case init =>
                rw [HJ.out]
                refine ⟨_, _, _, _, _, _, _, _, _, rfl, ?_⟩
                exact { sz := rfl, w0 := fun _ => (H5.out.below hSw (Below.drew (Below.refl _ _))).pre (by omega) hSw, wf := fun e => absurd e (by decide), d0 := fun e => absurd e (by decide), d1 := fun e => absurd e (by decide), d2 := fun _ e => absurd e (by decide), d3 := fun e => absurd e (by decide), d4 := fun e => absurd e (by decide), d5 := fun _ e => absurd e (by decide), d6 := fun e => absurd e (by decide), d7 := fun e => absurd e (by decide), d8 := fun e => absurd e (by decide), e1 := fun e => absurd e (by decide), e4 := fun e => absurd e (by decide), e5 := fun e => absurd e (by decide), e6 := fun e => absurd e (by decide), e7 := fun e => absurd e (by decide), e8 := fun e => absurd e (by decide), e9 := fun e => absurd e (by decide) }
              case done =>
                intro l a Wd hr hJl
                rw [HJ.out] at hJl
                obtain ⟨x86, x87, x88, x89, x90, x91, x92, x93, x94, rfl, h⟩ := hJl
                have hall := Ri.all_done' hr (by rw [h.sz]; decide) (by decide)
                have hfin := h.wf (hall 9 (by decide))
                clear h hall hr HJ
                obtain ⟨LY', hly, hp, ht⟩ := hfin
                have H6 := Fk.hide (Bo.Pre.hold ⟨hp, ht⟩)
                clear hp ht
                have oc0 := H6.out.c0
                have oc1 := H6.out.c1
                have oc2 := H6.out.c2
                have ocf := H6.out.cf
                have oz0 := H6.out.z0
                have oz1 := H6.out.z1
                have oz2 := H6.out.z2
                have ozf := H6.out.zf
                have hqq : q ≠ w.heap.size := by have := H6.out.q0; omega
                have hqr : w.heap.size ≠ q := by omega
                go_wp2_with fail
                refine bodyPost_ret (v := .agg #[.slice ua un uc, .slice (some ⟨g, 0, none⟩) vn vc, .int .i64 n]) (by simp [results, Try.results30, go_sem, oz0, oz1, oz2] <;> rfl) rfl ⟨⟨_, _, _, X, LY', rfl, (H6.out.fin (by omega) hSw _ _ _).1, by omega⟩, (H6.out.fin (by omega) hSw _ _ _).2⟩
              case step =>
                intro i l a Wd hi hJl
                rw [HJ.out] at hJl
                obtain ⟨x86, x87, x88, x89, x90, x91, x92, x93, x94, rfl, h⟩ := hJl
                have hib : i < 10 := (Ri.ready_mem hi).1
                have hnot := Ri.not_yet (Ri.ready_mem hi).2.1
                rcases (by omega : i = 0 ∨ i = 1 ∨ i = 2 ∨ i = 3 ∨ i = 4 ∨ i = 5 ∨ i = 6 ∨ i = 7 ∨ i = 8 ∨ i = 9) with rfl | rfl | rfl | rfl | rfl | rfl | rfl | rfl | rfl | rfl
                · -- operation 0
                  refine Ri.op (by rfl) rfl ?_
                  go_simp
                  rw [HJ.out]
                  exact ⟨_, _, _, _, _, _, _, _, _, rfl, { sz := by simp [h.sz], w0 := fun e => h.w0 (Ri.wasf e), wf := fun e => h.wf (Ri.was e (by decide)), d0 := fun _ => rfl, d1 := fun e => h.d1 (Ri.was e (by decide)), d2 := fun n e => h.d2 (Ri.wasf n) (Ri.was e (by decide)), d3 := fun e => h.d3 (Ri.was e (by decide)), d4 := fun e => h.d4 (Ri.was e (by decide)), d5 := fun n e => h.d5 (Ri.wasf n) (Ri.was e (by decide)), d6 := fun e => h.d6 (Ri.was e (by decide)), d7 := fun e => h.d7 (Ri.was e (by decide)), d8 := fun e => h.d8 (Ri.was e (by decide)), e1 := fun e => Ri.keep (h.e1 (Ri.was e (by decide))), e4 := fun e => Ri.keep (h.e4 (Ri.was e (by decide))), e5 := fun e => ⟨Ri.keep (h.e5 (Ri.was e (by decide))).1, Ri.keep (h.e5 (Ri.was e (by decide))).2⟩, e6 := fun e => Ri.keep (h.e6 (Ri.was e (by decide))), e7 := fun e => Ri.keep (h.e7 (Ri.was e (by decide))), e8 := fun e => Ri.keep (h.e8 (Ri.was e (by decide))), e9 := fun e => ⟨Ri.keep (h.e9 (Ri.was e (by decide))).1, Ri.keep (h.e9 (Ri.was e (by decide))).2⟩ }⟩
                · -- operation 1
                  have n9 : l.getD 9 false = false := by
                    cases hx : l.getD 9 false with
                    | false => rfl
                    | true =>
                      have a9 := hx
                      have a8 := (h.e9 a9).1
                      have a7 := (h.e8 a8)
                      have a1 := (h.e7 a7)
                      rw [hnot] at a1
                      cases a1
                  have kc1 := (h.w0 n9).1.c1
                  have v0 := h.d0 (Ri.dep hi (by rfl) (by rfl))
                  subst v0
                  refine Ri.op (by rfl) rfl ?_
                  go_simp
                  rw [HJ.out]
                  exact ⟨_, _, _, _, _, _, _, _, _, rfl, { sz := by simp [h.sz], w0 := fun e => h.w0 (Ri.wasf e), wf := fun e => h.wf (Ri.was e (by decide)), d0 := fun e => h.d0 (Ri.was e (by decide)), d1 := fun _ => rfl, d2 := fun n e => h.d2 (Ri.wasf n) (Ri.was e (by decide)), d3 := fun e => h.d3 (Ri.was e (by decide)), d4 := fun e => h.d4 (Ri.was e (by decide)), d5 := fun n e => h.d5 (Ri.wasf n) (Ri.was e (by decide)), d6 := fun e => h.d6 (Ri.was e (by decide)), d7 := fun e => h.d7 (Ri.was e (by decide)), d8 := fun e => h.d8 (Ri.was e (by decide)), e1 := fun _ => Ri.keep (Ri.dep hi (by rfl) (by rfl)), e4 := fun e => Ri.keep (h.e4 (Ri.was e (by decide))), e5 := fun e => ⟨Ri.keep (h.e5 (Ri.was e (by decide))).1, Ri.keep (h.e5 (Ri.was e (by decide))).2⟩, e6 := fun e => Ri.keep (h.e6 (Ri.was e (by decide))), e7 := fun e => Ri.keep (h.e7 (Ri.was e (by decide))), e8 := fun e => Ri.keep (h.e8 (Ri.was e (by decide))), e9 := fun e => ⟨Ri.keep (h.e9 (Ri.was e (by decide))).1, Ri.keep (h.e9 (Ri.was e (by decide))).2⟩ }⟩
                · -- operation 2
                  have n9 : l.getD 9 false = false := by
                    cases hx : l.getD 9 false with
                    | false => rfl
                    | true =>
                      have a9 := hx
                      have a6 := (h.e9 a9).2
                      have a5 := (h.e6 a6)
                      have a2 := (h.e5 a5).1
                      rw [hnot] at a2
                      cases a2
                  refine Ri.op (by rfl) rfl ?_
                  go_simp
                  have hbl : Below Wd.heap.size Wd (Wd.alloc (.cells #[.int .i64 0, .int .i64 1000, .int .i64 1001] 2)) := (Below.refl _ _).alloc (Nat.le_refl _) _
                  have hg := World.grownBy_alloc Wd (.cells #[.int .i64 0, .int .i64 1000, .int .i64 1001] 2) none
                  have hW := h.w0 n9
                  have ht' := hW.1.t.alloc (.cells #[.int .i64 0, .int .i64 1000, .int .i64 1001] 2)
                  have hlit : Dk.Lit S [0, 1000, 1001] (Wd.alloc (.cells #[.int .i64 0, .int .i64 1000, .int .i64 1001] 2)) (.slice (some ⟨Wd.heap.size, 0, none⟩) 3 3) := by
                    refine ⟨Wd.heap.size, rfl, by simp, by have := hW.1.t.1.lt.2; omega, fun i hi => ?_⟩
                    rw [Fk.cellTop _ _ _ _ _ rfl]
                    match i, hi with
                    | 0, _ => rfl
                    | 1, _ => rfl
                    | 2, _ => rfl
                  rw [HJ.out]
                  exact ⟨_, _, _, _, _, _, _, _, _, rfl, { sz := by simp [h.sz], w0 := fun _ => Bo.both_grown hW hg (.inl rfl) ht', wf := fun e => absurd (Ri.was e (by decide)) (by rw [n9]; decide), d0 := fun e => h.d0 (Ri.was e (by decide)), d1 := fun e => h.d1 (Ri.was e (by decide)), d2 := fun _ _ => hlit, d3 := fun e => h.d3 (Ri.was e (by decide)), d4 := fun e => h.d4 (Ri.was e (by decide)), d5 := fun n e => (h.d5 (Ri.wasf n) (Ri.was e (by decide))).grown hg (.inl rfl), d6 := fun e => h.d6 (Ri.was e (by decide)), d7 := fun e => h.d7 (Ri.was e (by decide)), d8 := fun e => h.d8 (Ri.was e (by decide)), e1 := fun e => Ri.keep (h.e1 (Ri.was e (by decide))), e4 := fun e => Ri.keep (h.e4 (Ri.was e (by decide))), e5 := fun e => ⟨Ri.keep (h.e5 (Ri.was e (by decide))).1, Ri.keep (h.e5 (Ri.was e (by decide))).2⟩, e6 := fun e => Ri.keep (h.e6 (Ri.was e (by decide))), e7 := fun e => Ri.keep (h.e7 (Ri.was e (by decide))), e8 := fun e => Ri.keep (h.e8 (Ri.was e (by decide))), e9 := fun e => ⟨Ri.keep (h.e9 (Ri.was e (by decide))).1, Ri.keep (h.e9 (Ri.was e (by decide))).2⟩ }⟩
                · -- operation 3
                  refine Ri.op (by rfl) rfl ?_
                  go_simp
                  rw [HJ.out]
                  exact ⟨_, _, _, _, _, _, _, _, _, rfl, { sz := by simp [h.sz], w0 := fun e => h.w0 (Ri.wasf e), wf := fun e => h.wf (Ri.was e (by decide)), d0 := fun e => h.d0 (Ri.was e (by decide)), d1 := fun e => h.d1 (Ri.was e (by decide)), d2 := fun n e => h.d2 (Ri.wasf n) (Ri.was e (by decide)), d3 := fun _ => rfl, d4 := fun e => h.d4 (Ri.was e (by decide)), d5 := fun n e => h.d5 (Ri.wasf n) (Ri.was e (by decide)), d6 := fun e => h.d6 (Ri.was e (by decide)), d7 := fun e => h.d7 (Ri.was e (by decide)), d8 := fun e => h.d8 (Ri.was e (by decide)), e1 := fun e => Ri.keep (h.e1 (Ri.was e (by decide))), e4 := fun e => Ri.keep (h.e4 (Ri.was e (by decide))), e5 := fun e => ⟨Ri.keep (h.e5 (Ri.was e (by decide))).1, Ri.keep (h.e5 (Ri.was e (by decide))).2⟩, e6 := fun e => Ri.keep (h.e6 (Ri.was e (by decide))), e7 := fun e => Ri.keep (h.e7 (Ri.was e (by decide))), e8 := fun e => Ri.keep (h.e8 (Ri.was e (by decide))), e9 := fun e => ⟨Ri.keep (h.e9 (Ri.was e (by decide))).1, Ri.keep (h.e9 (Ri.was e (by decide))).2⟩ }⟩
                · -- operation 4
                  have n9 : l.getD 9 false = false := by
                    cases hx : l.getD 9 false with
                    | false => rfl
                    | true =>
                      have a9 := hx
                      have a6 := (h.e9 a9).2
                      have a5 := (h.e6 a6)
                      have a4 := (h.e5 a5).2
                      rw [hnot] at a4
                      cases a4
                  have e1 := h.d3 (Ri.dep hi (by rfl) (by rfl))
                  subst e1
                  have hW := h.w0 n9
                  refine Ri.op (by rfl) rfl ?_
                  go_simp
                  refine (drawN_any B S 3 Wd hW.1.t.1 (by omega)).mono ?_
                  rintro e Y ⟨⟨r, rfl, r0, r1, _⟩, s1, hg⟩
                  have r2 := r1 (by omega)
                  have ht' := hW.1.t.next s1 hg
                  have er : ((r.toNat : Nat) : Int) = r := by omega
                  have hidx : Dk.Idx 3 (.int .i64 r) := ⟨r.toNat, by omega, by rw [er]⟩
                  go_simp
                  rw [HJ.out]
                  exact ⟨_, _, _, _, _, _, _, _, _, rfl, { sz := by simp [h.sz], w0 := fun _ => Bo.both_grown hW hg (.inr rfl) ht', wf := fun e => absurd (Ri.was e (by decide)) (by rw [n9]; decide), d0 := fun e => h.d0 (Ri.was e (by decide)), d1 := fun e => h.d1 (Ri.was e (by decide)), d2 := fun n e => (h.d2 (Ri.wasf n) (Ri.was e (by decide))).grown hg (.inr rfl), d3 := fun e => h.d3 (Ri.was e (by decide)), d4 := fun _ => hidx, d5 := fun n e => (h.d5 (Ri.wasf n) (Ri.was e (by decide))).grown hg (.inr rfl), d6 := fun e => h.d6 (Ri.was e (by decide)), d7 := fun e => h.d7 (Ri.was e (by decide)), d8 := fun e => h.d8 (Ri.was e (by decide)), e1 := fun e => Ri.keep (h.e1 (Ri.was e (by decide))), e4 := fun _ => Ri.keep (Ri.dep hi (by rfl) (by rfl)), e5 := fun e => ⟨Ri.keep (h.e5 (Ri.was e (by decide))).1, Ri.keep (h.e5 (Ri.was e (by decide))).2⟩, e6 := fun e => Ri.keep (h.e6 (Ri.was e (by decide))), e7 := fun e => Ri.keep (h.e7 (Ri.was e (by decide))), e8 := fun e => Ri.keep (h.e8 (Ri.was e (by decide))), e9 := fun e => ⟨Ri.keep (h.e9 (Ri.was e (by decide))).1, Ri.keep (h.e9 (Ri.was e (by decide))).2⟩ }⟩
                · -- operation 5
                  have n9 : l.getD 9 false = false := by
                    cases hx : l.getD 9 false with
                    | false => rfl
                    | true =>
                      have a9 := hx
                      have a6 := (h.e9 a9).2
                      have a5 := (h.e6 a6)
                      rw [hnot] at a5
                      cases a5
                  obtain ⟨g, e1, g1, g2, g3⟩ := h.d2 n9 (Ri.dep hi (by rfl) (by rfl))
                  obtain ⟨j, j1, e2⟩ := h.d4 (Ri.dep hi (by rfl) (by rfl))
                  subst e1 e2
                  have j2 : j < ([0, 1000, 1001] : List Int).length := j1
                  have hc := g3 j j2
                  have j3 : (j : Int) < 3 := by omega
                  refine Ri.op (by rfl) rfl ?_
                  go_simp
                  rw [HJ.out]
                  exact ⟨_, _, _, _, _, _, _, _, _, rfl, { sz := by simp [h.sz], w0 := fun e => h.w0 (Ri.wasf e), wf := fun e => h.wf (Ri.was e (by decide)), d0 := fun e => h.d0 (Ri.was e (by decide)), d1 := fun e => h.d1 (Ri.was e (by decide)), d2 := fun n e => h.d2 (Ri.wasf n) (Ri.was e (by decide)), d3 := fun e => h.d3 (Ri.was e (by decide)), d4 := fun e => h.d4 (Ri.was e (by decide)), d5 := fun _ _ => ⟨g, j, rfl, g1, g2, j2, hc⟩, d6 := fun e => h.d6 (Ri.was e (by decide)), d7 := fun e => h.d7 (Ri.was e (by decide)), d8 := fun e => h.d8 (Ri.was e (by decide)), e1 := fun e => Ri.keep (h.e1 (Ri.was e (by decide))), e4 := fun e => Ri.keep (h.e4 (Ri.was e (by decide))), e5 := fun _ => ⟨Ri.keep (Ri.dep hi (by rfl) (by rfl)), Ri.keep (Ri.dep hi (by rfl) (by rfl))⟩, e6 := fun e => Ri.keep (h.e6 (Ri.was e (by decide))), e7 := fun e => Ri.keep (h.e7 (Ri.was e (by decide))), e8 := fun e => Ri.keep (h.e8 (Ri.was e (by decide))), e9 := fun e => ⟨Ri.keep (h.e9 (Ri.was e (by decide))).1, Ri.keep (h.e9 (Ri.was e (by decide))).2⟩ }⟩
                · -- operation 6
                  have n9 : l.getD 9 false = false := by
                    cases hx : l.getD 9 false with
                    | false => rfl
                    | true =>
                      have a9 := hx
                      have a6 := (h.e9 a9).2
                      rw [hnot] at a6
                      cases a6
                  obtain ⟨g, j, e1, g1, g2, g3, hc⟩ := h.d5 n9 (Ri.dep hi (by rfl) (by rfl))
                  subst e1
                  obtain ⟨y, hy⟩ : ∃ y, y = List.getD ([0, 1000, 1001] : List Int) j 0 := ⟨_, rfl⟩
                  rw [← hy] at hc
                  have HY := Fk.hide hy
                  clear hy
                  refine Ri.op (by rfl) rfl ?_
                  go_simp
                  rw [HJ.out]
                  exact ⟨_, _, _, _, _, _, _, _, _, rfl, { sz := by simp [h.sz], w0 := fun e => h.w0 (Ri.wasf e), wf := fun e => h.wf (Ri.was e (by decide)), d0 := fun e => h.d0 (Ri.was e (by decide)), d1 := fun e => h.d1 (Ri.was e (by decide)), d2 := fun n e => h.d2 (Ri.wasf n) (Ri.was e (by decide)), d3 := fun e => h.d3 (Ri.was e (by decide)), d4 := fun e => h.d4 (Ri.was e (by decide)), d5 := fun n e => h.d5 (Ri.wasf n) (Ri.was e (by decide)), d6 := fun _ => ⟨j, g3, by rw [HY.out]⟩, d7 := fun e => h.d7 (Ri.was e (by decide)), d8 := fun e => h.d8 (Ri.was e (by decide)), e1 := fun e => Ri.keep (h.e1 (Ri.was e (by decide))), e4 := fun e => Ri.keep (h.e4 (Ri.was e (by decide))), e5 := fun e => ⟨Ri.keep (h.e5 (Ri.was e (by decide))).1, Ri.keep (h.e5 (Ri.was e (by decide))).2⟩, e6 := fun _ => Ri.keep (Ri.dep hi (by rfl) (by rfl)), e7 := fun e => Ri.keep (h.e7 (Ri.was e (by decide))), e8 := fun e => Ri.keep (h.e8 (Ri.was e (by decide))), e9 := fun e => ⟨Ri.keep (h.e9 (Ri.was e (by decide))).1, Ri.keep (h.e9 (Ri.was e (by decide))).2⟩ }⟩
                · -- operation 7
                  have v1 := h.d1 (Ri.dep hi (by rfl) (by rfl))
                  subst v1
                  refine Ri.op (by rfl) rfl ?_
                  go_simp
                  rw [HJ.out]
                  exact ⟨_, _, _, _, _, _, _, _, _, rfl, { sz := by simp [h.sz], w0 := fun e => h.w0 (Ri.wasf e), wf := fun e => h.wf (Ri.was e (by decide)), d0 := fun e => h.d0 (Ri.was e (by decide)), d1 := fun e => h.d1 (Ri.was e (by decide)), d2 := fun n e => h.d2 (Ri.wasf n) (Ri.was e (by decide)), d3 := fun e => h.d3 (Ri.was e (by decide)), d4 := fun e => h.d4 (Ri.was e (by decide)), d5 := fun n e => h.d5 (Ri.wasf n) (Ri.was e (by decide)), d6 := fun e => h.d6 (Ri.was e (by decide)), d7 := fun _ => rfl, d8 := fun e => h.d8 (Ri.was e (by decide)), e1 := fun e => Ri.keep (h.e1 (Ri.was e (by decide))), e4 := fun e => Ri.keep (h.e4 (Ri.was e (by decide))), e5 := fun e => ⟨Ri.keep (h.e5 (Ri.was e (by decide))).1, Ri.keep (h.e5 (Ri.was e (by decide))).2⟩, e6 := fun e => Ri.keep (h.e6 (Ri.was e (by decide))), e7 := fun _ => Ri.keep (Ri.dep hi (by rfl) (by rfl)), e8 := fun e => Ri.keep (h.e8 (Ri.was e (by decide))), e9 := fun e => ⟨Ri.keep (h.e9 (Ri.was e (by decide))).1, Ri.keep (h.e9 (Ri.was e (by decide))).2⟩ }⟩
                · -- operation 8
                  have v7 := h.d7 (Ri.dep hi (by rfl) (by rfl))
                  subst v7
                  refine Ri.op (by rfl) rfl ?_
                  go_simp
                  rw [HJ.out]
                  exact ⟨_, _, _, _, _, _, _, _, _, rfl, { sz := by simp [h.sz], w0 := fun e => h.w0 (Ri.wasf e), wf := fun e => h.wf (Ri.was e (by decide)), d0 := fun e => h.d0 (Ri.was e (by decide)), d1 := fun e => h.d1 (Ri.was e (by decide)), d2 := fun n e => h.d2 (Ri.wasf n) (Ri.was e (by decide)), d3 := fun e => h.d3 (Ri.was e (by decide)), d4 := fun e => h.d4 (Ri.was e (by decide)), d5 := fun n e => h.d5 (Ri.wasf n) (Ri.was e (by decide)), d6 := fun e => h.d6 (Ri.was e (by decide)), d7 := fun e => h.d7 (Ri.was e (by decide)), d8 := fun _ => rfl, e1 := fun e => Ri.keep (h.e1 (Ri.was e (by decide))), e4 := fun e => Ri.keep (h.e4 (Ri.was e (by decide))), e5 := fun e => ⟨Ri.keep (h.e5 (Ri.was e (by decide))).1, Ri.keep (h.e5 (Ri.was e (by decide))).2⟩, e6 := fun e => Ri.keep (h.e6 (Ri.was e (by decide))), e7 := fun e => Ri.keep (h.e7 (Ri.was e (by decide))), e8 := fun _ => Ri.keep (Ri.dep hi (by rfl) (by rfl)), e9 := fun e => ⟨Ri.keep (h.e9 (Ri.was e (by decide))).1, Ri.keep (h.e9 (Ri.was e (by decide))).2⟩ }⟩
                · -- operation 9
                  have v8 := h.d8 (Ri.dep hi (by rfl) (by rfl))
                  obtain ⟨j, j1, e6⟩ := h.d6 (Ri.dep hi (by rfl) (by rfl))
                  obtain ⟨y, hy⟩ : ∃ y, y = List.getD ([0, 1000, 1001] : List Int) j 0 := ⟨_, rfl⟩
                  rw [← hy] at e6
                  clear hy
                  subst v8 e6
                  have hW := h.w0 hnot
                  have hy0 : 0 < Y.length := by have := hW.2.a.len; omega
                  have k3 := Or.o3 hW.2.a hy0
                  simp only [Nat.zero_mul, Nat.zero_add] at k3
                  have kf := hW.2.a.frozen 3
                  have hput := Bo.both_put2 hW hy0 3 (by decide) (.int .i64 y) ((Rk.at_ Or.S Y 0).1, (Rk.at_ Or.S Y 0).2.1, (Rk.at_ Or.S Y 0).2.2.1, y, (Rk.at_ Or.S Y 0).2.2.2.2) rfl
                  have HPUT := Fk.hide hput
                  clear hput
                  refine Ri.op (by rfl) rfl ?_
                  go_simp
                  rw [HJ.out]
                  exact ⟨_, _, _, _, _, _, _, _, _, rfl, { sz := by simp [h.sz], w0 := fun e => absurd e (by simp [Array.getD, h.sz]), wf := fun _ => ⟨_, List.length_set, HPUT.out⟩, d0 := fun e => h.d0 (Ri.was e (by decide)), d1 := fun e => h.d1 (Ri.was e (by decide)), d2 := fun n _ => absurd n (by simp [Array.getD, h.sz]), d3 := fun e => h.d3 (Ri.was e (by decide)), d4 := fun e => h.d4 (Ri.was e (by decide)), d5 := fun n _ => absurd n (by simp [Array.getD, h.sz]), d6 := fun e => h.d6 (Ri.was e (by decide)), d7 := fun e => h.d7 (Ri.was e (by decide)), d8 := fun e => h.d8 (Ri.was e (by decide)), e1 := fun e => Ri.keep (h.e1 (Ri.was e (by decide))), e4 := fun e => Ri.keep (h.e4 (Ri.was e (by decide))), e5 := fun e => ⟨Ri.keep (h.e5 (Ri.was e (by decide))).1, Ri.keep (h.e5 (Ri.was e (by decide))).2⟩, e6 := fun e => Ri.keep (h.e6 (Ri.was e (by decide))), e7 := fun e => Ri.keep (h.e7 (Ri.was e (by decide))), e8 := fun e => Ri.keep (h.e8 (Ri.was e (by decide))), e9 := fun _ => ⟨Ri.keep (Ri.dep hi (by rfl) (by rfl)), Ri.keep (Ri.dep hi (by rfl) (by rfl))⟩ }⟩
        · skip
          have hXY : X.length + Y.length ≤ 22 := by omega
          have c40 : rg = 4 := by omega
          subst c40
          go_wp2_with fail
          go_loopw [6] (fun i wr' => ∃ (j : Int) (v' : Value) (LY : List Or.E), i = .int .i64 j ∧ 0 ≤ j ∧ j ≤ 25 ∧ Hid ((LY.length : Int) ≤ Y.length + j) ∧ Hid (Bo.Hold B S q w wr' (.slice ua un uc) v' n X LY)) (fun i _ => (25 - intOf i).toNat)
          case atStart => exact ⟨0, _, Y, rfl, by omega, by omega, by show _ ≤ _; omega, H5.out⟩
          case round =>
            obtain ⟨i, v', LY, rfl, hi0', hi1, HLY, HH⟩ := hrel
            go_wp2_with fail
            refine (drawN_any B S 3 _ HH.out.t.1 (by omega)).mono ?_
            rintro e w6 ⟨⟨rr, rfl, rr0, rr1, _⟩, s6, g6⟩
            have rrl := rr1 (by omega)
            have H6 := Fk.hide (HH.out.next hSw s6 g6)
            clear s6 g6 rr1 HH
            obtain ⟨xa, xn, xc, rfl⟩ := H6.out.two.a.slice'
            by_cases hlt : i < 23 + rr
            · have k1 := H6.out.c1
              have kf := H6.out.cf
              have hW := H6.out.pre (by omega) hSw
              have hb5 : Below w6.heap.size w6 (w6.alloc (.cells #[.int .i64 (100 + i), .int .i64 1, .int .i64 9000, .int .i64 1, .bool false, .int .i64 0, .int .i64 0, .bool false] 40)) := (Below.refl _ _).alloc (Nat.le_refl _) _
              have HH5 := Fk.hide ((H6.out.below hSw hb5).pre (by omega) hSw)
              have HV5 := Fk.hide (Rk.view_lit1 (S := Or.S) w6 40 #[.int .i64 (100 + i), .int .i64 1, .int .i64 9000, .int .i64 1, .bool false, .int .i64 0, .int .i64 0, .bool false] (100 + i, 1, 9000, 1, false, 0, 0, false) rfl)
              have hln : LY.length ≤ 47 := by have := HLY.out; omega
              have hxl : LY.length = xn := by obtain ⟨x1, x2, hx⟩ := H6.out.two.a.slice; simp only [Value.slice.injEq] at hx; exact hx.2.1.symm
              have HXL := Fk.hide hxl
              clear hxl hW hb5
              have hq6 : q + 1 ≤ (w6.alloc (.cells #[.int .i64 (100 + i), .int .i64 1, .int .i64 9000, .int .i64 1, .bool false, .int .i64 0, .int .i64 0, .bool false] 40)).heap.size := by have := HH5.out.1.q1; omega
              have HQ6 := Fk.hide hq6
              clear hq6
              go_wp2_with (at_builtin; refine Rk.wpList_append_where _ rfl _ _ 23 rfl (q + 1) 40 i0 _ 8 64 rfl Try.underlying23 hi0 hz0 hz1 hz2 rfl (by decide) (.slice xa xn xc) (.slice (some ⟨w6.heap.size, 0, none⟩) 1 1) LY [(100 + i, 1, 9000, 1, false, 0, 0, false)] rfl rfl HH5.out.2.a HV5.out (Rk.shut_some _ _ _) (by simp <;> omega) HQ6.out ?_; intro u7 w7 o7 g7 ne7; have hb7 := Bo.both_more2 HH5.out o7 g7 ne7; have k7 := hb7.1.c1; have kf7 := hb7.1.cf; obtain ⟨ya, yn, yc, rfl⟩ := o7.slice'; have HB7 := Fk.hide hb7; clear hb7 o7 g7 ne7)
              have HF := Fk.hide (Bo.Pre.hold ⟨HB7.out.1.set1 (.slice ya yn yc), HB7.out.2.set 1 (.slice ya yn yc)⟩)
              go_roundw
              case rel => exact ⟨i + 1, _, _, by go_num, by omega, by omega, by show _ ≤ _; rw [List.length_append]; have := HLY.out; simp; omega, HF.out⟩
              case measure => simp [intOf]; omega
            · have HW2 := Fk.hide (H6.out.pre (by omega) hSw)
              have k2 := H6.out.c2
              have kf := H6.out.cf
              have H7 := Fk.hide (Bo.Pre.hold ⟨HW2.out.1.set2 200, HW2.out.2.set 2 (.int .i64 200)⟩)
              have hln : LY.length ≤ 47 := by have := HLY.out; omega
              have oc0 := H7.out.c0
              have oc1 := H7.out.c1
              have oc2 := H7.out.c2
              have ocf := H7.out.cf
              have oz0 := H7.out.z0
              have oz1 := H7.out.z1
              have oz2 := H7.out.z2
              have ozf := H7.out.zf
              have hqq : q ≠ w.heap.size := by have := H7.out.q0; omega
              have hqr : w.heap.size ≠ q := by omega
              go_wp2_with fail
              refine bodyPost_ret (v := .agg #[.slice ua un uc, .slice xa xn xc, .int .i64 200]) (by simp [results, Try.results30, go_sem, oz0, oz1, oz2] <;> rfl) rfl ⟨⟨_, _, _, X, LY, rfl, (H7.out.fin (by omega) hSw _ _ _).1, by have := HLY.out; omega⟩, (H7.out.fin (by omega) hSw _ _ _).2⟩
end Go.Proofs.Ytfagldipjpaceaa

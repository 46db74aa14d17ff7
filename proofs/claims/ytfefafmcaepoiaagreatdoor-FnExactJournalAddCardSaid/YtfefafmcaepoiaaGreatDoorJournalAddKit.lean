/- What holds all along a statement that calls, and stores an answer of files and a code in a variable of its own, whenever that variable's block is laid. -/
import Derived.Test.YtfefafmcaepoiaaGreatDoorFsMark
namespace Go.Proofs.YtfefafmcaepoiaaGreatDoor
open Go.RowKit Go.Maps
set_option linter.unusedVariables false
namespace Jn
/-- memory from w1 on is new, and the files of u are there -/
def Reg (base : Nat) (w1 w' : World) (u : Value) (L : List Fk.Fl) : Prop := Below w1.heap.size w1 w' ∧ Fk.Own w' base 73 u L ∧ ∀ k, u.ownBlock = some k → k < w1.heap.size
theorem regOwn {base p : Nat} {w1 X : World} {u : Value} {L : List Fk.Fl} (h : X.cell? ⟨p, 0, none⟩ = some u ∧ Hid (Reg base w1 X u L)) : Fk.Own X base 73 u L := h.2.out.2.1
theorem regSize {base p : Nat} {w1 X : World} {u : Value} {L : List Fk.Fl} (h : X.cell? ⟨p, 0, none⟩ = some u ∧ Hid (Reg base w1 X u L)) : w1.heap.size ≤ X.heap.size := h.2.out.1.size
theorem regBelow {base p : Nat} {w1 X Y : World} {u : Value} {L : List Fk.Fl} (hp : p < w1.heap.size) (hb : Below X.heap.size X Y) (h : X.cell? ⟨p, 0, none⟩ = some u ∧ Hid (Reg base w1 X u L)) : Y.cell? ⟨p, 0, none⟩ = some u ∧ Hid (Reg base w1 Y u L) :=
  ⟨(hb.cell (by have := h.2.out.1.size; show p < _; omega)).trans h.1, h.2.out.1.trans (hb.mono h.2.out.1.size), h.2.out.2.1.below hb, h.2.out.2.2⟩
theorem regStore {base p b j : Nat} {w1 X : World} {u x : Value} {L : List Fk.Fl} (hp : p < w1.heap.size) (hb : w1.heap.size ≤ b) (h : X.cell? ⟨p, 0, none⟩ = some u ∧ Hid (Reg base w1 X u L)) : (X.setCell ⟨b, j, none⟩ x).cell? ⟨p, 0, none⟩ = some u ∧ Hid (Reg base w1 (X.setCell ⟨b, j, none⟩ x) u L) :=
  ⟨by rw [World.cell?_setCell_other _ _ _ _ (by intro e; have := congrArg Addr.block e; simp at this; omega)]; exact h.1,
   h.2.out.1.setCell hb _, h.2.out.2.1.kept (Fk.grownBy_setCell X b j x) (fun k hk e => by have := h.2.out.2.2 k hk; have h9 : k = b := Option.some.inj e; omega), h.2.out.2.2⟩
/-- a variable's block of two cells, at or behind z -/
def Y (z : Nat) (w' : World) (b : Nat) (x y : Value) : Prop :=
  z ≤ b ∧ b < w'.heap.size ∧ w'.cell? ⟨b, 0, none⟩ = some x ∧ w'.cell? ⟨b, 1, none⟩ = some y ∧ ∀ j, w'.frozen? ⟨b, j, none⟩ = false
theorem Y.new {z : Nat} {w' : World} {x y : Value} {t : TypeId} (h : z ≤ w'.heap.size) : Hid (Y z (w'.alloc (.cells #[x, y] t)) w'.heap.size x y) :=
  ⟨h, by simp, by rw [Fk.cellTop _ _ _ _ _ rfl]; rfl, by rw [Fk.cellTop _ _ _ _ _ rfl]; rfl, fun j => by rw [Fk.frozTop _ _ _ _ _ rfl]⟩
theorem Y.below {z b : Nat} {w1 w2 : World} {x y : Value} (hb : Below w1.heap.size w1 w2) (h : Hid (Y z w1 b x y)) : Hid (Y z w2 b x y) := by
  obtain ⟨h1, h2, h3, h4, h5⟩ := h.out
  exact ⟨h1, Nat.lt_of_lt_of_le h2 hb.size, (hb.cell h2).trans h3, (hb.cell h2).trans h4, fun j => (hb.frozen h2).trans (h5 j)⟩
/-- the answer stands in its variable -/
structure Got (w1 z : World) (b : Nat) (u : Value) (R : List Fk.Fl) (c : Int) : Prop where
  bel : Below w1.heap.size w1 z
  lo : w1.heap.size ≤ b
  c0 : z.cell? ⟨b, 0, none⟩ = some u
  c1 : z.cell? ⟨b, 1, none⟩ = some (.int .i64 c)
  own : Fk.Own z w1.heap.size 73 u R
theorem Got.store {base p b z1 : Nat} {w1 X : World} {u v x y : Value} {L R : List Fk.Fl} {c : Int} (h : X.cell? ⟨p, 0, none⟩ = some u ∧ Hid (Reg base w1 X u L)) (hY : Hid (Y w1.heap.size X b x y)) (ho : Fk.Own X z1 73 v R) (hb : b < z1) (hz : w1.heap.size ≤ z1) :
    Got w1 ((X.setCell ⟨b, 0, none⟩ v).setCell ⟨b, 1, none⟩ (.int .i64 c)) b v R c := by
  obtain ⟨h1, h2, h3, h4, h5⟩ := hY.out
  have hn : ∀ k, v.ownBlock = some k → some k ≠ some b := fun k hk e => by have := (World.ownsRow.lt ho k hk).1; have h9 : k = b := Option.some.inj e; omega
  refine ⟨(h.2.out.1.setCell h1 _).setCell h1 _, h1, ?_, ?_, ?_⟩
  · rw [World.cell?_setCell_other _ _ _ _ (by simp)]; exact World.cell?_setCell_same _ _ _ h3
  · refine World.cell?_setCell_same _ _ _ (u := y) ?_
    rw [World.cell?_setCell_other _ _ _ _ (by simp)]; exact h4
  · exact ((ho.kept (Fk.grownBy_setCell X b 0 v) hn).kept (Fk.grownBy_setCell _ b 1 _) hn).mono hz
theorem Got.fresh {base p z1 : Nat} {w1 X : World} {u v : Value} {L R : List Fk.Fl} {c : Int} {t : TypeId} (h : X.cell? ⟨p, 0, none⟩ = some u ∧ Hid (Reg base w1 X u L)) (ho : Fk.Own X z1 73 v R) (hz : w1.heap.size ≤ z1) :
    Got w1 (X.alloc (.cells #[v, .int .i64 c] t)) X.heap.size v R c :=
  ⟨h.2.out.1.alloc h.2.out.1.size _, h.2.out.1.size, by rw [Fk.cellTop _ _ _ _ _ rfl]; rfl, by rw [Fk.cellTop _ _ _ _ _ rfl]; rfl, (ho.below ((Below.refl _ _).alloc (Nat.le_refl _) _)).mono hz⟩
theorem got_normal {K : Act → World → Prop} {e : Exit} {a : Act} {z : World} (h : Exit.then K (fun _ _ _ => False) e a z) : e = .normal ∧ K a z := by
  cases e <;> first | exact ⟨rfl, h⟩ | exact h.elim
end Jn
end Go.Proofs.YtfefafmcaepoiaaGreatDoor

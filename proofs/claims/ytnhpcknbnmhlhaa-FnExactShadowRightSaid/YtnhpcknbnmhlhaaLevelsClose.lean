/- The walk of the specification's l07Close: the newer book that a book at work is. -/
import Derived.Test.YtnhpcknbnmhlhaaLevelsSpec
import Derived.Deep.RegionHeld3
namespace Go.Proofs.Ytnhpcknbnmhlhaa
open Go.RowKit
set_option linter.unusedVariables false
set_option linter.unusedSimpArgs false
/-- two lists of levels that the call has made, the first below a number, the second from there on -/
def Lv.Pair (w : World) (base : Nat) (eh eo : TypeId) (u v : Value) (B A : List Lv.E) : Prop := ∃ HB HA mid, Lv.Own w base eh eo u B HB ∧ Lv.Own w mid eh eo v A HA ∧ Lv.Under mid u B HB ∧ base ≤ mid ∧ mid ≤ w.heap.size
theorem Lv.Pair.below {w w' : World} {base : Nat} {eh eo : TypeId} {u v : Value} {B A : List Lv.E} (h : Lv.Pair w base eh eo u v B A) (hB : Below w.heap.size w w') : Lv.Pair w' base eh eo u v B A := by
  obtain ⟨HB, HA, mid, h1, h2, h3, h4, h5⟩ := h
  exact ⟨HB, HA, mid, h1.below hB, h2.below hB, h3, h4, Nat.le_trans h5 hB.size⟩
theorem Lv.Pair.mono {w : World} {base base' : Nat} {eh eo : TypeId} {u v : Value} {B A : List Lv.E} (h : Lv.Pair w base eh eo u v B A) (hb : base' ≤ base) : Lv.Pair w base' eh eo u v B A := by
  obtain ⟨HB, HA, mid, h1, h2, h3, h4, h5⟩ := h
  exact ⟨HB, HA, mid, h1.mono hb, h2, h3, by omega, h5⟩
theorem Lv.Pair.setBelow {w : World} {base : Nat} {eh eo : TypeId} {u v : Value} {B A : List Lv.E} (h : Lv.Pair w base eh eo u v B A) {b : Nat} (hb : b < base) (i : Nat) (x : Value) : Lv.Pair (w.setCell ⟨b, i, none⟩ x) base eh eo u v B A := by
  obtain ⟨HB, HA, mid, h1, h2, h3, h4, h5⟩ := h
  exact ⟨HB, HA, mid, h1.setBelow hb i x, h2.setBelow (by omega) i x, h3, h4, by simpa [World.setCell] using h5⟩
theorem Lv.Pair.left {w : World} {base : Nat} {eh eo : TypeId} {u v : Value} {B A : List Lv.E} (h : Lv.Pair w base eh eo u v B A) : Lv.View w u B := by
  obtain ⟨HB, HA, mid, h1, h2, h3, h4, h5⟩ := h
  exact h1.view
theorem Lv.Pair.right {w : World} {base : Nat} {eh eo : TypeId} {u v : Value} {B A : List Lv.E} (h : Lv.Pair w base eh eo u v B A) : Lv.View w v A := by
  obtain ⟨HB, HA, mid, h1, h2, h3, h4, h5⟩ := h
  exact h2.view
theorem Lv.Pair.two {w w' : World} {base : Nat} {eh eo : TypeId} {u v : Value} {B A : List Lv.E} {HB HA : List Lv.H} (h1 : Lv.Own w base eh eo u B HB) (h2 : Lv.Own w' w.heap.size eh eo v A HA) (hB : Below w.heap.size w w') (hb : base ≤ w.heap.size) : Lv.Pair w' base eh eo u v B A :=
  ⟨HB, HA, w.heap.size, h1.below hB, h2, h1.under, hb, hB.size⟩
theorem Lv.past3 {w : World} {b p i : Nat} {x y z v : Value} (hb : p ≠ b) (h : w.cell? ⟨p, i, none⟩ = some v) : (((w.setCell ⟨b, 0, none⟩ x).setCell ⟨b, 1, none⟩ y).setCell ⟨b, 2, none⟩ z).cell? ⟨p, i, none⟩ = some v := by
  have hne : ∀ j, (⟨b, j, none⟩ : Addr) ≠ ⟨p, i, none⟩ := fun j e => by simp only [Addr.mk.injEq] at e; exact hb e.1.symm
  rw [World.cell?_setCell_other _ _ _ _ (by first | exact hne 2 | exact (hne 2).symm), World.cell?_setCell_other _ _ _ _ (by first | exact hne 1 | exact (hne 1).symm), World.cell?_setCell_other _ _ _ _ (by first | exact hne 0 | exact (hne 0).symm)]
  exact h
end Go.Proofs.Ytnhpcknbnmhlhaa

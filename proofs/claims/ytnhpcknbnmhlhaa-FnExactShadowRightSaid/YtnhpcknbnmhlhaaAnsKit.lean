/- Answers that have lists of their own: in which rows they lie, and how they are kept while other rows are written. No function of the program here. -/
import Derived.Test.YtnhpcknbnmhlhaaOldLaw
import Derived.Test.YtnhpcknbnmhlhaaLevelGrow
namespace Go.Proofs.Ytnhpcknbnmhlhaa
open Go.RowKit
set_option linter.unusedVariables false
set_option linter.unusedSimpArgs false
namespace Aw
/-- two lists of orders, in rows from a on and below b -/
def Ord (w : World) (e : TypeId) (a b : Nat) (u v : Value) (F G : List Or.E) : Prop := Ob.Two w a e u v F G ∧ (∀ k, u.ownBlock = some k → k < b) ∧ (∀ k, v.ownBlock = some k → k < b)
theorem Ord.below {w w' : World} {e : TypeId} {a b : Nat} {u v : Value} {F G : List Or.E} (h : Ord w e a b u v F G) (hB : Below w.heap.size w w') : Ord w' e a b u v F G := ⟨h.1.below hB, h.2⟩
theorem Ord.keep {w w' : World} {e : TypeId} {a b lo hi : Nat} {u v : Value} {F G : List Or.E} (h : Ord w e a b u v F G) (ho : Lv.Only lo hi w w') (hs : b ≤ lo ∨ hi ≤ a) : Ord w' e a b u v F G :=
  ⟨⟨ho.keeps h.1.b (fun k hk => by have h1 := (h.1.b.lt k hk).1; have h2 := h.2.1 k hk; omega), ho.keeps h.1.a (fun k hk => by have h1 := (h.1.a.lt k hk).1; have h2 := h.2.2 k hk; omega), h.1.ne⟩, h.2⟩
theorem Ord.top {w : World} {e : TypeId} {a : Nat} {u v : Value} {F G : List Or.E} (h : Ob.Two w a e u v F G) : Ord w e a w.heap.size u v F G := ⟨h, fun k hk => (h.b.lt k hk).2, fun k hk => (h.a.lt k hk).2⟩
theorem Ord.slices {w : World} {e : TypeId} {a b : Nat} {u v : Value} {F G : List Or.E} (h : Ord w e a b u v F G) : ∃ x n c y m d, u = .slice x n c ∧ v = .slice y m d := by
  obtain ⟨x, c, h1⟩ := h.1.b.slice
  obtain ⟨y, d, h2⟩ := h.1.a.slice
  exact ⟨_, _, _, _, _, _, h1, h2⟩
/-- what is written into one of two rows lies in them -/
theorem only_row {w w' : World} {a b : Nat} {row : Option Nat} (h : w.grownBy w' row) (hr : ∀ k, row = some k → a ≤ k ∧ k < b) : Lv.Only a b w w' := Lv.Only.of_grown h hr
/-- two lists of levels, in rows from a on and below b -/
def Lev (w : World) (eh eo : TypeId) (a b : Nat) (u v : Value) (B A : List Lv.E) : Prop := ∃ HB HA mid, Lv.Own w a eh eo u B HB ∧ Lv.Own w mid eh eo v A HA ∧ Lv.Under mid u B HB ∧ Lv.Under b v A HA ∧ a ≤ mid ∧ mid ≤ b ∧ b ≤ w.heap.size
theorem Lev.below {w w' : World} {eh eo : TypeId} {a b : Nat} {u v : Value} {B A : List Lv.E} (h : Lev w eh eo a b u v B A) (hB : Below w.heap.size w w') : Lev w' eh eo a b u v B A := by
  obtain ⟨HB, HA, mid, h1, h2, h3, h4, h5, h6, h7⟩ := h
  exact ⟨HB, HA, mid, h1.below hB, h2.below hB, h3, h4, h5, h6, Nat.le_trans h7 hB.size⟩
theorem own_out {w w' : World} {eh eo : TypeId} {lo hi base : Nat} {v : Value} {L : List Lv.E} {Hs : List Lv.H} (h : Lv.Own w base eh eo v L Hs) (ho : Lv.Only lo hi w w') (hu : Lv.Under lo v L Hs) : Lv.Own w' base eh eo v L Hs :=
  ⟨h.len, ho.keeps h.row (fun k hk => .inl (hu.row k hk)), h.price, fun i hi => ho.keeps (h.each i hi) (fun k hk => .inl (hu.each i hi k hk)), h.off, h.ne⟩
theorem Lev.keep {w w' : World} {eh eo : TypeId} {a b lo hi : Nat} {u v : Value} {B A : List Lv.E} (h : Lev w eh eo a b u v B A) (ho : Lv.Only lo hi w w') (hs : b ≤ lo ∨ hi ≤ a) : Lev w' eh eo a b u v B A := by
  obtain ⟨HB, HA, mid, h1, h2, h3, h4, h5, h6, h7⟩ := h
  refine ⟨HB, HA, mid, ?_, ?_, h3, h4, h5, h6, Nat.le_trans h7 ho.size⟩
  · rcases hs with hs | hs
    · exact own_out h1 ho (h3.mono (by omega))
    · exact h1.only ho hs
  · rcases hs with hs | hs
    · exact own_out h2 ho (h4.mono hs)
    · exact h2.only ho (by omega)
theorem Lev.slices {w : World} {eh eo : TypeId} {a b : Nat} {u v : Value} {B A : List Lv.E} (h : Lev w eh eo a b u v B A) : ∃ x n c y m d, u = .slice x n c ∧ v = .slice y m d := by
  obtain ⟨HB, HA, mid, h1, h2, _⟩ := h
  obtain ⟨x, c, e1⟩ := h1.slice
  obtain ⟨y, d, e2⟩ := h2.slice
  exact ⟨_, _, _, _, _, _, e1, e2⟩
theorem Lev.views {w : World} {eh eo : TypeId} {a b : Nat} {u v : Value} {B A : List Lv.E} (h : Lev w eh eo a b u v B A) : Lv.View w u B ∧ Lv.View w v A := by
  obtain ⟨HB, HA, mid, h1, h2, _⟩ := h
  exact ⟨h1.view, h2.view⟩
end Aw
end Go.Proofs.Ytnhpcknbnmhlhaa

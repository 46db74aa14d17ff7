/- The walk of the specification's l07Levels: orders laid into levels. -/
import Derived.Test.YtnhpcknbnmhlhaaLevelsMath
import Derived.Test.YtnhpcknbnmhlhaaLevelGrow
import Derived.Test.YtnhpcknbnmhlhaaOldBook
import Derived.Test.YtnhpcknbnmhlhaaRowsWhere
import Derived.Test.YtnhpcknbnmhlhaaNewLaw
namespace Go.Proofs.Ytnhpcknbnmhlhaa
open Go.RowKit
set_option linter.unusedVariables false
set_option linter.unusedSimpArgs false
/-- a seen list stays where another row has grown -/
theorem Rk.view_grown {α : Type} {S : Rk.Shape α} {w w' : World} {b n c : Nat} {L : List α} {row : Option Nat} (h : Rk.View S w (.slice (some ⟨b, 0, none⟩) n c) L) (hg : w.grownBy w' row) (hb : some b ≠ row) : Rk.View S w' (.slice (some ⟨b, 0, none⟩) n c) L := by
  obtain ⟨a, cap, e, hs⟩ := h
  simp only [Value.slice.injEq] at e
  refine ⟨some ⟨b, 0, none⟩, cap, by rw [e.2.1, e.2.2], fun h0 => ?_⟩
  obtain ⟨b', o', e', hlt, hsee⟩ := hs h0
  rw [← e.1] at e'
  simp only [Option.some.injEq, Addr.mk.injEq] at e'
  obtain ⟨rfl, rfl, _⟩ := e'
  refine ⟨b, 0, rfl, Nat.lt_of_lt_of_le hlt hg.size, fun i hi j hj => ?_⟩
  rw [World.cell?_of_block (a := ⟨b, 0 + i * S.m + j, none⟩) (hg.block b hlt hb)]
  exact hsee i hi j hj
end Go.Proofs.Ytnhpcknbnmhlhaa

/- A number picked from a literal list while draws are made: what holds of the list, of the place, of the number. No function of the program here. -/
import Derived.Test.YtficlppngnnpoaaDrawT
import Derived.Test.YtficlppngnnpoaaRegionInv
namespace Go.Proofs.Ytficlppngnnpoaa
open Go.RowKit
set_option linter.unusedVariables false
set_option linter.unusedSimpArgs false
namespace Dk
/-- a literal list of numbers lies somewhere -/
def Lit (S : Nat) (A : List Int) (w : World) (x : Value) : Prop := ∃ g, x = .slice (some ⟨g, 0, none⟩) A.length A.length ∧ g < w.heap.size ∧ g ≠ S ∧ ∀ i, i < A.length → w.cell? ⟨g, i, none⟩ = some (.int .i64 (A.getD i 0))
/-- a place in it -/
def Ptr (S : Nat) (A : List Int) (w : World) (x : Value) : Prop := ∃ g i, x = .pointer (some ⟨g, i, none⟩) ∧ g < w.heap.size ∧ g ≠ S ∧ i < A.length ∧ w.cell? ⟨g, i, none⟩ = some (.int .i64 (A.getD i 0))
/-- a number of it -/
def Num (A : List Int) (x : Value) : Prop := ∃ i, i < A.length ∧ x = .int .i64 (A.getD i 0)
/-- a number below n -/
def Idx (n : Nat) (x : Value) : Prop := ∃ i : Nat, i < n ∧ x = .int .i64 (i : Int)
theorem Lit.grown {S : Nat} {A : List Int} {w w' : World} {x : Value} {r : Option Nat} (h : Lit S A w x) (hg : w.grownBy w' r) (hr : r = none ∨ r = some S) : Lit S A w' x := by
  obtain ⟨g, h1, h2, h3, h4⟩ := h
  have hne : some g ≠ r := by rcases hr with rfl | rfl <;> simp [h3]
  exact ⟨g, h1, Nat.lt_of_lt_of_le h2 hg.size, h3, fun i hi => (hg.cell_far ⟨g, i, none⟩ h2 hne).trans (h4 i hi)⟩
theorem Ptr.grown {S : Nat} {A : List Int} {w w' : World} {x : Value} {r : Option Nat} (h : Ptr S A w x) (hg : w.grownBy w' r) (hr : r = none ∨ r = some S) : Ptr S A w' x := by
  obtain ⟨g, i, h1, h2, h3, h4, h5⟩ := h
  have hne : some g ≠ r := by rcases hr with rfl | rfl <;> simp [h3]
  exact ⟨g, i, h1, Nat.lt_of_lt_of_le h2 hg.size, h3, h4, (hg.cell_far ⟨g, i, none⟩ h2 hne).trans h5⟩
end Dk
end Go.Proofs.Ytficlppngnnpoaa

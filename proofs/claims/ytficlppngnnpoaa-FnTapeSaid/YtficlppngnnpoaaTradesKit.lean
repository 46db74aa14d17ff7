/- The shape of Trade as a list's element. No function of the program here. -/
import Derived.Test.YtficlppngnnpoaaRowsKit
namespace Go.Proofs.Ytficlppngnnpoaa
open Go.RowKit
set_option linter.unusedVariables false
set_option linter.unusedSimpArgs false
/-- Trade -/
abbrev Td.E := Int × Int
def Td.S : Rk.Shape Td.E where
  m := 2
  cs f := [.int .i64 (f.1), .int .i64 (f.2)]
  z := (0, 0)
  pos := by decide
  len := fun _ => rfl
  one := fun a u hu => by
    simp at hu
    rcases hu with rfl | rfl <;> rfl
/-- numbers and texts that a machine can hold -/
def Td.Fit (f : Td.E) : Prop := (-9223372036854775808 ≤ f.1 ∧ f.1 ≤ 9223372036854775807) ∧ (-9223372036854775808 ≤ f.2 ∧ f.2 ≤ 9223372036854775807)
theorem Td.fit_at {L : List Td.E} (h : ∀ f ∈ L, Td.Fit f) (i : Nat) : Td.Fit (Rk.at_ Td.S L i) := by
  by_cases hi : i < L.length
  · exact h _ (Rk.at_mem L i hi)
  · have e : Rk.at_ Td.S L i = Td.S.z := by simp [Rk.at_, List.getD, List.getElem?_eq_none (Nat.le_of_not_lt hi)]
    rw [e]
    simp [Td.Fit, Td.S, maxLen]
theorem Td.c0 {w : World} {b o k : Nat} {L : List Td.E} (h : Rk.Sees Td.S w b o L) (hk : k < L.length) : w.cell? ⟨b, o + k * 2, none⟩ = some (.int .i64 ((Rk.at_ Td.S L k).1)) := h k hk 0 (by decide)
theorem Td.o0 {w : World} {base g n cap k : Nat} {e : TypeId} {L : List Td.E} (h : Rk.Own Td.S w base e (.slice (some ⟨g, 0, none⟩) n cap) L) (hk : k < L.length) : w.cell? ⟨g, k * 2, none⟩ = some (.int .i64 ((Rk.at_ Td.S L k).1)) := h.at hk 0 (by decide)
theorem Td.c1 {w : World} {b o k : Nat} {L : List Td.E} (h : Rk.Sees Td.S w b o L) (hk : k < L.length) : w.cell? ⟨b, o + k * 2 + 1, none⟩ = some (.int .i64 ((Rk.at_ Td.S L k).2)) := h k hk 1 (by decide)
theorem Td.o1 {w : World} {base g n cap k : Nat} {e : TypeId} {L : List Td.E} (h : Rk.Own Td.S w base e (.slice (some ⟨g, 0, none⟩) n cap) L) (hk : k < L.length) : w.cell? ⟨g, k * 2 + 1, none⟩ = some (.int .i64 ((Rk.at_ Td.S L k).2)) := h.at hk 1 (by decide)
theorem Td.own_set {w : World} {base g n cap k : Nat} {e : TypeId} {L : List Td.E} (h : Rk.Own Td.S w base e (.slice (some ⟨g, 0, none⟩) n cap) L) (hk : k < L.length) (f : Td.E) :
    Rk.Own Td.S ((w.setCell ⟨g, k * 2, none⟩ (.int .i64 (f.1))).setCell ⟨g, k * 2 + 1, none⟩ (.int .i64 (f.2))) base e (.slice (some ⟨g, 0, none⟩) n cap) (L.set k f) := h.set hk f
end Go.Proofs.Ytficlppngnnpoaa

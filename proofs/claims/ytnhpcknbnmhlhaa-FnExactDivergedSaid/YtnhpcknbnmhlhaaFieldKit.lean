/- The shape of Field as a list's element. No function of the program here. -/
import Derived.Test.YtnhpcknbnmhlhaaRowsKit
namespace Go.Proofs.Ytnhpcknbnmhlhaa
open Go.RowKit
set_option linter.unusedVariables false
set_option linter.unusedSimpArgs false
/-- Field -/
abbrev Fd.E := Int × ByteArray
def Fd.S : Rk.Shape Fd.E where
  m := 2
  cs f := [.int .i64 (f.1), .string (f.2)]
  z := (0, ByteArray.empty)
  pos := by decide
  len := fun _ => rfl
  one := fun a u hu => by
    simp at hu
    rcases hu with rfl | rfl <;> rfl
/-- numbers and texts that a machine can hold -/
def Fd.Fit (f : Fd.E) : Prop := (-9223372036854775808 ≤ f.1 ∧ f.1 ≤ 9223372036854775807) ∧ f.2.size ≤ maxLen
theorem Fd.fit_at {L : List Fd.E} (h : ∀ f ∈ L, Fd.Fit f) (i : Nat) : Fd.Fit (Rk.at_ Fd.S L i) := by
  by_cases hi : i < L.length
  · exact h _ (Rk.at_mem L i hi)
  · have e : Rk.at_ Fd.S L i = Fd.S.z := by simp [Rk.at_, List.getD, List.getElem?_eq_none (Nat.le_of_not_lt hi)]
    rw [e]
    simp [Fd.Fit, Fd.S, maxLen]
theorem Fd.c0 {w : World} {b o k : Nat} {L : List Fd.E} (h : Rk.Sees Fd.S w b o L) (hk : k < L.length) : w.cell? ⟨b, o + k * 2, none⟩ = some (.int .i64 ((Rk.at_ Fd.S L k).1)) := h k hk 0 (by decide)
theorem Fd.o0 {w : World} {base g n cap k : Nat} {e : TypeId} {L : List Fd.E} (h : Rk.Own Fd.S w base e (.slice (some ⟨g, 0, none⟩) n cap) L) (hk : k < L.length) : w.cell? ⟨g, k * 2, none⟩ = some (.int .i64 ((Rk.at_ Fd.S L k).1)) := h.at hk 0 (by decide)
theorem Fd.c1 {w : World} {b o k : Nat} {L : List Fd.E} (h : Rk.Sees Fd.S w b o L) (hk : k < L.length) : w.cell? ⟨b, o + k * 2 + 1, none⟩ = some (.string ((Rk.at_ Fd.S L k).2)) := h k hk 1 (by decide)
theorem Fd.o1 {w : World} {base g n cap k : Nat} {e : TypeId} {L : List Fd.E} (h : Rk.Own Fd.S w base e (.slice (some ⟨g, 0, none⟩) n cap) L) (hk : k < L.length) : w.cell? ⟨g, k * 2 + 1, none⟩ = some (.string ((Rk.at_ Fd.S L k).2)) := h.at hk 1 (by decide)
theorem Fd.own_set {w : World} {base g n cap k : Nat} {e : TypeId} {L : List Fd.E} (h : Rk.Own Fd.S w base e (.slice (some ⟨g, 0, none⟩) n cap) L) (hk : k < L.length) (f : Fd.E) :
    Rk.Own Fd.S ((w.setCell ⟨g, k * 2, none⟩ (.int .i64 (f.1))).setCell ⟨g, k * 2 + 1, none⟩ (.string (f.2))) base e (.slice (some ⟨g, 0, none⟩) n cap) (L.set k f) := h.set hk f
end Go.Proofs.Ytnhpcknbnmhlhaa

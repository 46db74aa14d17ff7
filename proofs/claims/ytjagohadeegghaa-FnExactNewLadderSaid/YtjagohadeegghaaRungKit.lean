/- The shape of Rung as a list's element. No function of the program here. -/
import Derived.Test.YtjagohadeegghaaRowsKit
namespace Go.Proofs.Ytjagohadeegghaa
open Go.RowKit
set_option linter.unusedVariables false
set_option linter.unusedSimpArgs false
/-- Rung -/
abbrev Rg.E := Int × Int × Int
def Rg.S : Rk.Shape Rg.E where
  m := 3
  cs f := [.int .i64 (f.1), .int .i64 (f.2.1), .int .i64 (f.2.2)]
  z := (0, 0, 0)
  pos := by decide
  len := fun _ => rfl
  one := fun a u hu => by
    simp at hu
    rcases hu with rfl | rfl | rfl <;> rfl
/-- numbers and texts that a machine can hold -/
def Rg.Fit (f : Rg.E) : Prop := (-9223372036854775808 ≤ f.1 ∧ f.1 ≤ 9223372036854775807) ∧ (-9223372036854775808 ≤ f.2.1 ∧ f.2.1 ≤ 9223372036854775807) ∧ (-9223372036854775808 ≤ f.2.2 ∧ f.2.2 ≤ 9223372036854775807)
theorem Rg.fit_at {L : List Rg.E} (h : ∀ f ∈ L, Rg.Fit f) (i : Nat) : Rg.Fit (Rk.at_ Rg.S L i) := by
  by_cases hi : i < L.length
  · exact h _ (Rk.at_mem L i hi)
  · have e : Rk.at_ Rg.S L i = Rg.S.z := by simp [Rk.at_, List.getD, List.getElem?_eq_none (Nat.le_of_not_lt hi)]
    rw [e]
    simp [Rg.Fit, Rg.S, maxLen]
theorem Rg.c0 {w : World} {b o k : Nat} {L : List Rg.E} (h : Rk.Sees Rg.S w b o L) (hk : k < L.length) : w.cell? ⟨b, o + k * 3, none⟩ = some (.int .i64 ((Rk.at_ Rg.S L k).1)) := h k hk 0 (by decide)
theorem Rg.o0 {w : World} {base g n cap k : Nat} {e : TypeId} {L : List Rg.E} (h : Rk.Own Rg.S w base e (.slice (some ⟨g, 0, none⟩) n cap) L) (hk : k < L.length) : w.cell? ⟨g, k * 3, none⟩ = some (.int .i64 ((Rk.at_ Rg.S L k).1)) := h.at hk 0 (by decide)
theorem Rg.c1 {w : World} {b o k : Nat} {L : List Rg.E} (h : Rk.Sees Rg.S w b o L) (hk : k < L.length) : w.cell? ⟨b, o + k * 3 + 1, none⟩ = some (.int .i64 ((Rk.at_ Rg.S L k).2.1)) := h k hk 1 (by decide)
theorem Rg.o1 {w : World} {base g n cap k : Nat} {e : TypeId} {L : List Rg.E} (h : Rk.Own Rg.S w base e (.slice (some ⟨g, 0, none⟩) n cap) L) (hk : k < L.length) : w.cell? ⟨g, k * 3 + 1, none⟩ = some (.int .i64 ((Rk.at_ Rg.S L k).2.1)) := h.at hk 1 (by decide)
theorem Rg.c2 {w : World} {b o k : Nat} {L : List Rg.E} (h : Rk.Sees Rg.S w b o L) (hk : k < L.length) : w.cell? ⟨b, o + k * 3 + 2, none⟩ = some (.int .i64 ((Rk.at_ Rg.S L k).2.2)) := h k hk 2 (by decide)
theorem Rg.o2 {w : World} {base g n cap k : Nat} {e : TypeId} {L : List Rg.E} (h : Rk.Own Rg.S w base e (.slice (some ⟨g, 0, none⟩) n cap) L) (hk : k < L.length) : w.cell? ⟨g, k * 3 + 2, none⟩ = some (.int .i64 ((Rk.at_ Rg.S L k).2.2)) := h.at hk 2 (by decide)
theorem Rg.own_set {w : World} {base g n cap k : Nat} {e : TypeId} {L : List Rg.E} (h : Rk.Own Rg.S w base e (.slice (some ⟨g, 0, none⟩) n cap) L) (hk : k < L.length) (f : Rg.E) :
    Rk.Own Rg.S (((w.setCell ⟨g, k * 3, none⟩ (.int .i64 (f.1))).setCell ⟨g, k * 3 + 1, none⟩ (.int .i64 (f.2.1))).setCell ⟨g, k * 3 + 2, none⟩ (.int .i64 (f.2.2))) base e (.slice (some ⟨g, 0, none⟩) n cap) (L.set k f) := h.set hk f
end Go.Proofs.Ytjagohadeegghaa

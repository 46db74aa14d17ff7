/- The shape of Event as a list's element. No function of the program here. -/
import Derived.Test.YtnhpcknbnmhlhaaRowsKit
namespace Go.Proofs.Ytnhpcknbnmhlhaa
open Go.RowKit
set_option linter.unusedVariables false
set_option linter.unusedSimpArgs false
/-- Event -/
abbrev Vt.E := Int × Int × Int × Int × Int
def Vt.S : Rk.Shape Vt.E where
  m := 5
  cs f := [.int .i64 (f.1), .int .i64 (f.2.1), .int .i64 (f.2.2.1), .int .i64 (f.2.2.2.1), .int .i64 (f.2.2.2.2)]
  z := (0, 0, 0, 0, 0)
  pos := by decide
  len := fun _ => rfl
  one := fun a u hu => by
    simp at hu
    rcases hu with rfl | rfl | rfl | rfl | rfl <;> rfl
/-- numbers and texts that a machine can hold -/
def Vt.Fit (f : Vt.E) : Prop := (-9223372036854775808 ≤ f.1 ∧ f.1 ≤ 9223372036854775807) ∧ (-9223372036854775808 ≤ f.2.1 ∧ f.2.1 ≤ 9223372036854775807) ∧ (-9223372036854775808 ≤ f.2.2.1 ∧ f.2.2.1 ≤ 9223372036854775807) ∧ (-9223372036854775808 ≤ f.2.2.2.1 ∧ f.2.2.2.1 ≤ 9223372036854775807) ∧ (-9223372036854775808 ≤ f.2.2.2.2 ∧ f.2.2.2.2 ≤ 9223372036854775807)
theorem Vt.fit_at {L : List Vt.E} (h : ∀ f ∈ L, Vt.Fit f) (i : Nat) : Vt.Fit (Rk.at_ Vt.S L i) := by
  by_cases hi : i < L.length
  · exact h _ (Rk.at_mem L i hi)
  · have e : Rk.at_ Vt.S L i = Vt.S.z := by simp [Rk.at_, List.getD, List.getElem?_eq_none (Nat.le_of_not_lt hi)]
    rw [e]
    simp [Vt.Fit, Vt.S, maxLen]
theorem Vt.c0 {w : World} {b o k : Nat} {L : List Vt.E} (h : Rk.Sees Vt.S w b o L) (hk : k < L.length) : w.cell? ⟨b, o + k * 5, none⟩ = some (.int .i64 ((Rk.at_ Vt.S L k).1)) := h k hk 0 (by decide)
theorem Vt.o0 {w : World} {base g n cap k : Nat} {e : TypeId} {L : List Vt.E} (h : Rk.Own Vt.S w base e (.slice (some ⟨g, 0, none⟩) n cap) L) (hk : k < L.length) : w.cell? ⟨g, k * 5, none⟩ = some (.int .i64 ((Rk.at_ Vt.S L k).1)) := h.at hk 0 (by decide)
theorem Vt.c1 {w : World} {b o k : Nat} {L : List Vt.E} (h : Rk.Sees Vt.S w b o L) (hk : k < L.length) : w.cell? ⟨b, o + k * 5 + 1, none⟩ = some (.int .i64 ((Rk.at_ Vt.S L k).2.1)) := h k hk 1 (by decide)
theorem Vt.o1 {w : World} {base g n cap k : Nat} {e : TypeId} {L : List Vt.E} (h : Rk.Own Vt.S w base e (.slice (some ⟨g, 0, none⟩) n cap) L) (hk : k < L.length) : w.cell? ⟨g, k * 5 + 1, none⟩ = some (.int .i64 ((Rk.at_ Vt.S L k).2.1)) := h.at hk 1 (by decide)
theorem Vt.c2 {w : World} {b o k : Nat} {L : List Vt.E} (h : Rk.Sees Vt.S w b o L) (hk : k < L.length) : w.cell? ⟨b, o + k * 5 + 2, none⟩ = some (.int .i64 ((Rk.at_ Vt.S L k).2.2.1)) := h k hk 2 (by decide)
theorem Vt.o2 {w : World} {base g n cap k : Nat} {e : TypeId} {L : List Vt.E} (h : Rk.Own Vt.S w base e (.slice (some ⟨g, 0, none⟩) n cap) L) (hk : k < L.length) : w.cell? ⟨g, k * 5 + 2, none⟩ = some (.int .i64 ((Rk.at_ Vt.S L k).2.2.1)) := h.at hk 2 (by decide)
theorem Vt.c3 {w : World} {b o k : Nat} {L : List Vt.E} (h : Rk.Sees Vt.S w b o L) (hk : k < L.length) : w.cell? ⟨b, o + k * 5 + 3, none⟩ = some (.int .i64 ((Rk.at_ Vt.S L k).2.2.2.1)) := h k hk 3 (by decide)
theorem Vt.o3 {w : World} {base g n cap k : Nat} {e : TypeId} {L : List Vt.E} (h : Rk.Own Vt.S w base e (.slice (some ⟨g, 0, none⟩) n cap) L) (hk : k < L.length) : w.cell? ⟨g, k * 5 + 3, none⟩ = some (.int .i64 ((Rk.at_ Vt.S L k).2.2.2.1)) := h.at hk 3 (by decide)
theorem Vt.c4 {w : World} {b o k : Nat} {L : List Vt.E} (h : Rk.Sees Vt.S w b o L) (hk : k < L.length) : w.cell? ⟨b, o + k * 5 + 4, none⟩ = some (.int .i64 ((Rk.at_ Vt.S L k).2.2.2.2)) := h k hk 4 (by decide)
theorem Vt.o4 {w : World} {base g n cap k : Nat} {e : TypeId} {L : List Vt.E} (h : Rk.Own Vt.S w base e (.slice (some ⟨g, 0, none⟩) n cap) L) (hk : k < L.length) : w.cell? ⟨g, k * 5 + 4, none⟩ = some (.int .i64 ((Rk.at_ Vt.S L k).2.2.2.2)) := h.at hk 4 (by decide)
theorem Vt.own_set {w : World} {base g n cap k : Nat} {e : TypeId} {L : List Vt.E} (h : Rk.Own Vt.S w base e (.slice (some ⟨g, 0, none⟩) n cap) L) (hk : k < L.length) (f : Vt.E) :
    Rk.Own Vt.S (((((w.setCell ⟨g, k * 5, none⟩ (.int .i64 (f.1))).setCell ⟨g, k * 5 + 1, none⟩ (.int .i64 (f.2.1))).setCell ⟨g, k * 5 + 2, none⟩ (.int .i64 (f.2.2.1))).setCell ⟨g, k * 5 + 3, none⟩ (.int .i64 (f.2.2.2.1))).setCell ⟨g, k * 5 + 4, none⟩ (.int .i64 (f.2.2.2.2))) base e (.slice (some ⟨g, 0, none⟩) n cap) (L.set k f) := h.set hk f
end Go.Proofs.Ytnhpcknbnmhlhaa

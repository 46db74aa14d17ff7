/- The shape of Order as a list's element. No function of the program here. -/
import Derived.Test.YtnhpcknbnmhlhaaRowsKit
namespace Go.Proofs.Ytnhpcknbnmhlhaa
open Go.RowKit
set_option linter.unusedVariables false
set_option linter.unusedSimpArgs false
/-- Order -/
abbrev Or.E := Int × Int × Int × Int × Bool × Int × Int × Bool
def Or.S : Rk.Shape Or.E where
  m := 8
  cs f := [.int .i64 (f.1), .int .i64 (f.2.1), .int .i64 (f.2.2.1), .int .i64 (f.2.2.2.1), .bool (f.2.2.2.2.1), .int .i64 (f.2.2.2.2.2.1), .int .i64 (f.2.2.2.2.2.2.1), .bool (f.2.2.2.2.2.2.2)]
  z := (0, 0, 0, 0, false, 0, 0, false)
  pos := by decide
  len := fun _ => rfl
  one := fun a u hu => by
    simp at hu
    rcases hu with rfl | rfl | rfl | rfl | rfl | rfl | rfl | rfl <;> rfl
/-- numbers and texts that a machine can hold -/
def Or.Fit (f : Or.E) : Prop := (-9223372036854775808 ≤ f.1 ∧ f.1 ≤ 9223372036854775807) ∧ (-9223372036854775808 ≤ f.2.1 ∧ f.2.1 ≤ 9223372036854775807) ∧ (-9223372036854775808 ≤ f.2.2.1 ∧ f.2.2.1 ≤ 9223372036854775807) ∧ (-9223372036854775808 ≤ f.2.2.2.1 ∧ f.2.2.2.1 ≤ 9223372036854775807) ∧ True ∧ (-9223372036854775808 ≤ f.2.2.2.2.2.1 ∧ f.2.2.2.2.2.1 ≤ 9223372036854775807) ∧ (-9223372036854775808 ≤ f.2.2.2.2.2.2.1 ∧ f.2.2.2.2.2.2.1 ≤ 9223372036854775807) ∧ True
theorem Or.fit_at {L : List Or.E} (h : ∀ f ∈ L, Or.Fit f) (i : Nat) : Or.Fit (Rk.at_ Or.S L i) := by
  by_cases hi : i < L.length
  · exact h _ (Rk.at_mem L i hi)
  · have e : Rk.at_ Or.S L i = Or.S.z := by simp [Rk.at_, List.getD, List.getElem?_eq_none (Nat.le_of_not_lt hi)]
    rw [e]
    simp [Or.Fit, Or.S, maxLen]
theorem Or.c0 {w : World} {b o k : Nat} {L : List Or.E} (h : Rk.Sees Or.S w b o L) (hk : k < L.length) : w.cell? ⟨b, o + k * 8, none⟩ = some (.int .i64 ((Rk.at_ Or.S L k).1)) := h k hk 0 (by decide)
theorem Or.o0 {w : World} {base g n cap k : Nat} {e : TypeId} {L : List Or.E} (h : Rk.Own Or.S w base e (.slice (some ⟨g, 0, none⟩) n cap) L) (hk : k < L.length) : w.cell? ⟨g, k * 8, none⟩ = some (.int .i64 ((Rk.at_ Or.S L k).1)) := h.at hk 0 (by decide)
theorem Or.c1 {w : World} {b o k : Nat} {L : List Or.E} (h : Rk.Sees Or.S w b o L) (hk : k < L.length) : w.cell? ⟨b, o + k * 8 + 1, none⟩ = some (.int .i64 ((Rk.at_ Or.S L k).2.1)) := h k hk 1 (by decide)
theorem Or.o1 {w : World} {base g n cap k : Nat} {e : TypeId} {L : List Or.E} (h : Rk.Own Or.S w base e (.slice (some ⟨g, 0, none⟩) n cap) L) (hk : k < L.length) : w.cell? ⟨g, k * 8 + 1, none⟩ = some (.int .i64 ((Rk.at_ Or.S L k).2.1)) := h.at hk 1 (by decide)
theorem Or.c2 {w : World} {b o k : Nat} {L : List Or.E} (h : Rk.Sees Or.S w b o L) (hk : k < L.length) : w.cell? ⟨b, o + k * 8 + 2, none⟩ = some (.int .i64 ((Rk.at_ Or.S L k).2.2.1)) := h k hk 2 (by decide)
theorem Or.o2 {w : World} {base g n cap k : Nat} {e : TypeId} {L : List Or.E} (h : Rk.Own Or.S w base e (.slice (some ⟨g, 0, none⟩) n cap) L) (hk : k < L.length) : w.cell? ⟨g, k * 8 + 2, none⟩ = some (.int .i64 ((Rk.at_ Or.S L k).2.2.1)) := h.at hk 2 (by decide)
theorem Or.c3 {w : World} {b o k : Nat} {L : List Or.E} (h : Rk.Sees Or.S w b o L) (hk : k < L.length) : w.cell? ⟨b, o + k * 8 + 3, none⟩ = some (.int .i64 ((Rk.at_ Or.S L k).2.2.2.1)) := h k hk 3 (by decide)
theorem Or.o3 {w : World} {base g n cap k : Nat} {e : TypeId} {L : List Or.E} (h : Rk.Own Or.S w base e (.slice (some ⟨g, 0, none⟩) n cap) L) (hk : k < L.length) : w.cell? ⟨g, k * 8 + 3, none⟩ = some (.int .i64 ((Rk.at_ Or.S L k).2.2.2.1)) := h.at hk 3 (by decide)
theorem Or.c4 {w : World} {b o k : Nat} {L : List Or.E} (h : Rk.Sees Or.S w b o L) (hk : k < L.length) : w.cell? ⟨b, o + k * 8 + 4, none⟩ = some (.bool ((Rk.at_ Or.S L k).2.2.2.2.1)) := h k hk 4 (by decide)
theorem Or.o4 {w : World} {base g n cap k : Nat} {e : TypeId} {L : List Or.E} (h : Rk.Own Or.S w base e (.slice (some ⟨g, 0, none⟩) n cap) L) (hk : k < L.length) : w.cell? ⟨g, k * 8 + 4, none⟩ = some (.bool ((Rk.at_ Or.S L k).2.2.2.2.1)) := h.at hk 4 (by decide)
theorem Or.c5 {w : World} {b o k : Nat} {L : List Or.E} (h : Rk.Sees Or.S w b o L) (hk : k < L.length) : w.cell? ⟨b, o + k * 8 + 5, none⟩ = some (.int .i64 ((Rk.at_ Or.S L k).2.2.2.2.2.1)) := h k hk 5 (by decide)
theorem Or.o5 {w : World} {base g n cap k : Nat} {e : TypeId} {L : List Or.E} (h : Rk.Own Or.S w base e (.slice (some ⟨g, 0, none⟩) n cap) L) (hk : k < L.length) : w.cell? ⟨g, k * 8 + 5, none⟩ = some (.int .i64 ((Rk.at_ Or.S L k).2.2.2.2.2.1)) := h.at hk 5 (by decide)
theorem Or.c6 {w : World} {b o k : Nat} {L : List Or.E} (h : Rk.Sees Or.S w b o L) (hk : k < L.length) : w.cell? ⟨b, o + k * 8 + 6, none⟩ = some (.int .i64 ((Rk.at_ Or.S L k).2.2.2.2.2.2.1)) := h k hk 6 (by decide)
theorem Or.o6 {w : World} {base g n cap k : Nat} {e : TypeId} {L : List Or.E} (h : Rk.Own Or.S w base e (.slice (some ⟨g, 0, none⟩) n cap) L) (hk : k < L.length) : w.cell? ⟨g, k * 8 + 6, none⟩ = some (.int .i64 ((Rk.at_ Or.S L k).2.2.2.2.2.2.1)) := h.at hk 6 (by decide)
theorem Or.c7 {w : World} {b o k : Nat} {L : List Or.E} (h : Rk.Sees Or.S w b o L) (hk : k < L.length) : w.cell? ⟨b, o + k * 8 + 7, none⟩ = some (.bool ((Rk.at_ Or.S L k).2.2.2.2.2.2.2)) := h k hk 7 (by decide)
theorem Or.o7 {w : World} {base g n cap k : Nat} {e : TypeId} {L : List Or.E} (h : Rk.Own Or.S w base e (.slice (some ⟨g, 0, none⟩) n cap) L) (hk : k < L.length) : w.cell? ⟨g, k * 8 + 7, none⟩ = some (.bool ((Rk.at_ Or.S L k).2.2.2.2.2.2.2)) := h.at hk 7 (by decide)
theorem Or.own_set {w : World} {base g n cap k : Nat} {e : TypeId} {L : List Or.E} (h : Rk.Own Or.S w base e (.slice (some ⟨g, 0, none⟩) n cap) L) (hk : k < L.length) (f : Or.E) :
    Rk.Own Or.S ((((((((w.setCell ⟨g, k * 8, none⟩ (.int .i64 (f.1))).setCell ⟨g, k * 8 + 1, none⟩ (.int .i64 (f.2.1))).setCell ⟨g, k * 8 + 2, none⟩ (.int .i64 (f.2.2.1))).setCell ⟨g, k * 8 + 3, none⟩ (.int .i64 (f.2.2.2.1))).setCell ⟨g, k * 8 + 4, none⟩ (.bool (f.2.2.2.2.1))).setCell ⟨g, k * 8 + 5, none⟩ (.int .i64 (f.2.2.2.2.2.1))).setCell ⟨g, k * 8 + 6, none⟩ (.int .i64 (f.2.2.2.2.2.2.1))).setCell ⟨g, k * 8 + 7, none⟩ (.bool (f.2.2.2.2.2.2.2))) base e (.slice (some ⟨g, 0, none⟩) n cap) (L.set k f) := h.set hk f
end Go.Proofs.Ytnhpcknbnmhlhaa

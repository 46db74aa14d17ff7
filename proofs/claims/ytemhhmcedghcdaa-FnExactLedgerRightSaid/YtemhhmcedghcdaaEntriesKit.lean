/- The shape of Entry as a list's element. No function of the program here. -/
import Derived.Test.YtemhhmcedghcdaaRowsKit
namespace Go.Proofs.Ytemhhmcedghcdaa
open Go.RowKit
set_option linter.unusedVariables false
set_option linter.unusedSimpArgs false
/-- Entry -/
abbrev En.E := Int × Int × Bool × Int × Int × Int × Int
def En.S : Rk.Shape En.E where
  m := 7
  cs f := [.int .i64 (f.1), .int .i64 (f.2.1), .bool (f.2.2.1), .int .i64 (f.2.2.2.1), .int .i64 (f.2.2.2.2.1), .int .i64 (f.2.2.2.2.2.1), .int .i64 (f.2.2.2.2.2.2)]
  z := (0, 0, false, 0, 0, 0, 0)
  pos := by decide
  len := fun _ => rfl
  one := fun a u hu => by
    simp at hu
    rcases hu with rfl | rfl | rfl | rfl | rfl | rfl | rfl <;> rfl
/-- numbers and texts that a machine can hold -/
def En.Fit (f : En.E) : Prop := (-9223372036854775808 ≤ f.1 ∧ f.1 ≤ 9223372036854775807) ∧ (-9223372036854775808 ≤ f.2.1 ∧ f.2.1 ≤ 9223372036854775807) ∧ True ∧ (-9223372036854775808 ≤ f.2.2.2.1 ∧ f.2.2.2.1 ≤ 9223372036854775807) ∧ (-9223372036854775808 ≤ f.2.2.2.2.1 ∧ f.2.2.2.2.1 ≤ 9223372036854775807) ∧ (-9223372036854775808 ≤ f.2.2.2.2.2.1 ∧ f.2.2.2.2.2.1 ≤ 9223372036854775807) ∧ (-9223372036854775808 ≤ f.2.2.2.2.2.2 ∧ f.2.2.2.2.2.2 ≤ 9223372036854775807)
theorem En.fit_at {L : List En.E} (h : ∀ f ∈ L, En.Fit f) (i : Nat) : En.Fit (Rk.at_ En.S L i) := by
  by_cases hi : i < L.length
  · exact h _ (Rk.at_mem L i hi)
  · have e : Rk.at_ En.S L i = En.S.z := by simp [Rk.at_, List.getD, List.getElem?_eq_none (Nat.le_of_not_lt hi)]
    rw [e]
    simp [En.Fit, En.S, maxLen]
theorem En.c0 {w : World} {b o k : Nat} {L : List En.E} (h : Rk.Sees En.S w b o L) (hk : k < L.length) : w.cell? ⟨b, o + k * 7, none⟩ = some (.int .i64 ((Rk.at_ En.S L k).1)) := h k hk 0 (by decide)
theorem En.o0 {w : World} {base g n cap k : Nat} {e : TypeId} {L : List En.E} (h : Rk.Own En.S w base e (.slice (some ⟨g, 0, none⟩) n cap) L) (hk : k < L.length) : w.cell? ⟨g, k * 7, none⟩ = some (.int .i64 ((Rk.at_ En.S L k).1)) := h.at hk 0 (by decide)
theorem En.c1 {w : World} {b o k : Nat} {L : List En.E} (h : Rk.Sees En.S w b o L) (hk : k < L.length) : w.cell? ⟨b, o + k * 7 + 1, none⟩ = some (.int .i64 ((Rk.at_ En.S L k).2.1)) := h k hk 1 (by decide)
theorem En.o1 {w : World} {base g n cap k : Nat} {e : TypeId} {L : List En.E} (h : Rk.Own En.S w base e (.slice (some ⟨g, 0, none⟩) n cap) L) (hk : k < L.length) : w.cell? ⟨g, k * 7 + 1, none⟩ = some (.int .i64 ((Rk.at_ En.S L k).2.1)) := h.at hk 1 (by decide)
theorem En.c2 {w : World} {b o k : Nat} {L : List En.E} (h : Rk.Sees En.S w b o L) (hk : k < L.length) : w.cell? ⟨b, o + k * 7 + 2, none⟩ = some (.bool ((Rk.at_ En.S L k).2.2.1)) := h k hk 2 (by decide)
theorem En.o2 {w : World} {base g n cap k : Nat} {e : TypeId} {L : List En.E} (h : Rk.Own En.S w base e (.slice (some ⟨g, 0, none⟩) n cap) L) (hk : k < L.length) : w.cell? ⟨g, k * 7 + 2, none⟩ = some (.bool ((Rk.at_ En.S L k).2.2.1)) := h.at hk 2 (by decide)
theorem En.c3 {w : World} {b o k : Nat} {L : List En.E} (h : Rk.Sees En.S w b o L) (hk : k < L.length) : w.cell? ⟨b, o + k * 7 + 3, none⟩ = some (.int .i64 ((Rk.at_ En.S L k).2.2.2.1)) := h k hk 3 (by decide)
theorem En.o3 {w : World} {base g n cap k : Nat} {e : TypeId} {L : List En.E} (h : Rk.Own En.S w base e (.slice (some ⟨g, 0, none⟩) n cap) L) (hk : k < L.length) : w.cell? ⟨g, k * 7 + 3, none⟩ = some (.int .i64 ((Rk.at_ En.S L k).2.2.2.1)) := h.at hk 3 (by decide)
theorem En.c4 {w : World} {b o k : Nat} {L : List En.E} (h : Rk.Sees En.S w b o L) (hk : k < L.length) : w.cell? ⟨b, o + k * 7 + 4, none⟩ = some (.int .i64 ((Rk.at_ En.S L k).2.2.2.2.1)) := h k hk 4 (by decide)
theorem En.o4 {w : World} {base g n cap k : Nat} {e : TypeId} {L : List En.E} (h : Rk.Own En.S w base e (.slice (some ⟨g, 0, none⟩) n cap) L) (hk : k < L.length) : w.cell? ⟨g, k * 7 + 4, none⟩ = some (.int .i64 ((Rk.at_ En.S L k).2.2.2.2.1)) := h.at hk 4 (by decide)
theorem En.c5 {w : World} {b o k : Nat} {L : List En.E} (h : Rk.Sees En.S w b o L) (hk : k < L.length) : w.cell? ⟨b, o + k * 7 + 5, none⟩ = some (.int .i64 ((Rk.at_ En.S L k).2.2.2.2.2.1)) := h k hk 5 (by decide)
theorem En.o5 {w : World} {base g n cap k : Nat} {e : TypeId} {L : List En.E} (h : Rk.Own En.S w base e (.slice (some ⟨g, 0, none⟩) n cap) L) (hk : k < L.length) : w.cell? ⟨g, k * 7 + 5, none⟩ = some (.int .i64 ((Rk.at_ En.S L k).2.2.2.2.2.1)) := h.at hk 5 (by decide)
theorem En.c6 {w : World} {b o k : Nat} {L : List En.E} (h : Rk.Sees En.S w b o L) (hk : k < L.length) : w.cell? ⟨b, o + k * 7 + 6, none⟩ = some (.int .i64 ((Rk.at_ En.S L k).2.2.2.2.2.2)) := h k hk 6 (by decide)
theorem En.o6 {w : World} {base g n cap k : Nat} {e : TypeId} {L : List En.E} (h : Rk.Own En.S w base e (.slice (some ⟨g, 0, none⟩) n cap) L) (hk : k < L.length) : w.cell? ⟨g, k * 7 + 6, none⟩ = some (.int .i64 ((Rk.at_ En.S L k).2.2.2.2.2.2)) := h.at hk 6 (by decide)
theorem En.own_set {w : World} {base g n cap k : Nat} {e : TypeId} {L : List En.E} (h : Rk.Own En.S w base e (.slice (some ⟨g, 0, none⟩) n cap) L) (hk : k < L.length) (f : En.E) :
    Rk.Own En.S (((((((w.setCell ⟨g, k * 7, none⟩ (.int .i64 (f.1))).setCell ⟨g, k * 7 + 1, none⟩ (.int .i64 (f.2.1))).setCell ⟨g, k * 7 + 2, none⟩ (.bool (f.2.2.1))).setCell ⟨g, k * 7 + 3, none⟩ (.int .i64 (f.2.2.2.1))).setCell ⟨g, k * 7 + 4, none⟩ (.int .i64 (f.2.2.2.2.1))).setCell ⟨g, k * 7 + 5, none⟩ (.int .i64 (f.2.2.2.2.2.1))).setCell ⟨g, k * 7 + 6, none⟩ (.int .i64 (f.2.2.2.2.2.2))) base e (.slice (some ⟨g, 0, none⟩) n cap) (L.set k f) := h.set hk f
end Go.Proofs.Ytemhhmcedghcdaa

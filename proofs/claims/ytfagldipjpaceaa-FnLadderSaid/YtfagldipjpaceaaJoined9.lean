/- The shape of Rung as a list's element. No function of the program here. Plain mathematics of a ladder: the rungs of a side. No function of the program here. -/
import Derived.Test.YtfagldipjpaceaaRowsKit
import Derived.Test.YtfagldipjpaceaaJoined2
namespace Go.Proofs.Ytfagldipjpaceaa
open Go.RowKit
set_option linter.unusedVariables false
set_option linter.unusedSimpArgs false
/-- Rung -/
abbrev Rg.E := Int × Int × Int
def Rg.S : Rk.Shape Rg.E where
  m := 3
  cs f := [.int .i64 (f.1), .int .i64 (f.2.1), .int .i64 (f.2.2)]
  z := (0, 0, 0)
  pos := by decide
  len := fun _ => rfl
  one := fun a u hu => by
    simp at hu
    rcases hu with rfl | rfl | rfl <;> rfl
/-- numbers and texts that a machine can hold -/
def Rg.Fit (f : Rg.E) : Prop := (-9223372036854775808 ≤ f.1 ∧ f.1 ≤ 9223372036854775807) ∧ (-9223372036854775808 ≤ f.2.1 ∧ f.2.1 ≤ 9223372036854775807) ∧ (-9223372036854775808 ≤ f.2.2 ∧ f.2.2 ≤ 9223372036854775807)
theorem Rg.fit_at {L : List Rg.E} (h : ∀ f ∈ L, Rg.Fit f) (i : Nat) : Rg.Fit (Rk.at_ Rg.S L i) := by
  by_cases hi : i < L.length
  · exact h _ (Rk.at_mem L i hi)
  · have e : Rk.at_ Rg.S L i = Rg.S.z := by simp [Rk.at_, List.getD, List.getElem?_eq_none (Nat.le_of_not_lt hi)]
    rw [e]
    simp [Rg.Fit, Rg.S, maxLen]
theorem Rg.c0 {w : World} {b o k : Nat} {L : List Rg.E} (h : Rk.Sees Rg.S w b o L) (hk : k < L.length) : w.cell? ⟨b, o + k * 3, none⟩ = some (.int .i64 ((Rk.at_ Rg.S L k).1)) := h k hk 0 (by decide)
theorem Rg.o0 {w : World} {base g n cap k : Nat} {e : TypeId} {L : List Rg.E} (h : Rk.Own Rg.S w base e (.slice (some ⟨g, 0, none⟩) n cap) L) (hk : k < L.length) : w.cell? ⟨g, k * 3, none⟩ = some (.int .i64 ((Rk.at_ Rg.S L k).1)) := h.at hk 0 (by decide)
theorem Rg.c1 {w : World} {b o k : Nat} {L : List Rg.E} (h : Rk.Sees Rg.S w b o L) (hk : k < L.length) : w.cell? ⟨b, o + k * 3 + 1, none⟩ = some (.int .i64 ((Rk.at_ Rg.S L k).2.1)) := h k hk 1 (by decide)
theorem Rg.o1 {w : World} {base g n cap k : Nat} {e : TypeId} {L : List Rg.E} (h : Rk.Own Rg.S w base e (.slice (some ⟨g, 0, none⟩) n cap) L) (hk : k < L.length) : w.cell? ⟨g, k * 3 + 1, none⟩ = some (.int .i64 ((Rk.at_ Rg.S L k).2.1)) := h.at hk 1 (by decide)
theorem Rg.c2 {w : World} {b o k : Nat} {L : List Rg.E} (h : Rk.Sees Rg.S w b o L) (hk : k < L.length) : w.cell? ⟨b, o + k * 3 + 2, none⟩ = some (.int .i64 ((Rk.at_ Rg.S L k).2.2)) := h k hk 2 (by decide)
theorem Rg.o2 {w : World} {base g n cap k : Nat} {e : TypeId} {L : List Rg.E} (h : Rk.Own Rg.S w base e (.slice (some ⟨g, 0, none⟩) n cap) L) (hk : k < L.length) : w.cell? ⟨g, k * 3 + 2, none⟩ = some (.int .i64 ((Rk.at_ Rg.S L k).2.2)) := h.at hk 2 (by decide)
theorem Rg.own_set {w : World} {base g n cap k : Nat} {e : TypeId} {L : List Rg.E} (h : Rk.Own Rg.S w base e (.slice (some ⟨g, 0, none⟩) n cap) L) (hk : k < L.length) (f : Rg.E) :
    Rk.Own Rg.S (((w.setCell ⟨g, k * 3, none⟩ (.int .i64 (f.1))).setCell ⟨g, k * 3 + 1, none⟩ (.int .i64 (f.2.1))).setCell ⟨g, k * 3 + 2, none⟩ (.int .i64 (f.2.2))) base e (.slice (some ⟨g, 0, none⟩) n cap) (L.set k f) := h.set hk f
end Go.Proofs.Ytfagldipjpaceaa

namespace Go.Proofs.Ytfagldipjpaceaa
namespace Ob
/-- the last rung -/
def last (R : List Rg.E) : Rg.E := Rk.at_ Rg.S R (R.length - 1)
/-- one order more: a rung of its own, or more on the last one -/
def rstep (R : List Rg.E) (o : Or.E) : List Rg.E :=
  if R.length = 0 ∨ (last R).1 ≠ o.2.2.1 then R ++ [(o.2.2.1, o.2.2.2.1, 1)] else R.set (R.length - 1) ((last R).1, (last R).2.1 + o.2.2.2.1, (last R).2.2 + 1)
/-- the rungs of the first ones -/
def rungs (L : List Or.E) (k : Nat) : List Rg.E := (L.take k).foldl rstep []
theorem rungs_none (L : List Or.E) : rungs L 0 = [] := by simp [rungs]
theorem rungs_step (L : List Or.E) (k : Nat) (h : k < L.length) : rungs L (k + 1) = rstep (rungs L k) (at' L k) := by
  unfold rungs
  rw [List.take_succ_eq_append_getElem h, List.foldl_append]
  have e : at' L k = L[k] := Rk.at_get L k h
  rw [e]
  rfl
theorem rstep_length (R : List Rg.E) (o : Or.E) : (rstep R o).length ≤ R.length + 1 := by
  unfold rstep
  split <;> simp
theorem rungs_length (L : List Or.E) : ∀ k, k ≤ L.length → (rungs L k).length ≤ k
  | 0, _ => by simp [rungs_none]
  | k + 1, h => by
    rw [rungs_step L k h]
    have := rungs_length L k (by omega)
    have := rstep_length (rungs L k) (at' L k)
    omega
/-- amounts and numbers that are not great -/
def Small (m : Int) (R : List Rg.E) : Prop := ∀ r ∈ R, 0 ≤ r.2.1 ∧ r.2.1 ≤ m * 1000 ∧ 0 ≤ r.2.2 ∧ r.2.2 ≤ m
theorem small_last {m : Int} {R : List Rg.E} (h : Small m R) (hm : 0 ≤ m) : 0 ≤ (last R).2.1 ∧ (last R).2.1 ≤ m * 1000 ∧ 0 ≤ (last R).2.2 ∧ (last R).2.2 ≤ m := by
  by_cases c : R.length - 1 < R.length
  · exact h _ (Rk.at_mem R _ c)
  · have e : last R = Rg.S.z := by simp [last, Rk.at_, List.getD, List.getElem?_eq_none (Nat.le_of_not_lt c)]
    rw [e]
    simp only [Rg.S]
    omega
theorem small_step {m : Int} {R : List Rg.E} {o : Or.E} (h : Small m R) (hm : 0 ≤ m) (h0 : 0 ≤ o.2.2.2.1) (h1 : o.2.2.2.1 ≤ 1000) : Small (m + 1) (rstep R o) := by
  have hl := small_last h hm
  intro r hr
  unfold rstep at hr
  split at hr
  · rcases List.mem_append.1 hr with hr | hr
    · have := h r hr; omega
    · simp at hr; subst hr; simp only; omega
  · rcases List.mem_or_eq_of_mem_set hr with hr | hr
    · have := h r hr; omega
    · subst hr; simp only; omega
theorem rungs_small (L : List Or.E) (hL : ∀ j, j < L.length → 0 ≤ (at' L j).2.2.2.1 ∧ (at' L j).2.2.2.1 ≤ 1000) : ∀ k, k ≤ L.length → Small (k : Int) (rungs L k)
  | 0, _ => by rw [rungs_none]; intro r hr; cases hr
  | k + 1, h => by
    rw [rungs_step L k h]
    have := small_step (o := at' L k) (rungs_small L hL k (by omega)) (by omega) (hL k h).1 (hL k h).2
    simpa using this
end Ob
end Go.Proofs.Ytfagldipjpaceaa

/- Plain mathematics of records: which are right. No function of the program here. -/
import Derived.Test.YtlddmalhnappnaaFieldKit
namespace Go.Proofs.Ytlddmalhnappnaa
namespace Rc
/-- a field by itself may be -/
def fok (f : Fd.E) : Bool := decide (0 ≤ f.1) && (decide (f.1 ≤ 1000) && decide ((f.2.size : Int) ≤ 500))
def idAt (L : List Fd.E) (i : Nat) : Int := (Rk.at_ Fd.S L i).1
def textAt (L : List Fd.E) (i : Nat) : ByteArray := (Rk.at_ Fd.S L i).2
/-- the field at a place is greater than the one ahead of it -/
def up (L : List Fd.E) (i : Nat) : Bool := i == 0 || decide (idAt L (i - 1) < idAt L i)
def okAll (L : List Fd.E) : Bool := (List.range L.length).all fun i => fok (Rk.at_ Fd.S L i)
def upAll (L : List Fd.E) : Bool := (List.range L.length).all (up L)
def right (K : Int) (L : List Fd.E) : Bool := decide (0 ≤ K ∧ K ≤ 1000 ∧ (L.length : Int) ≤ 30) && (okAll L && upAll L)
theorem okAll_at {L : List Fd.E} {i : Nat} (hi : i < L.length) (h : fok (Rk.at_ Fd.S L i) = false) : okAll L = false := by
  unfold okAll
  rw [List.all_eq_false]
  exact ⟨i, by simpa using hi, by simp [h]⟩
theorem okAll_yes {L : List Fd.E} (h : ∀ i, i < L.length → fok (Rk.at_ Fd.S L i) = true) : okAll L = true := by
  unfold okAll
  rw [List.all_eq_true]
  intro i hi
  exact h i (by simpa using hi)
theorem upAll_at {L : List Fd.E} {i : Nat} (hi : i < L.length) (h : up L i = false) : upAll L = false := by
  unfold upAll
  rw [List.all_eq_false]
  exact ⟨i, by simpa using hi, by simp [h]⟩
theorem upAll_yes {L : List Fd.E} (h : ∀ i, i < L.length → up L i = true) : upAll L = true := by
  unfold upAll
  rw [List.all_eq_true]
  intro i hi
  exact h i (by simpa using hi)
theorem right_kind {K : Int} {L : List Fd.E} (h : ¬ (0 ≤ K ∧ K ≤ 1000 ∧ (L.length : Int) ≤ 30)) : right K L = false := by simp only [right, decide_eq_false h, Bool.false_and]
theorem right_ill {K : Int} {L : List Fd.E} (h : okAll L = false) : right K L = false := by simp [right, h]
theorem right_down {K : Int} {L : List Fd.E} (h : upAll L = false) : right K L = false := by simp [right, h]
theorem right_yes {K : Int} {L : List Fd.E} (h : 0 ≤ K ∧ K ≤ 1000 ∧ (L.length : Int) ≤ 30) (h1 : okAll L = true) (h2 : upAll L = true) : right K L = true := by simp only [right, decide_eq_true h, h1, h2]; rfl
theorem right_of {K : Int} {L : List Fd.E} (h : 0 ≤ K ∧ K ≤ 1000 ∧ (L.length : Int) ≤ 30) (h1 : okAll L = true) : right K L = upAll L := by simp only [right, decide_eq_true h, h1]; rfl
theorem right_inv {K : Int} {L : List Fd.E} (h : right K L = true) : (0 ≤ K ∧ K ≤ 1000 ∧ L.length ≤ 30) ∧ (∀ i, i < L.length → 0 ≤ idAt L i ∧ idAt L i ≤ 1000 ∧ (textAt L i).size ≤ 500) ∧ ∀ i, i + 1 < L.length → idAt L i < idAt L (i + 1) := by
  simp only [right, Bool.and_eq_true, decide_eq_true_eq] at h
  obtain ⟨⟨h1, h2, h3⟩, h4, h5⟩ := h
  refine ⟨⟨h1, h2, by omega⟩, fun i hi => ?_, fun i hi => ?_⟩
  · unfold okAll at h4
    rw [List.all_eq_true] at h4
    have := h4 i (by simpa using hi)
    simp only [fok, Bool.and_eq_true, decide_eq_true_eq] at this
    exact ⟨this.1, this.2.1, by have := this.2.2; unfold textAt; omega⟩
  · unfold upAll at h5
    rw [List.all_eq_true] at h5
    have := h5 (i + 1) (by simpa using hi)
    simpa [up] using this
end Rc
end Go.Proofs.Ytlddmalhnappnaa

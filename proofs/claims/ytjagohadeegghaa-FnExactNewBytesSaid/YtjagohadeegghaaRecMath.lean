/- Plain mathematics of records: which are right. No function of the program here. -/
import Derived.Test.YtjagohadeegghaaJoined1
namespace Go.Proofs.Ytjagohadeegghaa
namespace Rc
/-- a field by itself may be -/
def fok (f : Fd.E) : Bool := decide (0 ≤ f.1) && (decide (f.1 ≤ 1000) && decide ((f.2.size : Int) ≤ 500))
def idAt (L : List Fd.E) (i : Nat) : Int := (Rk.at_ Fd.S L i).1
def textAt (L : List Fd.E) (i : Nat) : ByteArray := (Rk.at_ Fd.S L i).2
/-- the field at a place is greater than the one ahead of it -/
def up (L : List Fd.E) (i : Nat) : Bool := i == 0 || decide (idAt L (i - 1) < idAt L i)
def okAll (L : List Fd.E) : Bool := (List.range L.length).all fun i => fok (Rk.at_ Fd.S L i)
def upAll (L : List Fd.E) : Bool := (List.range L.length).all (up L)
def right (K : Int) (L : List Fd.E) : Bool := decide (0 ≤ K ∧ K ≤ 1000 ∧ (L.length : Int) ≤ 30) && (okAll L && upAll L)
theorem okAll_at {L : List Fd.E} {i : Nat} (hi : i < L.length) (h : fok (Rk.at_ Fd.S L i) = false) : okAll L = false := by
  unfold okAll
  rw [List.all_eq_false]
  exact ⟨i, by simpa using hi, by simp [h]⟩
theorem okAll_yes {L : List Fd.E} (h : ∀ i, i < L.length → fok (Rk.at_ Fd.S L i) = true) : okAll L = true := by
  unfold okAll
  rw [List.all_eq_true]
  intro i hi
  exact h i (by simpa using hi)
theorem upAll_at {L : List Fd.E} {i : Nat} (hi : i < L.length) (h : up L i = false) : upAll L = false := by
  unfold upAll
  rw [List.all_eq_false]
  exact ⟨i, by simpa using hi, by simp [h]⟩
theorem upAll_yes {L : List Fd.E} (h : ∀ i, i < L.length → up L i = true) : upAll L = true := by
  unfold upAll
  rw [List.all_eq_true]
  intro i hi
  exact h i (by simpa using hi)
theorem right_kind {K : Int} {L : List Fd.E} (h : ¬ (0 ≤ K ∧ K ≤ 1000 ∧ (L.length : Int) ≤ 30)) : right K L = false := by simp only [right, decide_eq_false h, Bool.false_and]
theorem right_ill {K : Int} {L : List Fd.E} (h : okAll L = false) : right K L = false := by simp [right, h]
theorem right_down {K : Int} {L : List Fd.E} (h : upAll L = false) : right K L = false := by simp [right, h]
theorem right_yes {K : Int} {L : List Fd.E} (h : 0 ≤ K ∧ K ≤ 1000 ∧ (L.length : Int) ≤ 30) (h1 : okAll L = true) (h2 : upAll L = true) : right K L = true := by simp only [right, decide_eq_true h, h1, h2]; rfl
theorem right_of {K : Int} {L : List Fd.E} (h : 0 ≤ K ∧ K ≤ 1000 ∧ (L.length : Int) ≤ 30) (h1 : okAll L = true) : right K L = upAll L := by simp only [right, decide_eq_true h, h1]; rfl
theorem right_inv {K : Int} {L : List Fd.E} (h : right K L = true) : (0 ≤ K ∧ K ≤ 1000 ∧ L.length ≤ 30) ∧ (∀ i, i < L.length → 0 ≤ idAt L i ∧ idAt L i ≤ 1000 ∧ (textAt L i).size ≤ 500) ∧ ∀ i, i + 1 < L.length → idAt L i < idAt L (i + 1) := by
  simp only [right, Bool.and_eq_true, decide_eq_true_eq] at h
  obtain ⟨⟨h1, h2, h3⟩, h4, h5⟩ := h
  refine ⟨⟨h1, h2, by omega⟩, fun i hi => ?_, fun i hi => ?_⟩
  · unfold okAll at h4
    rw [List.all_eq_true] at h4
    have := h4 i (by simpa using hi)
    simp only [fok, Bool.and_eq_true, decide_eq_true_eq] at this
    exact ⟨this.1, this.2.1, by have := this.2.2; unfold textAt; omega⟩
  · unfold upAll at h5
    rw [List.all_eq_true] at h5
    have := h5 (i + 1) (by simpa using hi)
    simpa [up] using this
/-- the first place of an Id; how many there are, if there is none -/
def pos (L : List Fd.E) (id : Int) : Nat := L.findIdx (fun f => decide (f.1 = id))
theorem pos_hit {L : List Fd.E} {id : Int} {k : Nat} (hk : k < L.length) (h : idAt L k = id) (hb : ∀ j, j < k → idAt L j ≠ id) : pos L id = k := by
  unfold pos
  rw [List.findIdx_eq hk]
  refine ⟨?_, fun j hj => ?_⟩
  · unfold idAt at h; rw [Rk.at_get L k hk] at h; simp [h]
  · have := hb j hj
    unfold idAt at this
    rw [Rk.at_get L j (by omega)] at this
    simpa using this
theorem pos_miss {L : List Fd.E} {id : Int} (hb : ∀ j, j < L.length → idAt L j ≠ id) : pos L id = L.length := by
  unfold pos
  rw [List.findIdx_eq_length]
  intro f hf
  obtain ⟨j, hj, rfl⟩ := List.getElem_of_mem hf
  have := hb j hj
  unfold idAt at this
  rw [Rk.at_get L j hj] at this
  simpa using this
/-- the number of a field, or -1 -/
def place (L : List Fd.E) (id : Int) : Int := if pos L id < L.length then (pos L id : Int) else -1
theorem place_cases (L : List Fd.E) (id : Int) : (place L id = -1 ∧ ∀ j, j < L.length → idAt L j ≠ id) ∨ ∃ k, k < L.length ∧ place L id = k ∧ idAt L k = id ∧ ∀ j, j < k → idAt L j ≠ id := by
  by_cases h : pos L id < L.length
  · refine .inr ⟨pos L id, h, if_pos h, ?_, fun j hj => ?_⟩
    · have := List.findIdx_getElem (p := fun f : Fd.E => decide (f.1 = id)) (w := h)
      unfold idAt
      rw [Rk.at_get L _ h]
      exact of_decide_eq_true this
    · have := List.not_of_lt_findIdx (p := fun f : Fd.E => decide (f.1 = id)) hj
      unfold idAt
      rw [Rk.at_get L j (by omega)]
      simpa using this
  · refine .inl ⟨if_neg h, fun j hj => ?_⟩
    have := List.not_of_lt_findIdx (p := fun f : Fd.E => decide (f.1 = id)) (i := j) (xs := L) (by unfold pos at h; omega)
    unfold idAt
    rw [Rk.at_get L j hj]
    simpa using this
/-- what FieldOf tells: a text and a code -/
def fieldOf (K : Int) (L : List Fd.E) (id : Int) : ByteArray × Int :=
  if right K L then (if pos L id < L.length then (textAt L (pos L id), 0) else (ByteArray.empty, 6)) else (ByteArray.empty, 1)
theorem fieldOf_ill {K : Int} {L : List Fd.E} {id : Int} (h : right K L = false) : fieldOf K L id = (ByteArray.empty, 1) := by simp [fieldOf, h]
theorem fieldOf_hit {K : Int} {L : List Fd.E} {id : Int} {k : Nat} (h : right K L = true) (hk : k < L.length) (hi : idAt L k = id) (hb : ∀ j, j < k → idAt L j ≠ id) : fieldOf K L id = (textAt L k, 0) := by simp [fieldOf, h, pos_hit hk hi hb, hk]
theorem fieldOf_miss {K : Int} {L : List Fd.E} {id : Int} (h : right K L = true) (hb : ∀ j, j < L.length → idAt L j ≠ id) : fieldOf K L id = (ByteArray.empty, 6) := by simp [fieldOf, h, pos_miss hb]
theorem textAt_fit {L : List Fd.E} (hL : ∀ f ∈ L, Fd.Fit f) (k : Nat) : (textAt L k).size ≤ maxLen := (Fd.fit_at hL k).2
theorem textAt_small {K : Int} {L : List Fd.E} (h : right K L = true) (k : Nat) : (textAt L k).size ≤ 500 := by
  by_cases hk : k < L.length
  · exact ((right_inv h).2.1 k hk).2.2
  · unfold textAt Rk.at_
    simp [List.getD, List.getElem?_eq_none (Nat.le_of_not_lt hk), Fd.S]
end Rc
end Go.Proofs.Ytjagohadeegghaa

/- Plain mathematics of the older book: which are right. No function of the program here. -/
import Derived.Test.YtnhpcknbnmhlhaaOrderKit
namespace Go.Proofs.Ytnhpcknbnmhlhaa
namespace Ob
/-- the order at a place -/
abbrev at' (L : List Or.E) (i : Nat) : Or.E := Rk.at_ Or.S L i
def okN (n : Int) (o : Or.E) : Bool := decide (1 ≤ o.1 ∧ o.1 ≤ n - 1) && (decide (1 ≤ o.2.1 ∧ o.2.1 ≤ 9) && (decide (1 ≤ o.2.2.1 ∧ o.2.2.1 ≤ 10000) && decide (1 ≤ o.2.2.2.1 ∧ o.2.2.2.1 ≤ 1000)))
def okP (o : Or.E) : Bool := decide (o.2.2.2.2.2.1 = 0) && (decide (o.2.2.2.2.2.2.1 = 0) && !o.2.2.2.2.2.2.2)
/-- one of the first price may stand ahead of one of the second -/
def behind (buy : Bool) (p q : Int) : Bool := if buy then decide (q ≤ p) else decide (p ≤ q)
def turn (buy : Bool) (L : List Or.E) (i : Nat) : Bool := i == 0 || behind buy (at' L (i - 1)).2.2.1 (at' L i).2.2.1
def stepN (n : Int) (buy : Bool) (L : List Or.E) (i : Nat) : Bool := okN n (at' L i) && turn buy L i
def step (n : Int) (buy : Bool) (L : List Or.E) (i : Nat) : Bool := (okP (at' L i) && okN n (at' L i)) && turn buy L i
def upTo (n : Nat) (f : Nat → Bool) : Bool := (List.range n).all f
theorem upTo_no {n i : Nat} {f : Nat → Bool} (hi : i < n) (h : f i = false) : upTo n f = false := by
  unfold upTo
  rw [List.all_eq_false]
  exact ⟨i, by simpa using hi, by simp [h]⟩
theorem upTo_yes {n : Nat} {f : Nat → Bool} (h : ∀ i, i < n → f i = true) : upTo n f = true := by
  unfold upTo
  rw [List.all_eq_true]
  intro i hi
  exact h i (by simpa using hi)
theorem upTo_inv {n : Nat} {f : Nat → Bool} (h : upTo n f = true) (i : Nat) (hi : i < n) : f i = true := by
  unfold upTo at h
  rw [List.all_eq_true] at h
  exact h i (by simpa using hi)
theorem upTo_false {n : Nat} {f : Nat → Bool} (h : upTo n f = false) : ∃ i, i < n ∧ f i = false := by
  unfold upTo at h
  rw [List.all_eq_false] at h
  obtain ⟨i, hi, hf⟩ := h
  exact ⟨i, by simpa using hi, by simpa using hf⟩
def sideN (n : Int) (buy : Bool) (L : List Or.E) : Bool := upTo L.length (stepN n buy L)
def side (n : Int) (buy : Bool) (L : List Or.E) : Bool := upTo L.length (step n buy L)
def plain (L : List Or.E) : Bool := upTo L.length fun i => okP (at' L i)
/-- none of the first ones has the Id of the one at a place -/
def fresh (L : List Or.E) (i : Nat) : Bool := upTo i fun k => !decide ((at' L k).1 = (at' L i).1)
def ids (L : List Or.E) : Bool := upTo L.length (fresh L)
def apart (B A : List Or.E) : Bool := decide (B.length = 0) || (decide (A.length = 0) || decide ((at' B 0).2.2.1 < (at' A 0).2.2.1))
/-- Next and how many there are -/
def frame (B A : List Or.E) (n : Int) : Prop := 1 ≤ n ∧ n ≤ 1000000 ∧ (B.length : Int) + A.length ≤ 24
instance (B A : List Or.E) (n : Int) : Decidable (frame B A n) := by unfold frame; infer_instance
def right (B A : List Or.E) (n : Int) : Bool := decide (frame B A n) && (side n true B && (side n false A && (ids (B ++ A) && apart B A)))
theorem at_left (B A : List Or.E) (i : Nat) (h : i < B.length) : at' (B ++ A) i = at' B i := by
  simp [at', Rk.at_, List.getD, List.getElem?_append_left h]
theorem at_right (B A : List Or.E) (i : Nat) : at' (B ++ A) (B.length + i) = at' A i := by
  simp [at', Rk.at_, List.getD, List.getElem?_append_right]
theorem side_split (n : Int) (buy : Bool) (L : List Or.E) : side n buy L = (plain L && sideN n buy L) := by
  rw [Bool.eq_iff_iff]
  simp only [Bool.and_eq_true]
  constructor
  · intro h
    refine ⟨upTo_yes fun i hi => ?_, upTo_yes fun i hi => ?_⟩
    · have := upTo_inv h i hi; simp only [step, Bool.and_eq_true] at this; exact this.1.1
    · have := upTo_inv h i hi; simp only [step, Bool.and_eq_true] at this; simp only [stepN, Bool.and_eq_true]; exact ⟨this.1.2, this.2⟩
  · rintro ⟨h1, h2⟩
    refine upTo_yes fun i hi => ?_
    have a := upTo_inv h1 i hi
    have b := upTo_inv h2 i hi
    simp only [stepN, Bool.and_eq_true] at b
    simp only [step, Bool.and_eq_true]
    exact ⟨⟨a, b.1⟩, b.2⟩
theorem plain_both (B A : List Or.E) : plain (B ++ A) = (plain B && plain A) := by
  rw [Bool.eq_iff_iff]
  simp only [Bool.and_eq_true]
  constructor
  · intro h
    refine ⟨upTo_yes fun i hi => ?_, upTo_yes fun i hi => ?_⟩
    · have := upTo_inv h i (by simp; omega); simp only [at_left B A i hi] at this; exact this
    · have := upTo_inv h (B.length + i) (by simp; omega); simp only [at_right B A i] at this; exact this
  · rintro ⟨h1, h2⟩
    refine upTo_yes fun i hi => ?_
    by_cases c : i < B.length
    · simp only [at_left B A i c]; exact upTo_inv h1 i c
    · obtain ⟨k, rfl⟩ : ∃ k, i = B.length + k := ⟨i - B.length, by omega⟩
      simp only [at_right B A k]; exact upTo_inv h2 k (by simp at hi; omega)
/-- the specification's question: first what is new, then the rest -/
def both (B A : List Or.E) (n : Int) : Bool := decide (frame B A n) && (sideN n true B && (sideN n false A && (ids (B ++ A) && apart B A)))
theorem right_both (B A : List Or.E) (n : Int) : right B A n = (plain (B ++ A) && both B A n) := by
  unfold right both
  rw [side_split, side_split, plain_both]
  cases decide (frame B A n) <;> cases plain B <;> cases plain A <;> cases sideN n true B <;> cases sideN n false A <;> simp
theorem right_long {B A : List Or.E} {n : Int} (h : ¬ frame B A n) : right B A n = false := by simp [right, h]
theorem both_long {B A : List Or.E} {n : Int} (h : ¬ frame B A n) : both B A n = false := by simp [both, h]
end Ob
end Go.Proofs.Ytnhpcknbnmhlhaa

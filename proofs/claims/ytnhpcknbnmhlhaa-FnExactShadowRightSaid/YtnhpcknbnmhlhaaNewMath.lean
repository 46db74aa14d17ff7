/- Plain mathematics of the newer book: which are right. No function of the program here. -/
import Derived.Test.YtnhpcknbnmhlhaaOldMath
import Derived.Test.YtnhpcknbnmhlhaaLevelKit
namespace Go.Proofs.Ytnhpcknbnmhlhaa
set_option linter.unusedVariables false
set_option linter.unusedSimpArgs false
namespace Nb
/-- the orders of all levels, one behind the other -/
def flat (L : List Lv.E) : List Or.E := L.flatMap (·.2)
theorem flat_none : flat [] = [] := rfl
theorem flat_append (L M : List Lv.E) : flat (L ++ M) = flat L ++ flat M := by simp [flat]
theorem take_at (L : List Lv.E) (k : Nat) (h : k < L.length) : L.take (k + 1) = L.take k ++ [Lv.at' L k] := by
  rw [List.take_add_one, List.getElem?_eq_getElem h, Lv.at_get L k h]; rfl
theorem flat_step (L : List Lv.E) (k : Nat) (h : k < L.length) : flat (L.take (k + 1)) = flat (L.take k) ++ (Lv.at' L k).2 := by
  rw [take_at L k h, flat_append]; simp [flat]
theorem flat_all (L : List Lv.E) : flat (L.take L.length) = flat L := by rw [List.take_length]
theorem flat_le (L : List Lv.E) (k : Nat) : (flat (L.take k)).length ≤ (flat L).length := by
  conv => rhs; rw [← List.take_append_drop k L, flat_append]
  simp
theorem part_le (L : List Lv.E) (k : Nat) (h : k < L.length) : (flat (L.take k)).length + (Lv.at' L k).2.length ≤ (flat L).length := by
  have := flat_le L (k + 1)
  rw [flat_step L k h, List.length_append] at this
  exact this
theorem each_le (L : List Lv.E) (k : Nat) (h : k < L.length) : (Lv.at' L k).2.length ≤ (flat L).length := by have := part_le L k h; omega
theorem upTo_all (L : List Or.E) (f : Or.E → Bool) : Ob.upTo L.length (fun i => f (Ob.at' L i)) = true ↔ ∀ o ∈ L, f o = true := by
  constructor
  · intro h o ho
    obtain ⟨i, hi, e⟩ := List.getElem_of_mem ho
    have := Ob.upTo_inv h i hi
    simp only [Ob.at'] at this
    rw [Rk.at_get L i hi, e] at this
    exact this
  · intro h
    exact Ob.upTo_yes fun i hi => h _ (Rk.at_mem L i hi)
theorem mem_flat (L : List Lv.E) (o : Or.E) : o ∈ flat L ↔ ∃ i, i < L.length ∧ o ∈ (Lv.at' L i).2 := by
  unfold flat
  rw [List.mem_flatMap]
  constructor
  · rintro ⟨e, he, ho⟩
    obtain ⟨i, hi, rfl⟩ := List.getElem_of_mem he
    exact ⟨i, hi, by rw [Lv.at_get L i hi]; exact ho⟩
  · rintro ⟨i, hi, ho⟩
    exact ⟨_, Lv.at_mem L i hi, ho⟩
/-- a level that has orders, and another price than the one ahead of it -/
def head (L : List Lv.E) (i : Nat) : Bool := !(decide ((Lv.at' L i).2.length = 0)) && (i == 0 || !decide ((Lv.at' L (i - 1)).1 = (Lv.at' L i).1))
/-- its orders have its price -/
def prices (e : Lv.E) : Bool := Ob.upTo e.2.length fun k => decide ((Ob.at' e.2 k).2.2.1 = e.1)
def lvl (L : List Lv.E) (i : Nat) : Bool := head L i && prices (Lv.at' L i)
def lvls (L : List Lv.E) : Bool := Ob.upTo L.length (lvl L)
/-- what an order shows and hides, as the specification asks for it, of an order whose amount is right -/
def peak (o : Or.E) : Bool := decide (0 ≤ o.2.2.2.2.2.1 ∧ o.2.2.2.2.2.1 ≤ 1000) && (decide (0 ≤ o.2.2.2.2.2.2.1 ∧ o.2.2.2.2.2.2.1 ≤ 1000) && (decide (o.2.2.2.1 + o.2.2.2.2.2.2.1 ≤ 1000) && (if o.2.2.2.2.2.1 = 0 then decide (o.2.2.2.2.2.2.1 = 0) else decide (o.2.2.2.1 ≤ o.2.2.2.2.2.1))))
/-- as the program asks for it -/
def peakI (o : Or.E) : Bool := if o.2.2.2.2.2.1 = 0 then decide (o.2.2.2.2.2.2.1 = 0) else decide (1 ≤ o.2.2.2.2.2.1 ∧ o.2.2.2.2.2.1 ≤ 1000) && (decide (1 ≤ o.2.2.2.1 ∧ o.2.2.2.1 ≤ o.2.2.2.2.2.1) && decide (0 ≤ o.2.2.2.2.2.2.1 ∧ o.2.2.2.2.2.2.1 ≤ 1000 - o.2.2.2.1))
theorem peak_same (o : Or.E) (h0 : 1 ≤ o.2.2.2.1) (h1 : o.2.2.2.1 ≤ 1000) : peakI o = peak o := by
  unfold peakI peak
  rw [Bool.eq_iff_iff]
  split
  · rename_i h
    simp only [Bool.and_eq_true, decide_eq_true_eq]
    omega
  · simp only [Bool.and_eq_true, decide_eq_true_eq]
    omega
def peaks (L : List Or.E) : Bool := Ob.upTo L.length fun i => peak (Ob.at' L i)
def right (B A : List Lv.E) (n : Int) : Bool := lvls B && (lvls A && (Ob.both (flat B) (flat A) n && peaks (flat B ++ flat A)))
/-- an order's price and what it shows and hides, as the program asks for both at once -/
def item (e : Lv.E) (k : Nat) : Bool := decide ((Ob.at' e.2 k).2.2.1 = e.1) && peakI (Ob.at' e.2 k)
def items (e : Lv.E) : Bool := Ob.upTo e.2.length (item e)
def lvlI (L : List Lv.E) (i : Nat) : Bool := head L i && items (Lv.at' L i)
def lvlsI (L : List Lv.E) : Bool := Ob.upTo L.length (lvlI L)
/-- an order without what only a newer book has -/
def strip (o : Or.E) : Or.E := (o.1, o.2.1, o.2.2.1, o.2.2.2.1, o.2.2.2.2.1, 0, 0, false)
theorem at_strip (L : List Or.E) (i : Nat) : Ob.at' (L.map strip) i = strip (Ob.at' L i) := by
  simp only [Ob.at', Rk.at_, List.getD, List.getElem?_map]
  cases L[i]? <;> rfl
theorem upTo_congr {n : Nat} {f g : Nat → Bool} (h : ∀ i, f i = g i) : Ob.upTo n f = Ob.upTo n g := by rw [show f = g from funext h]
theorem ids_strip (L : List Or.E) : Ob.ids (L.map strip) = Ob.ids L := by
  unfold Ob.ids
  rw [List.length_map]
  refine upTo_congr fun i => ?_
  unfold Ob.fresh
  refine upTo_congr fun k => ?_
  rw [at_strip, at_strip]; rfl
theorem sideN_strip (n : Int) (buy : Bool) (L : List Or.E) : Ob.sideN n buy (L.map strip) = Ob.sideN n buy L := by
  unfold Ob.sideN
  rw [List.length_map]
  refine upTo_congr fun i => ?_
  unfold Ob.stepN Ob.turn
  rw [at_strip, at_strip]; rfl
theorem plain_strip (L : List Or.E) : Ob.plain (L.map strip) = true := by
  refine Ob.upTo_yes fun i _ => ?_
  rw [at_strip]; rfl
theorem both_strip (B A : List Or.E) (n : Int) : Ob.both (B.map strip) (A.map strip) n = Ob.both B A n := by
  have e1 : Ob.apart (B.map strip) (A.map strip) = Ob.apart B A := by
    unfold Ob.apart
    rw [at_strip, at_strip, List.length_map, List.length_map]; rfl
  have e2 : decide (Ob.frame (B.map strip) (A.map strip) n) = decide (Ob.frame B A n) := by
    rw [decide_eq_decide]
    unfold Ob.frame
    rw [List.length_map, List.length_map]
  unfold Ob.both
  rw [e1, e2, sideN_strip, sideN_strip, ← List.map_append, ids_strip]
theorem right_strip (B A : List Or.E) (n : Int) : Ob.right (B.map strip) (A.map strip) n = Ob.both B A n := by
  rw [Ob.right_both, ← List.map_append, plain_strip, Bool.true_and, both_strip]
theorem sideN_amount {n : Int} {buy : Bool} {L : List Or.E} (h : Ob.sideN n buy L = true) : ∀ o ∈ L, 1 ≤ o.2.2.2.1 ∧ o.2.2.2.1 ≤ 1000 := by
  intro o ho
  obtain ⟨i, hi, e⟩ := List.getElem_of_mem ho
  have := Ob.upTo_inv h i hi
  simp only [Ob.stepN, Ob.okN, Bool.and_eq_true, decide_eq_true_eq, Ob.at'] at this
  rw [Rk.at_get L i hi, e] at this
  exact this.1.2.2.2
theorem both_inv {B A : List Or.E} {n : Int} (h : Ob.both B A n = true) : Ob.frame B A n ∧ Ob.sideN n true B = true ∧ Ob.sideN n false A = true := by
  simp only [Ob.both, Bool.and_eq_true, decide_eq_true_eq] at h
  exact ⟨h.1, h.2.1, h.2.2.1⟩
theorem both_amount {B A : List Or.E} {n : Int} (h : Ob.both B A n = true) : ∀ o ∈ B ++ A, 1 ≤ o.2.2.2.1 ∧ o.2.2.2.1 ≤ 1000 := by
  obtain ⟨_, h1, h2⟩ := both_inv h
  intro o ho
  rcases List.mem_append.1 ho with ho | ho
  · exact sideN_amount h1 o ho
  · exact sideN_amount h2 o ho
theorem lvlsI_iff (L : List Lv.E) : lvlsI L = true ↔ lvls L = true ∧ ∀ o ∈ flat L, peakI o = true := by
  have it : ∀ e : Lv.E, items e = true ↔ prices e = true ∧ ∀ o ∈ e.2, peakI o = true := by
    intro e
    rw [← upTo_all]
    constructor
    · intro h
      refine ⟨Ob.upTo_yes fun i hi => ?_, Ob.upTo_yes fun i hi => ?_⟩
      · have := Ob.upTo_inv h i hi; simp only [item, Bool.and_eq_true] at this; exact this.1
      · have := Ob.upTo_inv h i hi; simp only [item, Bool.and_eq_true] at this; exact this.2
    · rintro ⟨h1, h2⟩
      refine Ob.upTo_yes fun i hi => ?_
      simp only [item, Bool.and_eq_true]
      exact ⟨Ob.upTo_inv h1 i hi, Ob.upTo_inv h2 i hi⟩
  constructor
  · intro h
    refine ⟨Ob.upTo_yes fun i hi => ?_, fun o ho => ?_⟩
    · have := Ob.upTo_inv h i hi
      simp only [lvlI, Bool.and_eq_true, it] at this
      simp only [lvl, Bool.and_eq_true]
      exact ⟨this.1, this.2.1⟩
    · obtain ⟨i, hi, ho⟩ := (mem_flat L o).1 ho
      have := Ob.upTo_inv h i hi
      simp only [lvlI, Bool.and_eq_true, it] at this
      exact this.2.2 o ho
  · rintro ⟨h1, h2⟩
    refine Ob.upTo_yes fun i hi => ?_
    have := Ob.upTo_inv h1 i hi
    simp only [lvl, Bool.and_eq_true] at this
    simp only [lvlI, Bool.and_eq_true, it]
    exact ⟨this.1, this.2, fun o ho => h2 o ((mem_flat L o).2 ⟨i, hi, ho⟩)⟩
/-- the program's question is the specification's -/
theorem right_impl (B A : List Lv.E) (n : Int) : (decide ((flat B).length + (flat A).length ≤ 24) && (lvlsI B && (lvlsI A && Ob.right ((flat B).map strip) ((flat A).map strip) n))) = right B A n := by
  rw [right_strip, Bool.eq_iff_iff]
  unfold right peaks
  simp only [Bool.and_eq_true, decide_eq_true_eq, lvlsI_iff, upTo_all]
  constructor
  · rintro ⟨_, ⟨h1, h2⟩, ⟨h3, h4⟩, h5⟩
    refine ⟨h1, h3, h5, fun o ho => ?_⟩
    have hm := both_amount h5 o ho
    rw [← peak_same o hm.1 hm.2]
    rcases List.mem_append.1 ho with ho | ho
    · exact h2 o ho
    · exact h4 o ho
  · rintro ⟨h1, h3, h5, h6⟩
    have hf := (both_inv h5).1
    unfold Ob.frame at hf
    refine ⟨by omega, ⟨h1, fun o ho => ?_⟩, ⟨h3, fun o ho => ?_⟩, h5⟩
    · have ho' : o ∈ flat B ++ flat A := List.mem_append.2 (.inl ho)
      have hm := both_amount h5 o ho'
      rw [peak_same o hm.1 hm.2]; exact h6 o ho'
    · have ho' : o ∈ flat B ++ flat A := List.mem_append.2 (.inr ho)
      have hm := both_amount h5 o ho'
      rw [peak_same o hm.1 hm.2]; exact h6 o ho'
theorem right_inv {B A : List Lv.E} {n : Int} (h : right B A n = true) : lvls B = true ∧ lvls A = true ∧ Ob.both (flat B) (flat A) n = true := by
  simp only [right, Bool.and_eq_true] at h
  exact ⟨h.1, h.2.1, h.2.2.1⟩
theorem right_small {B A : List Lv.E} {n : Int} (h : right B A n = true) : (flat B).length + (flat A).length ≤ 24 := by
  have := (both_inv (right_inv h).2.2).1
  unfold Ob.frame at this
  omega
end Nb
end Go.Proofs.Ytnhpcknbnmhlhaa

/- Ledgers in plain words: which are right, the entry of an id, what is left, positions, evenness. No function of the program here. -/
import Derived.Test.YtemhhmcedghcdaaEntriesKit
import Derived.Test.YtemhhmcedghcdaaCmdMath
namespace Go.Proofs.Ytemhhmcedghcdaa
open Go.RowKit
namespace Lg
abbrev at' (L : List En.E) (i : Nat) : En.E := Rk.at_ En.S L i
/-- an entry by itself may be -/
def ok (f : En.E) : Bool := Cm.inn f.1 1 1000000 && (Cm.inn f.2.1 1 9 && (Cm.inn f.2.2.2.1 0 1000000 && (Cm.inn f.2.2.2.2.1 0 f.2.2.2.1 && (Cm.inn f.2.2.2.2.2.1 0 (f.2.2.2.1 - f.2.2.2.2.1) && Cm.inn f.2.2.2.2.2.2 0 (10000 * f.2.2.2.2.1)))))
/-- the entry at a place has a greater id than the one ahead of it -/
def up (L : List En.E) (i : Nat) : Bool := i == 0 || decide ((at' L (i - 1)).1 < (at' L i).1)
def upTo (n : Nat) (f : Nat → Bool) : Bool := (List.range n).all f
theorem upTo_no {n i : Nat} {f : Nat → Bool} (hi : i < n) (h : f i = false) : upTo n f = false := by
  unfold upTo
  rw [List.all_eq_false]
  exact ⟨i, by simpa using hi, by simp [h]⟩
theorem upTo_yes {n : Nat} {f : Nat → Bool} (h : ∀ i, i < n → f i = true) : upTo n f = true := by
  unfold upTo
  rw [List.all_eq_true]
  intro i hi
  exact h i (by simpa using hi)
theorem upTo_inv {n : Nat} {f : Nat → Bool} (h : upTo n f = true) (i : Nat) (hi : i < n) : f i = true := by
  unfold upTo at h
  rw [List.all_eq_true] at h
  exact h i (by simpa using hi)
def okAll (L : List En.E) : Bool := upTo L.length fun i => ok (at' L i)
def upAll (L : List En.E) : Bool := upTo L.length (up L)
/-- a ledger is right -/
def right (L : List En.E) : Bool := decide ((L.length : Int) ≤ 60) && (okAll L && upAll L)
theorem right_long {L : List En.E} (h : (60 : Int) < (L.length : Int)) : right L = false := by
  have : decide ((L.length : Int) ≤ 60) = false := decide_eq_false (by omega)
  simp only [right, this, Bool.false_and]
theorem right_ill {L : List En.E} (h : okAll L = false) : right L = false := by simp [right, h]
theorem right_down {L : List En.E} (h : upAll L = false) : right L = false := by simp [right, h]
theorem right_yes {L : List En.E} (h1 : okAll L = true) (h2 : upAll L = true) : right L = decide ((L.length : Int) ≤ 60) := by simp only [right, h1, h2, Bool.and_true]
theorem right_of {L : List En.E} (h : (L.length : Int) ≤ 60) (h1 : okAll L = true) : right L = upAll L := by simp only [right, decide_eq_true h, h1, Bool.true_and]
theorem right_inv {L : List En.E} (h : right L = true) : L.length ≤ 60 ∧ (∀ i, i < L.length → ok (at' L i) = true) ∧ ∀ i, i + 1 < L.length → (at' L i).1 < (at' L (i + 1)).1 := by
  simp only [right, Bool.and_eq_true, decide_eq_true_eq] at h
  obtain ⟨h1, h2, h3⟩ := h
  refine ⟨by omega, fun i hi => upTo_inv h2 i hi, fun i hi => ?_⟩
  have := upTo_inv h3 (i + 1) hi
  simpa [up] using this
theorem ok_inv {f : En.E} (h : ok f = true) : (1 ≤ f.1 ∧ f.1 ≤ 1000000) ∧ (1 ≤ f.2.1 ∧ f.2.1 ≤ 9) ∧ (0 ≤ f.2.2.2.1 ∧ f.2.2.2.1 ≤ 1000000) ∧ (0 ≤ f.2.2.2.2.1 ∧ f.2.2.2.2.1 ≤ f.2.2.2.1) ∧ (0 ≤ f.2.2.2.2.2.1 ∧ f.2.2.2.2.2.1 ≤ f.2.2.2.1 - f.2.2.2.2.1) ∧ (0 ≤ f.2.2.2.2.2.2 ∧ f.2.2.2.2.2.2 ≤ 10000 * f.2.2.2.2.1) := by
  simpa [ok, Cm.inn] using h
theorem ok_last {id ow : Int} {b : Bool} {am fi cu pa : Int} (h1 : Cm.inn id 1 1000000 = true) (h2 : Cm.inn ow 1 9 = true) (h3 : Cm.inn am 0 1000000 = true) (h4 : 0 ≤ fi) (h5 : 0 ≤ cu) (h6 : fi + cu ≤ am) : ok (id, ow, b, am, fi, cu, pa) = Cm.inn pa 0 (10000 * fi) := by
  have e1 : Cm.inn fi 0 am = true := by simp [Cm.inn]; omega
  have e2 : Cm.inn cu 0 (am - fi) = true := by simp [Cm.inn]; omega
  simp only [ok, h1, h2, h3, e1, e2, Bool.true_and]
/-- the first entry of an id; how many there are, if there is none -/
def pos (L : List En.E) (id : Int) : Nat := L.findIdx (fun f => decide (f.1 = id))
theorem pos_hit {L : List En.E} {id : Int} {k : Nat} (hk : k < L.length) (h : (at' L k).1 = id) (hb : ∀ j, j < k → (at' L j).1 ≠ id) : pos L id = k := by
  unfold pos
  rw [List.findIdx_eq hk]
  refine ⟨?_, fun j hj => ?_⟩
  · unfold at' at h; rw [Rk.at_get L k hk] at h; simp [h]
  · have := hb j hj
    unfold at' at this
    rw [Rk.at_get L j (by omega)] at this
    simpa using this
theorem pos_miss {L : List En.E} {id : Int} (hb : ∀ j, j < L.length → (at' L j).1 ≠ id) : pos L id = L.length := by
  unfold pos
  rw [List.findIdx_eq_length]
  intro f hf
  obtain ⟨j, hj, rfl⟩ := List.getElem_of_mem hf
  have := hb j hj
  unfold at' at this
  rw [Rk.at_get L j hj] at this
  simpa using this
/-- the entry of an id of a right ledger, else the zero one -/
def entry (L : List En.E) (id : Int) : En.E := if right L = true then at' L (pos L id) else En.S.z
theorem at_len (L : List En.E) : at' L L.length = En.S.z := by simp [at', Rk.at_, List.getD]
theorem entry_ill {L : List En.E} {id : Int} (h : right L = false) : entry L id = En.S.z := by simp [entry, h]
theorem entry_hit {L : List En.E} {id : Int} {k : Nat} (h : right L = true) (hk : k < L.length) (he : (at' L k).1 = id) (hb : ∀ j, j < k → (at' L j).1 ≠ id) : entry L id = at' L k := by
  unfold entry
  rw [if_pos h, pos_hit hk he hb]
theorem entry_miss {L : List En.E} {id : Int} (hb : ∀ j, j < L.length → (at' L j).1 ≠ id) : entry L id = En.S.z := by
  unfold entry
  rw [pos_miss hb, at_len]
  split <;> rfl
theorem entry_fit {L : List En.E} (id : Int) : (0 ≤ (entry L id).2.2.2.1 ∧ (entry L id).2.2.2.1 ≤ 1000000) ∧ (0 ≤ (entry L id).2.2.2.2.1 ∧ (entry L id).2.2.2.2.1 ≤ (entry L id).2.2.2.1) ∧ (0 ≤ (entry L id).2.2.2.2.2.1 ∧ (entry L id).2.2.2.2.2.1 ≤ (entry L id).2.2.2.1 - (entry L id).2.2.2.2.1) := by
  have hz : (0 ≤ En.S.z.2.2.2.1 ∧ En.S.z.2.2.2.1 ≤ 1000000) ∧ (0 ≤ En.S.z.2.2.2.2.1 ∧ En.S.z.2.2.2.2.1 ≤ En.S.z.2.2.2.1) ∧ (0 ≤ En.S.z.2.2.2.2.2.1 ∧ En.S.z.2.2.2.2.2.1 ≤ En.S.z.2.2.2.1 - En.S.z.2.2.2.2.1) := by simp [En.S]
  unfold entry
  split
  · rename_i h
    by_cases hp : pos L id < L.length
    · have := ok_inv ((right_inv h).2.1 _ hp)
      exact ⟨this.2.2.1, this.2.2.2.1, this.2.2.2.2.1⟩
    · have e : at' L (pos L id) = En.S.z := by simp [at', Rk.at_, List.getD, List.getElem?_eq_none (Nat.le_of_not_lt hp)]
      rw [e]; exact hz
  · exact hz
/-- what is left -/
def left (L : List En.E) (id : Int) : Int := (entry L id).2.2.2.1 - (entry L id).2.2.2.2.1 - (entry L id).2.2.2.2.2.1
/-- bought, sold, paid, got -/
abbrev P := Int × Int × Int × Int
def add (p : P) (f : En.E) : P := if f.2.2.1 = true then (p.1 + f.2.2.2.2.1, p.2.1, p.2.2.1 + f.2.2.2.2.2.2, p.2.2.2) else (p.1, p.2.1 + f.2.2.2.2.1, p.2.2.1, p.2.2.2 + f.2.2.2.2.2.2)
/-- the position of those that count -/
def posn (c : En.E → Bool) (L : List En.E) : P := L.foldl (fun p f => if c f = true then add p f else p) (0, 0, 0, 0)
theorem posn_take (c : En.E → Bool) (L : List En.E) (k : Nat) (hk : k < L.length) : posn c (L.take (k + 1)) = if c (at' L k) = true then add (posn c (L.take k)) (at' L k) else posn c (L.take k) := by
  unfold posn
  rw [Rk.take_at (S := En.S) L k hk, List.foldl_append]
  rfl
/-- bounds of the sums of the first ones -/
theorem posn_bound (c : En.E → Bool) {L : List En.E} (h : right L = true) : ∀ k, k ≤ L.length → (0 ≤ (posn c (L.take k)).1 ∧ (posn c (L.take k)).1 ≤ 1000000 * k) ∧ (0 ≤ (posn c (L.take k)).2.1 ∧ (posn c (L.take k)).2.1 ≤ 1000000 * k) ∧ (0 ≤ (posn c (L.take k)).2.2.1 ∧ (posn c (L.take k)).2.2.1 ≤ 10000000000 * k) ∧ (0 ≤ (posn c (L.take k)).2.2.2 ∧ (posn c (L.take k)).2.2.2 ≤ 10000000000 * k) := by
  intro k
  induction k with
  | zero => intro _; simp [posn]
  | succ k ih =>
    intro hk
    have hk' : k < L.length := by omega
    obtain ⟨i1, i2, i3, i4⟩ := ih (by omega)
    have o := ok_inv ((right_inv h).2.1 k hk')
    rw [posn_take c L k hk']
    by_cases hc : c (at' L k) = true
    · rw [if_pos hc]
      unfold add
      by_cases hb : (at' L k).2.2.1 = true
      · rw [if_pos hb]; simp only; omega
      · rw [if_neg hb]; simp only; omega
    · rw [if_neg hc]; omega
/-- of an owner -/
def position (L : List En.E) (owner : Int) : P := if right L = true then posn (fun f => decide (f.2.1 = owner)) L else (0, 0, 0, 0)
/-- the sums of all together are the same -/
def even (L : List En.E) : Bool := right L && (decide ((posn (fun _ => true) L).1 = (posn (fun _ => true) L).2.1) && decide ((posn (fun _ => true) L).2.2.1 = (posn (fun _ => true) L).2.2.2))
end Lg
end Go.Proofs.Ytemhhmcedghcdaa

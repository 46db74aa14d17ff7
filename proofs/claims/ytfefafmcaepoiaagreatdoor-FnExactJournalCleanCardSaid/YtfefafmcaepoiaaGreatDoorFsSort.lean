/- Plain mathematics of the order of names: byte by byte, the shorter one first; lists of files that rise by name. No function of the program here. -/
import Derived.Test.YtfefafmcaepoiaaGreatDoorFsMap
namespace Go.Proofs.YtfefafmcaepoiaaGreatDoor
open Go.RowKit
namespace Fk
theorem lt_irrefl : ∀ a : List UInt8, Op.bytesLess a a = false
  | [] => rfl
  | x :: r => by
    have h : ¬ x < x := UInt8.lt_irrefl x
    simp [Op.bytesLess, lt_irrefl r]
theorem lt_trans : ∀ a b c : List UInt8, Op.bytesLess a b = true → Op.bytesLess b c = true → Op.bytesLess a c = true
  | _, [], _, h, _ => by cases ‹List UInt8› <;> simp [Op.bytesLess] at h
  | _, _ :: _, [], _, h => by simp [Op.bytesLess] at h
  | [], _ :: _, _ :: _, _, _ => rfl
  | x :: a, y :: b, z :: c, h1, h2 => by
    simp only [Op.bytesLess, Bool.or_eq_true, Bool.and_eq_true, decide_eq_true_eq, beq_iff_eq] at h1 h2 ⊢
    rcases h1 with h1 | ⟨rfl, h1⟩
    · rcases h2 with h2 | ⟨rfl, h2⟩
      · exact .inl (UInt8.lt_trans h1 h2)
      · exact .inl h1
    · rcases h2 with h2 | ⟨rfl, h2⟩
      · exact .inl h2
      · exact .inr ⟨rfl, lt_trans a b c h1 h2⟩
theorem lt_total : ∀ a b : List UInt8, Op.bytesLess a b = true ∨ a = b ∨ Op.bytesLess b a = true
  | [], [] => .inr (.inl rfl)
  | [], _ :: _ => .inl rfl
  | _ :: _, [] => .inr (.inr rfl)
  | x :: a, y :: b => by
    simp only [Op.bytesLess, Bool.or_eq_true, Bool.and_eq_true, decide_eq_true_eq, beq_iff_eq, List.cons.injEq]
    rcases Nat.lt_trichotomy x.toNat y.toNat with h | h | h
    · exact .inl (.inl h)
    · have e : x = y := UInt8.toNat_inj.1 h
      subst e
      rcases lt_total a b with h | h | h
      · exact .inl (.inr ⟨rfl, h⟩)
      · exact .inr (.inl ⟨rfl, h⟩)
      · exact .inr (.inr (.inr ⟨rfl, h⟩))
    · exact .inr (.inr (.inl h))
/-- a name ahead of another -/
def less (a b : ByteArray) : Bool := Op.bytesLess a.toList b.toList
theorem less_irrefl (a : ByteArray) : less a a = false := lt_irrefl _
theorem less_trans {a b c : ByteArray} (h : less a b = true) (k : less b c = true) : less a c = true := lt_trans _ _ _ h k
theorem less_ne {a b : ByteArray} (h : less a b = true) : a ≠ b := fun e => by subst e; rw [less_irrefl] at h; cases h
theorem less_total (a b : ByteArray) : less a b = true ∨ a = b ∨ less b a = true := by
  rcases lt_total a.toList b.toList with h | h | h
  · exact .inl h
  · exact .inr (.inl (data_inj (by rw [← toList_data, ← toList_data]; exact h)))
  · exact .inr (.inr h)
theorem less_asymm {a b : ByteArray} (h : less a b = true) : less b a = false := by
  cases h' : less b a with
  | false => rfl
  | true => have := less_trans h h'; rw [less_irrefl] at this; cases this
/-- the list rises by name -/
def Rises (L : List Fl) : Prop := L.Pairwise (fun f g => less f.1 g.1 = true)
theorem Rises.apart {L : List Fl} (h : Rises L) : L.Pairwise (fun f g => f.1 ≠ g.1) := h.imp less_ne
/-- two lists that rise and have the same files are one -/
theorem rises_ext : ∀ {A B : List Fl}, Rises A → Rises B → (∀ f, f ∈ A ↔ f ∈ B) → A = B
  | [], [], _, _, _ => rfl
  | [], b :: B, _, _, h => by have := (h b).2 (List.mem_cons_self ..); cases this
  | a :: A, [], _, _, h => by have := (h a).1 (List.mem_cons_self ..); cases this
  | a :: A, b :: B, hA, hB, h => by
    have hA' := List.pairwise_cons.1 hA
    have hB' := List.pairwise_cons.1 hB
    have e : a = b := by
      rcases List.mem_cons.1 ((h a).1 (List.mem_cons_self ..)) with e | ha
      · exact e
      · rcases List.mem_cons.1 ((h b).2 (List.mem_cons_self ..)) with e | hb
        · exact e.symm
        · have h1 := hB'.1 a ha
          have h2 := hA'.1 b hb
          have := less_trans h1 h2
          rw [less_irrefl] at this
          cases this
    subst e
    rw [rises_ext (A := A) (B := B) hA'.2 hB'.2 (fun f => ?_)]
    constructor
    · intro hf
      rcases List.mem_cons.1 ((h f).1 (List.mem_cons_of_mem _ hf)) with e | hf'
      · subst e
        have := hA'.1 f hf
        rw [less_irrefl] at this
        cases this
      · exact hf'
    · intro hf
      rcases List.mem_cons.1 ((h f).2 (List.mem_cons_of_mem _ hf)) with e | hf'
      · subst e
        have := hB'.1 f hf
        rw [less_irrefl] at this
        cases this
      · exact hf'
/-- each name ahead of the next one: the list rises -/
theorem rises_of_steps (L : List Fl) (h : ∀ k, k + 1 < L.length → less (nm L k) (nm L (k + 1)) = true) : Rises L := by
  induction L with
  | nil => exact List.Pairwise.nil
  | cons f r ih =>
    have hr : Rises r := ih (fun k hk => by have := h (k + 1) (by simpa using hk); simpa [nm] using this)
    refine List.pairwise_cons.2 ⟨fun g hg => ?_, hr⟩
    cases r with
    | nil => cases hg
    | cons g0 r' =>
      have h0 : less f.1 g0.1 = true := by have := h 0 (by simp); simpa [nm] using this
      rcases List.mem_cons.1 hg with e | hg'
      · rw [e]; exact h0
      · exact less_trans h0 ((List.pairwise_cons.1 hr).1 g hg')
theorem right_rises (L : List Fl) (h : right L = true) : Rises L := by
  refine rises_of_steps L fun k hk => ?_
  have := (right_inv L h).2 (k + 1) hk
  simp only [step, Bool.and_eq_true, Bool.or_eq_true, Nat.add_sub_cancel] at this
  rcases this.2 with e | e
  · simp at e
  · exact e
end Fk
end Go.Proofs.YtfefafmcaepoiaaGreatDoor

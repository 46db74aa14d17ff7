/- Plain mathematics of putting a field into a record. No function of the program here. -/
import Derived.Test.YtkkmjffepdejnaaRecMath
namespace Go.Proofs.Ytkkmjffepdejnaa
set_option linter.unusedVariables false
namespace Rc
/-- the fields with one put in its place -/
def put (L : List Fd.E) (x : Fd.E) : List Fd.E := L.filter (fun f => decide (f.1 < x.1)) ++ [x] ++ L.filter (fun f => decide (x.1 < f.1))
theorem put_of {L A B : List Fd.E} {x : Fd.E} (h : L.filter (fun f => decide (f.1 ≠ x.1)) = A ++ B) (hA : ∀ f ∈ A, f.1 < x.1) (hB : ∀ f ∈ B, x.1 < f.1) : put L x = A ++ [x] ++ B := by
  have e1 : L.filter (fun f => decide (f.1 < x.1)) = A := by
    have : L.filter (fun f => decide (f.1 < x.1)) = (L.filter (fun f => decide (f.1 ≠ x.1))).filter (fun f => decide (f.1 < x.1)) := by
      rw [List.filter_filter]
      congr 1
      funext f
      by_cases hf : f.1 < x.1
      · have : f.1 ≠ x.1 := by omega
        simp [hf, this]
      · simp [hf]
    rw [this, h, List.filter_append, List.filter_eq_self.2 (fun f hf => by simp [hA f hf]), List.filter_eq_nil_iff.2 (fun f hf => by have := hB f hf; simp; omega), List.append_nil]
  have e2 : L.filter (fun f => decide (x.1 < f.1)) = B := by
    have : L.filter (fun f => decide (x.1 < f.1)) = (L.filter (fun f => decide (f.1 ≠ x.1))).filter (fun f => decide (x.1 < f.1)) := by
      rw [List.filter_filter]
      congr 1
      funext f
      by_cases hf : x.1 < f.1
      · have : f.1 ≠ x.1 := by omega
        simp [hf, this]
      · simp [hf]
    rw [this, h, List.filter_append, List.filter_eq_nil_iff.2 (fun f hf => by have := hA f hf; simp; omega), List.filter_eq_self.2 (fun f hf => by simp [hB f hf]), List.nil_append]
  rw [put, e1, e2]
/-- fields that rise -/
def Up (L : List Fd.E) : Prop := ∀ i, i + 1 < L.length → idAt L i < idAt L (i + 1)
theorem up_lt {L : List Fd.E} (h : Up L) : ∀ {i j : Nat}, i < j → j < L.length → idAt L i < idAt L j := by
  intro i j hij
  induction j with
  | zero => omega
  | succ m ih =>
    intro hm
    have hu := h m hm
    by_cases e : i = m
    · subst e; exact hu
    · exact Int.lt_trans (ih (by omega) (by omega)) hu
theorem right_up {K : Int} {L : List Fd.E} (h : right K L = true) : Up L := (right_inv h).2.2
theorem up_pair {L : List Fd.E} : Up L ↔ L.Pairwise (fun f g => f.1 < g.1) := by
  constructor
  · intro h
    rw [List.pairwise_iff_getElem]
    intro i j hi hj hij
    have := up_lt h hij hj
    unfold idAt at this
    rw [Rk.at_get L i hi, Rk.at_get L j hj] at this
    exact this
  · intro h i hi
    rw [List.pairwise_iff_getElem] at h
    have := h i (i + 1) (by omega) hi (by omega)
    unfold idAt
    rw [Rk.at_get L i (by omega), Rk.at_get L (i + 1) hi]
    exact this
theorem up_filter {L : List Fd.E} (h : Up L) (p : Fd.E → Bool) : Up (L.filter p) := up_pair.2 ((up_pair.1 h).filter p)
theorem mem_idAt {L : List Fd.E} {f : Fd.E} (h : f ∈ L) : ∃ i, i < L.length ∧ idAt L i = f.1 := by
  obtain ⟨i, hi, e⟩ := List.getElem_of_mem h
  exact ⟨i, hi, by unfold idAt; rw [Rk.at_get L i hi, e]⟩
theorem id_take {L : List Fd.E} {k i : Nat} (hi : i < (L.take k).length) : idAt (L.take k) i = idAt L i := by
  have hi' : i < L.length := by simp at hi; omega
  unfold idAt
  rw [Rk.at_get _ _ hi, Rk.at_get _ _ hi', List.getElem_take]
theorem id_drop {L : List Fd.E} {k i : Nat} (hi : i < (L.drop k).length) : idAt (L.drop k) i = idAt L (k + i) := by
  have hi' : k + i < L.length := by simp at hi; omega
  unfold idAt
  rw [Rk.at_get _ _ hi, Rk.at_get _ _ hi', List.getElem_drop]
theorem take_low {L : List Fd.E} (h : Up L) {k : Nat} {x : Int} (hk : ∀ j, j < k → j < L.length → idAt L j < x) : ∀ f ∈ L.take k, f.1 < x := by
  intro f hf
  obtain ⟨i, hi, e⟩ := mem_idAt hf
  rw [id_take hi] at e
  have hl : i < k ∧ i < L.length := by simp at hi; omega
  rw [← e]
  exact hk i hl.1 hl.2
theorem drop_high {L : List Fd.E} (h : Up L) {k : Nat} {x : Int} (hk : k < L.length → x < idAt L k) : ∀ f ∈ L.drop k, x < f.1 := by
  intro f hf
  obtain ⟨i, hi, e⟩ := mem_idAt hf
  rw [id_drop hi] at e
  have hl : k + i < L.length := by simp at hi; omega
  rw [← e]
  have h0 := hk (by omega)
  by_cases hi0 : i = 0
  · subst hi0; exact h0
  · exact Int.lt_trans h0 (up_lt h (by omega) hl)
/-- the specification's way: k is the first that is not below; k2 the first above -/
theorem put_spec {L : List Fd.E} (h : Up L) {x : Fd.E} {k : Nat} (hk : k ≤ L.length) (hlow : ∀ j, j < k → idAt L j < x.1) (hge : k < L.length → x.1 ≤ idAt L k) :
    put L x = L.take k ++ [x] ++ L.drop (if k < L.length ∧ idAt L k = x.1 then k + 1 else k) := by
  have hA : ∀ f ∈ L.take k, f.1 < x.1 := take_low h (fun j hj _ => hlow j hj)
  by_cases c : k < L.length ∧ idAt L k = x.1
  · rw [if_pos c]
    have hB : ∀ f ∈ L.drop (k + 1), x.1 < f.1 := drop_high h (fun hl => by have h1 : idAt L k < idAt L (k + 1) := up_lt h (Nat.lt_succ_self k) hl; omega)
    refine put_of ?_ hA hB
    have e : L = L.take k ++ ([L[k]'c.1] ++ L.drop (k + 1)) := by
      rw [List.singleton_append, ← List.drop_eq_getElem_cons c.1, List.take_append_drop]
    have hm : (L[k]'c.1).1 = x.1 := by have := c.2; unfold idAt at this; rw [Rk.at_get L k c.1] at this; exact this
    conv => lhs; rw [e]
    have m1 : (L.take k).filter (fun f => decide (f.1 ≠ x.1)) = L.take k := List.filter_eq_self.2 (fun f hf => by have := hA f hf; simp; omega)
    have m2 : [L[k]'c.1].filter (fun f => decide (f.1 ≠ x.1)) = [] := by simp [hm]
    have m3 : (L.drop (k + 1)).filter (fun f => decide (f.1 ≠ x.1)) = L.drop (k + 1) := List.filter_eq_self.2 (fun f hf => by have := hB f hf; simp; omega)
    rw [List.filter_append, List.filter_append, m1, m2, m3, List.nil_append]
  · rw [if_neg c]
    have hB : ∀ f ∈ L.drop k, x.1 < f.1 := drop_high h (fun hl => by have := hge hl; have : idAt L k ≠ x.1 := fun e => c ⟨hl, e⟩; omega)
    refine put_of ?_ hA hB
    rw [List.take_append_drop]
    refine List.filter_eq_self.2 (fun f hf => ?_)
    rw [← List.take_append_drop k L] at hf
    rcases List.mem_append.1 hf with hf | hf
    · have := hA f hf; simp; omega
    · have := hB f hf; simp; omega
theorem put_length (L : List Fd.E) (x : Fd.E) : (put L x).length ≤ 2 * L.length + 1 := by
  unfold put
  have h1 := List.length_filter_le (fun f : Fd.E => decide (f.1 < x.1)) L
  have h2 := List.length_filter_le (fun f : Fd.E => decide (x.1 < f.1)) L
  simp only [List.length_append, List.length_singleton]
  omega
/-- what RecWith tells -/
def with_ (K : Int) (L : List Fd.E) (id : Int) (t : ByteArray) : Int × List Fd.E × Int :=
  if 8000 < t.size then (0, [], 2) else if right K L && fok (id, t) then (if 30 ≤ (L.filter (fun f => decide (f.1 ≠ id))).length then (0, [], 9) else (K, put L (id, t), 0)) else (0, [], 1)
theorem with_size {K : Int} {L : List Fd.E} {id : Int} {t : ByteArray} (h : 8000 < t.size) : with_ K L id t = (0, [], 2) := by unfold with_; rw [if_pos h]
theorem with_ill {K : Int} {L : List Fd.E} {id : Int} {t : ByteArray} (h : ¬ 8000 < t.size) (h1 : (right K L && fok (id, t)) = false) : with_ K L id t = (0, [], 1) := by unfold with_; rw [if_neg h, h1]; rfl
theorem with_full {K : Int} {L : List Fd.E} {id : Int} {t : ByteArray} (h : ¬ 8000 < t.size) (h1 : right K L = true) (h2 : fok (id, t) = true) (h3 : 30 ≤ (L.filter (fun f => decide (f.1 ≠ id))).length) : with_ K L id t = (0, [], 9) := by unfold with_; rw [if_neg h, h1, h2, if_pos h3]; rfl
theorem with_ok {K : Int} {L : List Fd.E} {id : Int} {t : ByteArray} (h : ¬ 8000 < t.size) (h1 : right K L = true) (h2 : fok (id, t) = true) (h3 : ¬ 30 ≤ (L.filter (fun f => decide (f.1 ≠ id))).length) : with_ K L id t = (K, put L (id, t), 0) := by unfold with_; rw [if_neg h, h1, h2, if_neg h3]; rfl
theorem with_length (K : Int) (L : List Fd.E) (id : Int) (t : ByteArray) : (with_ K L id t).2.1.length ≤ 100 := by
  unfold with_
  split
  · simp
  · split
    · rename_i h
      have h30 : L.length ≤ 30 := by
        have hr : right K L = true := by simp only [Bool.and_eq_true] at h; exact h.1
        exact (right_inv hr).1.2.2
      split
      · simp
      · have := put_length L (id, t)
        show (put L (id, t)).length ≤ 100
        omega
    · simp
theorem full_iff {L : List Fd.E} (h30 : L.length ≤ 30) (id : Int) : 30 ≤ (L.filter (fun f => decide (f.1 ≠ id))).length ↔ 30 ≤ L.length ∧ ∀ j, j < L.length → idAt L j ≠ id := by
  constructor
  · intro h
    have hle := List.length_filter_le (fun f : Fd.E => decide (f.1 ≠ id)) L
    have he : (L.filter (fun f => decide (f.1 ≠ id))).length = L.length := by omega
    refine ⟨by omega, fun j hj e => ?_⟩
    have hall := List.length_filter_eq_length_iff.1 he
    have := hall _ (List.getElem_mem hj)
    unfold idAt at e
    rw [Rk.at_get L j hj] at e
    simp [e] at this
  · rintro ⟨h1, h2⟩
    rw [List.filter_eq_self.2 (fun f hf => by
      obtain ⟨i, hi, e⟩ := mem_idAt hf
      have := h2 i hi
      rw [e] at this
      simpa using this)]
    exact h1
end Rc
end Go.Proofs.Ytkkmjffepdejnaa

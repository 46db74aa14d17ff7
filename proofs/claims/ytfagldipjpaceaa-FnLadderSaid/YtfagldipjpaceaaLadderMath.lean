/- Plain mathematics of the law of ladders: the rungs of a right side have all of it, each price once, from the best on. No function of the program here. -/
import Derived.Test.YtfagldipjpaceaaOldLadderImpl
namespace Go.Proofs.Ytfagldipjpaceaa
set_option linter.unusedVariables false
set_option linter.unusedSimpArgs false
namespace Ob
/-- all together -/
def tot {α : Type} (f : α → Int) : List α → Int
  | [] => 0
  | a :: l => f a + tot f l
theorem tot_append {α : Type} (f : α → Int) (l m : List α) : tot f (l ++ m) = tot f l + tot f m := by
  induction l with
  | nil => simp [tot]
  | cons a l ih => simp only [List.cons_append, tot, ih]; omega
theorem tot_one {α : Type} (f : α → Int) (a : α) : tot f [a] = f a := by simp [tot]
theorem tot_step {α : Type} (Sh : Rk.Shape α) (f : α → Int) (L : List α) (k : Nat) (h : k < L.length) : tot f (L.take (k + 1)) = tot f (L.take k) + f (Rk.at_ Sh L k) := by
  rw [List.take_succ_eq_append_getElem h, tot_append, tot_one, Rk.at_get L k h]
theorem tot_small {α : Type} (f : α → Int) (m : Int) (L : List α) (h : ∀ a ∈ L, 0 ≤ f a ∧ f a ≤ m) : 0 ≤ tot f L ∧ tot f L ≤ m * L.length := by
  induction L with
  | nil => simp [tot]
  | cons a l ih =>
    have h1 := ih (fun b hb => h b (List.mem_cons_of_mem _ hb))
    have h2 := h a (List.mem_cons_self ..)
    simp only [tot, List.length_cons]
    have e : m * ((l.length + 1 : Nat) : Int) = m * l.length + m := by rw [Int.natCast_add, Int.mul_add]; simp
    rw [e]
    omega
theorem tot_set_last (f : Rg.E → Int) (R : List Rg.E) (h : R.length ≠ 0) (y : Rg.E) : tot f (R.set (R.length - 1) y) = tot f R - f (last R) + f y := by
  rcases List.eq_nil_or_concat R with rfl | ⟨M, x, rfl⟩
  · exact absurd rfl h
  · rw [List.concat_eq_append]
    have e1 : (M ++ [x]).set ((M ++ [x]).length - 1) y = M ++ [y] := by simp
    have e2 : last (M ++ [x]) = x := by simp [last, Rk.at_, List.getD]
    rw [e1, e2, tot_append, tot_append, tot_one, tot_one]
    omega
/-- one price is ahead of another, strictly -/
def ahead (buy : Bool) (p q : Int) : Prop := if buy then q < p else p < q
/-- what holds of the rungs of the first ones -/
structure Climb (buy : Bool) (L : List Or.E) (k : Nat) (R : List Rg.E) : Prop where
  amt : tot (·.2.1) R = tot (·.2.2.2.1) (L.take k)
  many : tot (·.2.2) R = k
  zero : k = 0 → R.length = 0
  some_ : 0 < k → R.length ≠ 0
  last_ : 0 < k → (last R).1 = (at' L (k - 1)).2.2.1
  first : 0 < k → (Rk.at_ Rg.S R 0).1 = (at' L 0).2.2.1
  ord : ∀ i, i + 1 < R.length → ahead buy (Rk.at_ Rg.S R i).1 (Rk.at_ Rg.S R (i + 1)).1
theorem at_app (R : List Rg.E) (x : Rg.E) (i : Nat) (h : i < R.length) : Rk.at_ Rg.S (R ++ [x]) i = Rk.at_ Rg.S R i := by simp [Rk.at_, List.getD, List.getElem?_append_left h]
theorem at_end (R : List Rg.E) (x : Rg.E) : Rk.at_ Rg.S (R ++ [x]) R.length = x := by simp [Rk.at_, List.getD]
theorem last_app (R : List Rg.E) (x : Rg.E) : last (R ++ [x]) = x := by simp [last, Rk.at_, List.getD]
theorem at_set1 (R : List Rg.E) (j i : Nat) (x : Rg.E) (hx : x.1 = (Rk.at_ Rg.S R j).1) : (Rk.at_ Rg.S (R.set j x) i).1 = (Rk.at_ Rg.S R i).1 := by
  by_cases e : j = i
  · subst e
    by_cases hl : j < R.length
    · simp [Rk.at_, List.getD, hl] at hx ⊢; exact hx
    · simp [Rk.at_, List.getD, List.getElem?_eq_none (Nat.le_of_not_lt hl), List.getElem?_eq_none (show (R.set j x).length ≤ j by simp; omega)]
  · simp [Rk.at_, List.getD, List.getElem?_set_ne e]
theorem turn_ahead {buy : Bool} {L : List Or.E} {k : Nat} (hk : 0 < k) (h : turn buy L k = true) (hne : (at' L (k - 1)).2.2.1 ≠ (at' L k).2.2.1) : ahead buy (at' L (k - 1)).2.2.1 (at' L k).2.2.1 := by
  unfold turn behind at h
  have e : (k == 0) = false := by simp; omega
  rw [e, Bool.false_or] at h
  unfold ahead
  cases buy <;> simp at h ⊢ <;> omega
theorem climb (buy : Bool) (L : List Or.E) (hL : ∀ i, i < L.length → turn buy L i = true) : ∀ k, k ≤ L.length → Climb buy L k (rungs L k)
  | 0, _ => by
    rw [rungs_none]
    exact ⟨by simp [tot], by simp [tot], fun _ => rfl, fun h => absurd h (by decide), fun h => absurd h (by decide), fun h => absurd h (by decide), fun i h => absurd h (by simp)⟩
  | k + 1, h => by
    have c := climb buy L hL k (by omega)
    rw [rungs_step L k h]
    generalize rungs L k = R at c
    have hs := tot_step Or.S (·.2.2.2.1) L k h
    have ea : (Rk.at_ Or.S L k).2.2.2.1 = (at' L k).2.2.2.1 := rfl
    unfold rstep
    split
    · rename_i hc
      refine ⟨?_, ?_, fun e => absurd e (by omega), fun _ => by simp, fun _ => by rw [last_app]; rfl, fun _ => ?_, ?_⟩
      · rw [tot_append, tot_one, hs, c.amt]
      · rw [tot_append, tot_one, c.many]; simp
      · by_cases hk : 0 < k
        · have := c.some_ hk
          rw [at_app R _ 0 (by omega)]
          exact c.first hk
        · have hk0 : k = 0 := by omega
          subst hk0
          have e := List.length_eq_zero_iff.1 (c.zero rfl)
          subst e
          rfl
      · intro i hi
        simp only [List.length_append, List.length_singleton] at hi
        by_cases hi2 : i + 1 < R.length
        · rw [at_app R _ i (by omega), at_app R _ (i + 1) hi2]
          exact c.ord i hi2
        · have e : i + 1 = R.length := by omega
          have hk : 0 < k := by
            by_cases hk : 0 < k
            · exact hk
            · have := c.zero (by omega); omega
          have hl := c.last_ hk
          rw [at_app R _ i (by omega), e, at_end]
          have e2 : Rk.at_ Rg.S R i = last R := by unfold last; congr 1; omega
          rw [e2]
          have hne : (last R).1 ≠ (at' L k).2.2.1 := by
            rcases hc with hc | hc
            · omega
            · exact hc
          rw [hl] at hne ⊢
          exact turn_ahead hk (hL k h) hne
    · rename_i hc
      have hR : R.length ≠ 0 := fun e => hc (.inl e)
      have hp : (last R).1 = (at' L k).2.2.1 := by
        by_cases e : (last R).1 = (at' L k).2.2.1
        · exact e
        · exact absurd (.inr e) hc
      have hk : 0 < k := by
        by_cases hk : 0 < k
        · exact hk
        · exact absurd (c.zero (by omega)) hR
      obtain ⟨y, hy⟩ : ∃ y : Rg.E, y = ((last R).1, (last R).2.1 + (at' L k).2.2.2.1, (last R).2.2 + 1) := ⟨_, rfl⟩
      have key : ∀ i, (Rk.at_ Rg.S (R.set (R.length - 1) y) i).1 = (Rk.at_ Rg.S R i).1 := fun i => at_set1 R (R.length - 1) i y (by rw [hy]; rfl)
      have y1 : y.2.1 = (last R).2.1 + (at' L k).2.2.2.1 := by rw [hy]
      have y2 : y.2.2 = (last R).2.2 + 1 := by rw [hy]
      rw [← hy]
      refine ⟨?_, ?_, fun e => absurd e (by omega), fun _ => by simpa using hR, fun _ => ?_, fun _ => ?_, ?_⟩
      · rw [tot_set_last _ R hR, hs, c.amt, y1]; omega
      · rw [tot_set_last _ R hR, c.many, y2]; omega
      · have e : (last (R.set (R.length - 1) y)).1 = (last R).1 := by
          unfold last
          rw [List.length_set]
          exact key _
        rw [e, hp]; rfl
      · rw [key]; exact c.first hk
      · intro i hi
        rw [List.length_set] at hi
        rw [key, key]
        exact c.ord i hi
/-- all that the law asks of a right book's rungs -/
theorem ladder_law {B A : List Or.E} {n : Int} (h : right B A n = true) (buy : Bool) : Climb buy (pick buy B A) (pick buy B A).length (ladder B A n buy) := by
  unfold ladder
  rw [h]
  obtain ⟨_, h1, h2⟩ := right_inv h
  refine climb buy _ (fun i hi => ?_) _ (Nat.le_refl _)
  have hs : side n buy (pick buy B A) = true := by cases buy; exact h2; exact h1
  have := upTo_inv hs i hi
  simp only [step, Bool.and_eq_true] at this
  exact this.2
theorem ladder_small {B A : List Or.E} {n : Int} (h : right B A n = true) (buy : Bool) (k : Nat) : (0 ≤ tot (·.2.1) ((ladder B A n buy).take k) ∧ tot (·.2.1) ((ladder B A n buy).take k) ≤ 576000) ∧ (0 ≤ tot (·.2.2) ((ladder B A n buy).take k) ∧ tot (·.2.2) ((ladder B A n buy).take k) ≤ 576) := by
  have hp := right_pick h buy
  have hl := ladder_length B A n buy
  have hsm : Small ((pick buy B A).length : Int) (ladder B A n buy) := by
    unfold ladder
    rw [h]
    exact rungs_small _ hp.2 _ (Nat.le_refl _)
  have h1 := tot_small (·.2.1) 24000 ((ladder B A n buy).take k) (fun a ha => by have := hsm a (List.mem_of_mem_take ha); omega)
  have h2 := tot_small (·.2.2) 24 ((ladder B A n buy).take k) (fun a ha => by have := hsm a (List.mem_of_mem_take ha); omega)
  have h3 : ((ladder B A n buy).take k).length ≤ 24 := by rw [List.length_take]; omega
  omega
theorem side_small {B A : List Or.E} {n : Int} (h : right B A n = true) (buy : Bool) (k : Nat) : 0 ≤ tot (·.2.2.2.1) ((pick buy B A).take k) ∧ tot (·.2.2.2.1) ((pick buy B A).take k) ≤ 24000 := by
  have hp := right_pick h buy
  have h1 := tot_small (·.2.2.2.1) 1000 ((pick buy B A).take k) (fun a ha => by
    have hm := List.mem_of_mem_take ha
    obtain ⟨i, hi, rfl⟩ := List.getElem_of_mem hm
    have := hp.2 i hi
    rw [show at' (pick buy B A) i = (pick buy B A)[i] from Rk.at_get _ i hi] at this
    exact this)
  have h3 : ((pick buy B A).take k).length ≤ 24 := by rw [List.length_take]; omega
  omega
end Ob
end Go.Proofs.Ytfagldipjpaceaa

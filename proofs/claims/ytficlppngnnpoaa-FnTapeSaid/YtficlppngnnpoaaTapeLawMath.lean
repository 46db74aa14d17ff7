/- What the law of the tape asks, about bars in plain words. No function of the program here. -/
import Derived.Test.YtficlppngnnpoaaTapeMath
namespace Go.Proofs.Ytficlppngnnpoaa
open Go.RowKit
namespace Tp
theorem bar_append (A B : List Td.E) : bar (A ++ B) = B.foldl step (bar A) := by simp [bar, List.foldl_append]
/-- the amounts together -/
theorem fold_amt (B : List Td.E) : ∀ b : Ba.E, (B.foldl step b).2.2.2.2 = b.2.2.2.2 + (bar B).2.2.2.2 := by
  have key : ∀ (B : List Td.E) (b : Ba.E), (B.foldl step b).2.2.2.2 = b.2.2.2.2 + (B.map (·.2)).sum := by
    intro B
    induction B with
    | nil => intro b; simp
    | cons t r ih =>
      intro b
      rw [List.foldl_cons, ih, List.map_cons, List.sum_cons]
      have : (step b t).2.2.2.2 = b.2.2.2.2 + t.2 := by unfold step; split <;> rfl
      omega
  intro b
  have h1 := key B b
  have h2 := key B (0, 0, 0, 0, 0)
  have e0 : ((0, 0, 0, 0, 0) : Ba.E).2.2.2.2 = 0 := rfl
  rw [e0] at h2
  unfold bar
  omega
theorem amt_append (A B : List Td.E) : (bar (A ++ B)).2.2.2.2 = (bar A).2.2.2.2 + (bar B).2.2.2.2 := by rw [bar_append, fold_amt]
theorem amt_take (L : List Td.E) (m k : Nat) : (bar (L.take ((k + 1) * m))).2.2.2.2 = (bar (L.take (k * m))).2.2.2.2 + (bar ((L.drop (k * m)).take m)).2.2.2.2 := by
  rw [← amt_append, Nat.succ_mul, List.take_add]
/-- the greatest and the least price are prices of it, and bound all -/
theorem ends (L : List Td.E) (h : right L = true) : ∀ k, k ≤ L.length → (∀ i, i < k → (bar (L.take k)).2.2.1 ≤ (at' L i).1 ∧ (at' L i).1 ≤ (bar (L.take k)).2.1) ∧ (0 < k → (∃ i, i < k ∧ (bar (L.take k)).2.1 = (at' L i).1) ∧ (∃ i, i < k ∧ (bar (L.take k)).2.2.1 = (at' L i).1)) := by
  intro k
  induction k with
  | zero => intro _; exact ⟨fun i hi => absurd hi (by omega), fun h0 => absurd h0 (by omega)⟩
  | succ k ih =>
    intro hk
    obtain ⟨i1, i2⟩ := ih (by omega)
    have hf := fine_take h k (by omega)
    have hok := ok_inv ((right_inv h).2 k hk)
    rw [bar_take L k hk]
    obtain ⟨b, hb⟩ : ∃ b, b = bar (L.take k) := ⟨_, rfl⟩
    rw [← hb] at i1 i2 hf ⊢
    clear hb
    obtain ⟨o, hi, lo, cl, am⟩ := b
    obtain ⟨t, ht⟩ : ∃ t, t = at' L k := ⟨_, rfl⟩
    rw [← ht] at hok ⊢
    replace ht := ht.symm
    obtain ⟨p, a⟩ := t
    simp only at i1 i2
    obtain ⟨f0, f1, f2, f3⟩ := hf
    simp only at f1 f2 f3
    unfold step
    by_cases h0 : k = 0
    · subst h0
      have e := f0 rfl
      simp only [Prod.mk.injEq] at e
      obtain ⟨rfl, rfl, rfl, rfl, rfl⟩ := e
      simp only [if_true]
      refine ⟨fun i hi => ?_, fun _ => ⟨⟨0, by omega, by rw [ht]⟩, ⟨0, by omega, by rw [ht]⟩⟩⟩
      obtain rfl : i = 0 := by omega
      rw [ht]
      simp
    · have ha : am ≠ 0 := by omega
      simp only [if_neg ha]
      obtain ⟨⟨x, hx, ex⟩, ⟨y, hy, ey⟩⟩ := i2 (by omega)
      have m1 : hi ≤ mx hi p ∧ p ≤ mx hi p := by unfold mx; split <;> omega
      have m2 : mn lo p ≤ lo ∧ mn lo p ≤ p := by unfold mn; split <;> omega
      refine ⟨fun i hi' => ?_, fun _ => ⟨?_, ?_⟩⟩
      · by_cases e : i = k
        · subst e; rw [ht]; exact ⟨m2.2, m1.2⟩
        · have := i1 i (by omega); exact ⟨by omega, by omega⟩
      · by_cases g : hi > p
        · exact ⟨x, by omega, by unfold mx; rw [if_pos g]; exact ex⟩
        · exact ⟨k, by omega, by unfold mx; rw [if_neg g, ht]⟩
      · by_cases g : lo < p
        · exact ⟨y, by omega, by unfold mn; rw [if_pos g]; exact ey⟩
        · exact ⟨k, by omega, by unfold mn; rw [if_neg g, ht]⟩
theorem ends_all {L : List Td.E} (h : right L = true) : (∀ i, i < L.length → (bar L).2.2.1 ≤ (at' L i).1 ∧ (at' L i).1 ≤ (bar L).2.1) ∧ (0 < L.length → (∃ i, i < L.length ∧ (bar L).2.1 = (at' L i).1) ∧ (∃ i, i < L.length ∧ (bar L).2.2.1 = (at' L i).1)) := by
  have := ends L h L.length (Nat.le_refl _)
  rwa [List.take_length] at this
theorem at_piece (L : List Td.E) (x m i : Nat) (hi : i < ((L.drop x).take m).length) : at' ((L.drop x).take m) i = at' L (x + i) := by
  have h2 : x + i < L.length := by simp only [List.length_take, List.length_drop] at hi; omega
  unfold at'
  rw [Rk.at_get _ _ hi, Rk.at_get _ _ h2, List.getElem_take, List.getElem_drop]
/-- a part's greatest price is no greater, its least no less -/
theorem part_ends {L : List Td.E} (h : right L = true) (x m : Nat) (hx : x < L.length) (hm : 0 < m) : (bar ((L.drop x).take m)).2.1 ≤ (bar L).2.1 ∧ (bar L).2.2.1 ≤ (bar ((L.drop x).take m)).2.2.1 := by
  have hl : 0 < ((L.drop x).take m).length := by simp only [List.length_take, List.length_drop]; omega
  obtain ⟨⟨i, hi, ei⟩, ⟨j, hj, ej⟩⟩ := (ends_all (right_part h x m)).2 hl
  have hall := (ends_all h).1
  rw [ei, ej, at_piece L x m i hi, at_piece L x m j hj]
  have hi2 : x + i < L.length := by simp only [List.length_take, List.length_drop] at hi; omega
  have hj2 : x + j < L.length := by simp only [List.length_take, List.length_drop] at hj; omega
  exact ⟨(hall _ hi2).2, (hall _ hj2).1⟩
/-- what was turned over lies between both -/
theorem turn_between (L : List Td.E) (h : right L = true) (lo hi : Int) (h1 : ∀ i, i < L.length → lo ≤ (at' L i).1 ∧ (at' L i).1 ≤ hi) : ∀ k, k ≤ L.length → lo * (bar (L.take k)).2.2.2.2 ≤ turn (L.take k) ∧ turn (L.take k) ≤ hi * (bar (L.take k)).2.2.2.2 := by
  intro k
  induction k with
  | zero => intro _; simp [bar, turn]
  | succ k ih =>
    intro hk
    have h2 := ih (by omega)
    have hok := ok_inv ((right_inv h).2 k hk)
    have h3 := h1 k hk
    have e : (bar (L.take (k + 1))).2.2.2.2 = (bar (L.take k)).2.2.2.2 + (at' L k).2 := by rw [bar_take L k hk]; unfold step; split <;> rfl
    rw [e, turn_take L k hk, Int.mul_add, Int.mul_add]
    have a1 := Int.mul_le_mul_of_nonneg_right h3.1 (by omega : (0 : Int) ≤ (at' L k).2)
    have a2 := Int.mul_le_mul_of_nonneg_right h3.2 (by omega : (0 : Int) ≤ (at' L k).2)
    exact ⟨by omega, by omega⟩
theorem turn_all (L : List Td.E) : (barAll L).2.2.1 * (barAll L).2.2.2.2 ≤ turnAll L ∧ turnAll L ≤ (barAll L).2.1 * (barAll L).2.2.2.2 := by
  by_cases h : right L = true
  · rw [barAll_yes h, turnAll_yes h]
    have := turn_between L h _ _ (ends_all h).1 L.length (Nat.le_refl _)
    rwa [List.take_length] at this
  · have h' : right L = false := by simpa using h
    rw [barAll_no h', turnAll_no h']
    simp
theorem all_small (L : List Td.E) : (0 ≤ (barAll L).2.2.2.2 ∧ (barAll L).2.2.2.2 ≤ 400000) ∧ (0 ≤ (barAll L).2.2.1 ∧ (barAll L).2.2.1 ≤ 10000) ∧ (0 ≤ (barAll L).2.1 ∧ (barAll L).2.1 ≤ 10000) := by
  by_cases h : right L = true
  · rw [barAll_yes h]
    have hl := (right_inv h).1
    obtain ⟨f0, f1, f2, f3⟩ := fine h
    by_cases h0 : L.length = 0
    · rw [f0 h0]; simp
    · obtain ⟨⟨g1, g2⟩, ⟨g3, g4⟩, g5, g6⟩ := f3 (by omega)
      omega
  · have h' : right L = false := by simpa using h
    rw [barAll_no h']
    simp
theorem mul_small {a b : Int} (h1 : 0 ≤ a) (h2 : a ≤ 10000) (h3 : 0 ≤ b) (h4 : b ≤ 400000) : 0 ≤ a * b ∧ a * b ≤ 4000000000 := by
  refine ⟨Int.mul_nonneg h1 h3, ?_⟩
  have := Int.mul_le_mul h2 h4 h3 (by omega : (0 : Int) ≤ 10000)
  omega
/-- the first price, the last one -/
theorem fold_open (B : List Td.E) : ∀ b : Ba.E, 0 < b.2.2.2.2 → (∀ t ∈ B, ok t = true) → (B.foldl step b).1 = b.1 := by
  induction B with
  | nil => intro b _ _; rfl
  | cons t r ih =>
    intro b hb hok
    have ht := ok_inv (hok t (by simp))
    have e : step b t = (b.1, mx b.2.1 t.1, mn b.2.2.1 t.1, t.1, b.2.2.2.2 + t.2) := by unfold step; rw [if_neg (by omega)]
    rw [List.foldl_cons, e, ih _ (by show 0 < b.2.2.2.2 + t.2; omega) (fun x hx => hok x (by simp [hx]))]
theorem open_first {L : List Td.E} (h : right L = true) (hne : 0 < L.length) : (bar L).1 = (at' L 0).1 := by
  have hok : ∀ t ∈ L, ok t = true := by
    intro t ht
    obtain ⟨i, hi, rfl⟩ := List.getElem_of_mem ht
    have := (right_inv h).2 i hi
    unfold at' at this
    rwa [Rk.at_get L i hi] at this
  cases L with
  | nil => simp at hne
  | cons t r =>
    have ht := ok_inv (hok t (by simp))
    have e : bar (t :: r) = r.foldl step (t.1, t.1, t.1, t.1, 0 + t.2) := rfl
    rw [e, fold_open r _ (by show 0 < 0 + t.2; omega) (fun x hx => hok x (by simp [hx]))]
    rfl
theorem close_last (L : List Td.E) (k : Nat) (h : k < L.length) : (bar (L.take (k + 1))).2.2.2.1 = (at' L k).1 := by
  rw [bar_take L k h]; unfold step; split <;> rfl
theorem close_end {L : List Td.E} (h : 0 < L.length) : (bar L).2.2.2.1 = (at' L (L.length - 1)).1 := by
  have := close_last L (L.length - 1) (by omega)
  rwa [Nat.sub_add_cancel h, List.take_length] at this
/-- the j-th bar -/
theorem bars_at (L : List Td.E) (m k j : Nat) (h : j < k) : Rk.at_ Ba.S (bars L m k) j = bar ((L.drop (j * m)).take m) := by
  rw [Rk.at_get _ _ (by rw [bars_length]; exact h)]
  simp [bars]
theorem many_pos {L : List Td.E} {m j : Nat} (hm : 0 < m) (h : j < many L m) : j * m < L.length := by
  apply Decidable.byContradiction
  intro hn
  have := many_le hm hn
  omega
theorem many_end {L : List Td.E} {m : Nat} (hm : 0 < m) : L.length ≤ many L m * m := by
  apply Decidable.byContradiction
  intro hn
  have := many_lt (L := L) (k := many L m) hm (by omega)
  omega
/-- all that the law asks of one bar of all -/
structure BarOk (L : List Td.E) (b : Ba.E) : Prop where
  hi : b.2.1 ≤ (barAll L).2.1
  lo : (barAll L).2.2.1 ≤ b.2.2.1
  o1 : b.1 ≤ b.2.1
  o2 : b.2.2.1 ≤ b.1
  c1 : b.2.2.2.1 ≤ b.2.1
  c2 : b.2.2.1 ≤ b.2.2.2.1
theorem bar_ok {L : List Td.E} {m j : Nat} (h : right L = true) (hm : 0 < m) (hj : j < many L m) : BarOk L (bar ((L.drop (j * m)).take m)) := by
  have hx := many_pos hm hj
  have hl : 0 < ((L.drop (j * m)).take m).length := by simp only [List.length_take, List.length_drop]; omega
  obtain ⟨_, _, _, f3⟩ := fine (right_part h (j * m) m)
  obtain ⟨⟨g1, g2⟩, ⟨g3, g4⟩, g5, g6⟩ := f3 hl
  have hp := part_ends h (j * m) m hx hm
  have e := barAll_yes h
  exact ⟨by rw [e]; exact hp.1, by rw [e]; exact hp.2, g4, g3, g6, g5⟩
theorem piece_small {L : List Td.E} (h : right L = true) (x m : Nat) : 0 ≤ (bar ((L.drop x).take m)).2.2.2.2 ∧ (bar ((L.drop x).take m)).2.2.2.2 ≤ 400000 := by
  have := (all_small ((L.drop x).take m)).1
  rwa [barAll_yes (right_part h x m)] at this
theorem take_small {L : List Td.E} (h : right L = true) (x : Nat) : 0 ≤ (bar (L.take x)).2.2.2.2 ∧ (bar (L.take x)).2.2.2.2 ≤ 400000 := by
  have := piece_small h 0 x
  simpa using this
theorem first_bar {L : List Td.E} {m : Nat} (h : right L = true) (hm : 0 < m) (hne : 0 < L.length) : (bar ((L.drop (0 * m)).take m)).1 = (at' L 0).1 := by
  have hl : 0 < ((L.drop (0 * m)).take m).length := by simp only [List.length_take, List.length_drop, Nat.zero_mul]; omega
  rw [open_first (right_part h _ m) hl, at_piece L _ m 0 hl]
  simp
theorem last_bar {L : List Td.E} {m : Nat} (hm : 0 < m) (hk : 0 < many L m) : (bar ((L.drop ((many L m - 1) * m)).take m)).2.2.2.1 = (at' L (L.length - 1)).1 := by
  have hx := many_pos (L := L) (j := many L m - 1) hm (by omega)
  have he := many_end (L := L) hm
  have e1 : many L m * m = (many L m - 1) * m + m := by rw [← Nat.succ_mul, Nat.succ_eq_add_one, Nat.sub_add_cancel hk]
  have hl : ((L.drop ((many L m - 1) * m)).take m).length = L.length - (many L m - 1) * m := by simp only [List.length_take, List.length_drop]; omega
  rw [close_end (by omega), at_piece L _ m _ (by omega), hl]
  congr 2
  omega
/-- all that the law asks of the bars, with the amounts of the first ones together -/
theorem law (L : List Td.E) (m : Int) : ∃ s : Nat → Int, s 0 = 0 ∧ (∀ k, k < (barsAll L m).length → s (k + 1) = s k + (Rk.at_ Ba.S (barsAll L m) k).2.2.2.2 ∧ BarOk L (Rk.at_ Ba.S (barsAll L m) k) ∧ 0 ≤ (Rk.at_ Ba.S (barsAll L m) k).2.2.2.2 ∧ (Rk.at_ Ba.S (barsAll L m) k).2.2.2.2 ≤ 400000) ∧
    (∀ k, k ≤ (barsAll L m).length → 0 ≤ s k ∧ s k ≤ 400000) ∧
    (0 < (barsAll L m).length → s (barsAll L m).length = (barAll L).2.2.2.2 ∧ (Rk.at_ Ba.S (barsAll L m) 0).1 = (at' L 0).1 ∧ (Rk.at_ Ba.S (barsAll L m) ((barsAll L m).length - 1)).2.2.2.1 = (at' L (L.length - 1)).1 ∧ 0 < L.length) := by
  by_cases h : right L = true
  · by_cases h2 : Ev.inn m 1 100 = true
    · have hm : 1 ≤ m ∧ m ≤ 100 := by simpa [Ev.inn] using h2
      obtain ⟨n, rfl⟩ : ∃ n : Nat, m = (n : Int) := ⟨m.toNat, by omega⟩
      have hn : 0 < n := by omega
      have e : barsAll L n = bars L n (many L n) := barsAll_yes h h2
      rw [e, bars_length]
      refine ⟨fun k => (bar (L.take (k * n))).2.2.2.2, by simp [bar], fun k hk => ?_, fun k _ => take_small h _, fun h0 => ?_⟩
      · rw [bars_at L n _ k hk]
        exact ⟨amt_take L n k, bar_ok h hn hk, (piece_small h _ n).1, (piece_small h _ n).2⟩
      · have hne := many_pos (j := 0) hn h0
        refine ⟨?_, ?_, ?_, by omega⟩
        · show (bar (L.take (many L n * n))).2.2.2.2 = _
          rw [List.take_of_length_le (many_end hn), barAll_yes h]
        · rw [bars_at L n _ 0 h0]; exact first_bar h hn (by omega)
        · rw [bars_at L n _ _ (by omega)]; exact last_bar hn h0
    · have e : barsAll L m = [] := barsAll_no2 (by simpa using h2)
      rw [e]
      exact ⟨fun _ => 0, rfl, fun k hk => absurd hk (by simp), fun _ _ => ⟨Int.le_refl 0, (by decide : (0 : Int) ≤ 400000)⟩, fun h0 => absurd h0 (by simp)⟩
  · have e : barsAll L m = [] := barsAll_no (by simpa using h)
    rw [e]
    exact ⟨fun _ => 0, rfl, fun k hk => absurd hk (by simp), fun _ _ => ⟨Int.le_refl 0, (by decide : (0 : Int) ≤ 400000)⟩, fun h0 => absurd h0 (by simp)⟩
end Tp
end Go.Proofs.Ytficlppngnnpoaa

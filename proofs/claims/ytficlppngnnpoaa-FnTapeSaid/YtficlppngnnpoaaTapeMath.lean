/- Trades and bars in plain words. No function of the program here. -/
import Derived.Test.YtficlppngnnpoaaTradesKit
import Derived.Test.YtficlppngnnpoaaBarsKit
import Derived.Test.YtficlppngnnpoaaEventMath
namespace Go.Proofs.Ytficlppngnnpoaa
open Go.RowKit
namespace Tp
abbrev at' (L : List Td.E) (i : Nat) : Td.E := Rk.at_ Td.S L i
/-- a trade by itself may be -/
def ok (t : Td.E) : Bool := Ev.inn t.1 1 10000 && Ev.inn t.2 1 1000
theorem ok_inv {t : Td.E} (h : ok t = true) : (1 ≤ t.1 ∧ t.1 ≤ 10000) ∧ 1 ≤ t.2 ∧ t.2 ≤ 1000 := by simpa [ok, Ev.inn] using h
def okAll (L : List Td.E) : Bool := L.all ok
/-- trades are right -/
def right (L : List Td.E) : Bool := decide ((L.length : Int) ≤ 400) && okAll L
theorem okAll_no {L : List Td.E} {i : Nat} (hi : i < L.length) (h : ok (at' L i) = false) : okAll L = false := by
  unfold okAll
  rw [List.all_eq_false]
  exact ⟨_, Rk.at_mem (S := Td.S) L i hi, by simp [h]⟩
theorem okAll_yes {L : List Td.E} (h : ∀ i, i < L.length → ok (at' L i) = true) : okAll L = true := by
  unfold okAll
  rw [List.all_eq_true]
  intro t ht
  obtain ⟨i, hi, rfl⟩ := List.getElem_of_mem ht
  have := h i hi
  unfold at' at this
  rwa [Rk.at_get L i hi] at this
theorem right_long {L : List Td.E} (h : (400 : Int) < (L.length : Int)) : right L = false := by
  have : decide ((L.length : Int) ≤ 400) = false := decide_eq_false (by omega)
  simp only [right, this, Bool.false_and]
theorem right_ill {L : List Td.E} (h : okAll L = false) : right L = false := by simp [right, h]
theorem right_yes {L : List Td.E} (h0 : (L.length : Int) ≤ 400) (h1 : okAll L = true) : right L = true := by simp [right, h1]; omega
theorem right_inv {L : List Td.E} (h : right L = true) : L.length ≤ 400 ∧ ∀ i, i < L.length → ok (at' L i) = true := by
  simp only [right, Bool.and_eq_true, decide_eq_true_eq] at h
  refine ⟨by omega, fun i hi => ?_⟩
  have h2 := h.2
  unfold okAll at h2
  rw [List.all_eq_true] at h2
  exact h2 _ (Rk.at_mem (S := Td.S) L i hi)
theorem right_part {L : List Td.E} (h : right L = true) (i n : Nat) : right ((L.drop i).take n) = true := by
  simp only [right, Bool.and_eq_true, decide_eq_true_eq] at h ⊢
  refine ⟨by have := h.1; simp only [List.length_take, List.length_drop]; omega, ?_⟩
  have h2 := h.2
  unfold okAll at h2 ⊢
  rw [List.all_eq_true] at h2 ⊢
  exact fun t ht => h2 t (List.mem_of_mem_drop (List.mem_of_mem_take ht))
def mx (a b : Int) : Int := if a > b then a else b
def mn (a b : Int) : Int := if a < b then a else b
/-- a bar, and one trade more -/
def step (b : Ba.E) (t : Td.E) : Ba.E :=
  if b.2.2.2.2 = 0 then (t.1, t.1, t.1, t.1, b.2.2.2.2 + t.2) else (b.1, mx b.2.1 t.1, mn b.2.2.1 t.1, t.1, b.2.2.2.2 + t.2)
/-- the bar of trades; of none the zero one -/
def bar (L : List Td.E) : Ba.E := L.foldl step (0, 0, 0, 0, 0)
theorem bar_nil : bar [] = (0, 0, 0, 0, 0) := rfl
theorem bar_take (L : List Td.E) (k : Nat) (h : k < L.length) : bar (L.take (k + 1)) = step (bar (L.take k)) (at' L k) := by
  rw [Rk.take_at (S := Td.S) L k h, bar, List.foldl_append]
  rfl
/-- what holds of the bar of k right trades -/
def Fine (k : Nat) (b : Ba.E) : Prop :=
  (k = 0 → b = (0, 0, 0, 0, 0)) ∧ (k : Int) ≤ b.2.2.2.2 ∧ b.2.2.2.2 ≤ 1000 * k ∧ (0 < k → (1 ≤ b.2.2.1 ∧ b.2.1 ≤ 10000) ∧ (b.2.2.1 ≤ b.1 ∧ b.1 ≤ b.2.1) ∧ b.2.2.1 ≤ b.2.2.2.1 ∧ b.2.2.2.1 ≤ b.2.1)
theorem Fine.step {k : Nat} {b : Ba.E} {t : Td.E} (h : Fine k b) (ht : ok t = true) : Fine (k + 1) (step b t) := by
  obtain ⟨⟨p0, p1⟩, a0, a1⟩ := ok_inv ht
  obtain ⟨h0, h1, h2, h3⟩ := h
  obtain ⟨o, hi, lo, cl, am⟩ := b
  obtain ⟨p, a⟩ := t
  simp only at h0 h1 h2 h3 p0 p1 a0 a1
  by_cases hk : k = 0
  · subst hk
    have e := h0 rfl
    simp only [Prod.mk.injEq] at e
    obtain ⟨rfl, rfl, rfl, rfl, rfl⟩ := e
    unfold Tp.step Fine
    rw [if_pos rfl]
    refine ⟨fun e => absurd e (by omega), ?_, ?_, fun _ => ⟨⟨?_, ?_⟩, ⟨?_, ?_⟩, ?_, ?_⟩⟩ <;> (try show _ ≤ _) <;> (try simp only) <;> omega
  · have ha : am ≠ 0 := by omega
    obtain ⟨⟨g1, g2⟩, ⟨g3, g4⟩, g5, g6⟩ := h3 (by omega)
    unfold Tp.step Fine
    rw [if_neg ha]
    have m1 : hi ≤ mx hi p ∧ p ≤ mx hi p ∧ mx hi p ≤ 10000 := by unfold mx; split <;> omega
    have m2 : mn lo p ≤ lo ∧ mn lo p ≤ p ∧ 1 ≤ mn lo p := by unfold mn; split <;> omega
    refine ⟨fun e => absurd e (by omega), ?_, ?_, fun _ => ⟨⟨?_, ?_⟩, ⟨?_, ?_⟩, ?_, ?_⟩⟩ <;> (try simp only) <;> omega
theorem fine_take {L : List Td.E} (h : right L = true) : ∀ k, k ≤ L.length → Fine k (bar (L.take k)) := by
  intro k
  induction k with
  | zero => intro _; exact ⟨fun _ => rfl, by simp [bar], by simp [bar], fun h0 => absurd h0 (by omega)⟩
  | succ k ih => intro hk; rw [bar_take L k hk]; exact (ih (by omega)).step ((right_inv h).2 k hk)
theorem fine {L : List Td.E} (h : right L = true) : Fine L.length (bar L) := by have := fine_take h L.length (Nat.le_refl _); rwa [List.take_length] at this
/-- the bar of all, the zero one where they are not right -/
def barAll (L : List Td.E) : Ba.E := if right L = true then bar L else (0, 0, 0, 0, 0)
theorem barAll_no {L : List Td.E} (h : right L = false) : barAll L = (0, 0, 0, 0, 0) := by simp [barAll, h]
theorem barAll_yes {L : List Td.E} (h : right L = true) : barAll L = bar L := by simp [barAll, h]
/-- what was turned over by the first ones -/
def turn (L : List Td.E) : Int := L.foldl (fun n t => n + t.1 * t.2) 0
theorem turn_take (L : List Td.E) (k : Nat) (h : k < L.length) : turn (L.take (k + 1)) = turn (L.take k) + (at' L k).1 * (at' L k).2 := by
  rw [Rk.take_at (S := Td.S) L k h, turn, List.foldl_append]
  rfl
theorem mul_bound {p a : Int} (h1 : 1 ≤ p) (h2 : p ≤ 10000) (h3 : 1 ≤ a) (h4 : a ≤ 1000) : 0 ≤ p * a ∧ p * a ≤ 10000000 := by
  refine ⟨Int.mul_nonneg (by omega) (by omega), ?_⟩
  have := Int.mul_le_mul h2 h4 (by omega) (by omega : (0 : Int) ≤ 10000)
  omega
theorem turn_bound {L : List Td.E} (h : right L = true) : ∀ k, k ≤ L.length → 0 ≤ turn (L.take k) ∧ turn (L.take k) ≤ 10000000 * k := by
  intro k
  induction k with
  | zero => intro _; simp [turn]
  | succ k ih =>
    intro hk
    have h1 := ih (by omega)
    obtain ⟨⟨p0, p1⟩, a0, a1⟩ := ok_inv ((right_inv h).2 k hk)
    have h2 := mul_bound p0 p1 a0 a1
    rw [turn_take L k hk]
    push_cast
    omega
def turnAll (L : List Td.E) : Int := if right L = true then turn L else 0
theorem turnAll_no {L : List Td.E} (h : right L = false) : turnAll L = 0 := by simp [turnAll, h]
theorem turnAll_yes {L : List Td.E} (h : right L = true) : turnAll L = turn L := by simp [turnAll, h]
/-- the first k bars of so many trades each -/
def bars (L : List Td.E) (m : Nat) (k : Nat) : List Ba.E := (List.range k).map fun j => bar ((L.drop (j * m)).take m)
theorem bars_length (L : List Td.E) (m k : Nat) : (bars L m k).length = k := by simp [bars]
theorem bars_succ (L : List Td.E) (m k : Nat) : bars L m (k + 1) = bars L m k ++ [bar ((L.drop (k * m)).take m)] := by simp [bars, List.range_succ]
/-- how many bars there are -/
def many (L : List Td.E) (m : Nat) : Nat := (L.length + m - 1) / m
theorem many_le {L : List Td.E} {m k : Nat} (hm : 0 < m) (h : ¬ k * m < L.length) : many L m ≤ k := by
  unfold many
  rw [Nat.div_le_iff_le_mul_add_pred hm]
  have e : m * k = k * m := Nat.mul_comm _ _
  omega
theorem many_lt {L : List Td.E} {m k : Nat} (hm : 0 < m) (h : k * m < L.length) : k < many L m := by
  unfold many
  have : k + 1 ≤ (L.length + m - 1) / m := by
    rw [Nat.le_div_iff_mul_le hm, Nat.succ_mul]
    omega
  omega
theorem many_is {L : List Td.E} {m k : Nat} (hm : 0 < m) (hk : k ≤ many L m) (h : ¬ k * m < L.length) : k = many L m := Nat.le_antisymm hk (many_le hm h)
theorem many_len {L : List Td.E} {m : Nat} (hm : 0 < m) : many L m ≤ L.length := many_le hm (by have := Nat.mul_le_mul_left L.length hm; omega)
/-- the bars of trades; none where they are not right, or there are not so many a bar -/
def barsAll (L : List Td.E) (m : Int) : List Ba.E := if right L = true ∧ Ev.inn m 1 100 = true then bars L m.toNat (many L m.toNat) else []
theorem barsAll_no {L : List Td.E} {m : Int} (h : right L = false) : barsAll L m = [] := by simp [barsAll, h]
theorem barsAll_no2 {L : List Td.E} {m : Int} (h : Ev.inn m 1 100 = false) : barsAll L m = [] := by simp [barsAll, h]
theorem barsAll_yes {L : List Td.E} {m : Int} (h : right L = true) (h2 : Ev.inn m 1 100 = true) : barsAll L m = bars L m.toNat (many L m.toNat) := by simp [barsAll, h, h2]
theorem barsAll_len (L : List Td.E) (m : Int) : (barsAll L m).length ≤ 400 := by
  unfold barsAll
  split
  · rename_i h
    have h2 : 1 ≤ m ∧ m ≤ 100 := by simpa [Ev.inn] using h.2
    rw [bars_length]
    exact Nat.le_trans (many_len (by omega)) (right_inv h.1).1
  · simp
end Tp
end Go.Proofs.Ytficlppngnnpoaa

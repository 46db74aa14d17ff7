/- Plain mathematics of what a command does to a book at work: how an order comes in, meets, and rests. No function of the program here. -/
import Derived.Test.YtfagldipjpaceaaJoined2
namespace Go.Proofs.Ytfagldipjpaceaa
namespace Dm
/-- an order stands behind all of its price, or a better one -/
def before (buy : Bool) (p : Int) (x : Or.E) : Bool := Ob.behind buy x.2.2.1 p
def inn (buy : Bool) (o : Or.E) : List Or.E → List Or.E
  | [] => [o]
  | x :: r => if before buy o.2.2.1 x then x :: inn buy o r else o :: x :: r
/-- how many stand ahead of it -/
def place (buy : Bool) (p : Int) : List Or.E → Nat
  | [] => 0
  | x :: r => if before buy p x then place buy p r + 1 else 0
theorem place_le (buy : Bool) (p : Int) : ∀ L, place buy p L ≤ L.length
  | [] => Nat.le_refl _
  | x :: r => by
    have := place_le buy p r
    simp only [place]; split <;> simp only [List.length_cons] <;> omega
theorem inn_eq (buy : Bool) (o : Or.E) : ∀ L, inn buy o L = L.take (place buy o.2.2.1 L) ++ o :: L.drop (place buy o.2.2.1 L)
  | [] => rfl
  | x :: r => by
    simp only [inn, place]
    by_cases h : before buy o.2.2.1 x = true
    · simp only [h, if_true]; rw [inn_eq buy o r]; simp
    · simp only [h]; simp
theorem place_ahead (buy : Bool) (p : Int) : ∀ (L : List Or.E) (k : Nat), k < place buy p L → before buy p (Ob.at' L k) = true
  | [], k, h => absurd h (Nat.not_lt_zero _)
  | x :: r, k, h => by
    simp only [place] at h
    split at h
    · rename_i hx
      cases k with
      | zero => exact hx
      | succ k => exact place_ahead buy p r k (by omega)
    · omega
theorem place_stop (buy : Bool) (p : Int) : ∀ (L : List Or.E), place buy p L < L.length → before buy p (Ob.at' L (place buy p L)) = false
  | [], h => absurd h (Nat.not_lt_zero _)
  | x :: r, h => by
    simp only [place] at h ⊢
    split
    · rename_i hx
      rw [if_pos hx] at h
      exact place_stop buy p r (by simp only [List.length_cons] at h; omega)
    · rename_i hx
      show before buy p x = false
      simpa using hx
/-- a look along the list stops just there -/
theorem place_of {buy : Bool} {p : Int} {L : List Or.E} {k : Nat} (hk : k ≤ L.length) (h1 : ∀ j, j < k → before buy p (Ob.at' L j) = true) (h2 : k < L.length → before buy p (Ob.at' L k) = false) : place buy p L = k := by
  rcases Nat.lt_trichotomy (place buy p L) k with h | h | h
  · have a := h1 _ h
    have b := place_stop buy p L (by omega)
    rw [a] at b; cases b
  · exact h
  · have a := place_ahead buy p L k h
    have b := h2 (by have := place_le buy p L; omega)
    rw [a] at b; cases b
/-- an order that has so much left in all -/
def shown (o : Or.E) (left : Int) : Or.E :=
  let pk := if left < o.2.2.2.2.2.1 then left else o.2.2.2.2.2.1
  if 0 < pk then (o.1, o.2.1, o.2.2.1, min pk left, o.2.2.2.2.1, pk, left - min pk left, o.2.2.2.2.2.2.2)
  else (o.1, o.2.1, o.2.2.1, left, o.2.2.2.2.1, pk, 0, o.2.2.2.2.2.2.2)
/-- may an order of a side and a price (0: any) meet one of a price -/
def meets (buy : Bool) (p q : Int) : Bool := decide (p = 0) || (if buy then decide (q ≤ p) else decide (p ≤ q))
/-- what a meeting is: what is left, whether it ends by a guard, the other side, what is told -/
abbrev Met := Int × Bool × List Or.E × List Vt.E
def fill (id : Int) (x : Or.E) (n : Int) : Vt.E := (2, id, x.1, x.2.2.1, n)
def less (x : Or.E) (n : Int) : Or.E := (x.1, x.2.1, x.2.2.1, x.2.2.2.1 - n, x.2.2.2.2.1, x.2.2.2.2.2.1, x.2.2.2.2.2.2.1, x.2.2.2.2.2.2.2)
/-- the other side, when so much of its first one has gone -/
def rest (buy : Bool) (x : Or.E) (n : Int) (r : List Or.E) : List Or.E :=
  if 0 < x.2.2.2.1 - n then less x n :: r
  else if 0 < x.2.2.2.2.2.2.1 then inn (!buy) (shown (less x n) x.2.2.2.2.2.2.1) r
  else r
/-- the specification's meeting -/
def meetS (o : Or.E) (buy : Bool) (p : Int) : Nat → Int → List Or.E → List Vt.E → Met
  | 0, left, L, ev => (left, false, L, ev)
  | f + 1, left, L, ev =>
    if left ≤ 0 then (left, false, L, ev) else
    match L with
    | [] => (left, false, [], ev)
    | x :: r =>
      if !meets buy p x.2.2.1 then (left, false, x :: r, ev)
      else if o.2.2.2.2.2.2.2 && decide (x.2.1 = o.2.1) then (left, true, x :: r, ev)
      else meetS o buy p f (left - min left x.2.2.2.1) (rest buy x (min left x.2.2.2.1) r) (ev ++ [fill o.1 x (min left x.2.2.2.1)])
/-- the program's meeting, over sides that hide nothing -/
def meetO (id : Int) (buy : Bool) (p : Int) : Int → List Or.E → List Vt.E → Int × List Or.E × List Vt.E
  | left, [], ev => (left, [], ev)
  | left, x :: r, ev =>
    if left = 0 then (left, x :: r, ev)
    else if !meets buy p x.2.2.1 then (left, x :: r, ev)
    else if x.2.2.2.1 ≤ left then meetO id buy p (left - x.2.2.2.1) r (ev ++ [fill id x x.2.2.2.1])
    else (0, less x left :: r, ev ++ [fill id x left])
/-- sides of an older book: something is left of each, and nothing hidden -/
def Plain (L : List Or.E) : Prop := ∀ x ∈ L, 1 ≤ x.2.2.2.1 ∧ x.2.2.2.2.2.2.1 = 0
theorem Plain.tail {x : Or.E} {r : List Or.E} (h : Plain (x :: r)) : Plain r := fun y hy => h y (List.mem_cons_of_mem _ hy)
theorem meetS_zero (o : Or.E) (buy : Bool) (p : Int) (f : Nat) (L : List Or.E) (ev : List Vt.E) : meetS o buy p f 0 L ev = (0, false, L, ev) := by
  cases f <;> simp [meetS]
theorem meet_same (o : Or.E) (hg : o.2.2.2.2.2.2.2 = false) (buy : Bool) (p : Int) : ∀ (L : List Or.E) (f : Nat) (left : Int) (ev : List Vt.E), Plain L → 0 ≤ left → left.toNat ≤ f →
    meetS o buy p f left L ev = ((meetO o.1 buy p left L ev).1, false, (meetO o.1 buy p left L ev).2.1, (meetO o.1 buy p left L ev).2.2)
  | [], f, left, ev, _, _, _ => by
    cases f with
    | zero => simp [meetS, meetO]
    | succ f => simp only [meetS, meetO]; split <;> rfl
  | x :: r, 0, left, ev, _, h0, hf => by
    have : left = 0 := by omega
    subst this
    simp [meetS, meetO]
  | x :: r, f + 1, left, ev, hp, h0, hf => by
    have hx := hp x (List.mem_cons_self ..)
    by_cases hl : left = 0
    · subst hl; simp [meetS, meetO]
    · have hl' : ¬ left ≤ 0 := by omega
      simp only [meetS, meetO, hl, hl', if_false]
      by_cases hm : meets buy p x.2.2.1 = true
      · simp only [hm, Bool.not_true, Bool.false_eq_true, if_false, hg, Bool.false_and]
        by_cases hq : x.2.2.2.1 ≤ left
        · have e : min left x.2.2.2.1 = x.2.2.2.1 := by omega
          rw [e, if_pos hq]
          have er : rest buy x x.2.2.2.1 r = r := by
            simp only [rest, hx.2]; simp
          rw [er]
          exact meet_same o hg buy p r f _ _ hp.tail (by omega) (by omega)
        · have e : min left x.2.2.2.1 = left := by omega
          rw [e, if_neg hq]
          have er : rest buy x left r = less x left :: r := by
            unfold rest; rw [if_pos (by omega)]
          rw [er, show left - left = 0 from by omega, meetS_zero]
      · simp only [hm, Bool.not_false, if_true]
/-- how much stands on a side that may be met -/
def reach (buy : Bool) (p : Int) : List Or.E → Int
  | [] => 0
  | x :: r => (if meets buy p x.2.2.1 then x.2.2.2.1 else 0) + reach buy p r
end Dm
end Go.Proofs.Ytfagldipjpaceaa

/- Plain mathematics of a book at work: its sides, its next id, and what is told. No function of the program here. -/
import Derived.Test.YtfagldipjpaceaaDoMath
import Derived.Test.YtfagldipjpaceaaJoined1
namespace Go.Proofs.Ytfagldipjpaceaa
namespace Dm
structure Bk where
  b : List Or.E
  a : List Or.E
  n : Int
  ev : List Vt.E
def Bk.side (X : Bk) (buy : Bool) : List Or.E := if buy then X.b else X.a
def Bk.put (X : Bk) (buy : Bool) (l : List Or.E) : Bk := if buy then ⟨l, X.a, X.n, X.ev⟩ else ⟨X.b, l, X.n, X.ev⟩
def Bk.tell (X : Bk) (e : Vt.E) : Bk := ⟨X.b, X.a, X.n, X.ev ++ [e]⟩
/-- the specification's meeting, of a book: what is left, whether it ends by a guard, the book -/
def meetB (o : Or.E) (buy : Bool) (p : Int) : Nat → Int → Bk → Int × Bool × Bk
  | 0, left, X => (left, false, X)
  | f + 1, left, X =>
    if left ≤ 0 then (left, false, X) else
    match X.side (!buy) with
    | [] => (left, false, X)
    | x :: r =>
      if !meets buy p x.2.2.1 then (left, false, X)
      else if o.2.2.2.2.2.2.2 && decide (x.2.1 = o.2.1) then (left, true, X)
      else meetB o buy p f (left - min left x.2.2.2.1) ((X.tell (fill o.1 x (min left x.2.2.2.1))).put (!buy) (rest buy x (min left x.2.2.2.1) r))
/-- an order comes: it meets, and rests, if it may -/
def come (o : Or.E) (buy : Bool) (p : Int) (left : Int) (rests : Bool) (X : Bk) : Bk :=
  let m := meetB o buy p left.toNat left X
  if m.1 = 0 then m.2.2
  else if m.2.1 || !rests then m.2.2.tell (3, o.1, 0, 0, m.1)
  else m.2.2.put buy (inn buy (shown o m.1) (m.2.2.side buy))
theorem meetB_zero (o : Or.E) (buy : Bool) (p : Int) (f : Nat) (X : Bk) : meetB o buy p f 0 X = (0, false, X) := by
  cases f <;> simp [meetB]
theorem meetB_none {o : Or.E} {buy : Bool} {p : Int} {f : Nat} {left : Int} {X : Bk} (h : 0 < left) (hs : X.side (!buy) = []) : meetB o buy p (f + 1) left X = (left, false, X) := by
  have : ¬ left ≤ 0 := by omega
  simp [meetB, this, hs]
theorem meetB_far {o : Or.E} {buy : Bool} {p : Int} {f : Nat} {left : Int} {X : Bk} {x : Or.E} {r : List Or.E} (h : 0 < left) (hs : X.side (!buy) = x :: r) (hm : meets buy p x.2.2.1 = false) : meetB o buy p (f + 1) left X = (left, false, X) := by
  have : ¬ left ≤ 0 := by omega
  simp [meetB, this, hs, hm]
theorem meetB_guard {o : Or.E} {buy : Bool} {p : Int} {f : Nat} {left : Int} {X : Bk} {x : Or.E} {r : List Or.E} (h : 0 < left) (hs : X.side (!buy) = x :: r) (hm : meets buy p x.2.2.1 = true) (hg : (o.2.2.2.2.2.2.2 && decide (x.2.1 = o.2.1)) = true) : meetB o buy p (f + 1) left X = (left, true, X) := by
  have : ¬ left ≤ 0 := by omega
  simp only [meetB, this, if_false, hs, hm, Bool.not_true, Bool.false_eq_true, hg, if_true]
theorem meetB_go {o : Or.E} {buy : Bool} {p : Int} {f : Nat} {left : Int} {X : Bk} {x : Or.E} {r : List Or.E} (h : 0 < left) (hs : X.side (!buy) = x :: r) (hm : meets buy p x.2.2.1 = true) (hg : (o.2.2.2.2.2.2.2 && decide (x.2.1 = o.2.1)) = false) : meetB o buy p (f + 1) left X = meetB o buy p f (left - min left x.2.2.2.1) ((X.tell (fill o.1 x (min left x.2.2.2.1))).put (!buy) (rest buy x (min left x.2.2.2.1) r)) := by
  have : ¬ left ≤ 0 := by omega
  simp only [meetB, this, if_false, hs, hm, Bool.not_true, Bool.false_eq_true, hg]
/-- something is left of it, and what it shows and hides is small -/
def Fine (x : Or.E) : Prop := (1 ≤ x.2.2.2.1 ∧ x.2.2.2.1 ≤ 1000000) ∧ (0 ≤ x.2.2.2.2.2.1 ∧ x.2.2.2.2.2.1 ≤ 1000000) ∧ (0 ≤ x.2.2.2.2.2.2.1 ∧ x.2.2.2.2.2.2.1 ≤ 1000000) ∧ (0 < x.2.2.2.2.2.2.1 → 0 < x.2.2.2.2.2.1)
theorem Fine.less {x : Or.E} (h : Fine x) {n : Int} (h0 : 0 ≤ n) (h1 : 0 < x.2.2.2.1 - n) : Fine (less x n) := by
  obtain ⟨⟨a, b⟩, c, d, e⟩ := h
  refine ⟨⟨?_, ?_⟩, c, d, e⟩ <;> (simp only [Dm.less]; omega)
theorem Fine.shown {x : Or.E} (h : Fine x) (n : Int) (h1 : 0 < x.2.2.2.2.2.2.1) : Fine (shown (Dm.less x n) x.2.2.2.2.2.2.1) := by
  obtain ⟨⟨a, b⟩, ⟨c, c'⟩, ⟨d, d'⟩, e⟩ := h
  have e' := e h1
  unfold Dm.shown
  simp only [Dm.less]
  by_cases q : x.2.2.2.2.2.2.1 < x.2.2.2.2.2.1
  · simp only [q, if_true, h1]
    refine ⟨⟨?_, ?_⟩, ⟨?_, ?_⟩, ⟨?_, ?_⟩, ?_⟩ <;> (simp only []; omega)
  · simp only [q, if_false, e', if_true]
    refine ⟨⟨?_, ?_⟩, ⟨?_, ?_⟩, ⟨?_, ?_⟩, ?_⟩ <;> (simp only []; omega)
theorem fine_inn {buy : Bool} {o : Or.E} (ho : Fine o) : ∀ {L : List Or.E}, (∀ y ∈ L, Fine y) → ∀ y ∈ inn buy o L, Fine y
  | [], _, y, hy => by simp only [inn, List.mem_singleton] at hy; rw [hy]; exact ho
  | x :: r, h, y, hy => by
    simp only [inn] at hy
    split at hy
    · rcases List.mem_cons.1 hy with e | e
      · rw [e]; exact h x (List.mem_cons_self ..)
      · exact fine_inn ho (fun z hz => h z (List.mem_cons_of_mem _ hz)) y e
    · rcases List.mem_cons.1 hy with e | e
      · rw [e]; exact ho
      · exact h y e
theorem inn_length (buy : Bool) (o : Or.E) (L : List Or.E) : (inn buy o L).length = L.length + 1 := by
  have := place_le buy o.2.2.1 L
  rw [inn_eq, List.length_append, List.length_cons, List.length_take, List.length_drop]; omega
theorem rest_fine {buy : Bool} {x : Or.E} {n : Int} {r : List Or.E} (hx : Fine x) (hn : 0 ≤ n) (hr : ∀ y ∈ r, Fine y) : ∀ y ∈ rest buy x n r, Fine y := by
  intro y hy
  unfold rest at hy
  split at hy
  · rename_i h1
    rcases List.mem_cons.1 hy with e | e
    · rw [e]; exact hx.less hn h1
    · exact hr y e
  · split at hy
    · rename_i h2
      exact fine_inn (hx.shown n h2) hr y hy
    · exact hr y hy
theorem rest_length (buy : Bool) (x : Or.E) (n : Int) (r : List Or.E) : (rest buy x n r).length ≤ r.length + 1 := by
  unfold rest
  split
  · simp
  · split
    · rw [inn_length]; exact Nat.le_refl _
    · omega
theorem side_put (X : Bk) (buy : Bool) (l : List Or.E) : (X.put buy l).side buy = l := by cases buy <;> rfl
theorem side_other (X : Bk) (buy : Bool) (l : List Or.E) : (X.put (!buy) l).side buy = X.side buy := by cases buy <;> rfl
theorem side_tell (X : Bk) (buy : Bool) (e : Vt.E) : (X.tell e).side buy = X.side buy := by cases buy <;> rfl
theorem ev_put (X : Bk) (buy : Bool) (l : List Or.E) : (X.put buy l).ev = X.ev := by cases buy <;> rfl
theorem n_put (X : Bk) (buy : Bool) (l : List Or.E) : (X.put buy l).n = X.n := by cases buy <;> rfl
end Dm
end Go.Proofs.Ytfagldipjpaceaa

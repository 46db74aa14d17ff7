/- Plain mathematics of a book at work: what a meeting leaves as it was. No function of the program here. Plain mathematics of a book at work: what a limit or a market order does. No function of the program here. Plain mathematics of a book at work: what the day's end does. No function of the program here. -/
import Derived.Test.YtfagldipjpaceaaBookMath
namespace Go.Proofs.Ytfagldipjpaceaa
namespace Dm
theorem meetB_side (o : Or.E) (buy : Bool) (p : Int) : ∀ (f : Nat) (left : Int) (X : Bk), (meetB o buy p f left X).2.2.side buy = X.side buy
  | 0, left, X => rfl
  | f + 1, left, X => by
    simp only [meetB]
    split
    · rfl
    · split
      · rfl
      · split
        · rfl
        · split
          · rfl
          · rw [meetB_side o buy p f, side_other, side_tell]
theorem meetB_ev (o : Or.E) (buy : Bool) (p : Int) : ∀ (f : Nat) (left : Int) (X : Bk), (meetB o buy p f left X).2.2.ev.length ≤ X.ev.length + f
  | 0, left, X => Nat.le_refl _
  | f + 1, left, X => by
    simp only [meetB]
    split
    · simp only []; omega
    · split
      · simp only []; omega
      · split
        · simp only []; omega
        · split
          · simp only []; omega
          · refine Nat.le_trans (meetB_ev o buy p f _ _) ?_
            rw [ev_put]
            simp only [Bk.tell, List.length_append, List.length_cons, List.length_nil]; omega
theorem meetB_left (o : Or.E) (buy : Bool) (p : Int) : ∀ (f : Nat) (left : Int) (X : Bk), 0 ≤ left → (∀ x ∈ X.side (!buy), Fine x) → 0 ≤ (meetB o buy p f left X).1 ∧ (meetB o buy p f left X).1 ≤ left
  | 0, left, X, h, _ => ⟨h, Int.le_refl _⟩
  | f + 1, left, X, h, hF => by
    simp only [meetB]
    split
    · exact ⟨h, Int.le_refl _⟩
    · split
      · exact ⟨h, Int.le_refl _⟩
      · rename_i x r hs
        have hx : Fine x := hF x (by rw [hs]; exact List.mem_cons_self ..)
        have hr : ∀ y ∈ r, Fine y := fun y hy => hF y (by rw [hs]; exact List.mem_cons_of_mem _ hy)
        have h1 := hx.1.1
        split
        · exact ⟨h, Int.le_refl _⟩
        · split
          · exact ⟨h, Int.le_refl _⟩
          · have := meetB_left o buy p f (left - min left x.2.2.2.1) ((X.tell (fill o.1 x (min left x.2.2.2.1))).put (!buy) (rest buy x (min left x.2.2.2.1) r)) (by omega) (by rw [side_put]; exact rest_fine hx (by omega) hr)
            exact ⟨this.1, by have := this.2; omega⟩
end Dm
end Go.Proofs.Ytfagldipjpaceaa

namespace Go.Proofs.Ytfagldipjpaceaa
namespace Dm
def Bk.next (X : Bk) : Bk := ⟨X.b, X.a, X.n + 1, X.ev⟩
def Bk.mute (X : Bk) : Bk := ⟨X.b, X.a, X.n, []⟩
def newO (c : Cm.C) (n : Int) : Or.E := (n, c.owner, c.price, 0, decide (c.life = 1), c.peak, 0, c.guard)
def rests (c : Cm.C) : Bool := decide (c.kind = 1) && decide (c.life ≤ 1)
def crosses (c : Cm.C) (X : Bk) : Bool := c.post && (match X.side (!c.buy) with | [] => false | y :: _ => meets c.buy c.price y.2.2.1)
def taken (X : Bk) : Bk := X.next.tell (1, X.n, 0, 0, 0)
def order (c : Cm.C) (X : Bk) : Int × Bk :=
  if decide (1000000 ≤ X.n) || (rests c && decide (24 ≤ (X.b.length : Int) + X.a.length)) then (9, X)
  else if crosses c X then (11, X)
  else if decide (c.life = 3) && decide (0 < (meetB (newO c X.n) c.buy c.price c.amount.toNat c.amount (taken X).mute).1) then (0, (taken X).tell (3, X.n, 0, 0, c.amount))
  else (0, come (newO c X.n) c.buy c.price c.amount (rests c) (taken X))
theorem order_rest {c : Cm.C} {X : Bk} (h0 : (decide ((1000000 : Int) ≤ X.n) || (rests c && decide ((24 : Int) ≤ (X.b.length : Int) + X.a.length))) = false) (h1 : c.post = false) (h3 : c.life ≠ 3) : order c X = (0, come (newO c X.n) c.buy c.price c.amount (rests c) (taken X)) := by
  unfold order
  rw [if_neg (by rw [h0]; decide), if_neg (by simp [crosses, h1]), if_neg (by simp [h3])]
theorem order_all {c : Cm.C} {X : Bk} (h0 : (decide ((1000000 : Int) ≤ X.n) || (rests c && decide ((24 : Int) ≤ (X.b.length : Int) + X.a.length))) = false) (h1 : c.post = false) (h3 : c.life = 3) : order c X = (if 0 < (meetB (newO c X.n) c.buy c.price c.amount.toNat c.amount (taken X).mute).1 then (0, (taken X).tell (3, X.n, 0, 0, c.amount)) else (0, come (newO c X.n) c.buy c.price c.amount (rests c) (taken X))) := by
  unfold order
  rw [if_neg (by rw [h0]; decide), if_neg (by simp [crosses, h1])]
  simp [h3]
theorem side_taken (X : Bk) (buy : Bool) : (taken X).side buy = X.side buy := by cases buy <;> rfl
theorem ev_taken (X : Bk) : (taken X).ev.length = X.ev.length + 1 := by simp [taken, Bk.tell, Bk.next]
end Dm
end Go.Proofs.Ytfagldipjpaceaa

namespace Go.Proofs.Ytfagldipjpaceaa
namespace Dm
def cutOf (x : Or.E) : Vt.E := (3, x.1, 0, 0, x.2.2.2.1 + x.2.2.2.2.2.2.1)
/-- the first ones that stay, and what is told of those that go -/
def kept (L : List Or.E) : Nat → List Or.E
  | 0 => []
  | k + 1 => if (Ob.at' L k).2.2.2.2.1 then kept L k else kept L k ++ [Ob.at' L k]
def cuts (L : List Or.E) : Nat → List Vt.E
  | 0 => []
  | k + 1 => if (Ob.at' L k).2.2.2.2.1 then cuts L k ++ [cutOf (Ob.at' L k)] else cuts L k
def Bk.told (X : Bk) (l : List Vt.E) : Bk := ⟨X.b, X.a, X.n, X.ev ++ l⟩
def roll1 (buy : Bool) (X : Bk) : Bk := (X.told (cuts (X.side buy) (X.side buy).length)).put buy (kept (X.side buy) (X.side buy).length)
def roll (X : Bk) : Bk := roll1 false (roll1 true X)
theorem kept_length (L : List Or.E) : ∀ k, (kept L k).length ≤ k
  | 0 => Nat.le_refl _
  | k + 1 => by
    have := kept_length L k
    simp only [kept]; split <;> (try simp only [List.length_append, List.length_cons, List.length_nil]) <;> omega
theorem cuts_length (L : List Or.E) : ∀ k, (cuts L k).length ≤ k
  | 0 => Nat.le_refl _
  | k + 1 => by
    have := cuts_length L k
    simp only [cuts]; split <;> (try simp only [List.length_append, List.length_cons, List.length_nil]) <;> omega
theorem told_nil (X : Bk) : X.told [] = X := by simp [Bk.told]
theorem told_tell (X : Bk) (l : List Vt.E) (e : Vt.E) : (X.told l).tell e = X.told (l ++ [e]) := by simp [Bk.told, Bk.tell]
theorem side_told (X : Bk) (l : List Vt.E) (buy : Bool) : (X.told l).side buy = X.side buy := by cases buy <;> rfl
end Dm
end Go.Proofs.Ytfagldipjpaceaa

/- Plain mathematics of a book at work: how many orders it has at most behind a command. No function of the program here. -/
import Derived.Test.YtfagldipjpaceaaBookOldDo
namespace Go.Proofs.Ytfagldipjpaceaa
namespace Dm
def Bk.many (X : Bk) : Nat := X.b.length + X.a.length
theorem many_side (X : Bk) (buy : Bool) : X.many = (X.side buy).length + (X.side (!buy)).length := by
  cases buy <;> simp [Bk.many, Bk.side] <;> omega
theorem many_put (X : Bk) (buy : Bool) (l : List Or.E) : (X.put buy l).many = l.length + (X.side (!buy)).length := by
  cases buy <;> simp [Bk.many, Bk.side, Bk.put] <;> omega
theorem many_tell (X : Bk) (e : Vt.E) : (X.tell e).many = X.many := rfl
theorem meetB_many (o : Or.E) (buy : Bool) (p : Int) : ∀ (f : Nat) (left : Int) (X : Bk), (meetB o buy p f left X).2.2.many ≤ X.many
  | 0, left, X => Nat.le_refl _
  | f + 1, left, X => by
    by_cases h : left ≤ 0
    · simp [meetB, h]
    · have h' : 0 < left := by omega
      cases hs : X.side (!buy) with
      | nil => rw [meetB_none h' hs]; exact Nat.le_refl _
      | cons x r =>
        cases hm : meets buy p x.2.2.1 with
        | false => rw [meetB_far h' hs hm]; exact Nat.le_refl _
        | true =>
          cases hg : (o.2.2.2.2.2.2.2 && decide (x.2.1 = o.2.1)) with
          | true => rw [meetB_guard h' hs hm hg]; exact Nat.le_refl _
          | false =>
            rw [meetB_go h' hs hm hg]
            refine Nat.le_trans (meetB_many o buy p f _ _) ?_
            rw [many_put, side_tell, Bool.not_not, many_side X buy, hs]
            have := rest_length buy x (min left x.2.2.2.1) r
            simp only [List.length_cons]
            omega
theorem come_many (o : Or.E) (buy : Bool) (p : Int) (left : Int) (rests : Bool) (X : Bk) : (come o buy p left rests X).many ≤ X.many + 1 := by
  have h := meetB_many o buy p left.toNat left X
  unfold come
  simp only []
  split
  · omega
  · split
    · rw [many_tell]; omega
    · rw [many_put, inn_length]
      have := many_side (meetB o buy p left.toNat left X).2.2 buy
      omega
theorem many_taken (X : Bk) : (taken X).many = X.many := rfl
theorem order_many (c : Cm.C) (X : Bk) : (order c X).2.many ≤ X.many + 1 := by
  unfold order
  split
  · exact Nat.le_succ _
  · split
    · exact Nat.le_succ _
    · split
      · rw [many_tell, many_taken]; omega
      · exact come_many _ _ _ _ _ _
theorem out_le (L : List Or.E) (k : Nat) : (out L k).length ≤ L.length := by simp [out]; omega
theorem changeAt_many (c : Cm.C) (X : Bk) (buy : Bool) (k : Nat) : (changeAt c X buy k).2.many ≤ X.many + 1 := by
  have ho := out_le (X.side buy) k
  have hm := many_side X buy
  unfold changeAt
  split
  · exact Nat.le_succ _
  · split
    · rw [many_tell, many_put]; omega
    · split
      · rw [many_put, side_tell]; simp only [List.length_set]; omega
      · refine Nat.le_trans (come_many _ _ _ _ _ _) ?_
        rw [many_put, side_tell]; omega
theorem change_many (c : Cm.C) (X : Bk) : (change c X).2.many ≤ X.many + 1 := by
  unfold change
  split
  · exact changeAt_many _ _ _ _
  · split
    · exact changeAt_many _ _ _ _
    · exact Nat.le_succ _
theorem roll1_many (buy : Bool) (X : Bk) : (roll1 buy X).many ≤ X.many := by
  have h := kept_length (X.side buy) (X.side buy).length
  have hm := many_side X buy
  unfold roll1
  rw [many_put]
  have : (X.told (cuts (X.side buy) (X.side buy).length)).side (!buy) = X.side (!buy) := rfl
  rw [this]; omega
theorem doo_many (c : Cm.C) (X : Bk) : (doo c X).2.many ≤ X.many + 1 := by
  unfold doo
  split
  · exact order_many c X
  · split
    · exact change_many c X
    · exact Nat.le_trans (roll1_many false _) (Nat.le_trans (roll1_many true X) (Nat.le_succ _))
theorem ans_many (c : Cm.C) (X : Bk) : (ans c X).2.many ≤ X.many + 1 := by
  unfold ans
  split
  · exact doo_many c X
  · exact Nat.zero_le _
/-- behind a command that is carried out a book has one order more at most; one that is refused leaves nothing -/
theorem oldDo_many (c : Cm.C) (B A : List Or.E) (n : Int) : (oldDo c B A n).2.b.length + (oldDo c B A n).2.a.length ≤ B.length + A.length + 1 := by
  unfold oldDo
  split
  · exact Nat.zero_le _
  · split
    · exact Nat.zero_le _
    · exact ans_many c ⟨B, A, n, []⟩
end Dm
end Go.Proofs.Ytfagldipjpaceaa

/- Plain mathematics of choosing the fields that are known. No function of the program here. -/
import Derived.Test.YtkkmjffepdejnaaRecMath
import Derived.Test.YtkkmjffepdejnaaNumKit
namespace Go.Proofs.Ytkkmjffepdejnaa
namespace Ri
def up (T : List Int) (j : Nat) : Bool := decide (j = 0) || decide (Ik.at_ T (j - 1) < Ik.at_ T j)
/-- the numbers rise -/
def upAll (T : List Int) : Bool := (List.range T.length).all (up T)
theorem upAll_yes {T : List Int} (h : ∀ j, j < T.length → up T j = true) : upAll T = true := by
  unfold upAll; rw [List.all_eq_true]; exact fun j hj => h j (List.mem_range.1 hj)
theorem upAll_at {T : List Int} {j : Nat} (hj : j < T.length) (h : up T j = false) : upAll T = false := by
  unfold upAll; rw [List.all_eq_false]; exact ⟨j, List.mem_range.2 hj, by simp [h]⟩
theorem upAll_inv {T : List Int} (h : upAll T = true) {j : Nat} (hj : j < T.length) : up T j = true := by
  unfold upAll at h; rw [List.all_eq_true] at h; exact h j (List.mem_range.2 hj)
theorem at_get (T : List Int) (i : Nat) (h : i < T.length) : Ik.at_ T i = T[i] := by simp [Ik.at_, List.getD, h]
theorem has_hit {T : List Int} {x : Int} {k : Nat} (hk : k < T.length) (h : Ik.at_ T k = x) : T.contains x = true := by
  rw [at_get T k hk] at h
  rw [List.contains_iff_mem, ← h]
  exact List.getElem_mem hk
theorem has_miss {T : List Int} {x : Int} (h : ∀ j, j < T.length → Ik.at_ T j ≠ x) : T.contains x = false := by
  rw [Bool.eq_false_iff]
  intro hc
  rw [List.contains_iff_mem] at hc
  obtain ⟨j, hj, e⟩ := List.getElem_of_mem hc
  exact h j hj (by rw [at_get T j hj]; exact e)
theorem lt_of_up {T : List Int} (h : upAll T = true) : ∀ {i j : Nat}, i < j → j < T.length → Ik.at_ T i < Ik.at_ T j := by
  intro i j hij
  induction j with
  | zero => omega
  | succ m ih =>
    intro hm
    have hu := upAll_inv h hm
    simp only [up, Bool.or_eq_true, decide_eq_true_eq, Nat.add_sub_cancel] at hu
    rcases hu with hu | hu
    · omega
    · by_cases e : i = m
      · subst e; exact hu
      · exact Int.lt_trans (ih (by omega) (by omega)) hu
end Ri
namespace Rc
/-- what RecOnly tells: the kind, the fields, the code -/
def only (K : Int) (L : List Fd.E) (T : List Int) : Int × List Fd.E × Int :=
  if 400 < T.length then (0, [], 2) else if right K L && Ri.upAll T then (K, L.filter (fun f => T.contains f.1), 0) else (0, [], 1)
theorem only_size {K : Int} {L : List Fd.E} {T : List Int} (h : 400 < T.length) : only K L T = (0, [], 2) := by unfold only; rw [if_pos h]
theorem only_ill {K : Int} {L : List Fd.E} {T : List Int} (h : ¬ 400 < T.length) (h1 : (right K L && Ri.upAll T) = false) : only K L T = (0, [], 1) := by unfold only; rw [if_neg h, h1]; rfl
theorem only_ok {K : Int} {L : List Fd.E} {T : List Int} (h : ¬ 400 < T.length) (h1 : right K L = true) (h2 : Ri.upAll T = true) : only K L T = (K, L.filter (fun f => T.contains f.1), 0) := by unfold only; rw [if_neg h, h1, h2]; rfl
theorem only_length (K : Int) (L : List Fd.E) (T : List Int) : (only K L T).2.1.length ≤ L.length := by
  unfold only
  split
  · simp
  · split
    · exact List.length_filter_le _ _
    · simp
end Rc
end Go.Proofs.Ytkkmjffepdejnaa

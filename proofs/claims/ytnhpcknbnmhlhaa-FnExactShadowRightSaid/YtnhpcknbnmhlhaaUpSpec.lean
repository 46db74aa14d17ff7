/- The walk of the specification's Up. -/
import Derived.Test.YtnhpcknbnmhlhaaLevelsClose
import Derived.Test.YtnhpcknbnmhlhaaLevelsPut
import Derived.Test.YtnhpcknbnmhlhaaOldRightSpec2
import Derived.Test.YtnhpcknbnmhlhaaAnsKit
namespace Go.Proofs.Ytnhpcknbnmhlhaa
open Go.RowKit
set_option linter.unusedVariables false
set_option linter.unusedSimpArgs false
/-- what goes over: both sides' levels and Next -/
def Nb.up (B A : List Or.E) (n : Int) : List Lv.E × List Lv.E × Int := if Ob.right B A n = true then (Nb.levels B, Nb.levels A, n) else ([], [], 0)
theorem Nb.up_length (B A : List Or.E) (n : Int) (h0 : B.length ≤ 1048576) (h1 : A.length ≤ 1048576) : ((Nb.up B A n).1.length ≤ 1048576 ∧ (Nb.up B A n).2.1.length ≤ 1048576) ∧ (Nb.flat (Nb.up B A n).1).length ≤ 1048576 ∧ (Nb.flat (Nb.up B A n).2.1).length ≤ 1048576 := by
  unfold Nb.up
  have e0 := Nb.levels_length B
  have e1 := Nb.levels_length A
  split
  · simp only [Nb.flat_levels]; omega
  · simp [Nb.flat]
theorem Aw.Lev.ofPair {w : World} {eh eo : TypeId} {base : Nat} {u v : Value} {B A : List Lv.E} (h : Lv.Pair w base eh eo u v B A) : Aw.Lev w eh eo base w.heap.size u v B A := by
  obtain ⟨HB, HA, mid, h1, h2, h3, h4, h5⟩ := h
  exact ⟨HB, HA, mid, h1, h2, h3, h2.under, h4, h5, Nat.le_refl _⟩
theorem Lv.pair_nil (w : World) (base : Nat) (eh eo : TypeId) (hb : base ≤ w.heap.size) : Lv.Pair w base eh eo (.slice none 0 0) (.slice none 0 0) [] [] :=
  ⟨[], [], base, Lv.own_nil _ _ _ _, Lv.own_nil _ _ _ _, ⟨fun k hk => by simp [Value.ownBlock] at hk, fun i hi => absurd hi (by simp)⟩, Nat.le_refl _, hb⟩
theorem Lv.pair_slice {w : World} {base : Nat} {eh eo : TypeId} {u v : Value} {B A : List Lv.E} (h : Lv.Pair w base eh eo u v B A) : ∃ a n c, u = .slice a n c := by
  obtain ⟨HB, HA, mid, h1, _⟩ := h
  exact h1.row.slice'
theorem Lv.pair_slice' {w : World} {base : Nat} {eh eo : TypeId} {u v : Value} {B A : List Lv.E} (h : Lv.Pair w base eh eo u v B A) : ∃ a n c, v = .slice a n c := by
  obtain ⟨HB, HA, mid, _, h2, _⟩ := h
  exact h2.row.slice'
end Go.Proofs.Ytnhpcknbnmhlhaa

/- The walks of the law's own marks on lists of Order. -/
import Derived.Test.YtnhpcknbnmhlhaaProg
import Derived.WalkKit
import Derived.WalkSpells
import Derived.WalkLawsBesides
import Derived.BigQuiet
import Derived.Lib.QuietBelow
import Derived.Test.YtnhpcknbnmhlhaaOrderKit
import Derived.BigRegion
import Derived.Deep.RegionWith
namespace Go.Proofs.Ytnhpcknbnmhlhaa
open Go.RowKit
set_option linter.unusedVariables false
set_option linter.unusedSimpArgs false
namespace Or
/-- the marks of one place, counted from k -/
def mk1 (k i : Nat) : E := (((k + 8 * i : Nat) : Int), ((k + 8 * i + 1 : Nat) : Int), ((k + 8 * i + 2 : Nat) : Int), ((k + 8 * i + 3 : Nat) : Int), decide ((k + 8 * i + 4) % 3 = 0), ((k + 8 * i + 5 : Nat) : Int), ((k + 8 * i + 6 : Nat) : Int), decide ((k + 8 * i + 7) % 3 = 0))
/-- the marks of n places -/
def mks (k n : Nat) : List E := (List.range n).map (mk1 k)
theorem mks_length (k n : Nat) : (mks k n).length = n := by simp [mks]
theorem mks_at (k n i : Nat) (h : i < n) : Rk.at_ S (mks k n) i = mk1 k i := by simp [mks, Rk.at_, List.getD, h]
/-- the first places are marked -/
def part (k : Nat) (L : List E) (j : Nat) : List E := mks k j ++ L.drop j
theorem part_length (k : Nat) (L : List E) (j : Nat) (h : j ≤ L.length) : (part k L j).length = L.length := by simp [part, mks_length]; omega
theorem part_none (k : Nat) (L : List E) : part k L 0 = L := by simp [part, mks]
theorem part_all (k : Nat) (L : List E) : part k L L.length = mks k L.length := by simp [part]
theorem part_step (k : Nat) (L : List E) (j : Nat) (h : j < L.length) : (part k L j).set j (mk1 k j) = part k L (j + 1) := by
  unfold part
  rw [List.set_append_right _ _ (by rw [mks_length]; exact Nat.le_refl _), mks_length, Nat.sub_self, List.drop_eq_getElem_cons h, List.set_cons_zero]
  simp [mks, List.range_succ]
theorem put_at {w : World} {base g cap n : Nat} {e : TypeId} {M : List E} {c : E} {k : Nat} (h : Rk.Own S w base e (.slice (some ⟨g, 0, none⟩) n cap) (M.set k c)) (hk : k < M.length) (j : Nat) (hj : j < S.m) (u : Value) (f : E) (hf : S.cs f = (S.cs c).set j u) :
    Rk.Own S (w.setCell ⟨g, k * S.m + j, none⟩ u) base e (.slice (some ⟨g, 0, none⟩) n cap) (M.set k f) := by
  have := h.put (k := k) (by simpa using hk) j hj u f (by rw [Rk.at_set M k hk]; exact hf)
  rw [List.set_set] at this
  exact this
theorem tm3 (z : Int) (m : Nat) (h : z = (m : Int)) : decide (Int.tmod z 3 = 0) = decide (m % 3 = 0) := by
  subst h
  rw [Int.tmod_eq_emod_of_nonneg (by omega)]
  by_cases c : m % 3 = 0
  · rw [decide_eq_true c, decide_eq_true (by omega)]
  · rw [decide_eq_false c, decide_eq_false (by omega)]
end Or


end Go.Proofs.Ytnhpcknbnmhlhaa

/- The walks of the program's functions on newer books: how many orders there are, whether levels are right, the orders in a row, whether a book is right. -/
import Derived.Test.YtjagohadeegghaaNewMath
import Derived.Test.YtjagohadeegghaaOldRightImpl
namespace Go.Proofs.Ytjagohadeegghaa
open Go.RowKit
set_option linter.unusedVariables false
set_option linter.unusedSimpArgs false
set_option maxHeartbeats 1000000 in
theorem countOf_any (v : Value) (L : List Lv.E) (w : World) (hv : Lv.View w v L) (hl : L.length ≤ 1048576) (hm : (Nb.flat L).length ≤ 1048576) :
    Calls Try.prog 84 #[v] w fun e w' => e = .returned (.int .i64 (Nb.flat L).length) ∧ Below w.heap.size w w' := by
  have HV := Fk.hide hv
  obtain ⟨a, cap, rfl⟩ := hv.slice
  clear hv
  go_enter Try.func84, Try.ntmps84
  go_wp2_with fail
  go_loopw [3, 8] (fun c i wr => ∃ (k m : Nat), k ≤ L.length ∧ i = .int .i64 k ∧ c = .int .i64 m ∧ m ≤ 1048576 ∧ Hid (m = (Nb.flat (L.take k)).length) ∧ Below w.heap.size w wr) (fun _ i _ => L.length - (intOf i).toNat)
  case atStart => exact ⟨0, 0, Nat.zero_le _, rfl, rfl, by omega, (by show _ = _; simp [Nb.flat]), Below.refl _ _⟩
  case round =>
    obtain ⟨k, m, hk, rfl, rfl, hm1, HM, bel⟩ := hrel
    by_cases hlt : k < L.length
    · obtain ⟨b, o, q, n, c, rfl, hb, p0, p1, hn, hvi, _⟩ := (HV.out.below bel).at hlt
      have HN : Hid (m + n = (Nb.flat (L.take (k + 1))).length) := by
        show _ = _
        rw [Nb.flat_step L k hlt, List.length_append, ← hn, HM.out]
      have hn1 : m + n ≤ 1048576 := by have := Nb.flat_le L (k + 1); have := HN.out; omega
      clear hvi hn HM
      go_wp2_with fail
      go_roundw
      case rel => exact ⟨k + 1, m + n, by omega, by go_num, by go_num, hn1, HN, bel.alloc bel.size _⟩
      case measure => simp [intOf]; omega
    · have e : k = L.length := by omega
      subst e
      rw [Nb.flat_all] at HM
      obtain rfl := HM.out
      go_wp2_with fail
      go_ret
      exact ⟨rfl, bel⟩

set_option maxHeartbeats 2000000 in
theorem peakRight_any (o : Or.E) (w : World) :
    Calls Try.prog 123 #[.agg #[.int .i64 o.1, .int .i64 o.2.1, .int .i64 o.2.2.1, .int .i64 o.2.2.2.1, .bool o.2.2.2.2.1, .int .i64 o.2.2.2.2.2.1, .int .i64 o.2.2.2.2.2.2.1, .bool o.2.2.2.2.2.2.2]] w fun e w' => e = .returned (.bool (Nb.peakI o)) ∧ Below w.heap.size w w' := by
  have HB : Hid (∀ o, Below w.heap.size w (w.alloc o)) := fun o => (Below.refl w.heap.size w).alloc (Nat.le_refl _) o
  go_enter Try.func123, Try.ntmps123
  go_wp2_with (go_at_call 112; refine (within_any _ _ _ _).mono ?_; rintro e w' ⟨rfl, rfl⟩)
  all_goals
    go_ret
    refine ⟨?_, HB.out _⟩
    simp_all [Nb.peakI, Cm.inn]
    first
      | omega
      | rfl
      | (rw [show wrap64 (1000 - o.2.2.2.1) = 1000 - o.2.2.2.1 by unfold wrap64; omega])
end Go.Proofs.Ytjagohadeegghaa

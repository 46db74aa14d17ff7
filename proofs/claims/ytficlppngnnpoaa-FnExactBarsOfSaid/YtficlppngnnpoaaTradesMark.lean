/- The walks of the law's own marks on lists of Trade. -/
import Derived.Test.YtficlppngnnpoaaProg
import Derived.WalkKit
import Derived.WalkSpells
import Derived.WalkLawsBesides
import Derived.BigQuiet
import Derived.Lib.QuietBelow
import Derived.Test.YtficlppngnnpoaaTradesKit
import Derived.BigRegion
import Derived.Deep.RegionWith
namespace Go.Proofs.Ytficlppngnnpoaa
open Go.RowKit
set_option linter.unusedVariables false
set_option linter.unusedSimpArgs false
namespace Td
/-- the marks of one place, counted from k -/
def mk1 (k i : Nat) : E := (((k + 2 * i : Nat) : Int), ((k + 2 * i + 1 : Nat) : Int))
/-- the marks of n places -/
def mks (k n : Nat) : List E := (List.range n).map (mk1 k)
theorem mks_length (k n : Nat) : (mks k n).length = n := by simp [mks]
theorem mks_at (k n i : Nat) (h : i < n) : Rk.at_ S (mks k n) i = mk1 k i := by simp [mks, Rk.at_, List.getD, h]
/-- the first places are marked -/
def part (k : Nat) (L : List E) (j : Nat) : List E := mks k j ++ L.drop j
theorem part_length (k : Nat) (L : List E) (j : Nat) (h : j ≤ L.length) : (part k L j).length = L.length := by simp [part, mks_length]; omega
theorem part_none (k : Nat) (L : List E) : part k L 0 = L := by simp [part, mks]
theorem part_all (k : Nat) (L : List E) : part k L L.length = mks k L.length := by simp [part]
theorem part_step (k : Nat) (L : List E) (j : Nat) (h : j < L.length) : (part k L j).set j (mk1 k j) = part k L (j + 1) := by
  unfold part
  rw [List.set_append_right _ _ (by rw [mks_length]; exact Nat.le_refl _), mks_length, Nat.sub_self, List.drop_eq_getElem_cons h, List.set_cons_zero]
  simp [mks, List.range_succ]
theorem put_at {w : World} {base g cap n : Nat} {e : TypeId} {M : List E} {c : E} {k : Nat} (h : Rk.Own S w base e (.slice (some ⟨g, 0, none⟩) n cap) (M.set k c)) (hk : k < M.length) (j : Nat) (hj : j < S.m) (u : Value) (f : E) (hf : S.cs f = (S.cs c).set j u) :
    Rk.Own S (w.setCell ⟨g, k * S.m + j, none⟩ u) base e (.slice (some ⟨g, 0, none⟩) n cap) (M.set k f) := by
  have := h.put (k := k) (by simpa using hk) j hj u f (by rw [Rk.at_set M k hk]; exact hf)
  rw [List.set_set] at this
  exact this
end Td

set_option maxHeartbeats 2000000 in
theorem markTradeS_any (v : Value) (L : List Td.E) (k : Nat) (base : Nat) (w : World) (ho : Rk.Own Td.S w base 37 v L) (hl : L.length ≤ 1048576) (hk0 : 0 < k) (hk : k ≤ 20000000) :
    Calls Try.prog 31 #[v, .int .i64 k] w fun e w' => (e = .returned (.int .i64 ((k + 2 * L.length : Nat) : Int)) ∧ Rk.Own Td.S w' base 37 v (Td.mks k L.length)) ∧ w.grownBy w' v.ownBlock := by
  obtain ⟨a, cap, rfl⟩ := ho.slice
  have HO : Hid (Rk.Own Td.S w base 37 (.slice a L.length cap) L) := ho
  go_enter Try.func31, Try.ntmps31
  go_wp2_with fail
  go_loopw [1, 5] (fun q i wr => ∃ j m : Nat, j ≤ L.length ∧ q = .int .i64 (m : Int) ∧ i = .int .i64 j ∧ 0 < m ∧ m ≤ 99999900 ∧ Hid (m = k + 2 * j) ∧ Hid (Rk.Own Td.S wr base 37 (.slice a L.length cap) (Td.part k L j)) ∧ Hid (w.grownBy wr (Value.slice a L.length cap).ownBlock)) (fun _ i _ => L.length - (intOf i).toNat)
  case atStart => exact ⟨0, k, Nat.zero_le _, rfl, rfl, hk0, by omega, rfl, (by rw [Td.part_none]; exact ho), World.grownBy.refl _ _⟩
  case round =>
    obtain ⟨j, m, hj, rfl, rfl, hm0, hm1, HM, HP, HG⟩ := hrel
    by_cases hlt : j < L.length
    · obtain ⟨g, rfl⟩ : ∃ g, a = some ⟨g, 0, none⟩ := by
        rcases HO.out.form with ⟨h1, h2⟩ | ⟨g, c, h1, _⟩
        · rw [h2] at hlt; simp at hlt
        · simp only [Value.slice.injEq] at h1; exact ⟨g, h1.1⟩
      obtain ⟨M, hM⟩ : ∃ M, Hid (M = Td.part k L j) := ⟨_, rfl⟩
      rw [← hM.out] at HP
      have HQ : Hid (j < M.length) := by show _ < _; rw [hM.out, Td.part_length k L j hj]; exact hlt
      obtain ⟨c, hc⟩ : ∃ c, c = Rk.at_ Td.S M j := ⟨_, rfl⟩
      have OO : Hid (Rk.Own Td.S wr base 37 (.slice (some ⟨g, 0, none⟩) L.length cap) (M.set j c)) := by
        show Rk.Own _ _ _ _ _ _
        rw [hc, Rk.at_get M j HQ.out, List.set_getElem_self]; exact HP.out
      have GG := HG
      clear HP HG hc
      have HL0 : Hid (j < (M.set j c).length) := by show _ < _; simpa using HQ.out
      obtain ⟨z0, hz0⟩ : ∃ z, z = Rk.at_ Td.S (M.set j c) j := ⟨_, rfl⟩
      have p0_0 := Td.o0 OO.out HL0.out
      rw [← hz0] at p0_0
      have fp0_0 := OO.out.frozen (j * 2)
      have p0_1 := Td.o1 OO.out HL0.out
      rw [← hz0] at p0_1
      have fp0_1 := OO.out.frozen (j * 2 + 1)
      clear hz0
      go_wp2_with fail
      go_roundw
      case rel =>
        refine ⟨j + 1, m + 2, by omega, by go_num, by go_num, by omega, ?_, ?_, ?_, ?_⟩
        · have := HM.out; omega
        · show m + 2 = _
          have := HM.out; omega
        · have := (Td.put_at (Td.put_at OO.out HQ.out 0 (by decide) (.int .i64 ((m : Int))) ((m : Int), c.2) rfl) HQ.out 1 (by decide) (.int .i64 ((m : Int) + 1)) ((m : Int), (m : Int) + 1) rfl)
          have e4 : ((m : Int), (m : Int) + 1) = Td.mk1 k j := by
            unfold Td.mk1
            (rw [← HM.out]) <;> simp <;> omega
          rw [e4, hM.out, Td.part_step k L j hlt] at this
          exact this
        · exact (Fk.grownBy_trans (Fk.grownBy_trans GG.out (Fk.grownBy_setCell (wr) g (j * 2) (.int .i64 ((m : Int))))) (Fk.grownBy_setCell ((wr.setCell ⟨g, j * 2, none⟩ (.int .i64 ((m : Int))))) g (j * 2 + 1) (.int .i64 ((m : Int) + 1))))
      case measure => simp [intOf]; omega
    · have e : j = L.length := by omega
      subst e
      go_wp2_with fail
      go_ret
      refine ⟨⟨by rw [HM.out]; rfl, ?_⟩, HG.out⟩
      have := HP.out
      rw [Td.part_all] at this
      exact this

set_option maxHeartbeats 2000000 in
theorem heldTradeS_any (v : Value) (n k : Nat) (w : World) (hv : Rk.View Td.S w v (Td.mks k n)) (hl : n ≤ 1048576) (hk0 : 0 < k) (hk : k ≤ 20000000) :
    Calls Try.prog 32 #[v, .int .i64 k] w fun e w' => e = .returned (.int .i64 ((k + 2 * n : Nat) : Int)) ∧ Below w.heap.size w w' := by
  obtain ⟨a, cap, rfl, hs⟩ := hv
  rw [Td.mks_length] at *
  go_enter Try.func32, Try.ntmps32
  go_wp2_with fail
  go_loopw [1, 5] (fun q i wr => ∃ j m : Nat, j ≤ n ∧ q = .int .i64 (m : Int) ∧ i = .int .i64 j ∧ 0 < m ∧ m ≤ 99999900 ∧ Hid (m = k + 2 * j) ∧ Below w.heap.size w wr) (fun _ i _ => n - (intOf i).toNat)
  case atStart => exact ⟨0, k, Nat.zero_le _, rfl, rfl, hk0, by omega, rfl, Below.refl _ _⟩
  case round =>
    obtain ⟨j, m, hj, rfl, rfl, hm0, hm1, HM, bel⟩ := hrel
    by_cases hlt : j < n
    · obtain ⟨b, o, rfl, hb, hs1⟩ := hs (by omega)
      have hs' := hs1.below hb bel
      have q0 := Td.c0 (k := j) hs' (by rw [Td.mks_length]; exact hlt)
      rw [Td.mks_at k n j hlt] at q0
      unfold Td.mk1 at q0
      rw [← HM.out] at q0
      have q1 := Td.c1 (k := j) hs' (by rw [Td.mks_length]; exact hlt)
      rw [Td.mks_at k n j hlt] at q1
      unfold Td.mk1 at q1
      rw [← HM.out] at q1
      rw [show ((m + 1 : Nat) : Int) = (m : Int) + 1 by omega] at q1
      clear hs' hs
      go_wp2_with fail
      go_roundw
      case rel =>
        refine ⟨j + 1, m + 2, by omega, by go_num, by go_num, by omega, ?_, ?_, bel⟩
        · have := HM.out; omega
        · show m + 2 = _
          have := HM.out; omega
      case measure => simp [intOf]; omega
    · have e : j = n := by omega
      subst e
      go_wp2_with fail
      go_ret
      exact ⟨by rw [HM.out]; rfl, bel⟩
end Go.Proofs.Ytficlppngnnpoaa

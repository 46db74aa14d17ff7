/- The walks of the law's own marks on lists of Order. -/
import Derived.Test.YtjagohadeegghaaProg
import Derived.WalkKit
import Derived.WalkSpells
import Derived.WalkLawsBesides
import Derived.BigQuiet
import Derived.Lib.QuietBelow
import Derived.Test.YtjagohadeegghaaOrderKit
import Derived.BigRegion
import Derived.Deep.RegionWith
namespace Go.Proofs.Ytjagohadeegghaa
open Go.RowKit
set_option linter.unusedVariables false
set_option linter.unusedSimpArgs false
namespace Or
/-- the marks of one place, counted from k -/
def mk1 (k i : Nat) : E := (((k + 8 * i : Nat) : Int), ((k + 8 * i + 1 : Nat) : Int), ((k + 8 * i + 2 : Nat) : Int), ((k + 8 * i + 3 : Nat) : Int), decide ((k + 8 * i + 4) % 3 = 0), ((k + 8 * i + 5 : Nat) : Int), ((k + 8 * i + 6 : Nat) : Int), decide ((k + 8 * i + 7) % 3 = 0))
/-- the marks of n places -/
def mks (k n : Nat) : List E := (List.range n).map (mk1 k)
theorem mks_length (k n : Nat) : (mks k n).length = n := by simp [mks]
theorem mks_at (k n i : Nat) (h : i < n) : Rk.at_ S (mks k n) i = mk1 k i := by simp [mks, Rk.at_, List.getD, h]
/-- the first places are marked -/
def part (k : Nat) (L : List E) (j : Nat) : List E := mks k j ++ L.drop j
theorem part_length (k : Nat) (L : List E) (j : Nat) (h : j ≤ L.length) : (part k L j).length = L.length := by simp [part, mks_length]; omega
theorem part_none (k : Nat) (L : List E) : part k L 0 = L := by simp [part, mks]
theorem part_all (k : Nat) (L : List E) : part k L L.length = mks k L.length := by simp [part]
theorem part_step (k : Nat) (L : List E) (j : Nat) (h : j < L.length) : (part k L j).set j (mk1 k j) = part k L (j + 1) := by
  unfold part
  rw [List.set_append_right _ _ (by rw [mks_length]; exact Nat.le_refl _), mks_length, Nat.sub_self, List.drop_eq_getElem_cons h, List.set_cons_zero]
  simp [mks, List.range_succ]
theorem put_at {w : World} {base g cap n : Nat} {e : TypeId} {M : List E} {c : E} {k : Nat} (h : Rk.Own S w base e (.slice (some ⟨g, 0, none⟩) n cap) (M.set k c)) (hk : k < M.length) (j : Nat) (hj : j < S.m) (u : Value) (f : E) (hf : S.cs f = (S.cs c).set j u) :
    Rk.Own S (w.setCell ⟨g, k * S.m + j, none⟩ u) base e (.slice (some ⟨g, 0, none⟩) n cap) (M.set k f) := by
  have := h.put (k := k) (by simpa using hk) j hj u f (by rw [Rk.at_set M k hk]; exact hf)
  rw [List.set_set] at this
  exact this
theorem tm3 (z : Int) (m : Nat) (h : z = (m : Int)) : decide (Int.tmod z 3 = 0) = decide (m % 3 = 0) := by
  subst h
  rw [Int.tmod_eq_emod_of_nonneg (by omega)]
  by_cases c : m % 3 = 0
  · rw [decide_eq_true c, decide_eq_true (by omega)]
  · rw [decide_eq_false c, decide_eq_false (by omega)]
end Or

set_option maxHeartbeats 2000000 in
theorem markOrderS_any (v : Value) (L : List Or.E) (k : Nat) (base : Nat) (w : World) (ho : Rk.Own Or.S w base 55 v L) (hl : L.length ≤ 1048576) (hk0 : 0 < k) (hk : k ≤ 20000000) :
    Calls Try.prog 71 #[v, .int .i64 k] w fun e w' => (e = .returned (.int .i64 ((k + 8 * L.length : Nat) : Int)) ∧ Rk.Own Or.S w' base 55 v (Or.mks k L.length)) ∧ w.grownBy w' v.ownBlock := by
  obtain ⟨a, cap, rfl⟩ := ho.slice
  have HO : Hid (Rk.Own Or.S w base 55 (.slice a L.length cap) L) := ho
  go_enter Try.func71, Try.ntmps71
  go_wp2_with fail
  go_loopw [1, 5] (fun q i wr => ∃ j m : Nat, j ≤ L.length ∧ q = .int .i64 (m : Int) ∧ i = .int .i64 j ∧ 0 < m ∧ m ≤ 99999900 ∧ Hid (m = k + 8 * j) ∧ Hid (Rk.Own Or.S wr base 55 (.slice a L.length cap) (Or.part k L j)) ∧ Hid (w.grownBy wr (Value.slice a L.length cap).ownBlock)) (fun _ i _ => L.length - (intOf i).toNat)
  case atStart => exact ⟨0, k, Nat.zero_le _, rfl, rfl, hk0, by omega, rfl, (by rw [Or.part_none]; exact ho), World.grownBy.refl _ _⟩
  case round =>
    obtain ⟨j, m, hj, rfl, rfl, hm0, hm1, HM, HP, HG⟩ := hrel
    by_cases hlt : j < L.length
    · obtain ⟨g, rfl⟩ : ∃ g, a = some ⟨g, 0, none⟩ := by
        rcases HO.out.form with ⟨h1, h2⟩ | ⟨g, c, h1, _⟩
        · rw [h2] at hlt; simp at hlt
        · simp only [Value.slice.injEq] at h1; exact ⟨g, h1.1⟩
      obtain ⟨M, hM⟩ : ∃ M, Hid (M = Or.part k L j) := ⟨_, rfl⟩
      rw [← hM.out] at HP
      have HQ : Hid (j < M.length) := by show _ < _; rw [hM.out, Or.part_length k L j hj]; exact hlt
      obtain ⟨c, hc⟩ : ∃ c, c = Rk.at_ Or.S M j := ⟨_, rfl⟩
      have OO : Hid (Rk.Own Or.S wr base 55 (.slice (some ⟨g, 0, none⟩) L.length cap) (M.set j c)) := by
        show Rk.Own _ _ _ _ _ _
        rw [hc, Rk.at_get M j HQ.out, List.set_getElem_self]; exact HP.out
      have GG := HG
      clear HP HG hc
      have HL0 : Hid (j < (M.set j c).length) := by show _ < _; simpa using HQ.out
      obtain ⟨z0, hz0⟩ : ∃ z, z = Rk.at_ Or.S (M.set j c) j := ⟨_, rfl⟩
      have p0_0 := Or.o0 OO.out HL0.out
      rw [← hz0] at p0_0
      have fp0_0 := OO.out.frozen (j * 8)
      have p0_1 := Or.o1 OO.out HL0.out
      rw [← hz0] at p0_1
      have fp0_1 := OO.out.frozen (j * 8 + 1)
      have p0_2 := Or.o2 OO.out HL0.out
      rw [← hz0] at p0_2
      have fp0_2 := OO.out.frozen (j * 8 + 2)
      have p0_3 := Or.o3 OO.out HL0.out
      rw [← hz0] at p0_3
      have fp0_3 := OO.out.frozen (j * 8 + 3)
      have p0_4 := Or.o4 OO.out HL0.out
      rw [← hz0] at p0_4
      have fp0_4 := OO.out.frozen (j * 8 + 4)
      have p0_5 := Or.o5 OO.out HL0.out
      rw [← hz0] at p0_5
      have fp0_5 := OO.out.frozen (j * 8 + 5)
      have p0_6 := Or.o6 OO.out HL0.out
      rw [← hz0] at p0_6
      have fp0_6 := OO.out.frozen (j * 8 + 6)
      have p0_7 := Or.o7 OO.out HL0.out
      rw [← hz0] at p0_7
      have fp0_7 := OO.out.frozen (j * 8 + 7)
      clear hz0
      go_wp2_with fail
      go_roundw
      case rel =>
        refine ⟨j + 1, m + 8, by omega, by go_num, by go_num, by omega, ?_, ?_, ?_, ?_⟩
        · have := HM.out; omega
        · show m + 8 = _
          have := HM.out; omega
        · have := (Or.put_at (Or.put_at (Or.put_at (Or.put_at (Or.put_at (Or.put_at (Or.put_at (Or.put_at OO.out HQ.out 0 (by decide) (.int .i64 ((m : Int))) ((m : Int), c.2.1, c.2.2.1, c.2.2.2.1, c.2.2.2.2.1, c.2.2.2.2.2.1, c.2.2.2.2.2.2.1, c.2.2.2.2.2.2.2) rfl) HQ.out 1 (by decide) (.int .i64 ((m : Int) + 1)) ((m : Int), (m : Int) + 1, c.2.2.1, c.2.2.2.1, c.2.2.2.2.1, c.2.2.2.2.2.1, c.2.2.2.2.2.2.1, c.2.2.2.2.2.2.2) rfl) HQ.out 2 (by decide) (.int .i64 ((m : Int) + 1 + 1)) ((m : Int), (m : Int) + 1, (m : Int) + 1 + 1, c.2.2.2.1, c.2.2.2.2.1, c.2.2.2.2.2.1, c.2.2.2.2.2.2.1, c.2.2.2.2.2.2.2) rfl) HQ.out 3 (by decide) (.int .i64 ((m : Int) + 1 + 1 + 1)) ((m : Int), (m : Int) + 1, (m : Int) + 1 + 1, (m : Int) + 1 + 1 + 1, c.2.2.2.2.1, c.2.2.2.2.2.1, c.2.2.2.2.2.2.1, c.2.2.2.2.2.2.2) rfl) HQ.out 4 (by decide) (.bool (decide (Int.tmod ((m : Int) + 1 + 1 + 1 + 1) 3 = 0))) ((m : Int), (m : Int) + 1, (m : Int) + 1 + 1, (m : Int) + 1 + 1 + 1, decide (Int.tmod ((m : Int) + 1 + 1 + 1 + 1) 3 = 0), c.2.2.2.2.2.1, c.2.2.2.2.2.2.1, c.2.2.2.2.2.2.2) rfl) HQ.out 5 (by decide) (.int .i64 ((m : Int) + 1 + 1 + 1 + 1 + 1)) ((m : Int), (m : Int) + 1, (m : Int) + 1 + 1, (m : Int) + 1 + 1 + 1, decide (Int.tmod ((m : Int) + 1 + 1 + 1 + 1) 3 = 0), (m : Int) + 1 + 1 + 1 + 1 + 1, c.2.2.2.2.2.2.1, c.2.2.2.2.2.2.2) rfl) HQ.out 6 (by decide) (.int .i64 ((m : Int) + 1 + 1 + 1 + 1 + 1 + 1)) ((m : Int), (m : Int) + 1, (m : Int) + 1 + 1, (m : Int) + 1 + 1 + 1, decide (Int.tmod ((m : Int) + 1 + 1 + 1 + 1) 3 = 0), (m : Int) + 1 + 1 + 1 + 1 + 1, (m : Int) + 1 + 1 + 1 + 1 + 1 + 1, c.2.2.2.2.2.2.2) rfl) HQ.out 7 (by decide) (.bool (decide (Int.tmod ((m : Int) + 1 + 1 + 1 + 1 + 1 + 1 + 1) 3 = 0))) ((m : Int), (m : Int) + 1, (m : Int) + 1 + 1, (m : Int) + 1 + 1 + 1, decide (Int.tmod ((m : Int) + 1 + 1 + 1 + 1) 3 = 0), (m : Int) + 1 + 1 + 1 + 1 + 1, (m : Int) + 1 + 1 + 1 + 1 + 1 + 1, decide (Int.tmod ((m : Int) + 1 + 1 + 1 + 1 + 1 + 1 + 1) 3 = 0)) rfl)
          have e4 : ((m : Int), (m : Int) + 1, (m : Int) + 1 + 1, (m : Int) + 1 + 1 + 1, decide (Int.tmod ((m : Int) + 1 + 1 + 1 + 1) 3 = 0), (m : Int) + 1 + 1 + 1 + 1 + 1, (m : Int) + 1 + 1 + 1 + 1 + 1 + 1, decide (Int.tmod ((m : Int) + 1 + 1 + 1 + 1 + 1 + 1 + 1) 3 = 0)) = Or.mk1 k j := by
            unfold Or.mk1
            rw [Or.tm3 _ (m + 4) (by omega), Or.tm3 _ (m + 7) (by omega)]
            (rw [← HM.out]) <;> simp <;> omega
          rw [e4, hM.out, Or.part_step k L j hlt] at this
          exact this
        · exact (Fk.grownBy_trans (Fk.grownBy_trans (Fk.grownBy_trans (Fk.grownBy_trans (Fk.grownBy_trans (Fk.grownBy_trans (Fk.grownBy_trans (Fk.grownBy_trans GG.out (Fk.grownBy_setCell (wr) g (j * 8) (.int .i64 ((m : Int))))) (Fk.grownBy_setCell ((wr.setCell ⟨g, j * 8, none⟩ (.int .i64 ((m : Int))))) g (j * 8 + 1) (.int .i64 ((m : Int) + 1)))) (Fk.grownBy_setCell (((wr.setCell ⟨g, j * 8, none⟩ (.int .i64 ((m : Int)))).setCell ⟨g, j * 8 + 1, none⟩ (.int .i64 ((m : Int) + 1)))) g (j * 8 + 2) (.int .i64 ((m : Int) + 1 + 1)))) (Fk.grownBy_setCell ((((wr.setCell ⟨g, j * 8, none⟩ (.int .i64 ((m : Int)))).setCell ⟨g, j * 8 + 1, none⟩ (.int .i64 ((m : Int) + 1))).setCell ⟨g, j * 8 + 2, none⟩ (.int .i64 ((m : Int) + 1 + 1)))) g (j * 8 + 3) (.int .i64 ((m : Int) + 1 + 1 + 1)))) (Fk.grownBy_setCell (((((wr.setCell ⟨g, j * 8, none⟩ (.int .i64 ((m : Int)))).setCell ⟨g, j * 8 + 1, none⟩ (.int .i64 ((m : Int) + 1))).setCell ⟨g, j * 8 + 2, none⟩ (.int .i64 ((m : Int) + 1 + 1))).setCell ⟨g, j * 8 + 3, none⟩ (.int .i64 ((m : Int) + 1 + 1 + 1)))) g (j * 8 + 4) (.bool (decide (Int.tmod ((m : Int) + 1 + 1 + 1 + 1) 3 = 0))))) (Fk.grownBy_setCell ((((((wr.setCell ⟨g, j * 8, none⟩ (.int .i64 ((m : Int)))).setCell ⟨g, j * 8 + 1, none⟩ (.int .i64 ((m : Int) + 1))).setCell ⟨g, j * 8 + 2, none⟩ (.int .i64 ((m : Int) + 1 + 1))).setCell ⟨g, j * 8 + 3, none⟩ (.int .i64 ((m : Int) + 1 + 1 + 1))).setCell ⟨g, j * 8 + 4, none⟩ (.bool (decide (Int.tmod ((m : Int) + 1 + 1 + 1 + 1) 3 = 0))))) g (j * 8 + 5) (.int .i64 ((m : Int) + 1 + 1 + 1 + 1 + 1)))) (Fk.grownBy_setCell (((((((wr.setCell ⟨g, j * 8, none⟩ (.int .i64 ((m : Int)))).setCell ⟨g, j * 8 + 1, none⟩ (.int .i64 ((m : Int) + 1))).setCell ⟨g, j * 8 + 2, none⟩ (.int .i64 ((m : Int) + 1 + 1))).setCell ⟨g, j * 8 + 3, none⟩ (.int .i64 ((m : Int) + 1 + 1 + 1))).setCell ⟨g, j * 8 + 4, none⟩ (.bool (decide (Int.tmod ((m : Int) + 1 + 1 + 1 + 1) 3 = 0)))).setCell ⟨g, j * 8 + 5, none⟩ (.int .i64 ((m : Int) + 1 + 1 + 1 + 1 + 1)))) g (j * 8 + 6) (.int .i64 ((m : Int) + 1 + 1 + 1 + 1 + 1 + 1)))) (Fk.grownBy_setCell ((((((((wr.setCell ⟨g, j * 8, none⟩ (.int .i64 ((m : Int)))).setCell ⟨g, j * 8 + 1, none⟩ (.int .i64 ((m : Int) + 1))).setCell ⟨g, j * 8 + 2, none⟩ (.int .i64 ((m : Int) + 1 + 1))).setCell ⟨g, j * 8 + 3, none⟩ (.int .i64 ((m : Int) + 1 + 1 + 1))).setCell ⟨g, j * 8 + 4, none⟩ (.bool (decide (Int.tmod ((m : Int) + 1 + 1 + 1 + 1) 3 = 0)))).setCell ⟨g, j * 8 + 5, none⟩ (.int .i64 ((m : Int) + 1 + 1 + 1 + 1 + 1))).setCell ⟨g, j * 8 + 6, none⟩ (.int .i64 ((m : Int) + 1 + 1 + 1 + 1 + 1 + 1)))) g (j * 8 + 7) (.bool (decide (Int.tmod ((m : Int) + 1 + 1 + 1 + 1 + 1 + 1 + 1) 3 = 0)))))
      case measure => simp [intOf]; omega
    · have e : j = L.length := by omega
      subst e
      go_wp2_with fail
      go_ret
      refine ⟨⟨by rw [HM.out]; rfl, ?_⟩, HG.out⟩
      have := HP.out
      rw [Or.part_all] at this
      exact this

set_option maxRecDepth 100000 in
set_option maxHeartbeats 2000000 in
theorem heldOrderS_any (v : Value) (n k : Nat) (w : World) (hv : Rk.View Or.S w v (Or.mks k n)) (hl : n ≤ 1048576) (hk0 : 0 < k) (hk : k ≤ 20000000) :
    Calls Try.prog 117 #[v, .int .i64 k] w fun e w' => e = .returned (.int .i64 ((k + 8 * n : Nat) : Int)) ∧ Below w.heap.size w w' := by
  obtain ⟨a, cap, rfl, hs⟩ := hv
  rw [Or.mks_length] at *
  go_enter Try.func117, Try.ntmps117
  go_wp2_with fail
  go_loopw [1, 5] (fun q i wr => ∃ j m : Nat, j ≤ n ∧ q = .int .i64 (m : Int) ∧ i = .int .i64 j ∧ 0 < m ∧ m ≤ 99999900 ∧ Hid (m = k + 8 * j) ∧ Below w.heap.size w wr) (fun _ i _ => n - (intOf i).toNat)
  case atStart => exact ⟨0, k, Nat.zero_le _, rfl, rfl, hk0, by omega, rfl, Below.refl _ _⟩
  case round =>
    obtain ⟨j, m, hj, rfl, rfl, hm0, hm1, HM, bel⟩ := hrel
    by_cases hlt : j < n
    · obtain ⟨b, o, rfl, hb, hs1⟩ := hs (by omega)
      have hs' := hs1.below hb bel
      have q0 := Or.c0 (k := j) hs' (by rw [Or.mks_length]; exact hlt)
      rw [Or.mks_at k n j hlt] at q0
      unfold Or.mk1 at q0
      rw [← HM.out] at q0
      have q1 := Or.c1 (k := j) hs' (by rw [Or.mks_length]; exact hlt)
      rw [Or.mks_at k n j hlt] at q1
      unfold Or.mk1 at q1
      rw [← HM.out] at q1
      rw [show ((m + 1 : Nat) : Int) = (m : Int) + 1 by omega] at q1
      have q2 := Or.c2 (k := j) hs' (by rw [Or.mks_length]; exact hlt)
      rw [Or.mks_at k n j hlt] at q2
      unfold Or.mk1 at q2
      rw [← HM.out] at q2
      rw [show ((m + 2 : Nat) : Int) = (m : Int) + 1 + 1 by omega] at q2
      have q3 := Or.c3 (k := j) hs' (by rw [Or.mks_length]; exact hlt)
      rw [Or.mks_at k n j hlt] at q3
      unfold Or.mk1 at q3
      rw [← HM.out] at q3
      rw [show ((m + 3 : Nat) : Int) = (m : Int) + 1 + 1 + 1 by omega] at q3
      have q4 := Or.c4 (k := j) hs' (by rw [Or.mks_length]; exact hlt)
      rw [Or.mks_at k n j hlt] at q4
      unfold Or.mk1 at q4
      rw [← HM.out] at q4
      obtain ⟨d4, h4⟩ : ∃ d, (((m : Int) + 1 + 1 + 1 + 1) % 3 == 0) = d := ⟨_, rfl⟩
      have e4 : decide ((m + 4) % 3 = 0) = d4 := by
        rw [← h4, ← Or.tm3 ((m : Int) + 1 + 1 + 1 + 1) (m + 4) (by omega), Int.tmod_eq_emod_of_nonneg (by omega)]
        rfl
      rw [e4] at q4
      clear e4
      have q5 := Or.c5 (k := j) hs' (by rw [Or.mks_length]; exact hlt)
      rw [Or.mks_at k n j hlt] at q5
      unfold Or.mk1 at q5
      rw [← HM.out] at q5
      rw [show ((m + 5 : Nat) : Int) = (m : Int) + 1 + 1 + 1 + 1 + 1 by omega] at q5
      have q6 := Or.c6 (k := j) hs' (by rw [Or.mks_length]; exact hlt)
      rw [Or.mks_at k n j hlt] at q6
      unfold Or.mk1 at q6
      rw [← HM.out] at q6
      rw [show ((m + 6 : Nat) : Int) = (m : Int) + 1 + 1 + 1 + 1 + 1 + 1 by omega] at q6
      have q7 := Or.c7 (k := j) hs' (by rw [Or.mks_length]; exact hlt)
      rw [Or.mks_at k n j hlt] at q7
      unfold Or.mk1 at q7
      rw [← HM.out] at q7
      obtain ⟨d7, h7⟩ : ∃ d, (((m : Int) + 1 + 1 + 1 + 1 + 1 + 1 + 1) % 3 == 0) = d := ⟨_, rfl⟩
      have e7 : decide ((m + 7) % 3 = 0) = d7 := by
        rw [← h7, ← Or.tm3 ((m : Int) + 1 + 1 + 1 + 1 + 1 + 1 + 1) (m + 7) (by omega), Int.tmod_eq_emod_of_nonneg (by omega)]
        rfl
      rw [e7] at q7
      clear e7
      clear hs' hs
      go_wp2_with fail
      go_roundw
      case rel =>
        refine ⟨j + 1, m + 8, by omega, by go_num, by go_num, by omega, ?_, ?_, bel⟩
        · have := HM.out; omega
        · show m + 8 = _
          have := HM.out; omega
      case measure => simp [intOf]; omega
    · have e : j = n := by omega
      subst e
      go_wp2_with fail
      go_ret
      exact ⟨by rw [HM.out]; rfl, bel⟩
end Go.Proofs.Ytjagohadeegghaa

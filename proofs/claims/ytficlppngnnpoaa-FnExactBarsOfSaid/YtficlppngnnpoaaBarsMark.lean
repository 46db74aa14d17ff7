/- The walks of the law's own marks on lists of Bar. -/
import Derived.Test.YtficlppngnnpoaaProg
import Derived.WalkKit
import Derived.WalkSpells
import Derived.WalkLawsBesides
import Derived.BigQuiet
import Derived.Lib.QuietBelow
import Derived.Test.YtficlppngnnpoaaBarsKit
import Derived.BigRegion
import Derived.Deep.RegionWith
namespace Go.Proofs.Ytficlppngnnpoaa
open Go.RowKit
set_option linter.unusedVariables false
set_option linter.unusedSimpArgs false
namespace Ba
/-- the marks of one place, counted from k -/
def mk1 (k i : Nat) : E := (((k + 5 * i : Nat) : Int), ((k + 5 * i + 1 : Nat) : Int), ((k + 5 * i + 2 : Nat) : Int), ((k + 5 * i + 3 : Nat) : Int), ((k + 5 * i + 4 : Nat) : Int))
/-- the marks of n places -/
def mks (k n : Nat) : List E := (List.range n).map (mk1 k)
theorem mks_length (k n : Nat) : (mks k n).length = n := by simp [mks]
theorem mks_at (k n i : Nat) (h : i < n) : Rk.at_ S (mks k n) i = mk1 k i := by simp [mks, Rk.at_, List.getD, h]
/-- the first places are marked -/
def part (k : Nat) (L : List E) (j : Nat) : List E := mks k j ++ L.drop j
theorem part_length (k : Nat) (L : List E) (j : Nat) (h : j ≤ L.length) : (part k L j).length = L.length := by simp [part, mks_length]; omega
theorem part_none (k : Nat) (L : List E) : part k L 0 = L := by simp [part, mks]
theorem part_all (k : Nat) (L : List E) : part k L L.length = mks k L.length := by simp [part]
theorem part_step (k : Nat) (L : List E) (j : Nat) (h : j < L.length) : (part k L j).set j (mk1 k j) = part k L (j + 1) := by
  unfold part
  rw [List.set_append_right _ _ (by rw [mks_length]; exact Nat.le_refl _), mks_length, Nat.sub_self, List.drop_eq_getElem_cons h, List.set_cons_zero]
  simp [mks, List.range_succ]
theorem put_at {w : World} {base g cap n : Nat} {e : TypeId} {M : List E} {c : E} {k : Nat} (h : Rk.Own S w base e (.slice (some ⟨g, 0, none⟩) n cap) (M.set k c)) (hk : k < M.length) (j : Nat) (hj : j < S.m) (u : Value) (f : E) (hf : S.cs f = (S.cs c).set j u) :
    Rk.Own S (w.setCell ⟨g, k * S.m + j, none⟩ u) base e (.slice (some ⟨g, 0, none⟩) n cap) (M.set k f) := by
  have := h.put (k := k) (by simpa using hk) j hj u f (by rw [Rk.at_set M k hk]; exact hf)
  rw [List.set_set] at this
  exact this
end Ba

set_option maxHeartbeats 2000000 in
theorem markBarS_any (v : Value) (L : List Ba.E) (k : Nat) (base : Nat) (w : World) (ho : Rk.Own Ba.S w base 35 v L) (hl : L.length ≤ 1048576) (hk0 : 0 < k) (hk : k ≤ 20000000) :
    Calls Try.prog 36 #[v, .int .i64 k] w fun e w' => (e = .returned (.int .i64 ((k + 5 * L.length : Nat) : Int)) ∧ Rk.Own Ba.S w' base 35 v (Ba.mks k L.length)) ∧ w.grownBy w' v.ownBlock := by
  obtain ⟨a, cap, rfl⟩ := ho.slice
  have HO : Hid (Rk.Own Ba.S w base 35 (.slice a L.length cap) L) := ho
  go_enter Try.func36, Try.ntmps36
  go_wp2_with fail
  go_loopw [1, 5] (fun q i wr => ∃ j m : Nat, j ≤ L.length ∧ q = .int .i64 (m : Int) ∧ i = .int .i64 j ∧ 0 < m ∧ m ≤ 99999900 ∧ Hid (m = k + 5 * j) ∧ Hid (Rk.Own Ba.S wr base 35 (.slice a L.length cap) (Ba.part k L j)) ∧ Hid (w.grownBy wr (Value.slice a L.length cap).ownBlock)) (fun _ i _ => L.length - (intOf i).toNat)
  case atStart => exact ⟨0, k, Nat.zero_le _, rfl, rfl, hk0, by omega, rfl, (by rw [Ba.part_none]; exact ho), World.grownBy.refl _ _⟩
  case round =>
    obtain ⟨j, m, hj, rfl, rfl, hm0, hm1, HM, HP, HG⟩ := hrel
    by_cases hlt : j < L.length
    · obtain ⟨g, rfl⟩ : ∃ g, a = some ⟨g, 0, none⟩ := by
        rcases HO.out.form with ⟨h1, h2⟩ | ⟨g, c, h1, _⟩
        · rw [h2] at hlt; simp at hlt
        · simp only [Value.slice.injEq] at h1; exact ⟨g, h1.1⟩
      obtain ⟨M, hM⟩ : ∃ M, Hid (M = Ba.part k L j) := ⟨_, rfl⟩
      rw [← hM.out] at HP
      have HQ : Hid (j < M.length) := by show _ < _; rw [hM.out, Ba.part_length k L j hj]; exact hlt
      obtain ⟨c, hc⟩ : ∃ c, c = Rk.at_ Ba.S M j := ⟨_, rfl⟩
      have OO : Hid (Rk.Own Ba.S wr base 35 (.slice (some ⟨g, 0, none⟩) L.length cap) (M.set j c)) := by
        show Rk.Own _ _ _ _ _ _
        rw [hc, Rk.at_get M j HQ.out, List.set_getElem_self]; exact HP.out
      have GG := HG
      clear HP HG hc
      have HL0 : Hid (j < (M.set j c).length) := by show _ < _; simpa using HQ.out
      obtain ⟨z0, hz0⟩ : ∃ z, z = Rk.at_ Ba.S (M.set j c) j := ⟨_, rfl⟩
      have p0_0 := Ba.o0 OO.out HL0.out
      rw [← hz0] at p0_0
      have fp0_0 := OO.out.frozen (j * 5)
      have p0_1 := Ba.o1 OO.out HL0.out
      rw [← hz0] at p0_1
      have fp0_1 := OO.out.frozen (j * 5 + 1)
      have p0_2 := Ba.o2 OO.out HL0.out
      rw [← hz0] at p0_2
      have fp0_2 := OO.out.frozen (j * 5 + 2)
      have p0_3 := Ba.o3 OO.out HL0.out
      rw [← hz0] at p0_3
      have fp0_3 := OO.out.frozen (j * 5 + 3)
      have p0_4 := Ba.o4 OO.out HL0.out
      rw [← hz0] at p0_4
      have fp0_4 := OO.out.frozen (j * 5 + 4)
      clear hz0
      go_wp2_with fail
      go_roundw
      case rel =>
        refine ⟨j + 1, m + 5, by omega, by go_num, by go_num, by omega, ?_, ?_, ?_, ?_⟩
        · have := HM.out; omega
        · show m + 5 = _
          have := HM.out; omega
        · have := (Ba.put_at (Ba.put_at (Ba.put_at (Ba.put_at (Ba.put_at OO.out HQ.out 0 (by decide) (.int .i64 ((m : Int))) ((m : Int), c.2.1, c.2.2.1, c.2.2.2.1, c.2.2.2.2) rfl) HQ.out 1 (by decide) (.int .i64 ((m : Int) + 1)) ((m : Int), (m : Int) + 1, c.2.2.1, c.2.2.2.1, c.2.2.2.2) rfl) HQ.out 2 (by decide) (.int .i64 ((m : Int) + 1 + 1)) ((m : Int), (m : Int) + 1, (m : Int) + 1 + 1, c.2.2.2.1, c.2.2.2.2) rfl) HQ.out 3 (by decide) (.int .i64 ((m : Int) + 1 + 1 + 1)) ((m : Int), (m : Int) + 1, (m : Int) + 1 + 1, (m : Int) + 1 + 1 + 1, c.2.2.2.2) rfl) HQ.out 4 (by decide) (.int .i64 ((m : Int) + 1 + 1 + 1 + 1)) ((m : Int), (m : Int) + 1, (m : Int) + 1 + 1, (m : Int) + 1 + 1 + 1, (m : Int) + 1 + 1 + 1 + 1) rfl)
          have e4 : ((m : Int), (m : Int) + 1, (m : Int) + 1 + 1, (m : Int) + 1 + 1 + 1, (m : Int) + 1 + 1 + 1 + 1) = Ba.mk1 k j := by
            unfold Ba.mk1
            (rw [← HM.out]) <;> simp <;> omega
          rw [e4, hM.out, Ba.part_step k L j hlt] at this
          exact this
        · exact (Fk.grownBy_trans (Fk.grownBy_trans (Fk.grownBy_trans (Fk.grownBy_trans (Fk.grownBy_trans GG.out (Fk.grownBy_setCell (wr) g (j * 5) (.int .i64 ((m : Int))))) (Fk.grownBy_setCell ((wr.setCell ⟨g, j * 5, none⟩ (.int .i64 ((m : Int))))) g (j * 5 + 1) (.int .i64 ((m : Int) + 1)))) (Fk.grownBy_setCell (((wr.setCell ⟨g, j * 5, none⟩ (.int .i64 ((m : Int)))).setCell ⟨g, j * 5 + 1, none⟩ (.int .i64 ((m : Int) + 1)))) g (j * 5 + 2) (.int .i64 ((m : Int) + 1 + 1)))) (Fk.grownBy_setCell ((((wr.setCell ⟨g, j * 5, none⟩ (.int .i64 ((m : Int)))).setCell ⟨g, j * 5 + 1, none⟩ (.int .i64 ((m : Int) + 1))).setCell ⟨g, j * 5 + 2, none⟩ (.int .i64 ((m : Int) + 1 + 1)))) g (j * 5 + 3) (.int .i64 ((m : Int) + 1 + 1 + 1)))) (Fk.grownBy_setCell (((((wr.setCell ⟨g, j * 5, none⟩ (.int .i64 ((m : Int)))).setCell ⟨g, j * 5 + 1, none⟩ (.int .i64 ((m : Int) + 1))).setCell ⟨g, j * 5 + 2, none⟩ (.int .i64 ((m : Int) + 1 + 1))).setCell ⟨g, j * 5 + 3, none⟩ (.int .i64 ((m : Int) + 1 + 1 + 1)))) g (j * 5 + 4) (.int .i64 ((m : Int) + 1 + 1 + 1 + 1))))
      case measure => simp [intOf]; omega
    · have e : j = L.length := by omega
      subst e
      go_wp2_with fail
      go_ret
      refine ⟨⟨by rw [HM.out]; rfl, ?_⟩, HG.out⟩
      have := HP.out
      rw [Ba.part_all] at this
      exact this

set_option maxHeartbeats 2000000 in
theorem heldBarS_any (v : Value) (n k : Nat) (w : World) (hv : Rk.View Ba.S w v (Ba.mks k n)) (hl : n ≤ 1048576) (hk0 : 0 < k) (hk : k ≤ 20000000) :
    Calls Try.prog 37 #[v, .int .i64 k] w fun e w' => e = .returned (.int .i64 ((k + 5 * n : Nat) : Int)) ∧ Below w.heap.size w w' := by
  obtain ⟨a, cap, rfl, hs⟩ := hv
  rw [Ba.mks_length] at *
  go_enter Try.func37, Try.ntmps37
  go_wp2_with fail
  go_loopw [1, 5] (fun q i wr => ∃ j m : Nat, j ≤ n ∧ q = .int .i64 (m : Int) ∧ i = .int .i64 j ∧ 0 < m ∧ m ≤ 99999900 ∧ Hid (m = k + 5 * j) ∧ Below w.heap.size w wr) (fun _ i _ => n - (intOf i).toNat)
  case atStart => exact ⟨0, k, Nat.zero_le _, rfl, rfl, hk0, by omega, rfl, Below.refl _ _⟩
  case round =>
    obtain ⟨j, m, hj, rfl, rfl, hm0, hm1, HM, bel⟩ := hrel
    by_cases hlt : j < n
    · obtain ⟨b, o, rfl, hb, hs1⟩ := hs (by omega)
      have hs' := hs1.below hb bel
      have q0 := Ba.c0 (k := j) hs' (by rw [Ba.mks_length]; exact hlt)
      rw [Ba.mks_at k n j hlt] at q0
      unfold Ba.mk1 at q0
      rw [← HM.out] at q0
      have q1 := Ba.c1 (k := j) hs' (by rw [Ba.mks_length]; exact hlt)
      rw [Ba.mks_at k n j hlt] at q1
      unfold Ba.mk1 at q1
      rw [← HM.out] at q1
      rw [show ((m + 1 : Nat) : Int) = (m : Int) + 1 by omega] at q1
      have q2 := Ba.c2 (k := j) hs' (by rw [Ba.mks_length]; exact hlt)
      rw [Ba.mks_at k n j hlt] at q2
      unfold Ba.mk1 at q2
      rw [← HM.out] at q2
      rw [show ((m + 2 : Nat) : Int) = (m : Int) + 1 + 1 by omega] at q2
      have q3 := Ba.c3 (k := j) hs' (by rw [Ba.mks_length]; exact hlt)
      rw [Ba.mks_at k n j hlt] at q3
      unfold Ba.mk1 at q3
      rw [← HM.out] at q3
      rw [show ((m + 3 : Nat) : Int) = (m : Int) + 1 + 1 + 1 by omega] at q3
      have q4 := Ba.c4 (k := j) hs' (by rw [Ba.mks_length]; exact hlt)
      rw [Ba.mks_at k n j hlt] at q4
      unfold Ba.mk1 at q4
      rw [← HM.out] at q4
      rw [show ((m + 4 : Nat) : Int) = (m : Int) + 1 + 1 + 1 + 1 by omega] at q4
      clear hs' hs
      go_wp2_with fail
      go_roundw
      case rel =>
        refine ⟨j + 1, m + 5, by omega, by go_num, by go_num, by omega, ?_, ?_, bel⟩
        · have := HM.out; omega
        · show m + 5 = _
          have := HM.out; omega
      case measure => simp [intOf]; omega
    · have e : j = n := by omega
      subst e
      go_wp2_with fail
      go_ret
      exact ⟨by rw [HM.out]; rfl, bel⟩
end Go.Proofs.Ytficlppngnnpoaa

/- The walks of the law's own marks on lists of Field. -/
import Derived.Test.YtkkmjffepdejnaaMarkText
import Derived.Test.YtkkmjffepdejnaaFieldKit
import Derived.BigRegion
import Derived.Deep.RegionWith
namespace Go.Proofs.Ytkkmjffepdejnaa
open Go.RowKit
set_option linter.unusedVariables false
set_option linter.unusedSimpArgs false
namespace Fd
/-- the marks of one place, counted from k -/
def mk1 (k i : Nat) : E := (((k + 2 * i : Nat) : Int), Fk.mt (k + 2 * i + 1))
/-- the marks of n places -/
def mks (k n : Nat) : List E := (List.range n).map (mk1 k)
theorem mks_length (k n : Nat) : (mks k n).length = n := by simp [mks]
theorem mks_at (k n i : Nat) (h : i < n) : Rk.at_ S (mks k n) i = mk1 k i := by simp [mks, Rk.at_, List.getD, h]
/-- the first places are marked -/
def part (k : Nat) (L : List E) (j : Nat) : List E := mks k j ++ L.drop j
theorem part_length (k : Nat) (L : List E) (j : Nat) (h : j ≤ L.length) : (part k L j).length = L.length := by simp [part, mks_length]; omega
theorem part_none (k : Nat) (L : List E) : part k L 0 = L := by simp [part, mks]
theorem part_all (k : Nat) (L : List E) : part k L L.length = mks k L.length := by simp [part]
theorem part_step (k : Nat) (L : List E) (j : Nat) (h : j < L.length) : (part k L j).set j (mk1 k j) = part k L (j + 1) := by
  unfold part
  rw [List.set_append_right _ _ (by rw [mks_length]; exact Nat.le_refl _), mks_length, Nat.sub_self, List.drop_eq_getElem_cons h, List.set_cons_zero]
  simp [mks, List.range_succ]
theorem put_at {w : World} {base g cap n : Nat} {e : TypeId} {M : List E} {c : E} {k : Nat} (h : Rk.Own S w base e (.slice (some ⟨g, 0, none⟩) n cap) (M.set k c)) (hk : k < M.length) (j : Nat) (hj : j < S.m) (u : Value) (f : E) (hf : S.cs f = (S.cs c).set j u) :
    Rk.Own S (w.setCell ⟨g, k * S.m + j, none⟩ u) base e (.slice (some ⟨g, 0, none⟩) n cap) (M.set k f) := by
  have := h.put (k := k) (by simpa using hk) j hj u f (by rw [Rk.at_set M k hk]; exact hf)
  rw [List.set_set] at this
  exact this
end Fd

set_option maxHeartbeats 2000000 in
theorem markFieldS_any (v : Value) (L : List Fd.E) (k : Nat) (base : Nat) (w : World) (ho : Rk.Own Fd.S w base 76 v L) (hl : L.length ≤ 1048576) (hk0 : 0 < k) (hk : k ≤ 1000) :
    Calls Try.prog 60 #[v, .int .i64 k] w fun e w' => (e = .returned (.int .i64 ((k + 2 * L.length : Nat) : Int)) ∧ Rk.Own Fd.S w' base 76 v (Fd.mks k L.length)) ∧ w.grownBy w' v.ownBlock := by
  obtain ⟨a, cap, rfl⟩ := ho.slice
  have HO : Hid (Rk.Own Fd.S w base 76 (.slice a L.length cap) L) := ho
  go_enter Try.func60, Try.ntmps60
  go_wp2_with fail
  go_loopw [1, 5] (fun q i wr => ∃ j m : Nat, j ≤ L.length ∧ q = .int .i64 (m : Int) ∧ i = .int .i64 j ∧ 0 < m ∧ m ≤ 99999900 ∧ Hid (m = k + 2 * j) ∧ Hid (Rk.Own Fd.S wr base 76 (.slice a L.length cap) (Fd.part k L j)) ∧ Hid (w.grownBy wr (Value.slice a L.length cap).ownBlock)) (fun _ i _ => L.length - (intOf i).toNat)
  case atStart => exact ⟨0, k, Nat.zero_le _, rfl, rfl, hk0, by omega, rfl, (by rw [Fd.part_none]; exact ho), World.grownBy.refl _ _⟩
  case round =>
    obtain ⟨j, m, hj, rfl, rfl, hm0, hm1, HM, HP, HG⟩ := hrel
    by_cases hlt : j < L.length
    · obtain ⟨g, rfl⟩ : ∃ g, a = some ⟨g, 0, none⟩ := by
        rcases HO.out.form with ⟨h1, h2⟩ | ⟨g, c, h1, _⟩
        · rw [h2] at hlt; simp at hlt
        · simp only [Value.slice.injEq] at h1; exact ⟨g, h1.1⟩
      obtain ⟨M, hM⟩ : ∃ M, Hid (M = Fd.part k L j) := ⟨_, rfl⟩
      rw [← hM.out] at HP
      have HQ : Hid (j < M.length) := by show _ < _; rw [hM.out, Fd.part_length k L j hj]; exact hlt
      obtain ⟨c, hc⟩ : ∃ c, c = Rk.at_ Fd.S M j := ⟨_, rfl⟩
      have OO : Hid (Rk.Own Fd.S wr base 76 (.slice (some ⟨g, 0, none⟩) L.length cap) (M.set j c)) := by
        show Rk.Own _ _ _ _ _ _
        rw [hc, Rk.at_get M j HQ.out, List.set_getElem_self]; exact HP.out
      have GG := HG
      clear HP HG hc
      have HL0 : Hid (j < (M.set j c).length) := by show _ < _; simpa using HQ.out
      obtain ⟨z0, hz0⟩ : ∃ z, z = Rk.at_ Fd.S (M.set j c) j := ⟨_, rfl⟩
      have p0_0 := Fd.o0 OO.out HL0.out
      rw [← hz0] at p0_0
      have fp0_0 := OO.out.frozen (j * 2)
      have p0_1 := Fd.o1 OO.out HL0.out
      rw [← hz0] at p0_1
      have fp0_1 := OO.out.frozen (j * 2 + 1)
      clear hz0
      go_wp2_with fail
      obtain ⟨W0, hW0⟩ : ∃ W, W = (wr.setCell ⟨g, j * 2, none⟩ (.int .i64 ((m : Int)))) := ⟨_, rfl⟩
      rw [← hW0]
      have O0 : Hid (Rk.Own Fd.S W0 base 76 (.slice (some ⟨g, 0, none⟩) L.length cap) (M.set j ((m : Int), c.2))) := by rw [hW0]; exact (Fd.put_at OO.out HQ.out 0 (by decide) (.int .i64 ((m : Int))) ((m : Int), c.2) rfl)
      have G0 : Hid (w.grownBy W0 (Value.slice (some ⟨g, 0, none⟩) L.length cap).ownBlock) := by rw [hW0]; exact (Fk.grownBy_trans GG.out (Fk.grownBy_setCell (wr) g (j * 2) (.int .i64 ((m : Int)))))
      clear hW0 p0_0 fp0_0 p0_1 fp0_1
      refine (markText_int _ (m + 1) (by omega) _ (by omega) (by omega)).mono ?_
      rintro e w1 ⟨rfl, b1⟩
      have Q0 := Fk.hide (O0.out.below b1)
      have H0 := Fk.hide (Fk.grownBy_trans G0.out (Fk.grownBy_below _ b1))
      clear b1
      have HL1 : Hid (j < (M.set j ((m : Int), c.2)).length) := by show _ < _; simpa using HQ.out
      obtain ⟨z1, hz1⟩ : ∃ z, z = Rk.at_ Fd.S (M.set j ((m : Int), c.2)) j := ⟨_, rfl⟩
      have p1_0 := Fd.o0 Q0.out HL1.out
      rw [← hz1] at p1_0
      have fp1_0 := Q0.out.frozen (j * 2)
      have p1_1 := Fd.o1 Q0.out HL1.out
      rw [← hz1] at p1_1
      have fp1_1 := Q0.out.frozen (j * 2 + 1)
      clear hz1
      go_wp2_with fail
      go_roundw
      case rel =>
        refine ⟨j + 1, m + 2, by omega, by go_num, by go_num, by omega, ?_, ?_, ?_, ?_⟩
        · have := HM.out; omega
        · show m + 2 = _
          have := HM.out; omega
        · have := (Fd.put_at Q0.out HQ.out 1 (by decide) (.string (Fk.mt (m + 1))) ((m : Int), Fk.mt (m + 1)) rfl)
          have e4 : ((m : Int), Fk.mt (m + 1)) = Fd.mk1 k j := by
            unfold Fd.mk1
            (rw [← HM.out]) <;> simp <;> omega
          rw [e4, hM.out, Fd.part_step k L j hlt] at this
          exact this
        · exact (Fk.grownBy_trans H0.out (Fk.grownBy_setCell (w1) g (j * 2 + 1) (.string (Fk.mt (m + 1)))))
      case measure => simp [intOf]; omega
    · have e : j = L.length := by omega
      subst e
      go_wp2_with fail
      go_ret
      refine ⟨⟨by rw [HM.out]; rfl, ?_⟩, HG.out⟩
      have := HP.out
      rw [Fd.part_all] at this
      exact this

set_option maxHeartbeats 2000000 in
theorem heldFieldS_any (v : Value) (n k : Nat) (w : World) (hv : Rk.View Fd.S w v (Fd.mks k n)) (hl : n ≤ 1048576) (hk0 : 0 < k) (hk : k ≤ 1000) :
    Calls Try.prog 79 #[v, .int .i64 k] w fun e w' => e = .returned (.int .i64 ((k + 2 * n : Nat) : Int)) ∧ Below w.heap.size w w' := by
  obtain ⟨a, cap, rfl, hs⟩ := hv
  rw [Fd.mks_length] at *
  go_enter Try.func79, Try.ntmps79
  go_wp2_with fail
  go_loopw [1, 5] (fun q i wr => ∃ j m : Nat, j ≤ n ∧ q = .int .i64 (m : Int) ∧ i = .int .i64 j ∧ 0 < m ∧ m ≤ 99999900 ∧ Hid (m = k + 2 * j) ∧ Below w.heap.size w wr) (fun _ i _ => n - (intOf i).toNat)
  case atStart => exact ⟨0, k, Nat.zero_le _, rfl, rfl, hk0, by omega, rfl, Below.refl _ _⟩
  case round =>
    obtain ⟨j, m, hj, rfl, rfl, hm0, hm1, HM, bel⟩ := hrel
    by_cases hlt : j < n
    · obtain ⟨b, o, rfl, hb, hs1⟩ := hs (by omega)
      have hs' := hs1.below hb bel
      have q0 := Fd.c0 (k := j) hs' (by rw [Fd.mks_length]; exact hlt)
      rw [Fd.mks_at k n j hlt] at q0
      unfold Fd.mk1 at q0
      rw [← HM.out] at q0
      have q1 := Fd.c1 (k := j) hs' (by rw [Fd.mks_length]; exact hlt)
      rw [Fd.mks_at k n j hlt] at q1
      unfold Fd.mk1 at q1
      rw [← HM.out] at q1
      clear hs' hs
      have r1 := cell_regrown q1
      have f1 : ∀ w', Calls Try.prog 71 #[.int .i64 ((m : Int) + 1)] w' fun e w'' => e = .returned (.string (Fk.mt (m + 1))) ∧ Below w'.heap.size w' w'' := fun w' => markText_int _ (m + 1) (by omega) w' (by omega) (by omega)
      go_wp2_with fail
      refine wp_region_quiet_below (by kernel_rfl) (by kernel_rfl) ?_
      repeat (go_big_quiet_step (exact Calls.regrown_of (f1 _)))
      refine wpQuiet_nil ?_
      intro w1 hw'
      obtain ⟨⟨dq1, osq1⟩, hw''⟩ := hw'
      have bel1 : Below w.heap.size w w1 := by rw [hw'']; exact bel.trans ((below_regrown wr dq1 osq1).mono bel.size)
      clear hw'' r1 f1 q0 q1
      go_wp2_with fail
      go_roundw
      case rel =>
        refine ⟨j + 1, m + 2, by omega, by go_num, by go_num, by omega, ?_, ?_, bel1⟩
        · have := HM.out; omega
        · show m + 2 = _
          have := HM.out; omega
      case measure => simp [intOf]; omega
    · have e : j = n := by omega
      subst e
      go_wp2_with fail
      go_ret
      exact ⟨by rw [HM.out]; rfl, bel⟩
end Go.Proofs.Ytkkmjffepdejnaa

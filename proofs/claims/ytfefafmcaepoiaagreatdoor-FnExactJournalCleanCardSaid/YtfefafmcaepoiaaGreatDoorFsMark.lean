/- The walks of the law's own marks: each place of a list is written over with a text or a number of its own, and is looked for again. -/
import Derived.Test.YtfefafmcaepoiaaGreatDoorProg
import Derived.Test.YtfefafmcaepoiaaGreatDoorFsKit
import Derived.Test.YtfefafmcaepoiaaGreatDoorMarkText
import Derived.WalkKit
import Derived.WalkSpells
import Derived.WalkLawsBesides
import Derived.BigQuiet
import Derived.Lib.QuietBelow
namespace Go.Proofs.YtfefafmcaepoiaaGreatDoor
open Go.RowKit
set_option linter.unusedVariables false
namespace Fk
/-- the marks of one place, counted from k -/
def mk1 (k i : Nat) : Fl := (mt (k + 3 * i), mt (k + 3 * i + 1), ((k + 3 * i + 2 : Nat) : Int))
/-- the marks of n places -/
def mks (k n : Nat) : List Fl := (List.range n).map (mk1 k)
theorem mks_length (k n : Nat) : (mks k n).length = n := by simp [mks]
/-- the first places are marked -/
def part (k : Nat) (L : List Fl) (j : Nat) : List Fl := mks k j ++ L.drop j
theorem part_length (k : Nat) (L : List Fl) (j : Nat) (h : j ≤ L.length) : (part k L j).length = L.length := by simp [part, mks_length]; omega
theorem part_none (k : Nat) (L : List Fl) : part k L 0 = L := by simp [part, mks]
theorem part_all (k : Nat) (L : List Fl) : part k L L.length = mks k L.length := by simp [part]
theorem part_step (k : Nat) (L : List Fl) (j : Nat) (h : j < L.length) : (part k L j).set j (mk1 k j) = part k L (j + 1) := by
  unfold part
  rw [List.set_append_right _ _ (by rw [mks_length]; exact Nat.le_refl _), mks_length, Nat.sub_self, List.drop_eq_getElem_cons h, List.set_cons_zero]
  simp [mks, List.range_succ]
theorem mks_at (k n i : Nat) (h : i < n) : nm (mks k n) i = mt (k + 3 * i) ∧ dt (mks k n) i = mt (k + 3 * i + 1) ∧ sy (mks k n) i = ((k + 3 * i + 2 : Nat) : Int) := by
  simp [mks, nm, dt, sy, List.getD, h, mk1]
/-- three stores at one place are one -/
theorem set3 (L : List Fl) (j : Nat) (h : j < L.length) (a b : ByteArray) (c : Int) :
    (((L.set j (a, dt L j, sy L j)).set j (nm (L.set j (a, dt L j, sy L j)) j, b, sy (L.set j (a, dt L j, sy L j)) j)).set j
      (nm ((L.set j (a, dt L j, sy L j)).set j (nm (L.set j (a, dt L j, sy L j)) j, b, sy (L.set j (a, dt L j, sy L j)) j)) j,
       dt ((L.set j (a, dt L j, sy L j)).set j (nm (L.set j (a, dt L j, sy L j)) j, b, sy (L.set j (a, dt L j, sy L j)) j)) j, c)) = L.set j (a, b, c) := by
  have h1 := nm_set L j h (a, dt L j, sy L j)
  have h2 := nm_set (L.set j (a, dt L j, sy L j)) j (by simpa using h) (nm (L.set j (a, dt L j, sy L j)) j, b, sy (L.set j (a, dt L j, sy L j)) j)
  rw [h2.1, h2.2.1, h1.1, List.set_set, List.set_set]
end Fk

set_option maxHeartbeats 2000000 in
theorem markFileS_any (v : Value) (L : List Fk.Fl) (k : Nat) (base : Nat) (w : World) (ho : Fk.Own w base 73 v L) (hl : L.length ≤ 1048576) (hk0 : 0 < k) (hk : k ≤ 1000) :
    Calls Tryz.prog 30 #[v, .int .i64 k] w fun e w' => (e = .returned (.int .i64 ((k + 3 * L.length : Nat) : Int)) ∧ Fk.Own w' base 73 v (Fk.mks k L.length)) ∧ w.grownBy w' v.ownBlock := by
  obtain ⟨a, cap, rfl⟩ := ho.slice
  have HO : Hid (Fk.Own w base 73 (.slice a L.length cap) L) := ho
  go_enter Tryz.func30, Tryz.ntmps30
  go_wp2_with fail
  go_loopw [1, 5] (fun q i wr => ∃ j m : Nat, j ≤ L.length ∧ q = .int .i64 (m : Int) ∧ i = .int .i64 j ∧ 0 < m ∧ m ≤ 99999990 ∧ Hid (m = k + 3 * j) ∧ Hid (Fk.Own wr base 73 (.slice a L.length cap) (Fk.part k L j)) ∧ Hid (w.grownBy wr (Value.slice a L.length cap).ownBlock)) (fun _ i _ => L.length - (intOf i).toNat)
  case atStart => exact ⟨0, k, Nat.zero_le _, rfl, rfl, hk0, by omega, rfl, (by rw [Fk.part_none]; exact ho), World.grownBy.refl _ _⟩
  case round =>
    obtain ⟨j, m, hj, rfl, rfl, hm0, hm1, HM, HP, HG⟩ := hrel
    by_cases hlt : j < L.length
    · obtain ⟨g, rfl⟩ : ∃ g, a = some ⟨g, 0, none⟩ := by
        rcases HO.out.form with ⟨h1, h2⟩ | ⟨g, c, h1, _⟩
        · subst h2; simp at hlt
        · simp only [Value.slice.injEq] at h1; exact ⟨g, h1.1⟩
      have hlp : (Fk.part k L j).length = L.length := Fk.part_length k L j hj
      have hlq : j < (Fk.part k L j).length := by omega
      clear hlp
      obtain ⟨M, hM⟩ : ∃ M, Hid (M = Fk.part k L j) := ⟨_, rfl⟩
      rw [← hM.out] at HP hlq
      go_wp2_with fail
      refine (markText_int _ m rfl _ hm0 (by omega)).mono ?_
      rintro e w1 ⟨rfl, b1⟩
      have O1 := Fk.hide (HP.out.below b1)
      have G1 := Fk.hide (Fk.grownBy_trans HG.out (Fk.grownBy_below _ b1))
      clear b1 HP HG
      obtain ⟨⟨p0, p1, p2⟩, p3, p4, p5⟩ := O1.out.at hlq
      go_wp2_with fail
      obtain ⟨W2, hW2⟩ : ∃ W2, W2 = w1.setCell ⟨g, j * 3, none⟩ (.string (Fk.mt m)) := ⟨_, rfl⟩
      rw [← hW2]
      have O2 := Fk.hide (O1.out.putName hlq (Fk.mt m))
      have G2 := Fk.hide (Fk.grownBy_trans G1.out (Fk.grownBy_setCell w1 g (j * 3) (.string (Fk.mt m))))
      rw [← hW2] at O2 G2
      clear hW2 O1 G1 p0 p1 p2 p3 p4 p5
      refine (markText_int _ (m + 1) (by omega) _ (by omega) (by omega)).mono ?_
      rintro e w3 ⟨rfl, b3⟩
      have O3 := Fk.hide (O2.out.below b3)
      have G3 := Fk.hide (Fk.grownBy_trans G2.out (Fk.grownBy_below _ b3))
      clear b3 O2 G2
      obtain ⟨⟨p0, p1, p2⟩, p3, p4, p5⟩ := O3.out.at (k := j) (by simpa using hlq)
      go_wp2_with fail
      go_roundw
      case rel =>
        have e3 := Fk.set3 M j hlq (Fk.mt m) (Fk.mt (m + 1)) ((m : Int) + 1 + 1)
        refine ⟨j + 1, m + 3, by omega, by go_num, by go_num, by omega, ?_, ?_, ?_, ?_⟩
        · have := HM.out; omega
        · show m + 3 = _
          have := HM.out; omega
        · have := (O3.out.putData (k := j) (by simpa using hlq) (Fk.mt (m + 1))).putSync (k := j) (by simpa using hlq) ((m : Int) + 1 + 1)
          rw [e3, hM.out] at this
          have e4 : (Fk.mt m, Fk.mt (m + 1), (m : Int) + 1 + 1) = Fk.mk1 k j := by
            unfold Fk.mk1
            rw [← HM.out]
            simp
            omega
          rw [e4, Fk.part_step k L j hlt] at this
          exact this
        · exact Fk.grownBy_trans (Fk.grownBy_trans G3.out (Fk.grownBy_setCell w3 g (j * 3 + 1) _)) (Fk.grownBy_setCell _ g (j * 3 + 2) _)
      case measure => simp [intOf]; omega
    · have e : j = L.length := by omega
      subst e
      go_wp2_with fail
      go_ret
      refine ⟨⟨by rw [HM.out]; rfl, ?_⟩, HG.out⟩
      have := HP.out
      rw [Fk.part_all] at this
      exact this

set_option maxHeartbeats 2000000 in
theorem markFs_any (v : Value) (L : List Fk.Fl) (k : Nat) (base : Nat) (w : World) (ho : Fk.Own w base 73 v L) (hl : L.length ≤ 1048576) (hk0 : 0 < k) (hk : k ≤ 1000) :
    Calls Tryz.prog 11 #[.agg #[v], .int .i64 k] w fun e w' => (e = .returned (.int .i64 ((k + 3 * L.length : Nat) : Int)) ∧ Fk.Own w' base 73 v (Fk.mks k L.length)) ∧ w.grownBy w' v.ownBlock := by
  have b0 : Below w.heap.size w (w.alloc (.cells #[v] 28)) := (Below.refl _ _).alloc (Nat.le_refl _) _
  have ho' := ho.below b0
  have G0 := Fk.hide (Fk.grownBy_below v.ownBlock b0)
  obtain ⟨a, cap, rfl⟩ := ho.slice
  clear ho b0
  go_enter Tryz.func11, Tryz.ntmps11
  go_wp2_with fail
  refine (markFileS_any _ L k base _ ho' hl hk0 hk).mono ?_
  rintro e w1 ⟨⟨rfl, o1⟩, g1⟩
  have O1 := Fk.hide o1
  have G1 := Fk.hide (Fk.grownBy_trans G0.out g1)
  clear o1 g1 G0 ho'
  go_wp2_with fail
  go_ret
  exact ⟨⟨rfl, O1.out⟩, G1.out⟩

set_option maxHeartbeats 2000000 in
theorem heldFileS_any (v : Value) (n k : Nat) (w : World) (hv : Fk.View w v (Fk.mks k n)) (hl : n ≤ 1048576) (hk0 : 0 < k) (hk : k ≤ 1000) :
    Calls Tryz.prog 58 #[v, .int .i64 k] w fun e w' => e = .returned (.int .i64 ((k + 3 * n : Nat) : Int)) ∧ Below w.heap.size w w' := by
  obtain ⟨a, cap, rfl, hs⟩ := hv
  rw [Fk.mks_length] at *
  go_enter Tryz.func58, Tryz.ntmps58
  go_wp2_with fail
  go_loopw [1, 5] (fun q i wr => ∃ j m : Nat, j ≤ n ∧ q = .int .i64 (m : Int) ∧ i = .int .i64 j ∧ 0 < m ∧ m ≤ 99999990 ∧ Hid (m = k + 3 * j) ∧ Below w.heap.size w wr) (fun _ i _ => n - (intOf i).toNat)
  case atStart => exact ⟨0, k, Nat.zero_le _, rfl, rfl, hk0, by omega, rfl, Below.refl _ _⟩
  case round =>
    obtain ⟨j, m, hj, rfl, rfl, hm0, hm1, HM, bel⟩ := hrel
    by_cases hlt : j < n
    · obtain ⟨b, o, rfl, hb, hs1⟩ := hs (by omega)
      have hs' := hs1.below hb bel
      obtain ⟨e0, e1, e2⟩ := Fk.mks_at k n j hlt
      have q0 := hs'.c0 j (by rw [Fk.mks_length]; exact hlt)
      have q1 := hs'.c1 j (by rw [Fk.mks_length]; exact hlt)
      have q2 := hs'.c2 j (by rw [Fk.mks_length]; exact hlt)
      rw [e0, ← HM.out] at q0
      rw [e1, ← HM.out] at q1
      rw [e2, ← HM.out] at q2
      clear e0 e1 e2 hs' hs
      have r0 := cell_regrown q0
      have f0 : ∀ w', Calls Tryz.prog 57 #[.int .i64 (m : Int)] w' fun e w'' => e = .returned (.string (Fk.mt m)) ∧ Below w'.heap.size w' w'' := fun w' => markText_any m w' hm0 (by omega)
      go_wp2_with fail
      refine wp_region_quiet_below (by kernel_rfl) (by kernel_rfl) ?_
      repeat (go_big_quiet_step (exact Calls.regrown_of (f0 _)))
      refine wpQuiet_nil ?_
      intro w4 hw'
      obtain ⟨⟨dq, osq⟩, hw''⟩ := hw'
      have b4 : Below w.heap.size w w4 := by rw [hw'']; exact bel.trans ((below_regrown wr dq osq).mono bel.size)
      have q1' : w4.cell? ⟨b, o + j * 3 + 1, none⟩ = some (.string (Fk.mt (m + 1))) := by rw [hw'']; exact cell_regrown q1 _ _
      have q2' : w4.cell? ⟨b, o + j * 3 + 2, none⟩ = some (.int .i64 ((m : Int) + 1 + 1)) := by
        rw [hw'', show (m : Int) + 1 + 1 = ((m + 2 : Nat) : Int) by omega]; exact cell_regrown q2 _ _
      clear hw'' r0 f0 q0 q1 q2
      go_wp2_with fail
      have r1 := cell_regrown q1'
      have f1 : ∀ w', Calls Tryz.prog 57 #[.int .i64 ((m : Int) + 1)] w' fun e w'' => e = .returned (.string (Fk.mt (m + 1))) ∧ Below w'.heap.size w' w'' := fun w' => markText_int _ (m + 1) (by omega) w' (by omega) (by omega)
      refine wp_region_quiet_below (by kernel_rfl) (by kernel_rfl) ?_
      repeat (go_big_quiet_step (exact Calls.regrown_of (f1 _)))
      refine wpQuiet_nil ?_
      intro w5 hw'
      obtain ⟨⟨dq5, osq5⟩, hw''⟩ := hw'
      have b5 : Below w.heap.size w w5 := by rw [hw'']; exact b4.trans ((below_regrown w4 dq5 osq5).mono b4.size)
      have q2'' : w5.cell? ⟨b, o + j * 3 + 2, none⟩ = some (.int .i64 ((m : Int) + 1 + 1)) := by rw [hw'']; exact cell_regrown q2' _ _
      clear hw'' r1 f1 q1' q2' b4
      go_wp2_with fail
      go_roundw
      case rel =>
        refine ⟨j + 1, m + 3, by omega, by go_num, by go_num, by omega, ?_, ?_, b5⟩
        · have := HM.out; omega
        · show m + 3 = _
          have := HM.out; omega
      case measure => simp [intOf]; omega
    · have e : j = n := by omega
      subst e
      go_wp2_with fail
      go_ret
      exact ⟨by rw [HM.out]; rfl, bel⟩

set_option maxHeartbeats 2000000 in
theorem heldFs_any (v : Value) (n k : Nat) (w : World) (hv : Fk.View w v (Fk.mks k n)) (hl : n ≤ 1048576) (hk0 : 0 < k) (hk : k ≤ 1000) :
    Calls Tryz.prog 31 #[.agg #[v], .int .i64 k] w fun e w' => e = .returned (.int .i64 ((k + 3 * n : Nat) : Int)) ∧ Below w.heap.size w w' := by
  have b0 : Below w.heap.size w (w.alloc (.cells #[v] 28)) := (Below.refl _ _).alloc (Nat.le_refl _) _
  have hv' := hv.below b0
  have HB := Fk.hide b0
  obtain ⟨a, cap, rfl, _⟩ := hv
  clear b0
  have hn0 : (0 : Int) ≤ ((k + 3 * n : Nat) : Int) := by omega
  go_enter Tryz.func31, Tryz.ntmps31
  go_wp2_with fail
  refine (heldFileS_any _ n k _ hv' hl hk0 hk).mono ?_
  rintro e w1 ⟨rfl, b1⟩
  have HB1 := Fk.hide (HB.out.trans (b1.mono HB.out.size))
  clear b1 hv'
  obtain ⟨q, hq⟩ : ∃ q : Int, q = ((k + 3 * n : Nat) : Int) := ⟨_, rfl⟩
  rw [← hq] at hn0 ⊢
  have HQ := Fk.hide hq
  clear hq
  go_wp2_with fail
  go_ret
  exact ⟨by rw [← HQ.out]; rfl, HB1.out⟩
end Go.Proofs.YtfefafmcaepoiaaGreatDoor

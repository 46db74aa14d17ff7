/- Lists of texts in memory, and the walks of the law's own functions on them: eq, mark, held. The walks of what a law asks of an answer of texts, a place and a code: compare, mark, look again. -/
import Derived.Test.YtfefafmcaepoiaaDoorMarkText
import Derived.Test.YtfefafmcaepoiaaDoorStrList
import Derived.BigRegion
import Derived.Deep.RegionWith
import Derived.Lib.QuietBelow
import Derived.WalkKit
namespace Go.Proofs.YtfefafmcaepoiaaDoor
open Go.RowKit
set_option linter.unusedVariables false
set_option linter.unusedSimpArgs false
namespace Sk
/-- the marks from k on -/
def marks (k n : Nat) : List ByteArray := (List.range n).map fun i => Fk.mt (k + i)
theorem marks_length (k n : Nat) : (marks k n).length = n := by simp [marks]
theorem marks_at (k n i : Nat) (h : i < n) : at_ (marks k n) i = Fk.mt (k + i) := by simp [at_, marks, List.getD, h]
def part (k : Nat) (T : List ByteArray) (j : Nat) : List ByteArray := marks k j ++ T.drop j
theorem part_none (k : Nat) (T : List ByteArray) : part k T 0 = T := by simp [part, marks]
theorem part_all (k : Nat) (T : List ByteArray) : part k T T.length = marks k T.length := by simp [part]
theorem part_length (k : Nat) (T : List ByteArray) (j : Nat) (h : j ≤ T.length) : (part k T j).length = T.length := by simp [part, marks_length]; omega
theorem part_step (k : Nat) (T : List ByteArray) (j : Nat) (h : j < T.length) : (part k T j).set j (Fk.mt (k + j)) = part k T (j + 1) := by
  unfold part
  rw [List.set_append_right _ _ (by rw [marks_length]; exact Nat.le_refl _), marks_length, Nat.sub_self, List.drop_eq_getElem_cons h, List.set_cons_zero]
  simp [marks, List.range_succ]
end Sk

set_option maxHeartbeats 2000000 in
theorem eqStringS_same (v1 v2 : Value) (T : List ByteArray) (w : World) (h1 : Sk.View w v1 T) (h2 : Sk.View w v2 T) (hl : T.length ≤ 1048576) :
    Calls Tryd.prog 27 #[v1, v2] w fun e w' => e = .returned (.bool true) ∧ Below w.heap.size w w' := by
  obtain ⟨a, cap, rfl, hs⟩ := h1
  obtain ⟨a2, cap2, rfl, hs2⟩ := h2
  go_enter Tryd.func27, Tryd.ntmps27
  go_wp2_with fail
  go_loopw [5] (fun i wr => ∃ k : Nat, k ≤ T.length ∧ i = .int .i64 k ∧ Below w.heap.size w wr) (fun i _ => T.length - (intOf i).toNat)
  case atStart => exact ⟨0, Nat.zero_le _, rfl, Below.refl _ _⟩
  case round =>
    obtain ⟨k, hk, rfl, bel⟩ := hrel
    by_cases hlt : k < T.length
    · obtain ⟨b, rfl, hb, hs1⟩ := hs (by omega)
      obtain ⟨b2, rfl, hb2, hs3⟩ := hs2 (by omega)
      have q0 : wr.cell? ⟨b, k, none⟩ = some (.string (Sk.at_ T k)) := (bel.cell (by exact hb)).trans (hs1 k hlt)
      have p0 : wr.cell? ⟨b2, k, none⟩ = some (.string (Sk.at_ T k)) := (bel.cell (by exact hb2)).trans (hs3 k hlt)
      clear hs hs2 hs1 hs3
      have r0 := cell_regrown q0
      have r1 := cell_regrown p0
      go_wp2_with fail
      refine wp_region_quiet_below (by kernel_rfl) (by kernel_rfl) ?_
      repeat (go_big_quiet_step (fail))
      refine wpQuiet_nil ?_
      intro w4 hw'
      obtain ⟨⟨dq, osq⟩, hw''⟩ := hw'
      have b4 : Below w.heap.size w w4 := by rw [hw'']; exact bel.trans ((below_regrown wr dq osq).mono bel.size)
      clear hw'' r0 r1 q0 p0
      go_wp2_with fail
      go_roundw
      case rel => exact ⟨k + 1, by omega, by go_num, b4⟩
      case measure => simp [intOf]; omega
    · have e : k = T.length := by omega
      subst e
      go_wp2_with fail
      go_ret
      exact ⟨rfl, bel⟩
set_option maxHeartbeats 2000000 in
theorem markStringS_any (v : Value) (T : List ByteArray) (k : Nat) (base : Nat) (w : World) (ho : Sk.Own w base 9 v T) (hl : T.length ≤ 1048576) (hk0 : 0 < k) (hk : k ≤ 1000) :
    Calls Tryd.prog 30 #[v, .int .i64 k] w fun e w' => (e = .returned (.int .i64 ((k + T.length : Nat) : Int)) ∧ Sk.Own w' base 9 v (Sk.marks k T.length)) ∧ w.grownBy w' v.ownBlock := by
  obtain ⟨a, cap, rfl⟩ := ho.slice
  have HO : Hid (Sk.Own w base 9 (.slice a T.length cap) T) := ho
  go_enter Tryd.func30, Tryd.ntmps30
  go_wp2_with fail
  go_loopw [1, 5] (fun q i wr => ∃ j m : Nat, j ≤ T.length ∧ q = .int .i64 (m : Int) ∧ i = .int .i64 j ∧ 0 < m ∧ m ≤ 99999990 ∧ Hid (m = k + j) ∧ Hid (Sk.Own wr base 9 (.slice a T.length cap) (Sk.part k T j)) ∧ Hid (w.grownBy wr (Value.slice a T.length cap).ownBlock)) (fun _ i _ => T.length - (intOf i).toNat)
  case atStart => exact ⟨0, k, Nat.zero_le _, rfl, rfl, hk0, by omega, rfl, (by rw [Sk.part_none]; exact ho), World.grownBy.refl _ _⟩
  case round =>
    obtain ⟨j, m, hj, rfl, rfl, hm0, hm1, HM, HP, HG⟩ := hrel
    by_cases hlt : j < T.length
    · obtain ⟨g, rfl⟩ : ∃ g, a = some ⟨g, 0, none⟩ := by
        rcases HO.out.form with ⟨h1, h2⟩ | ⟨g, c, h1, _⟩
        · rw [h2] at hlt; simp at hlt
        · simp only [Value.slice.injEq] at h1; exact ⟨g, h1.1⟩
      have hlp : T.length = (Sk.part k T j).length := (Sk.part_length k T j hj).symm
      have HL := Fk.hide hlp
      clear hlp
      go_wp2_with fail
      refine (markText_int _ m rfl _ hm0 (by omega)).mono ?_
      rintro e w1 ⟨rfl, b1⟩
      have O1 := Fk.hide (HP.out.below b1)
      have G1 := Fk.hide (Fk.grownBy_trans HG.out (Fk.grownBy_below _ b1))
      clear b1 HP HG
      obtain ⟨p0, p3⟩ := O1.out.at HL.out (k := j) (by have := HL.out; omega)
      obtain ⟨z, hz⟩ : ∃ z, z = Sk.at_ (Sk.part k T j) j := ⟨_, rfl⟩
      rw [← hz] at p0
      clear hz
      go_wp2_with fail
      go_roundw
      case rel =>
        refine ⟨j + 1, m + 1, by omega, by go_num, by go_num, by omega, ?_, ?_, ?_, ?_⟩
        · have := HM.out; omega
        · show m + 1 = _
          have := HM.out; omega
        · have := O1.out.put HL.out j (Fk.mt m)
          rw [HM.out, Sk.part_step k T j hlt] at this
          rw [HM.out]
          exact this
        · exact Fk.grownBy_trans G1.out (Fk.grownBy_setCell w1 g j _)
      case measure => simp [intOf]; omega
    · have e : j = T.length := by omega
      subst e
      go_wp2_with fail
      go_ret
      refine ⟨⟨by rw [HM.out]; rfl, ?_⟩, HG.out⟩
      have := HP.out
      rw [Sk.part_all] at this
      exact this
set_option maxHeartbeats 2000000 in
theorem heldStringS_any (v : Value) (n k : Nat) (w : World) (hv : Sk.View w v (Sk.marks k n)) (hl : n ≤ 1048576) (hk0 : 0 < k) (hk : k ≤ 1000) :
    Calls Tryd.prog 31 #[v, .int .i64 k] w fun e w' => e = .returned (.int .i64 ((k + n : Nat) : Int)) ∧ Below w.heap.size w w' := by
  obtain ⟨a, cap, rfl, hs⟩ := hv
  rw [Sk.marks_length] at *
  go_enter Tryd.func31, Tryd.ntmps31
  go_wp2_with fail
  go_loopw [1, 5] (fun q i wr => ∃ j m : Nat, j ≤ n ∧ q = .int .i64 (m : Int) ∧ i = .int .i64 j ∧ 0 < m ∧ m ≤ 99999990 ∧ Hid (m = k + j) ∧ Below w.heap.size w wr) (fun _ i _ => n - (intOf i).toNat)
  case atStart => exact ⟨0, k, Nat.zero_le _, rfl, rfl, hk0, by omega, rfl, Below.refl _ _⟩
  case round =>
    obtain ⟨j, m, hj, rfl, rfl, hm0, hm1, HM, bel⟩ := hrel
    by_cases hlt : j < n
    · obtain ⟨b, rfl, hb, hs1⟩ := hs (by omega)
      have q0 : wr.cell? ⟨b, j, none⟩ = some (.string (Fk.mt m)) := by
        rw [bel.cell (by exact hb), hs1 j hlt, Sk.marks_at k n j hlt, HM.out]
      clear hs hs1
      have r0 := cell_regrown q0
      have f0 : ∀ w', Calls Tryd.prog 51 #[.int .i64 (m : Int)] w' fun e w'' => e = .returned (.string (Fk.mt m)) ∧ Below w'.heap.size w' w'' := fun w' => markText_any m w' hm0 (by omega)
      go_wp2_with fail
      refine wp_region_quiet_below (by kernel_rfl) (by kernel_rfl) ?_
      repeat (go_big_quiet_step (exact Calls.regrown_of (f0 _)))
      refine wpQuiet_nil ?_
      intro w4 hw'
      obtain ⟨⟨dq, osq⟩, hw''⟩ := hw'
      have b4 : Below w.heap.size w w4 := by rw [hw'']; exact bel.trans ((below_regrown wr dq osq).mono bel.size)
      clear hw'' r0 f0 q0
      go_wp2_with fail
      go_roundw
      case rel =>
        refine ⟨j + 1, m + 1, by omega, by go_num, by go_num, by omega, ?_, ?_, b4⟩
        · have := HM.out; omega
        · show m + 1 = _
          have := HM.out; omega
      case measure => simp [intOf]; omega
    · have e : j = n := by omega
      subst e
      go_wp2_with fail
      go_ret
      exact ⟨by rw [HM.out]; rfl, bel⟩

end Go.Proofs.YtfefafmcaepoiaaDoor

namespace Go.Proofs.YtfefafmcaepoiaaDoor
open Go.RowKit
set_option linter.unusedVariables false

set_option maxHeartbeats 2000000 in
theorem eqJournalOut_same (v1 v2 : Value) (T : List ByteArray) (p c : Int) (w : World) (h1 : Sk.View w v1 T) (h2 : Sk.View w v2 T) (hl : T.length ≤ 1048576) :
    Calls Tryd.prog 9 #[.agg #[v1, .int .i64 p, .int .i64 c], .agg #[v2, .int .i64 p, .int .i64 c]] w fun e w' => e = .returned (.bool true) ∧ Below w.heap.size w w' := by
  obtain ⟨W, hW⟩ : ∃ W, W = (w.alloc (.cells #[v1, .int .i64 p, .int .i64 c] 28)).alloc (.cells #[v2, .int .i64 p, .int .i64 c] 28) := ⟨_, rfl⟩
  have b0 : Below w.heap.size w W := by
    rw [hW]
    repeat (first | exact Below.refl _ _ | refine Below.alloc ?_ (by simp <;> omega) _)
  have hsz : W.heap.size = w.heap.size + 2 := by rw [hW]; simp
  have q1 : W.cell? ⟨w.heap.size, 1, none⟩ = some (.int .i64 p) := by rw [hW, Fk.cellOld _ _ _ _ (by simp), Fk.cellTop _ _ _ _ _ (by simp)]; rfl
  have q2 : W.cell? ⟨w.heap.size + 1, 1, none⟩ = some (.int .i64 p) := by rw [hW, Fk.cellTop _ _ _ _ _ (by simp)]; rfl
  have q3 : W.cell? ⟨w.heap.size, 2, none⟩ = some (.int .i64 c) := by rw [hW, Fk.cellOld _ _ _ _ (by simp), Fk.cellTop _ _ _ _ _ (by simp)]; rfl
  have q4 : W.cell? ⟨w.heap.size + 1, 2, none⟩ = some (.int .i64 c) := by rw [hW, Fk.cellTop _ _ _ _ _ (by simp)]; rfl
  have h1' := h1.below b0
  have h2' := h2.below b0
  have HW := Fk.hide hW
  clear hW
  obtain ⟨a, cap, rfl, _⟩ := h1
  obtain ⟨a2, cap2, rfl, _⟩ := h2
  go_enter Tryd.func9, Tryd.ntmps9
  go_wp2_with fail
  rw [← HW.out]
  refine (eqStringS_same _ _ _ _ h1' h2' hl).mono ?_
  rintro e w1 ⟨rfl, b1⟩
  have p1 : w1.cell? ⟨w.heap.size, 1, none⟩ = some (.int .i64 p) := (b1.cell (by show w.heap.size < _; omega)).trans q1
  have p2 : w1.cell? ⟨w.heap.size + 1, 1, none⟩ = some (.int .i64 p) := (b1.cell (by show w.heap.size + 1 < _; omega)).trans q2
  have p3 : w1.cell? ⟨w.heap.size, 2, none⟩ = some (.int .i64 c) := (b1.cell (by show w.heap.size < _; omega)).trans q3
  have p4 : w1.cell? ⟨w.heap.size + 1, 2, none⟩ = some (.int .i64 c) := (b1.cell (by show w.heap.size + 1 < _; omega)).trans q4
  have b2 : Below w.heap.size w w1 := b0.trans (b1.mono b0.size)
  clear b1 q1 q2 q3 q4
  go_wp2_with fail
  go_ret
  exact ⟨rfl, b2⟩

set_option maxHeartbeats 1000000 in
theorem markJournalOut_any (v : Value) (T : List ByteArray) (p c : Int) (k : Nat) (base : Nat) (w : World) (ho : Sk.Own w base 9 v T) (hl : T.length ≤ 1048576) (hk0 : 0 < k) (hk : k ≤ 1000) :
    Calls Tryd.prog 12 #[.agg #[v, .int .i64 p, .int .i64 c], .int .i64 k] w fun e w' => (e = .returned (.int .i64 ((k + T.length : Nat) : Int)) ∧ Sk.Own w' base 9 v (Sk.marks k T.length)) ∧ w.grownBy w' v.ownBlock := by
  have b0 : Below w.heap.size w (w.alloc (.cells #[v, .int .i64 p, .int .i64 c] 28)) := (Below.refl _ _).alloc (Nat.le_refl _) _
  have ho' := ho.below b0
  have G0 := Fk.hide (Fk.grownBy_below v.ownBlock b0)
  obtain ⟨a, cap, rfl⟩ := ho.slice
  clear ho b0
  go_enter Tryd.func12, Tryd.ntmps12
  go_wp2_with fail
  refine (markStringS_any _ T k base _ ho' hl hk0 hk).mono ?_
  rintro e w1 ⟨⟨rfl, o1⟩, g1⟩
  have O1 := Fk.hide o1
  have G1 := Fk.hide (Fk.grownBy_trans G0.out g1)
  clear o1 g1 G0 ho'
  go_wp2_with fail
  go_ret
  exact ⟨⟨rfl, O1.out⟩, G1.out⟩

set_option maxHeartbeats 1000000 in
theorem heldJournalOut_any (v : Value) (n k : Nat) (p c : Int) (w : World) (hv : Sk.View w v (Sk.marks k n)) (hl : n ≤ 1048576) (hk0 : 0 < k) (hk : k ≤ 1000) :
    Calls Tryd.prog 13 #[.agg #[v, .int .i64 p, .int .i64 c], .int .i64 k] w fun e w' => e = .returned (.int .i64 ((k + n : Nat) : Int)) ∧ Below w.heap.size w w' := by
  have b0 : Below w.heap.size w (w.alloc (.cells #[v, .int .i64 p, .int .i64 c] 28)) := (Below.refl _ _).alloc (Nat.le_refl _) _
  have hv' := hv.below b0
  have HB := Fk.hide b0
  obtain ⟨a, cap, rfl, _⟩ := hv
  clear b0
  have hn0 : (0 : Int) ≤ ((k + n : Nat) : Int) := by omega
  go_enter Tryd.func13, Tryd.ntmps13
  go_wp2_with fail
  refine (heldStringS_any _ n k _ hv' hl hk0 hk).mono ?_
  rintro e w1 ⟨rfl, b1⟩
  have HB1 := Fk.hide (HB.out.trans (b1.mono HB.out.size))
  clear b1 hv'
  obtain ⟨q, hq⟩ : ∃ q : Int, q = ((k + n : Nat) : Int) := ⟨_, rfl⟩
  rw [← hq] at hn0 ⊢
  have HQ := Fk.hide hq
  clear hq
  go_wp2_with fail
  go_ret
  exact ⟨by rw [← HQ.out]; rfl, HB1.out⟩
end Go.Proofs.YtfefafmcaepoiaaDoor

/- The walks of readSealed, and of both Unseal. -/
import Derived.Test.YtojdfdlbdpdlkaaGreatDoorJoined21
import Derived.Test.YtojdfdlbdpdlkaaGreatDoorJoined14
import Derived.Test.YtojdfdlbdpdlkaaGreatDoorJoined5
import Derived.Deep.RegionWith
namespace Go.Proofs.YtojdfdlbdpdlkaaGreatDoor
open Go.RowKit
set_option linter.unusedVariables false

/-- a text out of its seal: the text, 0, the code -/
def unsealed (s : ByteArray) : ByteArray × Int × Int :=
  if 8000 < s.size then (ByteArray.empty, 0, 2) else if s.size < 4 then (ByteArray.empty, 0, 4)
  else if ((s.extract (s.size - 4) s.size).toList == (strOfNums (four (crcMore 0 (s.extract 0 (s.size - 4))))).toList) = true then (s.extract 0 (s.size - 4), 0, 0) else (ByteArray.empty, 0, 5)

theorem unseal_big (s : ByteArray) (h : 8000 < s.size) : unsealed s = (ByteArray.empty, 0, 2) := if_pos h
theorem unseal_short (s : ByteArray) (h : ¬ 8000 < s.size) (h4 : s.size < 4) : unsealed s = (ByteArray.empty, 0, 4) := by rw [unsealed, if_neg h, if_pos h4]
theorem unseal_in (s t : ByteArray) (h : ¬ 8000 < s.size) (h4 : ¬ s.size < 4) (ht : t = s.extract 0 (s.size - 4)) (hts : t.size + 4 = s.size) :
    unsealed s = if ((s.extract t.size s.size).toList == (strOfNums (four (crcMore 0 t))).toList) = true then (t, 0, 0) else (ByteArray.empty, 0, 5) := by
  rw [unsealed, if_neg h, if_neg h4, ← ht, show s.size - 4 = t.size by omega]

theorem unseal_in2 (s t : ByteArray) (h : ¬ 8000 < s.size) (h4 : ¬ s.size < 4) (ht : t = s.extract 0 (s.size - 4)) (ht8 : t.size ≤ 8000) :
    unsealed s = if ((strOfNums (four (Cr.more 0 t : Int))).toList == (s.extract (s.size - 4) s.size).toList) = true then (t, 0, 0) else (ByteArray.empty, 0, 5) := by
  rw [unsealed, if_neg h, if_neg h4, ← ht, more_small t ht8, Bool.beq_comm]

theorem slice_tail (s : ByteArray) (h4 : ¬ s.size < 4) (W : World) : (Instr.slice 9 (.string s) (some (.int .i64 ((s.size : Int) - 4))) none none).run Tryz.prog W = .ok (.string (s.extract (s.size - 4) s.size)) W := by
  rw [run_slice_string_l _ _ _ Tryz.underlying9 _ _ (by omega) (by omega)]
  rw [show ((s.size : Int) - 4).toNat = s.size - 4 by omega]

set_option maxHeartbeats 2000000 in
theorem readSealed_any (s : ByteArray) (w : World) (hs : s.size ≤ maxLen) :
    Calls Tryz.prog 98 #[.string s] w fun e w' => e = .returned (.tuple #[.string (unsealed s).1, errv (unsealed s).2.2]) ∧ Below w.heap.size w w' := by
  unfold maxLen at hs
  by_cases hb : 8000 < s.size
  · have HE := hide (unseal_big s hb)
    go_enter Tryz.func98, Tryz.ntmps98
    go_wp2_with fail
    go_ret2
    exact ⟨by rw [HE.out]; rfl, Below.refl _ _⟩
  · by_cases h4 : s.size < 4
    · have HE := hide (unseal_short s hb h4)
      go_enter Tryz.func98, Tryz.ntmps98
      go_wp2_with fail
      go_ret2
      exact ⟨by rw [HE.out]; rfl, Below.refl _ _⟩
    · obtain ⟨t, ht⟩ : ∃ t, t = s.extract 0 (s.size - 4) := ⟨_, rfl⟩
      have hts : t.size + 4 = s.size := by rw [ht]; simp; omega
      have hb1 := more_bd t
      have ht1 : t.size ≤ 7996 := by omega
      have ht2 : (t.size : Int) + 4 ≤ s.size := by omega
      have ht0 : t.size ≤ maxLen := by unfold maxLen; omega
      have HU := hide (unseal_in s t (by omega) (by omega) ht hts)
      have HT : Hid (t = s.extract 0 (s.size - 4) ∧ t.size + 4 = s.size) := ⟨ht, hts⟩
      clear hts
      cases hq : ((s.extract t.size s.size).toList == (strOfNums (four (crcMore 0 t))).toList) with
      | true =>
        have HE : Hid (unsealed s = (t, 0, 0)) := by show unsealed s = _; rw [HU.out, if_pos hq]
        go_enter Tryz.func98, Tryz.ntmps98
        go_wp2_with fail
        rw [← ht]
        clear ht
        go_region_with (first | (go_at_call 83; refine (implCrc_any t _ ht0).mono ?_; rintro e w1 ⟨rfl, rfl⟩) | (go_at_call 82; refine (sumText_any _ _ hb1.1 hb1.2).mono ?_; rintro e w2 ⟨rfl, hb2⟩))
        all_goals
          have HB2 : Hid (Below w.heap.size w w2) := Below.trans (Below.drew (Below.refl _ w)) hb2
          clear hb2
          go_wp2_with fail
          refine (copyText_any t _ (by omega)).mono ?_
          rintro e w3 ⟨rfl, hb3⟩
          have HB3 : Hid (Below w.heap.size w w3) := HB2.out.trans (hb3.mono HB2.out.size)
          clear hb3
          go_wp2_with fail
          go_ret2
          exact ⟨by rw [HE.out]; rfl, HB3.out⟩
      | false =>
        have HE : Hid (unsealed s = (ByteArray.empty, 0, 5)) := by show unsealed s = _; rw [HU.out, if_neg (by rw [hq]; simp)]
        go_enter Tryz.func98, Tryz.ntmps98
        go_wp2_with fail
        rw [← ht]
        clear ht
        go_region_with (first | (go_at_call 83; refine (implCrc_any t _ ht0).mono ?_; rintro e w1 ⟨rfl, rfl⟩) | (go_at_call 82; refine (sumText_any _ _ hb1.1 hb1.2).mono ?_; rintro e w2 ⟨rfl, hb2⟩))
        all_goals
          have HB2 : Hid (Below w.heap.size w w2) := Below.trans (Below.drew (Below.refl _ w)) hb2
          clear hb2
          go_wp2_with fail
          go_ret2
          exact ⟨by rw [HE.out]; rfl, HB2.out⟩

set_option maxHeartbeats 2000000 in
theorem specUnseal_any (s : ByteArray) (w : World) (hs : s.size ≤ maxLen) :
    Calls Tryz.prog 67 #[.string s] w fun e w' => e = .returned (textOut ((unsealed s).1, 0, (unsealed s).2.2)) ∧ Below w.heap.size w w' := by
  unfold maxLen at hs
  have HB : Hid (∀ o, Below w.heap.size w (w.alloc o)) := fun o => ((Below.refl w.heap.size w).alloc (Nat.le_refl _) o)
  by_cases hb : 8000 < s.size
  · have HE := hide (unseal_big s hb)
    go_enter Tryz.func67, Tryz.ntmps67
    go_wp2_with fail
    refine bodyPost_ret (v := textOut (ByteArray.empty, 0, 2)) (by simp [results, Tryz.results67, go_sem, textOut] <;> rfl) rfl ⟨by rw [HE.out], HB.out _⟩
  · by_cases h4 : s.size < 4
    · have HE := hide (unseal_short s hb h4)
      go_enter Tryz.func67, Tryz.ntmps67
      go_wp2_with fail
      refine bodyPost_ret (v := textOut (ByteArray.empty, 0, 4)) (by simp [results, Tryz.results67, go_sem, textOut] <;> rfl) rfl ⟨by rw [HE.out], HB.out _⟩
    · obtain ⟨t, ht⟩ : ∃ t, t = s.extract 0 (s.size - 4) := ⟨_, rfl⟩
      have hts : t.size + 4 = s.size := by rw [ht]; simp; omega
      have hb1 := more_bd t
      have ht1 : t.size ≤ 7996 := by omega
      have ht2 : (t.size : Int) + 4 ≤ s.size := by omega
      have ht0 : t.size ≤ maxLen := by unfold maxLen; omega
      have HU := hide (unseal_in s t (by omega) (by omega) ht hts)
      have HT : Hid (t = s.extract 0 (s.size - 4) ∧ t.size + 4 = s.size) := ⟨ht, hts⟩
      clear hts
      clear HU
      have HU := hide (unseal_in2 s t (by omega) (by omega) ht (by omega))
      rw [more_small t (by omega)] at hb1
      have hsl := slice_tail s h4
      have h5 : (0 : Int) ≤ (s.size : Int) - 4 := by omega
      have h6 : (s.size : Int) - 4 ≤ (s.size : Int) := by omega
      have h7 : IntKind.i64.wrap ((s.size : Int) - 4) = (s.size : Int) - 4 := by rw [IntKind.wrap_i64]; omega
      have h8 : ((s.size : Int) - 4).toNat = s.size - 4 := by omega
      cases hq : ((strOfNums (four (Cr.more 0 t : Int))).toList == (s.extract (s.size - 4) s.size).toList) with
      | true =>
        have HE : Hid (unsealed s = (t, 0, 0)) := by show unsealed s = _; rw [HU.out, if_pos hq]
        go_enter Tryz.func67, Tryz.ntmps67
        go_wp2_with fail
        rw [← ht]
        clear ht
        obtain ⟨W, hW⟩ : ∃ W, W = w.alloc (.cells #[.string { data := #[] }, .int .i64 0, .int .i64 0] 71) := ⟨_, rfl⟩
        rw [← hW]
        have HBW : Hid (Below w.heap.size w W) := by rw [hW]; exact HB.out _
        have hq0 : W.cell? ⟨w.heap.size, 0, none⟩ = some (.string ByteArray.empty) := by rw [hW]; simp; rfl
        have hq1 : W.cell? ⟨w.heap.size, 1, none⟩ = some (.int .i64 0) := by rw [hW]; simp
        have hq2 : W.cell? ⟨w.heap.size, 2, none⟩ = some (.int .i64 0) := by rw [hW]; simp
        have hqz : ∀ o, W.frozen? ⟨w.heap.size, o, none⟩ = false := fun o => by rw [hW]; simp
        have hWs : w.heap.size + 1 = W.heap.size := by rw [hW]; simp
        clear hW
        go_region_with (first | (go_at_call 65; refine (l01Crc_any 0 t _ (by omega) (by omega)).mono ?_; rintro e w1 ⟨rfl, rfl⟩) | (go_at_call 64; refine (l01Four_any _ _ hb1.1 hb1.2).mono ?_; rintro e w2 ⟨rfl, hb2⟩))
        all_goals
          have HB2 : Hid (Below w.heap.size w w2) := HBW.out.trans ((Below.trans (Below.drew (Below.refl _ W)) hb2).mono (by show w.heap.size ≤ W.heap.size; omega))
          have hc0 : w2.cell? ⟨w.heap.size, 0, none⟩ = some (.string ByteArray.empty) := (hb2.cell (p := ⟨w.heap.size, 0, none⟩) (by show w.heap.size < W.heap.size; omega)).trans hq0
          have hc1 : w2.cell? ⟨w.heap.size, 1, none⟩ = some (.int .i64 0) := (hb2.cell (p := ⟨w.heap.size, 1, none⟩) (by show w.heap.size < W.heap.size; omega)).trans hq1
          have hc2 : w2.cell? ⟨w.heap.size, 2, none⟩ = some (.int .i64 0) := (hb2.cell (p := ⟨w.heap.size, 2, none⟩) (by show w.heap.size < W.heap.size; omega)).trans hq2
          have hcz : ∀ o, w2.frozen? ⟨w.heap.size, o, none⟩ = false := fun o => (hb2.frozen (p := ⟨w.heap.size, o, none⟩) (by show w.heap.size < W.heap.size; omega)).trans (hqz o)
          clear hb2
          go_wp2
          refine bodyPost_ret (v := textOut (t, 0, 0)) (by simp [results, Tryz.results67, go_sem, textOut, hc0, hc1, hc2] <;> rfl) rfl ⟨by rw [HE.out], ?_⟩
          exact ((HB2.out.setCell (Nat.le_refl _) _).setCell (Nat.le_refl _) _).setCell (Nat.le_refl _) _
      | false =>
        have HE : Hid (unsealed s = (ByteArray.empty, 0, 5)) := by show unsealed s = _; rw [HU.out, if_neg (by rw [hq]; simp)]
        go_enter Tryz.func67, Tryz.ntmps67
        go_wp2_with fail
        rw [← ht]
        clear ht
        obtain ⟨W, hW⟩ : ∃ W, W = w.alloc (.cells #[.string { data := #[] }, .int .i64 0, .int .i64 0] 71) := ⟨_, rfl⟩
        rw [← hW]
        have HBW : Hid (Below w.heap.size w W) := by rw [hW]; exact HB.out _
        have hq0 : W.cell? ⟨w.heap.size, 0, none⟩ = some (.string ByteArray.empty) := by rw [hW]; simp; rfl
        have hq1 : W.cell? ⟨w.heap.size, 1, none⟩ = some (.int .i64 0) := by rw [hW]; simp
        have hq2 : W.cell? ⟨w.heap.size, 2, none⟩ = some (.int .i64 0) := by rw [hW]; simp
        have hqz : ∀ o, W.frozen? ⟨w.heap.size, o, none⟩ = false := fun o => by rw [hW]; simp
        have hWs : w.heap.size + 1 = W.heap.size := by rw [hW]; simp
        clear hW
        go_region_with (first | (go_at_call 65; refine (l01Crc_any 0 t _ (by omega) (by omega)).mono ?_; rintro e w1 ⟨rfl, rfl⟩) | (go_at_call 64; refine (l01Four_any _ _ hb1.1 hb1.2).mono ?_; rintro e w2 ⟨rfl, hb2⟩))
        all_goals
          have HB2 : Hid (Below w.heap.size w w2) := HBW.out.trans ((Below.trans (Below.drew (Below.refl _ W)) hb2).mono (by show w.heap.size ≤ W.heap.size; omega))
          have hc0 : w2.cell? ⟨w.heap.size, 0, none⟩ = some (.string ByteArray.empty) := (hb2.cell (p := ⟨w.heap.size, 0, none⟩) (by show w.heap.size < W.heap.size; omega)).trans hq0
          have hc1 : w2.cell? ⟨w.heap.size, 1, none⟩ = some (.int .i64 0) := (hb2.cell (p := ⟨w.heap.size, 1, none⟩) (by show w.heap.size < W.heap.size; omega)).trans hq1
          have hc2 : w2.cell? ⟨w.heap.size, 2, none⟩ = some (.int .i64 0) := (hb2.cell (p := ⟨w.heap.size, 2, none⟩) (by show w.heap.size < W.heap.size; omega)).trans hq2
          have hcz : ∀ o, w2.frozen? ⟨w.heap.size, o, none⟩ = false := fun o => (hb2.frozen (p := ⟨w.heap.size, o, none⟩) (by show w.heap.size < W.heap.size; omega)).trans (hqz o)
          clear hb2
          go_wp2
          refine bodyPost_ret (v := textOut (ByteArray.empty, 0, 5)) (by simp [results, Tryz.results67, go_sem, textOut, hc0, hc1, hc2] <;> rfl) rfl ⟨by rw [HE.out], ?_⟩
          exact ((HB2.out.setCell (Nat.le_refl _) _).setCell (Nat.le_refl _) _).setCell (Nat.le_refl _) _
end Go.Proofs.YtojdfdlbdpdlkaaGreatDoor

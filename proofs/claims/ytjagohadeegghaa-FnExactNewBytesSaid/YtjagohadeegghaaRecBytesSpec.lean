/- The walks of the specification's RecBytes. -/
import Derived.Test.YtjagohadeegghaaRecBytesMath
import Derived.Test.YtjagohadeegghaaRecRightSpec
namespace Go.Proofs.Ytjagohadeegghaa
open Go.RowKit
set_option linter.unusedVariables false
set_option linter.unusedSimpArgs false

set_option maxHeartbeats 4000000 in
theorem l03Bytes_any (K : Int) (v : Value) (L : List Fd.E) (w : World) (hv : Rk.View Fd.S w v L) (hr : Rc.right K L = true) :
    Calls Try.prog 128 #[.agg #[.int .i64 K, v]] w fun e w' => e = .returned (.string (Rc.bytes K L)) ∧ Below w.heap.size w w' := by
  obtain ⟨W, hW⟩ : ∃ W, W = w.alloc (.cells #[.int .i64 K, v] 131) := ⟨_, rfl⟩
  have b0 : Below w.heap.size w W := by rw [hW]; exact (Below.refl _ _).alloc (Nat.le_refl _) _
  have hv' := hv.below b0
  have c0 : W.cell? ⟨w.heap.size, 0, none⟩ = some (.int .i64 K) := by rw [hW, Fk.cellTop _ _ _ _ _ rfl]; rfl
  have c1 : W.cell? ⟨w.heap.size, 1, none⟩ = some v := by rw [hW, Fk.cellTop _ _ _ _ _ rfl]; rfl
  have hsz : w.heap.size < W.heap.size := by rw [hW]; simp
  have HW := Fk.hide hW
  have HB0 := Fk.hide b0
  have HR := Fk.hide hr
  clear hW hv b0
  have hin := Rc.right_inv hr
  have h30 := hin.1.2.2
  have hK0 := hin.1.1
  have hK1 := hin.1.2.1
  clear hin hr
  obtain ⟨a, cap, rfl, hs⟩ := hv'
  have r0 := cell_regrown c0
  have r1 := cell_regrown c1
  obtain ⟨sn, hsn⟩ : ∃ s, s = Pn.putNum (L.length : Int) := ⟨_, rfl⟩
  obtain ⟨sk, hsk⟩ : ∃ s, s = Pn.putNum K := ⟨_, rfl⟩
  have HT0 : Hid (sk ++ sn = Rc.row K L 0) := by show _ = _; rw [hsn, hsk]; rfl
  have hsnb : sn.size ≤ 11 := by rw [hsn]; have := Pn.put_size (L.length : Int); omega
  have hskb : sk.size ≤ 11 := by rw [hsk]; have := Pn.put_size K; omega
  have fk : ∀ w', Calls Try.prog 129 #[.int .i64 K] w' fun e w'' => e = .returned (.string sk) ∧ Below w'.heap.size w' w'' := fun w' => by rw [hsk]; exact specPut_any K w' (by omega) (by omega)
  have fn : ∀ w', Calls Try.prog 129 #[.int .i64 (L.length : Int)] w' fun e w'' => e = .returned (.string sn) ∧ Below w'.heap.size w' w'' := fun w' => by rw [hsn]; exact specPut_any _ w' (by omega) (by omega)
  clear hsn hsk
  go_enter Try.func128, Try.ntmps128
  go_wp2_with fail
  rw [← HW.out]
  refine wp_region_quiet_below (by kernel_rfl) (by kernel_rfl) ?_
  repeat (go_big_quiet_step (first | (go_at_call_of 129 K; exact Calls.regrown_of (fk _)) | (go_at_call_of 129 (L.length : Int); exact Calls.regrown_of (fn _))))
  refine wpQuiet_nil ?_
  intro w4 hw'
  obtain ⟨⟨dq, osq⟩, hw''⟩ := hw'
  have b4 : Below W.heap.size W w4 := by rw [hw'']; exact below_regrown W dq osq
  have HB4 := Fk.hide b4
  clear hw'' r0 r1 fk fn b4
  have HC := Fk.hide (fun k => Rc.id_bd (K := K) (L := L) HR.out k)
  have HT := Fk.hide (fun k => Rc.textAt_small (K := K) (L := L) HR.out k)
  have HRS := Fk.hide (fun k => Rc.row_size (K := K) (L := L) HR.out k)
  go_wp2_with fail
  go_loopw [3, 4] (fun u i wr => ∃ k : Nat, k ≤ L.length ∧ i = .int .i64 k ∧ (∃ s : ByteArray, u = .string s ∧ Hid (s = Rc.row K L k) ∧ s.size ≤ 22 + k * 522) ∧ Hid (Below W.heap.size W wr)) (fun _ i _ => L.length - (intOf i).toNat)
  case atStart => exact ⟨0, Nat.zero_le _, rfl, ⟨_, rfl, HT0.out, by rw [ByteArray.size_append]; omega⟩, HB4.out⟩
  case round =>
    obtain ⟨k, hk, rfl, ⟨s, rfl, HS, hss⟩, bel⟩ := hrel
    have q1 : wr.cell? ⟨w.heap.size, 1, none⟩ = some (.slice a L.length cap) := (bel.out.cell (by exact hsz)).trans c1
    by_cases hlt : k < L.length
    · obtain ⟨b, o, rfl, hb, hs1⟩ := hs (by omega)
      have x0 := Fd.c0 (hs1.below hb bel.out) hlt
      have x1 := Fd.c1 (hs1.below hb bel.out) hlt
      change wr.cell? _ = some (.int .i64 (Rc.idAt L k)) at x0
      change wr.cell? _ = some (.string (Rc.textAt L k)) at x1
      have hid := HC.out k hlt
      have htx := HT.out k
      have hrow := HRS.out (k + 1)
      have hnx : Rc.row K L (k + 1) = Rc.row K L k ++ Pn.putNum (Rc.idAt L k) ++ putText (Rc.textAt L k) := rfl
      rw [← HS.out] at hnx
      obtain ⟨i, hi'⟩ : ∃ i, i = Rc.idAt L k := ⟨_, rfl⟩
      obtain ⟨t, ht'⟩ : ∃ t, t = Rc.textAt L k := ⟨_, rfl⟩
      rw [← hi'] at x0 hid hnx
      rw [← ht'] at x1 htx hnx
      clear hi' ht'
      obtain ⟨si, hsi⟩ : ∃ s, s = Pn.putNum i := ⟨_, rfl⟩
      obtain ⟨st, hst⟩ : ∃ s, s = putText t := ⟨_, rfl⟩
      have fi : ∀ w', Calls Try.prog 129 #[.int .i64 i] w' fun e w'' => e = .returned (.string si) ∧ Below w'.heap.size w' w'' := fun w' => by rw [hsi]; exact specPut_any i w' (by omega) (by omega)
      have ft : ∀ w', Calls Try.prog 162 #[.string t] w' fun e w'' => e = .returned (.string st) ∧ Below w'.heap.size w' w'' := fun w' => by rw [hst]; exact specPutText_any t w' (by unfold maxLen; omega)
      rw [← hsi, ← hst] at hnx
      rw [hnx] at hrow
      have HNX := Fk.hide hnx
      have hrow' : (s ++ si ++ st).size ≤ 22 + (k + 1) * 522 := hrow
      have hzz : s.size + si.size + st.size ≤ 22 + (k + 1) * 522 := by rw [ByteArray.size_append, ByteArray.size_append] at hrow'; exact hrow'
      have HRW := Fk.hide hrow'
      clear hsi hst hnx hid htx hrow hrow'
      have r0 := cell_regrown q1
      have r1 := cell_regrown x0
      have r2 := cell_regrown x1
      have k0 : (0 : Int) ≤ (k : Int) := Int.natCast_nonneg _
      have k1 : (k : Int) < (L.length : Int) := by omega
      go_wp2_with fail
      refine wp_region_quiet_below (by kernel_rfl) (by kernel_rfl) ?_
      repeat (go_big_quiet_step (first | (go_at_call 129; exact Calls.regrown_of (fi _)) | (go_at_call 162; exact Calls.regrown_of (ft _))))
      refine wpQuiet_nil ?_
      intro w6 hw'
      obtain ⟨⟨dq2, osq2⟩, hw''⟩ := hw'
      have b6 : Below wr.heap.size wr w6 := by rw [hw'']; exact below_regrown wr dq2 osq2
      have B6 := Fk.hide (bel.out.trans (b6.mono bel.out.size))
      clear hw'' b6 r0 r1 r2 fi ft x0 x1 q1 hs
      go_wp2_with fail
      go_roundw
      case rel => exact ⟨k + 1, by omega, by go_num, ⟨_, rfl, HNX.out.symm, HRW.out⟩, B6.out⟩
      case measure => simp [intOf]; omega
    · have e : k = L.length := by omega
      subst e
      have B6 := Fk.hide (HB0.out.trans (bel.out.mono HB0.out.size))
      clear hs bel
      by_cases hbig : 7990 < s.size
      · have HA : Hid (Rc.bytes K L = ByteArray.empty) := Rc.bytes_long (by rw [← HS.out]; exact hbig)
        have hb1 : (7990 : Int) < (s.size : Int) := by omega
        go_wp2_with fail
        go_ret
        exact ⟨by rw [HA.out]; rfl, B6.out⟩
      · have HA : Hid (Rc.bytes K L = putText s) := by show _ = _; rw [HS.out]; exact Rc.bytes_ok HR.out (by rw [← HS.out]; omega)
        have hb1 : ¬ (7990 : Int) < (s.size : Int) := by omega
        go_wp2_with fail
        refine (specPutText_any _ _ (by unfold maxLen; omega)).mono ?_
        rintro e w7 ⟨rfl, b7⟩
        have B7 := Fk.hide (B6.out.trans (b7.mono B6.out.size))
        clear b7
        go_wp2_with fail
        go_ret
        exact ⟨by rw [HA.out]; rfl, B7.out⟩

set_option maxHeartbeats 4000000 in
theorem recBytes_spec (K : Int) (v : Value) (L : List Fd.E) (w : World) (hv : Rk.View Fd.S w v L) (hL : ∀ f ∈ L, Fd.Fit f) (hl : L.length ≤ maxLen) :
    Calls Try.prog 95 #[.agg #[.int .i64 K, v]] w fun e w' => e = .returned (.string (Rc.bytes K L)) ∧ Below w.heap.size w w' := by
  obtain ⟨W, hW⟩ : ∃ W, W = w.alloc (.cells #[.int .i64 K, v] 131) := ⟨_, rfl⟩
  have b0 : Below w.heap.size w W := by rw [hW]; exact (Below.refl _ _).alloc (Nat.le_refl _) _
  have hv' := hv.below b0
  have c0 : W.cell? ⟨w.heap.size, 0, none⟩ = some (.int .i64 K) := by rw [hW, Fk.cellTop _ _ _ _ _ rfl]; rfl
  have c1 : W.cell? ⟨w.heap.size, 1, none⟩ = some v := by rw [hW, Fk.cellTop _ _ _ _ _ rfl]; rfl
  have hsz : w.heap.size < W.heap.size := by rw [hW]; simp
  have HW := Fk.hide hW
  have HB0 := Fk.hide b0
  clear hW hv b0
  have HV := Fk.hide hv'
  obtain ⟨a, cap, rfl, _⟩ := hv'
  go_enter Try.func95, Try.ntmps95
  go_wp2_with fail
  rw [← HW.out]
  refine (recRight_spec K _ L _ HV.out hL hl).mono ?_
  rintro e w1 ⟨rfl, b1⟩
  have q0 : w1.cell? ⟨w.heap.size, 0, none⟩ = some (.int .i64 K) := (b1.cell (by exact hsz)).trans c0
  have q1 : w1.cell? ⟨w.heap.size, 1, none⟩ = some (.slice a L.length cap) := (b1.cell (by exact hsz)).trans c1
  have B1 := Fk.hide (HB0.out.trans (b1.mono HB0.out.size))
  have HV1 := Fk.hide (HV.out.below b1)
  clear b1 c0 c1
  obtain ⟨rb, hrb⟩ : ∃ rb, rb = Rc.right K L := ⟨_, rfl⟩
  have HR := Fk.hide hrb
  rw [← hrb]
  clear hrb
  cases rb with
  | false =>
    have HA : Hid (Rc.bytes K L = ByteArray.empty) := Rc.bytes_ill HR.out.symm
    go_wp2_with fail
    go_ret
    exact ⟨by rw [HA.out]; rfl, B1.out⟩
  | true =>
    go_wp2_with fail
    refine (l03Bytes_any K _ L _ HV1.out HR.out.symm).mono ?_
    rintro e w2 ⟨rfl, b2⟩
    have B2 := Fk.hide (B1.out.trans (b2.mono B1.out.size))
    clear b2
    go_wp2_with fail
    go_ret
    exact ⟨rfl, B2.out⟩
end Go.Proofs.Ytjagohadeegghaa

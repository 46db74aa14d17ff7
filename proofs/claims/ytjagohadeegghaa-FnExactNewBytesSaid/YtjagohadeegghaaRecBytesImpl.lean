/- The walk of the program's RecBytes. -/
import Derived.Test.YtjagohadeegghaaRecBytesMath
import Derived.Test.YtjagohadeegghaaRecRightImpl
import Derived.Test.YtjagohadeegghaaQuietTail
import Derived.Deep.RegionHeld3
import Derived.Deep.AppendLies
import Derived.Deep.DrawnRows
namespace Go.Proofs.Ytjagohadeegghaa
open Go.RowKit
set_option linter.unusedVariables false
set_option linter.unusedSimpArgs false
theorem infoStr : (Try.prog.info? 9).map (fun i => (i.zero, i.size, i.bytes)) = some (some (.string ByteArray.empty), 1, 16) := by kernel_rfl

set_option maxHeartbeats 4000000 in
theorem recBytes_impl (K : Int) (v : Value) (L : List Fd.E) (w : World) (hv : Rk.View Fd.S w v L) (hL : ∀ f ∈ L, Fd.Fit f) (hl : L.length ≤ maxLen) :
    Calls Try.prog 134 #[.agg #[.int .i64 K, v]] w fun e w' => e = .returned (.string (Rc.bytes K L)) ∧ Below w.heap.size w w' := by
  obtain ⟨i0, hi, hz0, hz1, hz2⟩ := info_parts infoStr
  have hzs : (Value.string ByteArray.empty).cells.size = 1 := by kernel_rfl
  obtain ⟨W, hW⟩ : ∃ W, W = w.alloc (.cells #[.int .i64 K, v] 131) := ⟨_, rfl⟩
  have b0 : Below w.heap.size w W := by rw [hW]; exact (Below.refl _ _).alloc (Nat.le_refl _) _
  have hv' := hv.below b0
  have hcell0 : W.cell? ⟨w.heap.size, 0, none⟩ = some (.int .i64 K) := by rw [hW, Fk.cellTop _ _ _ _ _ rfl]; rfl
  have hcell : W.cell? ⟨w.heap.size, 1, none⟩ = some v := by rw [hW, Fk.cellTop _ _ _ _ _ rfl]; rfl
  have hsz : W.heap.size = w.heap.size + 1 := by rw [hW]; simp
  have HW := Fk.hide hW
  clear hW hv
  have HV := Fk.hide hv'
  obtain ⟨a, cap, rfl, hs⟩ := hv'
  go_enter Try.func134, Try.ntmps134
  go_wp2_with fail
  rw [← HW.out]
  refine (recRight_impl K _ L _ HV.out hL hl).mono ?_
  rintro e w1 ⟨rfl, b1⟩
  have c0 : w1.cell? ⟨w.heap.size, 0, none⟩ = some (.int .i64 K) := (b1.cell (by show w.heap.size < _; omega)).trans hcell0
  have c1 : w1.cell? ⟨w.heap.size, 1, none⟩ = some (.slice a L.length cap) := (b1.cell (by show w.heap.size < _; omega)).trans hcell
  have B1 := Fk.hide (b0.trans (b1.mono b0.size))
  have hz1' := b1.size
  have HV1 := Fk.hide (HV.out.below b1)
  clear b1 hcell hcell0
  obtain ⟨rb, hrb⟩ : ∃ rb, rb = Rc.right K L := ⟨_, rfl⟩
  have HR := Fk.hide hrb
  rw [← hrb]
  clear hrb
  cases rb with
  | false =>
    have HA : Hid (Rc.bytes K L = ByteArray.empty) := Rc.bytes_ill HR.out.symm
    go_wp2_with fail
    go_ret
    exact ⟨by rw [HA.out]; rfl, B1.out⟩
  | true =>
    have hin := Rc.right_inv HR.out.symm
    have h30 := hin.1.2.2
    have hK0 := hin.1.1
    have hK1 := hin.1.2.1
    clear hin
    have r0 := cell_regrown c0
    have r1 := cell_regrown c1
    obtain ⟨sn, hsn⟩ : ∃ s, s = Pn.putNum (L.length : Int) := ⟨_, rfl⟩
    obtain ⟨sk, hsk⟩ : ∃ s, s = Pn.putNum K := ⟨_, rfl⟩
    have HSN := Fk.hide hsn
    have HSK := Fk.hide hsk
    have fk : ∀ w', Calls Try.prog 131 #[.int .i64 K] w' fun e w'' => e = .returned (.string sk) ∧ Below w'.heap.size w' w'' := fun w' => by rw [hsk]; exact implPut_any K w' (by omega) (by omega)
    have fn : ∀ w', Calls Try.prog 131 #[.int .i64 (L.length : Int)] w' fun e w'' => e = .returned (.string sn) ∧ Below w'.heap.size w' w'' := fun w' => by rw [hsn]; exact implPut_any _ w' (by omega) (by omega)
    clear hsn hsk
    go_wp2_with fail
    refine Qt.region_below_tail 7 (by kernel_rfl) (by kernel_rfl) ?_
    simp only [List.take_succ_cons, List.take_zero, List.drop_succ_cons, List.drop_zero]
    repeat (go_big_quiet_step (first | (go_at_call_of 131 K; exact Calls.regrown_of (fk _)) | (go_at_call_of 131 (L.length : Int); exact Calls.regrown_of (fn _))))
    refine wpQuiet_nil ?_
    intro w4 hw'
    obtain ⟨⟨dq, osq⟩, hw''⟩ := hw'
    have b4 : Below w1.heap.size w1 w4 := by rw [hw'']; exact below_regrown w1 dq osq
    have q1 : w4.cell? ⟨w.heap.size, 1, none⟩ = some (.slice a L.length cap) := (b4.cell (by show w.heap.size < _; omega)).trans c1
    have hz4 : w.heap.size < w4.heap.size := by have := b4.size; omega
    have B4 : Below w.heap.size w w4 := B1.out.trans (b4.mono B1.out.size)
    have HV4 := Fk.hide (HV1.out.below b4)
    clear hw'' b4 r0 r1 fk fn c0 c1 HV1
    obtain ⟨W5, hW5⟩ : ∃ W, W = w4.alloc (.cells #[.string sk, .string sn] 9) := ⟨_, rfl⟩
    have O5 : Rk.Own Ts.S W5 w4.heap.size 9 (.slice (some ⟨w4.heap.size, 0, none⟩) 2 2) (Rc.parts K L 0) := by
      rw [hW5, Rc.parts, ← HSK.out, ← HSN.out]; exact Ts.lit2 w4 sk sn _ _ (Nat.le_refl _)
    have B5 : Below w.heap.size w W5 := by rw [hW5]; exact B4.alloc (B4.size) _
    have q5 : W5.cell? ⟨w.heap.size, 1, none⟩ = some (.slice a L.length cap) := by rw [hW5, Fk.cellOld _ _ _ _ hz4]; exact q1
    have q5l : (w4.alloc (.cells #[.string sk, .string sn] 9)).cell? ⟨w.heap.size, 1, none⟩ = some (.slice a L.length cap) := by rw [← hW5]; exact q5
    have BW5 : Hid (Below w4.heap.size w4 W5) := by show Below _ _ _; rw [hW5]; exact (Below.refl _ _).alloc (Nat.le_refl _) _
    have hzz4 : w4.heap.size ≤ W5.heap.size := by rw [hW5]; simp
    have HW5 := Fk.hide hW5
    have HO5 := Fk.hide O5
    have HB5 := Fk.hide B5
    have HB4 := Fk.hide B4
    clear hW5 O5 B5 B4 hs hz1' b0 hL hl q5
    set_option maxRecDepth 20000 in
    go_wp2_with fail
    rw [← HW5.out]
    clear q5l
    obtain ⟨a', cap', hveq, hs⟩ := HV4.out
    simp only [Value.slice.injEq] at hveq
    obtain ⟨rfl, _, rfl⟩ := hveq
    have HC := Fk.hide (fun k => Rc.id_bd (K := K) (L := L) HR.out.symm k)
    have HT := Fk.hide (fun k => Rc.textAt_small (K := K) (L := L) HR.out.symm k)
    go_loopw [3, 20] (fun u i wr => ∃ k : Nat, k ≤ L.length ∧ i = .int .i64 k ∧ Hid (Rk.Own Ts.S wr w4.heap.size 9 u (Rc.parts K L k)) ∧ Hid (Below w4.heap.size w4 wr)) (fun _ i _ => L.length - (intOf i).toNat)
    case atStart => exact ⟨0, Nat.zero_le _, rfl, HO5.out, BW5.out⟩
    case round =>
      obtain ⟨k, hk, rfl, HO, bel⟩ := hrel
      obtain ⟨ua, uc, hu⟩ := HO.out.slice
      obtain ⟨un, hun⟩ : ∃ n, n = (Rc.parts K L k).length := ⟨_, rfl⟩
      rw [← hun] at hu
      have hun2 : un ≤ 62 := by rw [hun, Rc.parts_length]; omega
      clear hun
      subst hu
      have q1r : wr.cell? ⟨w.heap.size, 1, none⟩ = some (.slice a L.length cap) := (bel.out.cell (by exact hz4)).trans q1
      by_cases hlt : k < L.length
      · obtain ⟨b, o, rfl, hb, hs1⟩ := hs (by omega)
        have x0 := Fd.c0 (hs1.below hb bel.out) hlt
        have x1 := Fd.c1 (hs1.below hb bel.out) hlt
        have v0 := Fd.c0 hs1 hlt
        have v1 := Fd.c1 hs1 hlt
        change w4.cell? _ = some (.int .i64 (Rc.idAt L k)) at v0
        change w4.cell? _ = some (.string (Rc.textAt L k)) at v1
        change wr.cell? _ = some (.int .i64 (Rc.idAt L k)) at x0
        change wr.cell? _ = some (.string (Rc.textAt L k)) at x1
        have hid := HC.out k hlt
        have htx := HT.out k
        have hnx : Rc.parts K L (k + 1) = Rc.parts K L k ++ [Pn.putNum (Rc.idAt L k), putText (Rc.textAt L k)] := rfl
        obtain ⟨i, hi'⟩ : ∃ i, i = Rc.idAt L k := ⟨_, rfl⟩
        obtain ⟨t, ht'⟩ : ∃ t, t = Rc.textAt L k := ⟨_, rfl⟩
        rw [← hi'] at x0 v0 hid hnx
        rw [← ht'] at x1 v1 htx hnx
        clear hi' ht'
        obtain ⟨si, hsi⟩ : ∃ s, s = Pn.putNum i := ⟨_, rfl⟩
        obtain ⟨st, hst⟩ : ∃ s, s = putText t := ⟨_, rfl⟩
        have fi : ∀ w', Calls Try.prog 131 #[.int .i64 i] w' fun e w'' => e = .returned (.string si) ∧ Below w'.heap.size w' w'' := fun w' => by rw [hsi]; exact implPut_any i w' (by omega) (by omega)
        have ft : ∀ w', Calls Try.prog 171 #[.string t] w' fun e w'' => e = .returned (.string st) ∧ Below w'.heap.size w' w'' := fun w' => by rw [hst]; exact implPutText_any t w' (by unfold maxLen; omega)
        rw [← hsi, ← hst] at hnx
        have HNX := Fk.hide hnx
        clear hsi hst hnx hid htx
        have hbr : b < wr.heap.size := Nat.lt_of_lt_of_le hb bel.out.size
        have hwr : w.heap.size < wr.heap.size := Nat.lt_of_lt_of_le hz4 bel.out.size
        have hk0 : (0 : Int) ≤ (k : Int) := Int.natCast_nonneg _
        have hk1 : (k : Int) < (L.length : Int) := by omega
        have HQ := Fk.hide (⟨q1r, x0, x1⟩ : _ ∧ _ ∧ _)
        have HX := Fk.hide (⟨q1, v0, v1⟩ : _ ∧ _ ∧ _)
        clear v0 v1
        have L7 : Hid ((Rc.parts K L k).length = un) := by have := HO.out.slice; show _ = _; obtain ⟨_, _, h⟩ := this; simp only [Value.slice.injEq] at h; exact h.2.1.symm
        have NX : Hid (∀ w6, Below wr.heap.size wr w6 → (w6.alloc (.cells #[.string si, .string st] 9)).ownsRow w4.heap.size 9 1 (.slice ua un uc) un (Rk.flat Ts.S (Rc.parts K L k)) ∧ Below w4.heap.size w4 (w6.alloc (.cells #[.string si, .string st] 9)) ∧ w4.heap.size ≤ (w6.alloc (.cells #[.string si, .string st] 9)).heap.size) := by
          intro w6 b6
          have O6 := HO.out.below b6
          have B6 : Below w4.heap.size w4 w6 := bel.out.trans (b6.mono bel.out.size)
          have b7 : Below w6.heap.size w6 (w6.alloc (.cells #[.string si, .string st] 9)) := (Below.refl _ _).alloc (Nat.le_refl _) _
          refine ⟨?_, B6.trans (b7.mono B6.size), by have := B6.size; simp; omega⟩
          have := O6.below b7
          unfold Rk.Own at this
          rw [L7.out] at this
          exact this
        have HB : Hid (Below wr.heap.size wr wr.drew) := Below.drew (Below.refl _ _)
        clear hs hs1 bel HO
        go_wp2_with fail
        go_region_held3 (fun w' => w'.cell? ⟨w.heap.size, 1, none⟩ = some (.slice (some ⟨b, o, none⟩) L.length cap) ∧ w'.cell? ⟨b, o + k * 2, none⟩ = some (.int .i64 i) ∧ w'.cell? ⟨b, o + k * 2 + 1, none⟩ = some (.string t))
          (first | go_keep | (go_split_ands; exact ⟨by assumption, by assumption, by assumption⟩))
          (first
            | (go_at_call 131; refine (fi _).mono ?_; rintro e w5 ⟨rfl, b5⟩; have B5 : Below wr.heap.size wr w5 := HB.out.trans b5; have y0 := (B5.cell (p := ⟨w.heap.size, 1, none⟩) hwr).trans HQ.out.1; have y1 := (B5.cell (p := ⟨b, o + k * 2, none⟩) hbr).trans HQ.out.2.1; have y2 := (B5.cell (p := ⟨b, o + k * 2 + 1, none⟩) hbr).trans HQ.out.2.2; have HB5 := Fk.hide B5; clear B5 b5)
            | (go_at_call 171; refine (ft _).mono ?_; rintro e w6 ⟨rfl, b6⟩; have B6 : Below wr.heap.size wr w6 := HB5.out.trans (b6.mono HB5.out.size); have z0 := (B6.cell (p := ⟨w.heap.size, 1, none⟩) hwr).trans HQ.out.1; have z1 := (B6.cell (p := ⟨b, o + k * 2, none⟩) hbr).trans HQ.out.2.1; have z2 := (B6.cell (p := ⟨b, o + k * 2 + 1, none⟩) hbr).trans HQ.out.2.2; have N7 := Fk.hide (NX.out w6 B6); have HB6 := Fk.hide B6; clear B6 b6)
            | (refine step_append_lies _ (by rfl) _ _ _ (by rfl) w4.heap.size 9 i0 _ 1 16 Try.underlying195 hi hz0 hz1 hz2 hzs (by decide) (.slice ua un uc) un (Rk.flat Ts.S (Rc.parts K L k)) (by rfl) N7.out.1 ⟨w6.heap.size, 0, none⟩ 2 2 [.string si, .string st] (by rfl) (by rfl) (World.news_of_block (cs := #[.string si, .string st]) (t := 9) (fr := (0, 0)) (heap_alloc_new w6 _)) (by simp [Value.oneCell']) (by omega) (by unfold maxLen; omega) (by omega) N7.out.2.2 (w6.heap.size + 1) (by simp) ?_; intro gg cc w8 o8 g8 hat hlt8; have B8 := N7.out.2.1.grown g8 N7.out.2.1.size (fun j hj => (World.ownsRow.lt N7.out.1 j hj).1); have u0 := (B8.cell (p := ⟨w.heap.size, 1, none⟩) hz4).trans HX.out.1; have u1 := (B8.cell (p := ⟨b, o + k * 2, none⟩) hb).trans HX.out.2.1; have u2 := (B8.cell (p := ⟨b, o + k * 2 + 1, none⟩) hb).trans HX.out.2.2; have HB8 := Fk.hide B8; have HO8 := Fk.hide o8; clear B8 o8 g8 hat))
        go_wp2_with fail
        go_roundw
        case rel =>
          refine ⟨k + 1, by omega, by go_num, ?_, HB8.out⟩
          show Rk.Own _ _ _ _ _ _
          have e8 := HO8.out
          unfold Rk.Own
          rw [HNX.out, Rk.flat_append, List.length_append, L7.out]
          exact e8
        case measure => simp [intOf]; omega
      · have e : k = L.length := by omega
        subst e
        have VT : Hid (Sk.View wr (.slice ua un uc) (Rc.parts K L L.length)) := (Ts.own HO.out).view
        have HCT : Hid (Sk.cat (Rc.parts K L L.length) (Rc.parts K L L.length).length = Rc.row K L L.length) := Rc.cat_parts K L _
        have HLN : Hid ((Rc.parts K L L.length).length ≤ 1048576) := by show _ ≤ _; rw [Rc.parts_length]; omega
        have HRS : Hid ((Rc.row K L L.length).size ≤ 22 + L.length * 522) := Rc.row_size HR.out.symm _
        have HTT : Hid (Sk.tot (Rc.parts K L L.length) (Rc.parts K L L.length).length ≤ 1073741824) := by show _ ≤ _; rw [← Sk.cat_size, HCT.out]; have := HRS.out; omega
        clear hs HO
        go_wp2_with fail
        refine (join_list _ _ _ VT.out HLN.out HTT.out).mono ?_
        rintro e w6 ⟨rfl, b6⟩
        rw [HCT.out]
        have hrs := HRS.out
        obtain ⟨rw_, hrw⟩ : ∃ r, r = Rc.row K L L.length := ⟨_, rfl⟩
        rw [← hrw] at hrs ⊢
        have HRW := Fk.hide hrw
        have B6 := Fk.hide (HB4.out.trans ((bel.out.trans (b6.mono bel.out.size)).mono HB4.out.size))
        clear hrw b6 bel
        by_cases hbig : 7990 < rw_.size
        · have HA : Hid (Rc.bytes K L = ByteArray.empty) := Rc.bytes_long (by rw [← HRW.out]; exact hbig)
          have hb1 : (7990 : Int) < (rw_.size : Int) := by omega
          go_wp2_with fail
          go_ret
          exact ⟨by rw [HA.out]; rfl, B6.out⟩
        · have HA : Hid (Rc.bytes K L = putText rw_) := by show _ = _; rw [HRW.out]; exact Rc.bytes_ok HR.out.symm (by rw [← HRW.out]; omega)
          have hb1 : ¬ (7990 : Int) < (rw_.size : Int) := by omega
          go_wp2_with fail
          refine (implPutText_any _ _ (by unfold maxLen; omega)).mono ?_
          rintro e w7 ⟨rfl, b7⟩
          have B7 := Fk.hide (B6.out.trans (b7.mono B6.out.size))
          clear b7
          go_wp2_with fail
          go_ret
          exact ⟨by rw [HA.out]; rfl, B7.out⟩
end Go.Proofs.Ytjagohadeegghaa

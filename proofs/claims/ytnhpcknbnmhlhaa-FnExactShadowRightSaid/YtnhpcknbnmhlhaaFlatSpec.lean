/- The walk of the specification's l07Flat. -/
import Derived.Test.YtnhpcknbnmhlhaaNewMath
import Derived.Test.YtnhpcknbnmhlhaaOldBothSpec
namespace Go.Proofs.Ytnhpcknbnmhlhaa
open Go.RowKit
set_option linter.unusedVariables false
set_option linter.unusedSimpArgs false
set_option maxRecDepth 100000 in
set_option maxHeartbeats 8000000 in
theorem l07Flat_any (v : Value) (L : List Lv.E) (w : World) (hv : Lv.View w v L) (hl : L.length ≤ 1048576) (hm : (Nb.flat L).length ≤ 1048576) :
    Calls Try.prog 40 #[v] w fun e w' => (∃ u F, e = .returned (.tuple #[u, .bool (Nb.lvls L)]) ∧ Rk.Own Or.S w' w.heap.size 87 u F ∧ F.length ≤ 1048576 ∧ (Nb.lvls L = true → F = Nb.flat L)) ∧ Below w.heap.size w w' := by
  obtain ⟨i0, hi, hz0, hz1, hz2⟩ := info_parts infoOrdS
  have HV := Fk.hide hv
  have HM : Hid (∀ i, i < L.length → (Lv.at' L i).2.length ≤ 1048576) := fun i hi => Nat.le_trans (Nb.each_le L i hi) hm
  obtain ⟨a, cap, rfl⟩ := hv.slice
  clear hv
  have hM0 : Rk.Own Or.S (w.alloc (.cells #[] 87)) w.heap.size 87 (.slice (some ⟨w.heap.size, 0, none⟩) 0 0) [] := Rk.own_empty w 87 w.heap.size (Nat.le_refl _)
  have b0 : Below w.heap.size w (w.alloc (.cells #[] 87)) := (Below.refl _ _).alloc (Nat.le_refl _) _
  go_enter Try.func40, Try.ntmps40
  go_wp2_with fail
  go_loopw [4, 5] (fun out i wr => ∃ (k : Nat) (ua : Option Addr) (un uc : Nat), k ≤ L.length ∧ out = .slice ua un uc ∧ i = .int .i64 k ∧ Hid (∀ j, j < k → Nb.lvl L j = true) ∧ Hid (Rk.Own Or.S wr w.heap.size 87 (.slice ua un uc) (Nb.flat (L.take k))) ∧ Below w.heap.size w wr) (fun _ i _ => L.length - (intOf i).toNat)
  case atStart => exact ⟨0, _, _, _, Nat.zero_le _, rfl, rfl, fun j hj => absurd hj (by omega), (by show Rk.Own _ _ _ _ _ _; simp only [List.take_zero, Nb.flat_none]; exact hM0), b0⟩
  case round =>
    obtain ⟨k, ua, un, uc, hk, rfl, rfl, HK, HO, bel⟩ := hrel
    clear hM0 b0
    obtain ⟨X, hwo⟩ : ∃ x, x = wr := ⟨_, rfl⟩
    subst hwo
    by_cases hlt : k < L.length
    · obtain ⟨b, o, q, m, c, rfl, hb, x0, x1, hmm, hvi, hsh⟩ := (HV.out.below bel).at hlt
      obtain ⟨e, he⟩ : ∃ e, e = Lv.at' L k := ⟨_, rfl⟩
      rw [← he] at x0 hmm hvi
      have HE := Fk.hide he
      have hm1 : e.2.length ≤ 1048576 := by rw [he]; exact HM.out k hlt
      have hpl : (Nb.flat (L.take k)).length + e.2.length ≤ 1048576 := by rw [he]; exact Nat.le_trans (Nb.part_le L k hlt) hm
      have HST : Hid (Nb.flat (L.take (k + 1)) = Nb.flat (L.take k) ++ e.2) := by rw [he]; exact Nb.flat_step L k hlt
      clear he
      obtain ⟨F, hF⟩ : ∃ F, F = Nb.flat (L.take k) := ⟨_, rfl⟩
      obtain ⟨E2, hE2⟩ : ∃ E2, E2 = e.2 := ⟨_, rfl⟩
      rw [← hE2] at hmm hvi hm1 HST hpl
      rw [← hF] at HO HST hpl
      have HE2 := Fk.hide hE2
      clear hE2 hF
      subst hmm
      have HBX := Fk.hide bel
      have HVX := Fk.hide hvi
      have HSH := Fk.hide hsh
      have HPV : Hid (0 < k → X.cell? ⟨b, o + (k - 1) * 2, none⟩ = some (.int .i64 (Lv.at' L (k - 1)).1)) := by
        intro hk0
        obtain ⟨b', o', _, _, _, ee, _, pp, _⟩ := (HV.out.below HBX.out).at (i := k - 1) (by omega)
        simp only [Option.some.injEq, Addr.mk.injEq] at ee
        rw [ee.1, ee.2.1]; exact pp
      clear hvi bel hsh
      have r0 := cell_regrown x0
      have r1 := cell_regrown x1
      go_wp2_with fail
      by_cases c0 : E2.length = 0
      · have d1 : ((E2.length : Int) == 0) = true := by simpa using c0
        have d2 : decide ((E2.length : Int) = 0) = true := by simpa using c0
        have HC := Fk.hide c0
        clear c0
        refine wp_region_quiet_below (by kernel_rfl) (by kernel_rfl) ?_
        repeat (go_big_quiet_step (fail))
        refine wpQuiet_nil ?_
        intro w4 hw'
        obtain ⟨⟨dq, osq⟩, hw''⟩ := hw'
        have k4 : Below X.heap.size X w4 := by rw [hw'']; exact below_regrown X dq osq
        have HB4 : Hid (Below w.heap.size w w4) := HBX.out.trans (k4.mono HBX.out.size)
        have z0 := (k4.cell (p := ⟨b, o + k * 2, none⟩) (by show b < _; omega)).trans x0
        have z1 := (k4.cell (p := ⟨b, o + k * 2 + 1, none⟩) (by show b < _; omega)).trans x1
        have HV4 := Fk.hide (HVX.out.below k4)
        have HO4 := Fk.hide (HO.out.below k4)
        have hz4 : b < w4.heap.size := Nat.lt_of_lt_of_le hb k4.size
        clear hw'' k4 r0 r1 x0 x1 HVX HPV HO
        have hh : Nb.head L k = false := by unfold Nb.head; rw [← HE.out, ← HE2.out, HC.out]; rfl
        have HHF := Fk.hide hh
        clear hh
        have HN : Hid (Nb.lvls L = false) := Ob.upTo_no hlt (by show Nb.lvl L k = false; unfold Nb.lvl; rw [HHF.out]; rfl)
        go_wp2_with fail
        refine bodyPost_ret (v := .tuple #[.slice ua un uc, .bool false]) (by simp [results, Try.results40, go_sem]) rfl ⟨⟨_, F, by rw [HN.out], HO4.out, by omega, fun h => by rw [HN.out] at h; cases h⟩, HB4.out⟩
      · have d1 : ((E2.length : Int) == 0) = false := by simpa using c0
        have d2 : decide ((E2.length : Int) = 0) = false := by simpa using c0
        have d3 : ¬ ((E2.length : Int) = 0) := by omega
        by_cases ck : k = 0
        · have d4 : decide ((0 : Int) < (k : Int)) = false := decide_eq_false (by omega)
          have d5 : ¬ ((0 : Int) < (k : Int)) := by omega
          have d6 : decide (0 < k) = false := decide_eq_false (by omega)
          have HC := Fk.hide ck
          clear ck
          refine wp_region_quiet_below (by kernel_rfl) (by kernel_rfl) ?_
          repeat (go_big_quiet_step (fail))
          refine wpQuiet_nil ?_
          intro w4 hw'
          obtain ⟨⟨dq, osq⟩, hw''⟩ := hw'
          have k4 : Below X.heap.size X w4 := by rw [hw'']; exact below_regrown X dq osq
          have HB4 : Hid (Below w.heap.size w w4) := HBX.out.trans (k4.mono HBX.out.size)
          have z0 := (k4.cell (p := ⟨b, o + k * 2, none⟩) (by show b < _; omega)).trans x0
          have z1 := (k4.cell (p := ⟨b, o + k * 2 + 1, none⟩) (by show b < _; omega)).trans x1
          have HV4 := Fk.hide (HVX.out.below k4)
          have HO4 := Fk.hide (HO.out.below k4)
          have hz4 : b < w4.heap.size := Nat.lt_of_lt_of_le hb k4.size
          clear hw'' k4 r0 r1 x0 x1 HVX HPV HO
          have HH : Hid (Nb.head L k = true) := by
            show _ = _
            unfold Nb.head
            rw [← HE.out, ← HE2.out, HC.out]
            simp [c0]
          go_wp2_with fail
          go_loopw [6] (fun i ws => ∃ m : Nat, m ≤ E2.length ∧ i = .int .i64 m ∧ Hid (∀ j, j < m → decide ((Ob.at' E2 j).2.2.1 = e.1) = true) ∧ Below w4.heap.size w4 ws) (fun i _ => E2.length - (intOf i).toNat)
          case atStart => exact ⟨0, Nat.zero_le _, rfl, fun j hj => absurd hj (by omega), Below.refl _ _⟩
          case round =>
            obtain ⟨m, hm, rfl, HI, bel⟩ := hrel
            have y0 := (bel.cell (p := ⟨b, o + k * 2, none⟩) (by show b < _; omega)).trans z0
            have y1 := (bel.cell (p := ⟨b, o + k * 2 + 1, none⟩) (by show b < _; omega)).trans z1
            by_cases hmt : m < E2.length
            · obtain ⟨a2, cap2, ea, hs⟩ := HV4.out
              simp only [Value.slice.injEq] at ea
              obtain ⟨b2, o2, e2, hb2, hs2⟩ := hs (by omega)
              obtain rfl : q = some ⟨b2, o2, none⟩ := by rw [ea.1, e2]
              clear ea e2 hs
              have q2 := Or.c2 (hs2.below hb2 bel) hmt
              obtain ⟨pr, hpr⟩ : ∃ x, x = (Rk.at_ Or.S E2 m).2.2.1 := ⟨_, rfl⟩
              rw [← hpr] at q2
              have HP : Hid (pr = (Ob.at' E2 m).2.2.1) := hpr
              clear hpr hs2
              have s0 := cell_regrown y0
              have s1 := cell_regrown y1
              have s2 := cell_regrown q2
              by_cases cq : pr = e.1
              · have g1 : (pr != e.1) = false := by simpa using cq
                have g2 : (pr == e.1) = true := by simpa using cq
                have g3 : decide (pr = e.1) = true := decide_eq_true cq
                have HCQ := Fk.hide cq
                clear cq
                go_wp2_with fail
                refine wp_region_quiet_below (by kernel_rfl) (by kernel_rfl) ?_
                repeat (go_big_quiet_step (fail))
                refine wpQuiet_nil ?_
                intro w5 hw'
                obtain ⟨⟨dq5, osq5⟩, hw''⟩ := hw'
                have k5 : Below wr.heap.size wr w5 := by rw [hw'']; exact below_regrown wr dq5 osq5
                have HB5 : Hid (Below w4.heap.size w4 w5) := bel.trans (k5.mono bel.size)
                clear hw'' k5 s0 s1 s2 y0 y1 q2
                have HIT : Hid (decide ((Ob.at' E2 m).2.2.1 = e.1) = true) := by show _ = _; rw [← HP.out]; exact g3
                go_wp2_with fail
                go_roundw
                case rel => exact ⟨m + 1, by omega, by go_num, fun j hj => (by rcases Nat.lt_succ_iff_lt_or_eq.1 hj with h | rfl; exact HI.out j h; exact HIT.out), HB5.out⟩
                case measure => simp [intOf]; omega
              · have g1 : (pr != e.1) = true := by simpa using cq
                have g2 : (pr == e.1) = false := by simpa using cq
                have g3 : decide (pr = e.1) = false := decide_eq_false cq
                have HG3 := Fk.hide g3
                go_wp2_with fail
                refine wp_region_quiet_below (by kernel_rfl) (by kernel_rfl) ?_
                repeat (go_big_quiet_step (fail))
                refine wpQuiet_nil ?_
                intro w5 hw'
                obtain ⟨⟨dq5, osq5⟩, hw''⟩ := hw'
                have k5 : Below wr.heap.size wr w5 := by rw [hw'']; exact below_regrown wr dq5 osq5
                have HB5 : Hid (Below w4.heap.size w4 w5) := bel.trans (k5.mono bel.size)
                clear hw'' k5 s0 s1 s2 y0 y1 q2
                have HO5 := Fk.hide (HO4.out.below HB5.out)
                have HB6 : Hid (Below w.heap.size w w5) := HB4.out.trans (HB5.out.mono HB4.out.size)
                have hpf : Nb.prices (Lv.at' L k) = false := by rw [← HE.out]; unfold Nb.prices; rw [← HE2.out]; exact Ob.upTo_no (i := m) hmt (by rw [← HP.out]; exact HG3.out)
                have HPF := Fk.hide hpf
                clear hpf
                have HN : Hid (Nb.lvls L = false) := Ob.upTo_no hlt (by show Nb.lvl L k = false; unfold Nb.lvl; rw [HPF.out, Bool.and_false])
                go_wp2_with fail
                refine bodyPost_ret (v := .tuple #[.slice ua un uc, .bool false]) (by simp [results, Try.results40, go_sem]) rfl ⟨⟨_, F, by rw [HN.out], HO5.out, by omega, fun h => by rw [HN.out] at h; cases h⟩, HB6.out⟩
            · have em : m = E2.length := by omega
              subst em
              have HLV : Hid (Nb.lvl L k = true) := by
                show _ = _
                unfold Nb.lvl Nb.prices
                rw [HH.out, ← HE.out, Bool.true_and, ← HE2.out]
                exact Ob.upTo_yes fun j hj => HI.out j hj
              have HBE : Hid (Below w.heap.size w wr) := HB4.out.trans (bel.mono HB4.out.size)
              have HO5 := Fk.hide (HO4.out.below bel)
              have HV5 := Fk.hide (HV4.out.below bel)
              clear bel
              go_wp2_with (at_builtin; refine Rk.wpList_append_view _ rfl _ _ 32 rfl w.heap.size 87 i0 _ 8 64 rfl Try.underlying32 hi hz0 hz1 hz2 rfl (by decide) _ (.slice q E2.length c) F E2 rfl rfl HO5.out HV5.out HSH.out (by omega) HBE.out.size ?_; intro u6 w6 o6 g6; have HB6 : Hid (Below w.heap.size w w6) := HBE.out.grown g6 HBE.out.size (fun j hj => (HO5.out.lt j hj).1); obtain ⟨x6, n6, c6, rfl⟩ := o6.slice'; have HO6 : Hid (Rk.Own Or.S w6 w.heap.size 87 (.slice x6 n6 c6) (Nb.flat (L.take (k + 1)))) := (by show Rk.Own _ _ _ _ _ _; rw [HST.out]; exact o6); clear o6 g6)
              go_roundw
              case rel => exact ⟨k + 1, _, _, _, by omega, rfl, by go_num, fun j hj => (by rcases Nat.lt_succ_iff_lt_or_eq.1 hj with h | rfl; exact HK.out j h; exact HLV.out), HO6, HB6.out⟩
              case measure => simp [intOf]; omega
        · have hk0 : 0 < k := by omega
          have d4 : decide ((0 : Int) < (k : Int)) = true := decide_eq_true (by omega)
          have d5 : (0 : Int) < (k : Int) := by omega
          have d5' : decide (0 < k) = true := decide_eq_true hk0
          have d6 : ((k : Int) - 1).toNat = k - 1 := by omega
          have d7 : (0 : Int) ≤ (k : Int) - 1 := by omega
          have d8 : (k : Int) - 1 < (L.length : Int) := by omega
          have d9 : decide ((k : Int) - 1 < 0) = false := decide_eq_false (by omega)
          have pp := HPV.out hk0
          obtain ⟨pr, hpr⟩ : ∃ x, x = (Lv.at' L (k - 1)).1 := ⟨_, rfl⟩
          rw [← hpr] at pp
          have HPR := Fk.hide hpr
          clear hpr
          have rp := cell_regrown pp
          by_cases cp : pr = e.1
          · have e1 : (pr == e.1) = true := by simpa using cp
            have e2 : decide (pr = e.1) = true := decide_eq_true cp
            have HC := Fk.hide cp
            clear cp
            refine wp_region_quiet_below (by kernel_rfl) (by kernel_rfl) ?_
            repeat (go_big_quiet_step (fail))
            refine wpQuiet_nil ?_
            intro w4 hw'
            obtain ⟨⟨dq, osq⟩, hw''⟩ := hw'
            have k4 : Below X.heap.size X w4 := by rw [hw'']; exact below_regrown X dq osq
            have HB4 : Hid (Below w.heap.size w w4) := HBX.out.trans (k4.mono HBX.out.size)
            have z0 := (k4.cell (p := ⟨b, o + k * 2, none⟩) (by show b < _; omega)).trans x0
            have z1 := (k4.cell (p := ⟨b, o + k * 2 + 1, none⟩) (by show b < _; omega)).trans x1
            have HV4 := Fk.hide (HVX.out.below k4)
            have HO4 := Fk.hide (HO.out.below k4)
            have hz4 : b < w4.heap.size := Nat.lt_of_lt_of_le hb k4.size
            clear hw'' k4 r0 r1 x0 x1 HVX HPV HO rp pp
            have hh : Nb.head L k = false := by unfold Nb.head; rw [← HE.out, ← HPR.out, HC.out]; simp [ck]
            have HHF := Fk.hide hh
            clear hh
            have HN : Hid (Nb.lvls L = false) := Ob.upTo_no hlt (by show Nb.lvl L k = false; unfold Nb.lvl; rw [HHF.out]; rfl)
            go_wp2_with fail
            refine bodyPost_ret (v := .tuple #[.slice ua un uc, .bool false]) (by simp [results, Try.results40, go_sem]) rfl ⟨⟨_, F, by rw [HN.out], HO4.out, by omega, fun h => by rw [HN.out] at h; cases h⟩, HB4.out⟩
          · have e1 : (pr == e.1) = false := by simpa using cp
            have e2 : decide (pr = e.1) = false := decide_eq_false cp
            have HC := Fk.hide cp
            refine wp_region_quiet_below (by kernel_rfl) (by kernel_rfl) ?_
            repeat (go_big_quiet_step (fail))
            refine wpQuiet_nil ?_
            intro w4 hw'
            obtain ⟨⟨dq, osq⟩, hw''⟩ := hw'
            have k4 : Below X.heap.size X w4 := by rw [hw'']; exact below_regrown X dq osq
            have HB4 : Hid (Below w.heap.size w w4) := HBX.out.trans (k4.mono HBX.out.size)
            have z0 := (k4.cell (p := ⟨b, o + k * 2, none⟩) (by show b < _; omega)).trans x0
            have z1 := (k4.cell (p := ⟨b, o + k * 2 + 1, none⟩) (by show b < _; omega)).trans x1
            have HV4 := Fk.hide (HVX.out.below k4)
            have HO4 := Fk.hide (HO.out.below k4)
            have hz4 : b < w4.heap.size := Nat.lt_of_lt_of_le hb k4.size
            clear hw'' k4 r0 r1 x0 x1 HVX HPV HO rp pp
            have HH : Hid (Nb.head L k = true) := by
              show _ = _
              unfold Nb.head
              rw [← HE.out, ← HE2.out, ← HPR.out]
              have := HC.out
              simp [c0, this]
            go_wp2_with fail
            go_loopw [6] (fun i ws => ∃ m : Nat, m ≤ E2.length ∧ i = .int .i64 m ∧ Hid (∀ j, j < m → decide ((Ob.at' E2 j).2.2.1 = e.1) = true) ∧ Below w4.heap.size w4 ws) (fun i _ => E2.length - (intOf i).toNat)
            case atStart => exact ⟨0, Nat.zero_le _, rfl, fun j hj => absurd hj (by omega), Below.refl _ _⟩
            case round =>
              obtain ⟨m, hm, rfl, HI, bel⟩ := hrel
              have y0 := (bel.cell (p := ⟨b, o + k * 2, none⟩) (by show b < _; omega)).trans z0
              have y1 := (bel.cell (p := ⟨b, o + k * 2 + 1, none⟩) (by show b < _; omega)).trans z1
              by_cases hmt : m < E2.length
              · obtain ⟨a2, cap2, ea, hs⟩ := HV4.out
                simp only [Value.slice.injEq] at ea
                obtain ⟨b2, o2, e2, hb2, hs2⟩ := hs (by omega)
                obtain rfl : q = some ⟨b2, o2, none⟩ := by rw [ea.1, e2]
                clear ea e2 hs
                have q2 := Or.c2 (hs2.below hb2 bel) hmt
                obtain ⟨pr, hpr⟩ : ∃ x, x = (Rk.at_ Or.S E2 m).2.2.1 := ⟨_, rfl⟩
                rw [← hpr] at q2
                have HP : Hid (pr = (Ob.at' E2 m).2.2.1) := hpr
                clear hpr hs2
                have s0 := cell_regrown y0
                have s1 := cell_regrown y1
                have s2 := cell_regrown q2
                by_cases cq : pr = e.1
                · have g1 : (pr != e.1) = false := by simpa using cq
                  have g2 : (pr == e.1) = true := by simpa using cq
                  have g3 : decide (pr = e.1) = true := decide_eq_true cq
                  have HCQ := Fk.hide cq
                  clear cq
                  go_wp2_with fail
                  refine wp_region_quiet_below (by kernel_rfl) (by kernel_rfl) ?_
                  repeat (go_big_quiet_step (fail))
                  refine wpQuiet_nil ?_
                  intro w5 hw'
                  obtain ⟨⟨dq5, osq5⟩, hw''⟩ := hw'
                  have k5 : Below wr.heap.size wr w5 := by rw [hw'']; exact below_regrown wr dq5 osq5
                  have HB5 : Hid (Below w4.heap.size w4 w5) := bel.trans (k5.mono bel.size)
                  clear hw'' k5 s0 s1 s2 y0 y1 q2
                  have HIT : Hid (decide ((Ob.at' E2 m).2.2.1 = e.1) = true) := by show _ = _; rw [← HP.out]; exact g3
                  go_wp2_with fail
                  go_roundw
                  case rel => exact ⟨m + 1, by omega, by go_num, fun j hj => (by rcases Nat.lt_succ_iff_lt_or_eq.1 hj with h | rfl; exact HI.out j h; exact HIT.out), HB5.out⟩
                  case measure => simp [intOf]; omega
                · have g1 : (pr != e.1) = true := by simpa using cq
                  have g2 : (pr == e.1) = false := by simpa using cq
                  have g3 : decide (pr = e.1) = false := decide_eq_false cq
                  have HG3 := Fk.hide g3
                  go_wp2_with fail
                  refine wp_region_quiet_below (by kernel_rfl) (by kernel_rfl) ?_
                  repeat (go_big_quiet_step (fail))
                  refine wpQuiet_nil ?_
                  intro w5 hw'
                  obtain ⟨⟨dq5, osq5⟩, hw''⟩ := hw'
                  have k5 : Below wr.heap.size wr w5 := by rw [hw'']; exact below_regrown wr dq5 osq5
                  have HB5 : Hid (Below w4.heap.size w4 w5) := bel.trans (k5.mono bel.size)
                  clear hw'' k5 s0 s1 s2 y0 y1 q2
                  have HO5 := Fk.hide (HO4.out.below HB5.out)
                  have HB6 : Hid (Below w.heap.size w w5) := HB4.out.trans (HB5.out.mono HB4.out.size)
                  have hpf : Nb.prices (Lv.at' L k) = false := by rw [← HE.out]; unfold Nb.prices; rw [← HE2.out]; exact Ob.upTo_no (i := m) hmt (by rw [← HP.out]; exact HG3.out)
                  have HPF := Fk.hide hpf
                  clear hpf
                  have HN : Hid (Nb.lvls L = false) := Ob.upTo_no hlt (by show Nb.lvl L k = false; unfold Nb.lvl; rw [HPF.out, Bool.and_false])
                  go_wp2_with fail
                  refine bodyPost_ret (v := .tuple #[.slice ua un uc, .bool false]) (by simp [results, Try.results40, go_sem]) rfl ⟨⟨_, F, by rw [HN.out], HO5.out, by omega, fun h => by rw [HN.out] at h; cases h⟩, HB6.out⟩
              · have em : m = E2.length := by omega
                subst em
                have HLV : Hid (Nb.lvl L k = true) := by
                  show _ = _
                  unfold Nb.lvl Nb.prices
                  rw [HH.out, ← HE.out, Bool.true_and, ← HE2.out]
                  exact Ob.upTo_yes fun j hj => HI.out j hj
                have HBE : Hid (Below w.heap.size w wr) := HB4.out.trans (bel.mono HB4.out.size)
                have HO5 := Fk.hide (HO4.out.below bel)
                have HV5 := Fk.hide (HV4.out.below bel)
                clear bel
                go_wp2_with (at_builtin; refine Rk.wpList_append_view _ rfl _ _ 32 rfl w.heap.size 87 i0 _ 8 64 rfl Try.underlying32 hi hz0 hz1 hz2 rfl (by decide) _ (.slice q E2.length c) F E2 rfl rfl HO5.out HV5.out HSH.out (by omega) HBE.out.size ?_; intro u6 w6 o6 g6; have HB6 : Hid (Below w.heap.size w w6) := HBE.out.grown g6 HBE.out.size (fun j hj => (HO5.out.lt j hj).1); obtain ⟨x6, n6, c6, rfl⟩ := o6.slice'; have HO6 : Hid (Rk.Own Or.S w6 w.heap.size 87 (.slice x6 n6 c6) (Nb.flat (L.take (k + 1)))) := (by show Rk.Own _ _ _ _ _ _; rw [HST.out]; exact o6); clear o6 g6)
                go_roundw
                case rel => exact ⟨k + 1, _, _, _, by omega, rfl, by go_num, fun j hj => (by rcases Nat.lt_succ_iff_lt_or_eq.1 hj with h | rfl; exact HK.out j h; exact HLV.out), HO6, HB6.out⟩
                case measure => simp [intOf]; omega
    · have e : k = L.length := by omega
      subst e
      have HE : Hid (Nb.lvls L = true) := Ob.upTo_yes HK.out
      rw [Nb.flat_all] at HO
      go_wp2_with fail
      refine bodyPost_ret (v := .tuple #[.slice ua un uc, .bool true]) (by simp [results, Try.results40, go_sem]) rfl ⟨⟨_, _, by rw [HE.out], HO.out, hm, fun _ => rfl⟩, bel⟩
end Go.Proofs.Ytnhpcknbnmhlhaa

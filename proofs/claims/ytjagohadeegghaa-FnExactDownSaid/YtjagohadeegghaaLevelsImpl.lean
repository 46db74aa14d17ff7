/- The walk of the program's levelsRight. -/
import Derived.Test.YtjagohadeegghaaNewRightImpl
namespace Go.Proofs.Ytjagohadeegghaa
open Go.RowKit
set_option linter.unusedVariables false
set_option linter.unusedSimpArgs false
set_option maxRecDepth 100000 in
set_option maxHeartbeats 8000000 in
theorem levelsRight_any (v : Value) (L : List Lv.E) (w : World) (hv : Lv.View w v L) (hl : L.length ≤ 1048576) (hm : ∀ i, i < L.length → (Lv.at' L i).2.length ≤ 1048576) :
    Calls Try.prog 85 #[v] w fun e w' => e = .returned (.bool (Nb.lvlsI L)) ∧ Below w.heap.size w w' := by
  have HV := Fk.hide hv
  have HM := Fk.hide hm
  obtain ⟨a, cap, rfl⟩ := hv.slice
  clear hv hm
  go_enter Try.func85, Try.ntmps85
  go_wp2_with fail
  go_loopw [9] (fun i wr => ∃ k : Nat, k ≤ L.length ∧ i = .int .i64 k ∧ Hid (∀ j, j < k → Nb.lvlI L j = true) ∧ Below w.heap.size w wr) (fun i _ => L.length - (intOf i).toNat)
  case atStart => exact ⟨0, Nat.zero_le _, rfl, fun j hj => absurd hj (by omega), Below.refl _ _⟩
  case round =>
    obtain ⟨k, hk, rfl, HK, bel⟩ := hrel
    obtain ⟨wo, hwo⟩ : ∃ x, x = wr := ⟨_, rfl⟩
    subst hwo
    by_cases hlt : k < L.length
    · obtain ⟨b, o, q, m, c, rfl, hb, p0, p1, hmm, hvi, _⟩ := (HV.out.below bel).at hlt
      obtain ⟨e, he⟩ : ∃ e, e = Lv.at' L k := ⟨_, rfl⟩
      rw [← he] at p0 hmm hvi
      have HE := Fk.hide he
      have hm1 : e.2.length ≤ 1048576 := by rw [he]; exact HM.out k hlt
      clear he
      obtain ⟨E2, hE2⟩ : ∃ E2, E2 = e.2 := ⟨_, rfl⟩
      rw [← hE2] at hmm hvi hm1
      have HE2 := Fk.hide hE2
      clear hE2
      subst hmm
      have HVI := Fk.hide hvi
      clear hvi
      obtain ⟨X, hX⟩ : ∃ W, W = wo.alloc (.cells #[.int .i64 e.1, .slice q E2.length c] 103) := ⟨_, rfl⟩
      have bX : Below wo.heap.size wo X := by rw [hX]; exact (Below.refl _ _).alloc (Nat.le_refl _) _
      have x0 : X.cell? ⟨wo.heap.size, 0, none⟩ = some (.int .i64 e.1) := by rw [hX, Fk.cellTop _ _ _ _ _ rfl]; rfl
      have x1 : X.cell? ⟨wo.heap.size, 1, none⟩ = some (.slice q E2.length c) := by rw [hX, Fk.cellTop _ _ _ _ _ rfl]; rfl
      have HBX : Hid (Below w.heap.size w X) := bel.trans (bX.mono bel.size)
      have hzX : wo.heap.size < X.heap.size := by rw [hX]; simp
      have HX := Fk.hide hX
      have HVX := Fk.hide (HVI.out.below bX)
      have HPV : Hid (0 < k → X.cell? ⟨b, o + (k - 1) * 2, none⟩ = some (.int .i64 (Lv.at' L (k - 1)).1)) := by
        intro hk0
        obtain ⟨b', o', _, _, _, ee, _, pp, _⟩ := (HV.out.below HBX.out).at (i := k - 1) (by omega)
        simp only [Option.some.injEq, Addr.mk.injEq] at ee
        rw [ee.1, ee.2.1]; exact pp
      clear hX HVI bX
      have hwk : w.heap.size ≤ wo.heap.size := bel.size
      go_wp2_with fail
      rw [← HX.out]
      clear p0 p1 bel hb
      have r0 := cell_regrown x0
      have r1 := cell_regrown x1
      by_cases c0 : E2.length = 0
      · have d1 : ((E2.length : Int) == 0) = true := by simpa using c0
        have d2 : decide ((E2.length : Int) = 0) = true := by simpa using c0
        have HC := Fk.hide c0
        clear c0
        refine wp_region_quiet_below (by kernel_rfl) (by kernel_rfl) ?_
        repeat (go_big_quiet_step (fail))
        refine wpQuiet_nil ?_
        intro w4 hw'
        obtain ⟨⟨dq, osq⟩, hw''⟩ := hw'
        have k4 : Below X.heap.size X w4 := by rw [hw'']; exact below_regrown X dq osq
        have HB4 : Hid (Below w.heap.size w w4) := HBX.out.trans (k4.mono HBX.out.size)
        have z0 := (k4.cell (p := ⟨wo.heap.size, 0, none⟩) (by show wo.heap.size < _; omega)).trans x0
        have z1 := (k4.cell (p := ⟨wo.heap.size, 1, none⟩) (by show wo.heap.size < _; omega)).trans x1
        have HV4 := Fk.hide (HVX.out.below k4)
        have hz4 : wo.heap.size < w4.heap.size := Nat.lt_of_lt_of_le hzX k4.size
        clear hw'' k4 r0 r1 x0 x1 HVX HPV
        have hh : Nb.head L k = false := by unfold Nb.head; rw [← HE.out, ← HE2.out, HC.out]; rfl
        have HHF := Fk.hide hh
        clear hh
        have HN : Hid (Nb.lvlsI L = false) := Ob.upTo_no hlt (by show Nb.lvlI L k = false; unfold Nb.lvlI; rw [HHF.out]; rfl)
        clear z0 z1
        go_wp2_with fail
        go_ret
        exact ⟨by rw [HN.out]; rfl, HB4.out⟩
      · have d1 : ((E2.length : Int) == 0) = false := by simpa using c0
        have d2 : decide ((E2.length : Int) = 0) = false := by simpa using c0
        have d3 : ¬ ((E2.length : Int) = 0) := by omega
        by_cases ck : k = 0
        · have d4 : decide ((0 : Int) < (k : Int)) = false := decide_eq_false (by omega)
          have d5 : ¬ ((0 : Int) < (k : Int)) := by omega
          have d6 : decide (0 < k) = false := decide_eq_false (by omega)
          have HC := Fk.hide ck
          clear ck
          refine wp_region_quiet_below (by kernel_rfl) (by kernel_rfl) ?_
          repeat (go_big_quiet_step (fail))
          refine wpQuiet_nil ?_
          intro w4 hw'
          obtain ⟨⟨dq, osq⟩, hw''⟩ := hw'
          have k4 : Below X.heap.size X w4 := by rw [hw'']; exact below_regrown X dq osq
          have HB4 : Hid (Below w.heap.size w w4) := HBX.out.trans (k4.mono HBX.out.size)
          have z0 := (k4.cell (p := ⟨wo.heap.size, 0, none⟩) (by show wo.heap.size < _; omega)).trans x0
          have z1 := (k4.cell (p := ⟨wo.heap.size, 1, none⟩) (by show wo.heap.size < _; omega)).trans x1
          have HV4 := Fk.hide (HVX.out.below k4)
          have hz4 : wo.heap.size < w4.heap.size := Nat.lt_of_lt_of_le hzX k4.size
          clear hw'' k4 r0 r1 x0 x1 HVX HPV
          have HH : Hid (Nb.head L k = true) := by
            show _ = _
            unfold Nb.head
            rw [← HE.out, ← HE2.out, HC.out]
            simp [c0]
          go_wp2_with fail
          go_loopw [36] (fun i ws => ∃ m : Nat, m ≤ E2.length ∧ i = .int .i64 m ∧ Hid (∀ j, j < m → Nb.item e j = true) ∧ Below w4.heap.size w4 ws) (fun i _ => E2.length - (intOf i).toNat)
          case atStart => exact ⟨0, Nat.zero_le _, rfl, fun j hj => absurd hj (by omega), Below.refl _ _⟩
          case round =>
            obtain ⟨m, hm, rfl, HI, bel⟩ := hrel
            have y0 := (bel.cell (p := ⟨wo.heap.size, 0, none⟩) (by show wo.heap.size < _; omega)).trans z0
            have hzs : wo.heap.size < wr.heap.size := Nat.lt_of_lt_of_le hz4 bel.size
            by_cases hmt : m < E2.length
            · obtain ⟨a2, cap2, ea, hs⟩ := HV4.out
              simp only [Value.slice.injEq] at ea
              obtain ⟨b2, o2, e2, hb2, hs2⟩ := hs (by omega)
              obtain rfl : q = some ⟨b2, o2, none⟩ := by rw [ea.1, e2]
              clear ea e2 hs
              have hs' := hs2.below hb2 bel
              have q0 := Or.c0 hs' hmt
              have q1 := Or.c1 hs' hmt
              have q2 := Or.c2 hs' hmt
              have q3 := Or.c3 hs' hmt
              have q4 := Or.c4 hs' hmt
              have q5 := Or.c5 hs' hmt
              have q6 := Or.c6 hs' hmt
              have q7 := Or.c7 hs' hmt
              obtain ⟨f, hf⟩ : ∃ f, f = Rk.at_ Or.S E2 m := ⟨_, rfl⟩
              rw [← hf] at q0 q1 q2 q3 q4 q5 q6 q7
              have HF : Hid (Nb.item e m = (decide (f.2.2.1 = e.1) && Nb.peakI f)) := by show _ = _; unfold Nb.item Ob.at'; rw [hf, HE2.out]
              clear hf hs' hs2
              have yl : (wr.alloc (.cells #[.int .i64 f.1, .int .i64 f.2.1, .int .i64 f.2.2.1, .int .i64 f.2.2.2.1, .bool f.2.2.2.2.1, .int .i64 f.2.2.2.2.2.1, .int .i64 f.2.2.2.2.2.2.1, .bool f.2.2.2.2.2.2.2] 55)).cell? ⟨wo.heap.size, 0, none⟩ = some (.int .i64 e.1) := by rw [Fk.cellOld _ _ _ _ (by omega)]; exact y0
              have HBY : Hid (Below w.heap.size w (wr.alloc (.cells #[.int .i64 f.1, .int .i64 f.2.1, .int .i64 f.2.2.1, .int .i64 f.2.2.2.1, .bool f.2.2.2.2.1, .int .i64 f.2.2.2.2.2.1, .int .i64 f.2.2.2.2.2.2.1, .bool f.2.2.2.2.2.2.2] 55))) := (HB4.out.trans (bel.mono HB4.out.size)).alloc (Nat.le_trans HB4.out.size bel.size) _
              by_cases cq : f.2.2.1 = e.1
              · have g1 : (f.2.2.1 != e.1) = false := by simpa using cq
                have g2 : (f.2.2.1 == e.1) = true := by simpa using cq
                have g3 : decide (f.2.2.1 = e.1) = true := decide_eq_true cq
                have HCQ := Fk.hide cq
                clear cq
                obtain ⟨Y, hY⟩ : ∃ W, W = wr.alloc (.cells #[.int .i64 f.1, .int .i64 f.2.1, .int .i64 f.2.2.1, .int .i64 f.2.2.2.1, .bool f.2.2.2.2.1, .int .i64 f.2.2.2.2.2.1, .int .i64 f.2.2.2.2.2.2.1, .bool f.2.2.2.2.2.2.2] 55) := ⟨_, rfl⟩
                have HY := Fk.hide hY
                clear hY
                go_wp2_with fail
                rw [← HY.out]
                rw [← HY.out] at HBY
                refine (peakRight_any f _).mono ?_
                rintro _ w5 ⟨rfl, k5⟩
                have HB5 : Hid (Below w.heap.size w w5) := HBY.out.trans (k5.mono HBY.out.size)
                have HB6 : Hid (Below w4.heap.size w4 w5) := by
                  have h1 : Below w4.heap.size w4 Y := by rw [HY.out]; exact bel.alloc bel.size _
                  exact h1.trans (k5.mono h1.size)
                obtain ⟨r, hr⟩ : ∃ r, r = Nb.peakI f := ⟨_, rfl⟩
                rw [← hr]
                have HR := Fk.hide hr
                clear hr k5 yl y0 q0 q1 q2 q3 q4 q5 q6 q7
                cases r with
                | false =>
                  have HN : Hid (Nb.lvlsI L = false) := by
                    refine Ob.upTo_no hlt ?_
                    unfold Nb.lvlI Nb.items
                    rw [← HE.out, Ob.upTo_no (i := m) (by rw [← HE2.out]; exact hmt) (by rw [HF.out, ← HR.out, Bool.and_false]), Bool.and_false]
                  go_wp2_with fail
                  go_ret
                  exact ⟨by rw [HN.out]; rfl, HB5.out⟩
                | true =>
                  have HIT : Hid (Nb.item e m = true) := by show _ = _; rw [HF.out, ← HR.out, HCQ.out]; simp
                  go_wp2_with fail
                  go_roundw
                  case rel => exact ⟨m + 1, by omega, by go_num, fun j hj => (by rcases Nat.lt_succ_iff_lt_or_eq.1 hj with h | rfl; exact HI.out j h; exact HIT.out), HB6.out⟩
                  case measure => simp [intOf]; omega
              · have g1 : (f.2.2.1 != e.1) = true := by simpa using cq
                have g2 : (f.2.2.1 == e.1) = false := by simpa using cq
                have g3 : decide (f.2.2.1 = e.1) = false := decide_eq_false cq
                have HN : Hid (Nb.lvlsI L = false) := by
                  refine Ob.upTo_no hlt ?_
                  unfold Nb.lvlI Nb.items
                  rw [← HE.out, Ob.upTo_no (i := m) (by rw [← HE2.out]; exact hmt) (by rw [HF.out, g3, Bool.false_and]), Bool.and_false]
                go_wp2_with fail
                go_ret
                exact ⟨by rw [HN.out]; rfl, HBY.out⟩
            · have em : m = E2.length := by omega
              subst em
              have HL : Hid (Nb.lvlI L k = true) := by
                show _ = _
                unfold Nb.lvlI Nb.items
                rw [HH.out, ← HE.out, Bool.true_and]
                exact Ob.upTo_yes fun j hj => HI.out j (by rw [HE2.out]; exact hj)
              go_wp2_with fail
              go_roundw
              case rel => exact ⟨k + 1, by omega, by go_num, fun j hj => (by rcases Nat.lt_succ_iff_lt_or_eq.1 hj with h | rfl; exact HK.out j h; exact HL.out), HB4.out.trans (bel.mono HB4.out.size)⟩
              case measure => simp [intOf]; omega
        · have hk0 : 0 < k := by omega
          have d4 : decide ((0 : Int) < (k : Int)) = true := decide_eq_true (by omega)
          have d5 : (0 : Int) < (k : Int) := by omega
          have d5' : decide (0 < k) = true := decide_eq_true hk0
          have d6 : ((k : Int) - 1).toNat = k - 1 := by omega
          have d7 : (0 : Int) ≤ (k : Int) - 1 := by omega
          have d8 : (k : Int) - 1 < (L.length : Int) := by omega
          have d9 : decide ((k : Int) - 1 < 0) = false := decide_eq_false (by omega)
          have pp := HPV.out hk0
          obtain ⟨pr, hpr⟩ : ∃ x, x = (Lv.at' L (k - 1)).1 := ⟨_, rfl⟩
          rw [← hpr] at pp
          have HPR := Fk.hide hpr
          clear hpr
          have rp := cell_regrown pp
          by_cases cp : e.1 = pr
          · have e1 : (e.1 == pr) = true := by simpa using cp
            have e2 : decide (e.1 = pr) = true := decide_eq_true cp
            have HC := Fk.hide cp
            clear cp
            refine wp_region_quiet_below (by kernel_rfl) (by kernel_rfl) ?_
            repeat (go_big_quiet_step (fail))
            refine wpQuiet_nil ?_
            intro w4 hw'
            obtain ⟨⟨dq, osq⟩, hw''⟩ := hw'
            have k4 : Below X.heap.size X w4 := by rw [hw'']; exact below_regrown X dq osq
            have HB4 : Hid (Below w.heap.size w w4) := HBX.out.trans (k4.mono HBX.out.size)
            have z0 := (k4.cell (p := ⟨wo.heap.size, 0, none⟩) (by show wo.heap.size < _; omega)).trans x0
            have z1 := (k4.cell (p := ⟨wo.heap.size, 1, none⟩) (by show wo.heap.size < _; omega)).trans x1
            have HV4 := Fk.hide (HVX.out.below k4)
            have hz4 : wo.heap.size < w4.heap.size := Nat.lt_of_lt_of_le hzX k4.size
            clear hw'' k4 r0 r1 x0 x1 HVX HPV rp pp
            have hh : Nb.head L k = false := by unfold Nb.head; rw [← HE.out, ← HPR.out, HC.out]; simp [ck]
            have HHF := Fk.hide hh
            clear hh
            have HN : Hid (Nb.lvlsI L = false) := Ob.upTo_no hlt (by show Nb.lvlI L k = false; unfold Nb.lvlI; rw [HHF.out]; rfl)
            clear z0 z1
            go_wp2_with fail
            go_ret
            exact ⟨by rw [HN.out]; rfl, HB4.out⟩
          · have e1 : (e.1 == pr) = false := by simpa using cp
            have e2 : decide (e.1 = pr) = false := decide_eq_false cp
            have HC := Fk.hide cp
            refine wp_region_quiet_below (by kernel_rfl) (by kernel_rfl) ?_
            repeat (go_big_quiet_step (fail))
            refine wpQuiet_nil ?_
            intro w4 hw'
            obtain ⟨⟨dq, osq⟩, hw''⟩ := hw'
            have k4 : Below X.heap.size X w4 := by rw [hw'']; exact below_regrown X dq osq
            have HB4 : Hid (Below w.heap.size w w4) := HBX.out.trans (k4.mono HBX.out.size)
            have z0 := (k4.cell (p := ⟨wo.heap.size, 0, none⟩) (by show wo.heap.size < _; omega)).trans x0
            have z1 := (k4.cell (p := ⟨wo.heap.size, 1, none⟩) (by show wo.heap.size < _; omega)).trans x1
            have HV4 := Fk.hide (HVX.out.below k4)
            have hz4 : wo.heap.size < w4.heap.size := Nat.lt_of_lt_of_le hzX k4.size
            clear hw'' k4 r0 r1 x0 x1 HVX HPV rp pp
            have HH : Hid (Nb.head L k = true) := by
              show _ = _
              unfold Nb.head
              rw [← HE.out, ← HE2.out, ← HPR.out]
              have := HC.out
              simp [c0, this, Ne.symm this]
            go_wp2_with fail
            go_loopw [36] (fun i ws => ∃ m : Nat, m ≤ E2.length ∧ i = .int .i64 m ∧ Hid (∀ j, j < m → Nb.item e j = true) ∧ Below w4.heap.size w4 ws) (fun i _ => E2.length - (intOf i).toNat)
            case atStart => exact ⟨0, Nat.zero_le _, rfl, fun j hj => absurd hj (by omega), Below.refl _ _⟩
            case round =>
              obtain ⟨m, hm, rfl, HI, bel⟩ := hrel
              have y0 := (bel.cell (p := ⟨wo.heap.size, 0, none⟩) (by show wo.heap.size < _; omega)).trans z0
              have hzs : wo.heap.size < wr.heap.size := Nat.lt_of_lt_of_le hz4 bel.size
              by_cases hmt : m < E2.length
              · obtain ⟨a2, cap2, ea, hs⟩ := HV4.out
                simp only [Value.slice.injEq] at ea
                obtain ⟨b2, o2, e2, hb2, hs2⟩ := hs (by omega)
                obtain rfl : q = some ⟨b2, o2, none⟩ := by rw [ea.1, e2]
                clear ea e2 hs
                have hs' := hs2.below hb2 bel
                have q0 := Or.c0 hs' hmt
                have q1 := Or.c1 hs' hmt
                have q2 := Or.c2 hs' hmt
                have q3 := Or.c3 hs' hmt
                have q4 := Or.c4 hs' hmt
                have q5 := Or.c5 hs' hmt
                have q6 := Or.c6 hs' hmt
                have q7 := Or.c7 hs' hmt
                obtain ⟨f, hf⟩ : ∃ f, f = Rk.at_ Or.S E2 m := ⟨_, rfl⟩
                rw [← hf] at q0 q1 q2 q3 q4 q5 q6 q7
                have HF : Hid (Nb.item e m = (decide (f.2.2.1 = e.1) && Nb.peakI f)) := by show _ = _; unfold Nb.item Ob.at'; rw [hf, HE2.out]
                clear hf hs' hs2
                have yl : (wr.alloc (.cells #[.int .i64 f.1, .int .i64 f.2.1, .int .i64 f.2.2.1, .int .i64 f.2.2.2.1, .bool f.2.2.2.2.1, .int .i64 f.2.2.2.2.2.1, .int .i64 f.2.2.2.2.2.2.1, .bool f.2.2.2.2.2.2.2] 55)).cell? ⟨wo.heap.size, 0, none⟩ = some (.int .i64 e.1) := by rw [Fk.cellOld _ _ _ _ (by omega)]; exact y0
                have HBY : Hid (Below w.heap.size w (wr.alloc (.cells #[.int .i64 f.1, .int .i64 f.2.1, .int .i64 f.2.2.1, .int .i64 f.2.2.2.1, .bool f.2.2.2.2.1, .int .i64 f.2.2.2.2.2.1, .int .i64 f.2.2.2.2.2.2.1, .bool f.2.2.2.2.2.2.2] 55))) := (HB4.out.trans (bel.mono HB4.out.size)).alloc (Nat.le_trans HB4.out.size bel.size) _
                by_cases cq : f.2.2.1 = e.1
                · have g1 : (f.2.2.1 != e.1) = false := by simpa using cq
                  have g2 : (f.2.2.1 == e.1) = true := by simpa using cq
                  have g3 : decide (f.2.2.1 = e.1) = true := decide_eq_true cq
                  have HCQ := Fk.hide cq
                  clear cq
                  obtain ⟨Y, hY⟩ : ∃ W, W = wr.alloc (.cells #[.int .i64 f.1, .int .i64 f.2.1, .int .i64 f.2.2.1, .int .i64 f.2.2.2.1, .bool f.2.2.2.2.1, .int .i64 f.2.2.2.2.2.1, .int .i64 f.2.2.2.2.2.2.1, .bool f.2.2.2.2.2.2.2] 55) := ⟨_, rfl⟩
                  have HY := Fk.hide hY
                  clear hY
                  go_wp2_with fail
                  rw [← HY.out]
                  rw [← HY.out] at HBY
                  refine (peakRight_any f _).mono ?_
                  rintro _ w5 ⟨rfl, k5⟩
                  have HB5 : Hid (Below w.heap.size w w5) := HBY.out.trans (k5.mono HBY.out.size)
                  have HB6 : Hid (Below w4.heap.size w4 w5) := by
                    have h1 : Below w4.heap.size w4 Y := by rw [HY.out]; exact bel.alloc bel.size _
                    exact h1.trans (k5.mono h1.size)
                  obtain ⟨r, hr⟩ : ∃ r, r = Nb.peakI f := ⟨_, rfl⟩
                  rw [← hr]
                  have HR := Fk.hide hr
                  clear hr k5 yl y0 q0 q1 q2 q3 q4 q5 q6 q7
                  cases r with
                  | false =>
                    have HN : Hid (Nb.lvlsI L = false) := by
                      refine Ob.upTo_no hlt ?_
                      unfold Nb.lvlI Nb.items
                      rw [← HE.out, Ob.upTo_no (i := m) (by rw [← HE2.out]; exact hmt) (by rw [HF.out, ← HR.out, Bool.and_false]), Bool.and_false]
                    go_wp2_with fail
                    go_ret
                    exact ⟨by rw [HN.out]; rfl, HB5.out⟩
                  | true =>
                    have HIT : Hid (Nb.item e m = true) := by show _ = _; rw [HF.out, ← HR.out, HCQ.out]; simp
                    go_wp2_with fail
                    go_roundw
                    case rel => exact ⟨m + 1, by omega, by go_num, fun j hj => (by rcases Nat.lt_succ_iff_lt_or_eq.1 hj with h | rfl; exact HI.out j h; exact HIT.out), HB6.out⟩
                    case measure => simp [intOf]; omega
                · have g1 : (f.2.2.1 != e.1) = true := by simpa using cq
                  have g2 : (f.2.2.1 == e.1) = false := by simpa using cq
                  have g3 : decide (f.2.2.1 = e.1) = false := decide_eq_false cq
                  have HN : Hid (Nb.lvlsI L = false) := by
                    refine Ob.upTo_no hlt ?_
                    unfold Nb.lvlI Nb.items
                    rw [← HE.out, Ob.upTo_no (i := m) (by rw [← HE2.out]; exact hmt) (by rw [HF.out, g3, Bool.false_and]), Bool.and_false]
                  go_wp2_with fail
                  go_ret
                  exact ⟨by rw [HN.out]; rfl, HBY.out⟩
              · have em : m = E2.length := by omega
                subst em
                have HL : Hid (Nb.lvlI L k = true) := by
                  show _ = _
                  unfold Nb.lvlI Nb.items
                  rw [HH.out, ← HE.out, Bool.true_and]
                  exact Ob.upTo_yes fun j hj => HI.out j (by rw [HE2.out]; exact hj)
                go_wp2_with fail
                go_roundw
                case rel => exact ⟨k + 1, by omega, by go_num, fun j hj => (by rcases Nat.lt_succ_iff_lt_or_eq.1 hj with h | rfl; exact HK.out j h; exact HL.out), HB4.out.trans (bel.mono HB4.out.size)⟩
                case measure => simp [intOf]; omega
    · have e : k = L.length := by omega
      subst e
      have HE : Hid (Nb.lvlsI L = true) := Ob.upTo_yes HK.out
      go_wp2_with fail
      go_ret
      exact ⟨by rw [HE.out]; rfl, bel⟩
end Go.Proofs.Ytjagohadeegghaa

/- The walk of the program's levelsRight. The walks of the program's inRow and asOld: the orders of all levels in a row, and without what only a newer book has. The walk of the program's NewRight. -/
import Derived.Test.YtjagohadeegghaaNewRightImpl
import Derived.Test.YtjagohadeegghaaRowsCopy
namespace Go.Proofs.Ytjagohadeegghaa
open Go.RowKit
set_option linter.unusedVariables false
set_option linter.unusedSimpArgs false
set_option maxRecDepth 100000 in
set_option maxHeartbeats 8000000 in
theorem levelsRight_any (v : Value) (L : List Lv.E) (w : World) (hv : Lv.View w v L) (hl : L.length ≤ 1048576) (hm : ∀ i, i < L.length → (Lv.at' L i).2.length ≤ 1048576) :
    Calls Try.prog 85 #[v] w fun e w' => e = .returned (.bool (Nb.lvlsI L)) ∧ Below w.heap.size w w' := by
  have HV := Fk.hide hv
  have HM := Fk.hide hm
  obtain ⟨a, cap, rfl⟩ := hv.slice
  clear hv hm
  go_enter Try.func85, Try.ntmps85
  go_wp2_with fail
  go_loopw [9] (fun i wr => ∃ k : Nat, k ≤ L.length ∧ i = .int .i64 k ∧ Hid (∀ j, j < k → Nb.lvlI L j = true) ∧ Below w.heap.size w wr) (fun i _ => L.length - (intOf i).toNat)
  case atStart => exact ⟨0, Nat.zero_le _, rfl, fun j hj => absurd hj (by omega), Below.refl _ _⟩
  case round =>
    obtain ⟨k, hk, rfl, HK, bel⟩ := hrel
    obtain ⟨wo, hwo⟩ : ∃ x, x = wr := ⟨_, rfl⟩
    subst hwo
    by_cases hlt : k < L.length
    · obtain ⟨b, o, q, m, c, rfl, hb, p0, p1, hmm, hvi, _⟩ := (HV.out.below bel).at hlt
      obtain ⟨e, he⟩ : ∃ e, e = Lv.at' L k := ⟨_, rfl⟩
      rw [← he] at p0 hmm hvi
      have HE := Fk.hide he
      have hm1 : e.2.length ≤ 1048576 := by rw [he]; exact HM.out k hlt
      clear he
      obtain ⟨E2, hE2⟩ : ∃ E2, E2 = e.2 := ⟨_, rfl⟩
      rw [← hE2] at hmm hvi hm1
      have HE2 := Fk.hide hE2
      clear hE2
      subst hmm
      have HVI := Fk.hide hvi
      clear hvi
      obtain ⟨X, hX⟩ : ∃ W, W = wo.alloc (.cells #[.int .i64 e.1, .slice q E2.length c] 103) := ⟨_, rfl⟩
      have bX : Below wo.heap.size wo X := by rw [hX]; exact (Below.refl _ _).alloc (Nat.le_refl _) _
      have x0 : X.cell? ⟨wo.heap.size, 0, none⟩ = some (.int .i64 e.1) := by rw [hX, Fk.cellTop _ _ _ _ _ rfl]; rfl
      have x1 : X.cell? ⟨wo.heap.size, 1, none⟩ = some (.slice q E2.length c) := by rw [hX, Fk.cellTop _ _ _ _ _ rfl]; rfl
      have HBX : Hid (Below w.heap.size w X) := bel.trans (bX.mono bel.size)
      have hzX : wo.heap.size < X.heap.size := by rw [hX]; simp
      have HX := Fk.hide hX
      have HVX := Fk.hide (HVI.out.below bX)
      have HPV : Hid (0 < k → X.cell? ⟨b, o + (k - 1) * 2, none⟩ = some (.int .i64 (Lv.at' L (k - 1)).1)) := by
        intro hk0
        obtain ⟨b', o', _, _, _, ee, _, pp, _⟩ := (HV.out.below HBX.out).at (i := k - 1) (by omega)
        simp only [Option.some.injEq, Addr.mk.injEq] at ee
        rw [ee.1, ee.2.1]; exact pp
      clear hX HVI bX
      have hwk : w.heap.size ≤ wo.heap.size := bel.size
      go_wp2_with fail
      rw [← HX.out]
      clear p0 p1 bel hb
      have r0 := cell_regrown x0
      have r1 := cell_regrown x1
      by_cases c0 : E2.length = 0
      · have d1 : ((E2.length : Int) == 0) = true := by simpa using c0
        have d2 : decide ((E2.length : Int) = 0) = true := by simpa using c0
        have HC := Fk.hide c0
        clear c0
        refine wp_region_quiet_below (by kernel_rfl) (by kernel_rfl) ?_
        repeat (go_big_quiet_step (fail))
        refine wpQuiet_nil ?_
        intro w4 hw'
        obtain ⟨⟨dq, osq⟩, hw''⟩ := hw'
        have k4 : Below X.heap.size X w4 := by rw [hw'']; exact below_regrown X dq osq
        have HB4 : Hid (Below w.heap.size w w4) := HBX.out.trans (k4.mono HBX.out.size)
        have z0 := (k4.cell (p := ⟨wo.heap.size, 0, none⟩) (by show wo.heap.size < _; omega)).trans x0
        have z1 := (k4.cell (p := ⟨wo.heap.size, 1, none⟩) (by show wo.heap.size < _; omega)).trans x1
        have HV4 := Fk.hide (HVX.out.below k4)
        have hz4 : wo.heap.size < w4.heap.size := Nat.lt_of_lt_of_le hzX k4.size
        clear hw'' k4 r0 r1 x0 x1 HVX HPV
        have hh : Nb.head L k = false := by unfold Nb.head; rw [← HE.out, ← HE2.out, HC.out]; rfl
        have HHF := Fk.hide hh
        clear hh
        have HN : Hid (Nb.lvlsI L = false) := Ob.upTo_no hlt (by show Nb.lvlI L k = false; unfold Nb.lvlI; rw [HHF.out]; rfl)
        clear z0 z1
        go_wp2_with fail
        go_ret
        exact ⟨by rw [HN.out]; rfl, HB4.out⟩
      · have d1 : ((E2.length : Int) == 0) = false := by simpa using c0
        have d2 : decide ((E2.length : Int) = 0) = false := by simpa using c0
        have d3 : ¬ ((E2.length : Int) = 0) := by omega
        by_cases ck : k = 0
        · have d4 : decide ((0 : Int) < (k : Int)) = false := decide_eq_false (by omega)
          have d5 : ¬ ((0 : Int) < (k : Int)) := by omega
          have d6 : decide (0 < k) = false := decide_eq_false (by omega)
          have HC := Fk.hide ck
          clear ck
          refine wp_region_quiet_below (by kernel_rfl) (by kernel_rfl) ?_
          repeat (go_big_quiet_step (fail))
          refine wpQuiet_nil ?_
          intro w4 hw'
          obtain ⟨⟨dq, osq⟩, hw''⟩ := hw'
          have k4 : Below X.heap.size X w4 := by rw [hw'']; exact below_regrown X dq osq
          have HB4 : Hid (Below w.heap.size w w4) := HBX.out.trans (k4.mono HBX.out.size)
          have z0 := (k4.cell (p := ⟨wo.heap.size, 0, none⟩) (by show wo.heap.size < _; omega)).trans x0
          have z1 := (k4.cell (p := ⟨wo.heap.size, 1, none⟩) (by show wo.heap.size < _; omega)).trans x1
          have HV4 := Fk.hide (HVX.out.below k4)
          have hz4 : wo.heap.size < w4.heap.size := Nat.lt_of_lt_of_le hzX k4.size
          clear hw'' k4 r0 r1 x0 x1 HVX HPV
          have HH : Hid (Nb.head L k = true) := by
            show _ = _
            unfold Nb.head
            rw [← HE.out, ← HE2.out, HC.out]
            simp [c0]
          go_wp2_with fail
          go_loopw [36] (fun i ws => ∃ m : Nat, m ≤ E2.length ∧ i = .int .i64 m ∧ Hid (∀ j, j < m → Nb.item e j = true) ∧ Below w4.heap.size w4 ws) (fun i _ => E2.length - (intOf i).toNat)
          case atStart => exact ⟨0, Nat.zero_le _, rfl, fun j hj => absurd hj (by omega), Below.refl _ _⟩
          case round =>
            obtain ⟨m, hm, rfl, HI, bel⟩ := hrel
            have y0 := (bel.cell (p := ⟨wo.heap.size, 0, none⟩) (by show wo.heap.size < _; omega)).trans z0
            have hzs : wo.heap.size < wr.heap.size := Nat.lt_of_lt_of_le hz4 bel.size
            by_cases hmt : m < E2.length
            · obtain ⟨a2, cap2, ea, hs⟩ := HV4.out
              simp only [Value.slice.injEq] at ea
              obtain ⟨b2, o2, e2, hb2, hs2⟩ := hs (by omega)
              obtain rfl : q = some ⟨b2, o2, none⟩ := by rw [ea.1, e2]
              clear ea e2 hs
              have hs' := hs2.below hb2 bel
              have q0 := Or.c0 hs' hmt
              have q1 := Or.c1 hs' hmt
              have q2 := Or.c2 hs' hmt
              have q3 := Or.c3 hs' hmt
              have q4 := Or.c4 hs' hmt
              have q5 := Or.c5 hs' hmt
              have q6 := Or.c6 hs' hmt
              have q7 := Or.c7 hs' hmt
              obtain ⟨f, hf⟩ : ∃ f, f = Rk.at_ Or.S E2 m := ⟨_, rfl⟩
              rw [← hf] at q0 q1 q2 q3 q4 q5 q6 q7
              have HF : Hid (Nb.item e m = (decide (f.2.2.1 = e.1) && Nb.peakI f)) := by show _ = _; unfold Nb.item Ob.at'; rw [hf, HE2.out]
              clear hf hs' hs2
              have yl : (wr.alloc (.cells #[.int .i64 f.1, .int .i64 f.2.1, .int .i64 f.2.2.1, .int .i64 f.2.2.2.1, .bool f.2.2.2.2.1, .int .i64 f.2.2.2.2.2.1, .int .i64 f.2.2.2.2.2.2.1, .bool f.2.2.2.2.2.2.2] 55)).cell? ⟨wo.heap.size, 0, none⟩ = some (.int .i64 e.1) := by rw [Fk.cellOld _ _ _ _ (by omega)]; exact y0
              have HBY : Hid (Below w.heap.size w (wr.alloc (.cells #[.int .i64 f.1, .int .i64 f.2.1, .int .i64 f.2.2.1, .int .i64 f.2.2.2.1, .bool f.2.2.2.2.1, .int .i64 f.2.2.2.2.2.1, .int .i64 f.2.2.2.2.2.2.1, .bool f.2.2.2.2.2.2.2] 55))) := (HB4.out.trans (bel.mono HB4.out.size)).alloc (Nat.le_trans HB4.out.size bel.size) _
              by_cases cq : f.2.2.1 = e.1
              · have g1 : (f.2.2.1 != e.1) = false := by simpa using cq
                have g2 : (f.2.2.1 == e.1) = true := by simpa using cq
                have g3 : decide (f.2.2.1 = e.1) = true := decide_eq_true cq
                have HCQ := Fk.hide cq
                clear cq
                obtain ⟨Y, hY⟩ : ∃ W, W = wr.alloc (.cells #[.int .i64 f.1, .int .i64 f.2.1, .int .i64 f.2.2.1, .int .i64 f.2.2.2.1, .bool f.2.2.2.2.1, .int .i64 f.2.2.2.2.2.1, .int .i64 f.2.2.2.2.2.2.1, .bool f.2.2.2.2.2.2.2] 55) := ⟨_, rfl⟩
                have HY := Fk.hide hY
                clear hY
                go_wp2_with fail
                rw [← HY.out]
                rw [← HY.out] at HBY
                refine (peakRight_any f _).mono ?_
                rintro _ w5 ⟨rfl, k5⟩
                have HB5 : Hid (Below w.heap.size w w5) := HBY.out.trans (k5.mono HBY.out.size)
                have HB6 : Hid (Below w4.heap.size w4 w5) := by
                  have h1 : Below w4.heap.size w4 Y := by rw [HY.out]; exact bel.alloc bel.size _
                  exact h1.trans (k5.mono h1.size)
                obtain ⟨r, hr⟩ : ∃ r, r = Nb.peakI f := ⟨_, rfl⟩
                rw [← hr]
                have HR := Fk.hide hr
                clear hr k5 yl y0 q0 q1 q2 q3 q4 q5 q6 q7
                cases r with
                | false =>
                  have HN : Hid (Nb.lvlsI L = false) := by
                    refine Ob.upTo_no hlt ?_
                    unfold Nb.lvlI Nb.items
                    rw [← HE.out, Ob.upTo_no (i := m) (by rw [← HE2.out]; exact hmt) (by rw [HF.out, ← HR.out, Bool.and_false]), Bool.and_false]
                  go_wp2_with fail
                  go_ret
                  exact ⟨by rw [HN.out]; rfl, HB5.out⟩
                | true =>
                  have HIT : Hid (Nb.item e m = true) := by show _ = _; rw [HF.out, ← HR.out, HCQ.out]; simp
                  go_wp2_with fail
                  go_roundw
                  case rel => exact ⟨m + 1, by omega, by go_num, fun j hj => (by rcases Nat.lt_succ_iff_lt_or_eq.1 hj with h | rfl; exact HI.out j h; exact HIT.out), HB6.out⟩
                  case measure => simp [intOf]; omega
              · have g1 : (f.2.2.1 != e.1) = true := by simpa using cq
                have g2 : (f.2.2.1 == e.1) = false := by simpa using cq
                have g3 : decide (f.2.2.1 = e.1) = false := decide_eq_false cq
                have HN : Hid (Nb.lvlsI L = false) := by
                  refine Ob.upTo_no hlt ?_
                  unfold Nb.lvlI Nb.items
                  rw [← HE.out, Ob.upTo_no (i := m) (by rw [← HE2.out]; exact hmt) (by rw [HF.out, g3, Bool.false_and]), Bool.and_false]
                go_wp2_with fail
                go_ret
                exact ⟨by rw [HN.out]; rfl, HBY.out⟩
            · have em : m = E2.length := by omega
              subst em
              have HL : Hid (Nb.lvlI L k = true) := by
                show _ = _
                unfold Nb.lvlI Nb.items
                rw [HH.out, ← HE.out, Bool.true_and]
                exact Ob.upTo_yes fun j hj => HI.out j (by rw [HE2.out]; exact hj)
              go_wp2_with fail
              go_roundw
              case rel => exact ⟨k + 1, by omega, by go_num, fun j hj => (by rcases Nat.lt_succ_iff_lt_or_eq.1 hj with h | rfl; exact HK.out j h; exact HL.out), HB4.out.trans (bel.mono HB4.out.size)⟩
              case measure => simp [intOf]; omega
        · have hk0 : 0 < k := by omega
          have d4 : decide ((0 : Int) < (k : Int)) = true := decide_eq_true (by omega)
          have d5 : (0 : Int) < (k : Int) := by omega
          have d5' : decide (0 < k) = true := decide_eq_true hk0
          have d6 : ((k : Int) - 1).toNat = k - 1 := by omega
          have d7 : (0 : Int) ≤ (k : Int) - 1 := by omega
          have d8 : (k : Int) - 1 < (L.length : Int) := by omega
          have d9 : decide ((k : Int) - 1 < 0) = false := decide_eq_false (by omega)
          have pp := HPV.out hk0
          obtain ⟨pr, hpr⟩ : ∃ x, x = (Lv.at' L (k - 1)).1 := ⟨_, rfl⟩
          rw [← hpr] at pp
          have HPR := Fk.hide hpr
          clear hpr
          have rp := cell_regrown pp
          by_cases cp : e.1 = pr
          · have e1 : (e.1 == pr) = true := by simpa using cp
            have e2 : decide (e.1 = pr) = true := decide_eq_true cp
            have HC := Fk.hide cp
            clear cp
            refine wp_region_quiet_below (by kernel_rfl) (by kernel_rfl) ?_
            repeat (go_big_quiet_step (fail))
            refine wpQuiet_nil ?_
            intro w4 hw'
            obtain ⟨⟨dq, osq⟩, hw''⟩ := hw'
            have k4 : Below X.heap.size X w4 := by rw [hw'']; exact below_regrown X dq osq
            have HB4 : Hid (Below w.heap.size w w4) := HBX.out.trans (k4.mono HBX.out.size)
            have z0 := (k4.cell (p := ⟨wo.heap.size, 0, none⟩) (by show wo.heap.size < _; omega)).trans x0
            have z1 := (k4.cell (p := ⟨wo.heap.size, 1, none⟩) (by show wo.heap.size < _; omega)).trans x1
            have HV4 := Fk.hide (HVX.out.below k4)
            have hz4 : wo.heap.size < w4.heap.size := Nat.lt_of_lt_of_le hzX k4.size
            clear hw'' k4 r0 r1 x0 x1 HVX HPV rp pp
            have hh : Nb.head L k = false := by unfold Nb.head; rw [← HE.out, ← HPR.out, HC.out]; simp [ck]
            have HHF := Fk.hide hh
            clear hh
            have HN : Hid (Nb.lvlsI L = false) := Ob.upTo_no hlt (by show Nb.lvlI L k = false; unfold Nb.lvlI; rw [HHF.out]; rfl)
            clear z0 z1
            go_wp2_with fail
            go_ret
            exact ⟨by rw [HN.out]; rfl, HB4.out⟩
          · have e1 : (e.1 == pr) = false := by simpa using cp
            have e2 : decide (e.1 = pr) = false := decide_eq_false cp
            have HC := Fk.hide cp
            refine wp_region_quiet_below (by kernel_rfl) (by kernel_rfl) ?_
            repeat (go_big_quiet_step (fail))
            refine wpQuiet_nil ?_
            intro w4 hw'
            obtain ⟨⟨dq, osq⟩, hw''⟩ := hw'
            have k4 : Below X.heap.size X w4 := by rw [hw'']; exact below_regrown X dq osq
            have HB4 : Hid (Below w.heap.size w w4) := HBX.out.trans (k4.mono HBX.out.size)
            have z0 := (k4.cell (p := ⟨wo.heap.size, 0, none⟩) (by show wo.heap.size < _; omega)).trans x0
            have z1 := (k4.cell (p := ⟨wo.heap.size, 1, none⟩) (by show wo.heap.size < _; omega)).trans x1
            have HV4 := Fk.hide (HVX.out.below k4)
            have hz4 : wo.heap.size < w4.heap.size := Nat.lt_of_lt_of_le hzX k4.size
            clear hw'' k4 r0 r1 x0 x1 HVX HPV rp pp
            have HH : Hid (Nb.head L k = true) := by
              show _ = _
              unfold Nb.head
              rw [← HE.out, ← HE2.out, ← HPR.out]
              have := HC.out
              simp [c0, this, Ne.symm this]
            go_wp2_with fail
            go_loopw [36] (fun i ws => ∃ m : Nat, m ≤ E2.length ∧ i = .int .i64 m ∧ Hid (∀ j, j < m → Nb.item e j = true) ∧ Below w4.heap.size w4 ws) (fun i _ => E2.length - (intOf i).toNat)
            case atStart => exact ⟨0, Nat.zero_le _, rfl, fun j hj => absurd hj (by omega), Below.refl _ _⟩
            case round =>
              obtain ⟨m, hm, rfl, HI, bel⟩ := hrel
              have y0 := (bel.cell (p := ⟨wo.heap.size, 0, none⟩) (by show wo.heap.size < _; omega)).trans z0
              have hzs : wo.heap.size < wr.heap.size := Nat.lt_of_lt_of_le hz4 bel.size
              by_cases hmt : m < E2.length
              · obtain ⟨a2, cap2, ea, hs⟩ := HV4.out
                simp only [Value.slice.injEq] at ea
                obtain ⟨b2, o2, e2, hb2, hs2⟩ := hs (by omega)
                obtain rfl : q = some ⟨b2, o2, none⟩ := by rw [ea.1, e2]
                clear ea e2 hs
                have hs' := hs2.below hb2 bel
                have q0 := Or.c0 hs' hmt
                have q1 := Or.c1 hs' hmt
                have q2 := Or.c2 hs' hmt
                have q3 := Or.c3 hs' hmt
                have q4 := Or.c4 hs' hmt
                have q5 := Or.c5 hs' hmt
                have q6 := Or.c6 hs' hmt
                have q7 := Or.c7 hs' hmt
                obtain ⟨f, hf⟩ : ∃ f, f = Rk.at_ Or.S E2 m := ⟨_, rfl⟩
                rw [← hf] at q0 q1 q2 q3 q4 q5 q6 q7
                have HF : Hid (Nb.item e m = (decide (f.2.2.1 = e.1) && Nb.peakI f)) := by show _ = _; unfold Nb.item Ob.at'; rw [hf, HE2.out]
                clear hf hs' hs2
                have yl : (wr.alloc (.cells #[.int .i64 f.1, .int .i64 f.2.1, .int .i64 f.2.2.1, .int .i64 f.2.2.2.1, .bool f.2.2.2.2.1, .int .i64 f.2.2.2.2.2.1, .int .i64 f.2.2.2.2.2.2.1, .bool f.2.2.2.2.2.2.2] 55)).cell? ⟨wo.heap.size, 0, none⟩ = some (.int .i64 e.1) := by rw [Fk.cellOld _ _ _ _ (by omega)]; exact y0
                have HBY : Hid (Below w.heap.size w (wr.alloc (.cells #[.int .i64 f.1, .int .i64 f.2.1, .int .i64 f.2.2.1, .int .i64 f.2.2.2.1, .bool f.2.2.2.2.1, .int .i64 f.2.2.2.2.2.1, .int .i64 f.2.2.2.2.2.2.1, .bool f.2.2.2.2.2.2.2] 55))) := (HB4.out.trans (bel.mono HB4.out.size)).alloc (Nat.le_trans HB4.out.size bel.size) _
                by_cases cq : f.2.2.1 = e.1
                · have g1 : (f.2.2.1 != e.1) = false := by simpa using cq
                  have g2 : (f.2.2.1 == e.1) = true := by simpa using cq
                  have g3 : decide (f.2.2.1 = e.1) = true := decide_eq_true cq
                  have HCQ := Fk.hide cq
                  clear cq
                  obtain ⟨Y, hY⟩ : ∃ W, W = wr.alloc (.cells #[.int .i64 f.1, .int .i64 f.2.1, .int .i64 f.2.2.1, .int .i64 f.2.2.2.1, .bool f.2.2.2.2.1, .int .i64 f.2.2.2.2.2.1, .int .i64 f.2.2.2.2.2.2.1, .bool f.2.2.2.2.2.2.2] 55) := ⟨_, rfl⟩
                  have HY := Fk.hide hY
                  clear hY
                  go_wp2_with fail
                  rw [← HY.out]
                  rw [← HY.out] at HBY
                  refine (peakRight_any f _).mono ?_
                  rintro _ w5 ⟨rfl, k5⟩
                  have HB5 : Hid (Below w.heap.size w w5) := HBY.out.trans (k5.mono HBY.out.size)
                  have HB6 : Hid (Below w4.heap.size w4 w5) := by
                    have h1 : Below w4.heap.size w4 Y := by rw [HY.out]; exact bel.alloc bel.size _
                    exact h1.trans (k5.mono h1.size)
                  obtain ⟨r, hr⟩ : ∃ r, r = Nb.peakI f := ⟨_, rfl⟩
                  rw [← hr]
                  have HR := Fk.hide hr
                  clear hr k5 yl y0 q0 q1 q2 q3 q4 q5 q6 q7
                  cases r with
                  | false =>
                    have HN : Hid (Nb.lvlsI L = false) := by
                      refine Ob.upTo_no hlt ?_
                      unfold Nb.lvlI Nb.items
                      rw [← HE.out, Ob.upTo_no (i := m) (by rw [← HE2.out]; exact hmt) (by rw [HF.out, ← HR.out, Bool.and_false]), Bool.and_false]
                    go_wp2_with fail
                    go_ret
                    exact ⟨by rw [HN.out]; rfl, HB5.out⟩
                  | true =>
                    have HIT : Hid (Nb.item e m = true) := by show _ = _; rw [HF.out, ← HR.out, HCQ.out]; simp
                    go_wp2_with fail
                    go_roundw
                    case rel => exact ⟨m + 1, by omega, by go_num, fun j hj => (by rcases Nat.lt_succ_iff_lt_or_eq.1 hj with h | rfl; exact HI.out j h; exact HIT.out), HB6.out⟩
                    case measure => simp [intOf]; omega
                · have g1 : (f.2.2.1 != e.1) = true := by simpa using cq
                  have g2 : (f.2.2.1 == e.1) = false := by simpa using cq
                  have g3 : decide (f.2.2.1 = e.1) = false := decide_eq_false cq
                  have HN : Hid (Nb.lvlsI L = false) := by
                    refine Ob.upTo_no hlt ?_
                    unfold Nb.lvlI Nb.items
                    rw [← HE.out, Ob.upTo_no (i := m) (by rw [← HE2.out]; exact hmt) (by rw [HF.out, g3, Bool.false_and]), Bool.and_false]
                  go_wp2_with fail
                  go_ret
                  exact ⟨by rw [HN.out]; rfl, HBY.out⟩
              · have em : m = E2.length := by omega
                subst em
                have HL : Hid (Nb.lvlI L k = true) := by
                  show _ = _
                  unfold Nb.lvlI Nb.items
                  rw [HH.out, ← HE.out, Bool.true_and]
                  exact Ob.upTo_yes fun j hj => HI.out j (by rw [HE2.out]; exact hj)
                go_wp2_with fail
                go_roundw
                case rel => exact ⟨k + 1, by omega, by go_num, fun j hj => (by rcases Nat.lt_succ_iff_lt_or_eq.1 hj with h | rfl; exact HK.out j h; exact HL.out), HB4.out.trans (bel.mono HB4.out.size)⟩
                case measure => simp [intOf]; omega
    · have e : k = L.length := by omega
      subst e
      have HE : Hid (Nb.lvlsI L = true) := Ob.upTo_yes HK.out
      go_wp2_with fail
      go_ret
      exact ⟨by rw [HE.out]; rfl, bel⟩
end Go.Proofs.Ytjagohadeegghaa

namespace Go.Proofs.Ytjagohadeegghaa
open Go.RowKit
set_option linter.unusedVariables false
set_option linter.unusedSimpArgs false
set_option maxRecDepth 100000 in
set_option maxHeartbeats 4000000 in
theorem inRow_any (v : Value) (L : List Lv.E) (w : World) (hv : Lv.View w v L) (hl : L.length ≤ 1048576) (hm : (Nb.flat L).length ≤ 1048576) :
    Calls Try.prog 78 #[v] w fun e w' => (∃ u, e = .returned u ∧ Rk.Own Or.S w' w.heap.size 55 u (Nb.flat L)) ∧ Below w.heap.size w w' := by
  obtain ⟨i0, hi, hz0, hz1, hz2⟩ := info_parts infoOrd
  have HI : Hid ((Try.prog.info? 55).map (·.size) = some 8) := by show _ = _; rw [hi]; exact congrArg some hz1
  have HV := Fk.hide hv
  obtain ⟨a, cap, rfl⟩ := hv.slice
  clear hv
  by_cases hz : L.length = 0
  · have e0 := List.eq_nil_of_length_eq_zero hz
    subst e0
    go_enter Try.func78, Try.ntmps78
    go_wp2_with fail
    go_ret
    exact ⟨⟨_, rfl, Rk.own_nil _ _ _⟩, Below.refl _ _⟩
  have hne : ¬ ((L.length : Int) = 0) := by omega
  go_enter Try.func78, Try.ntmps78
  go_wp2_with fail
  refine (countOf_any _ L _ HV.out hl hm).mono ?_
  rintro e w0 ⟨rfl, b0⟩
  obtain ⟨n, hn⟩ : ∃ n, n = (Nb.flat L).length := ⟨_, rfl⟩
  rw [← hn]
  rw [← hn] at hm
  have HN := Fk.hide hn
  have hb0 := b0.size
  have HB0 := Fk.hide b0
  clear hn b0
  go_wp2_with (at_make; refine wpList_make_full _ rfl _ _ 30 rfl w.heap.size 55 i0 _ 8 Try.underlying30 hi hz0 hz1 _ _ _ _ n rfl rfl rfl rfl (by rw [hz2]; omega) (by unfold maxLen; omega) hb0 ?_; intro w1 hown hgrow)
  obtain ⟨g, hg⟩ : ∃ g, g = w0.heap.size := ⟨_, rfl⟩
  rw [← hg] at hown ⊢
  have HOWN : Hid (Rk.Own Or.S w1 w.heap.size 55 (.slice (some ⟨g, 0, none⟩) n n) (List.replicate n Or.S.z)) := by
    show Rk.Own _ _ _ _ _ _
    unfold Rk.Own
    rw [← Rk.flat_made (S := Or.S) n #[.int .i64 0, .int .i64 0, .int .i64 0, .int .i64 0, .bool false, .int .i64 0, .int .i64 0, .bool false] rfl, List.length_replicate]
    exact hown
  have HB1 : Hid (Below w.heap.size w w1) := HB0.out.grown hgrow hb0 (fun j hj => by cases hj)
  have HG : Hid (w.heap.size ≤ g) := by show _ ≤ _; rw [hg]; exact hb0
  clear hown hgrow hb0 hg HB0
  go_wp2_with fail
  go_loopw [4, 15] (fun at' i wr => ∃ k m : Nat, k ≤ L.length ∧ i = .int .i64 k ∧ at' = .int .i64 m ∧ m ≤ n ∧ Hid (m = (Nb.flat (L.take k)).length) ∧ Hid (Rk.Own Or.S wr w.heap.size 55 (.slice (some ⟨g, 0, none⟩) n n) (Nb.flat (L.take k) ++ List.replicate (n - m) Or.S.z)) ∧ Hid (Below w.heap.size w wr)) (fun _ i _ => L.length - (intOf i).toNat)
  case atStart => exact ⟨0, 0, Nat.zero_le _, rfl, rfl, Nat.zero_le _, rfl, HOWN, HB1⟩
  case round =>
    obtain ⟨k, m, hk, rfl, rfl, hmn, HM, HO, HB⟩ := hrel
    clear HOWN HB1
    by_cases hlt : k < L.length
    · obtain ⟨b, o, q, x, c, rfl, hb, p0, p1, hx, hvi, hsh⟩ := (HV.out.below HB.out).at hlt
      have hle := Nb.part_le L k hlt
      have HST := Fk.hide (Nb.flat_step L k hlt)
      obtain ⟨F, hF⟩ : ∃ F, F = Nb.flat (L.take k) := ⟨_, rfl⟩
      obtain ⟨G, hG⟩ : ∃ G, G = (Lv.at' L k).2 := ⟨_, rfl⟩
      obtain ⟨pr, hpr⟩ : ∃ x, x = (Lv.at' L k).1 := ⟨_, rfl⟩
      rw [← hF, ← hG, ← HN.out] at hle
      rw [← hF, ← hG] at HST
      rw [← hF] at HO HM
      rw [← hG] at hx hvi
      rw [← hpr] at p0
      clear hF hG hpr hsh
      subst hx
      have hxn : m + G.length ≤ n := by have := HM.out; omega
      have bX : Below wr.heap.size wr (wr.alloc (.cells #[.int .i64 pr, .slice q G.length c] 103)).drew := Below.drew ((Below.refl _ _).alloc (Nat.le_refl _) _)
      have HBX : Hid (Below w.heap.size w (wr.alloc (.cells #[.int .i64 pr, .slice q G.length c] 103)).drew) := HB.out.trans (bX.mono HB.out.size)
      have HML : Hid ((F ++ List.replicate (n - m) Or.S.z).length = n) := by show _ = _; rw [List.length_append, List.length_replicate, ← HM.out]; omega
      have HLAID : Hid (Rk.laid (F ++ List.replicate (n - m) Or.S.z) G m = Nb.flat (L.take (k + 1)) ++ List.replicate (n - (m + G.length)) Or.S.z) := by
        show _ = _
        unfold Rk.laid
        rw [HST.out, List.take_append_of_le_length (by rw [← HM.out]; exact Nat.le_refl _), List.take_of_length_le (by rw [← HM.out]; exact Nat.le_refl _), List.drop_append, List.drop_of_length_le (by rw [← HM.out]; omega), List.nil_append, ← HM.out, Nat.add_sub_cancel_left, List.drop_replicate, Nat.sub_sub]
      have HM2 : Hid (m + G.length = (Nb.flat (L.take (k + 1))).length) := by show _ = _; rw [HST.out, List.length_append, ← HM.out]
      by_cases hme : m = n
      · have hG0 : G.length = 0 := by omega
        have e0 := List.eq_nil_of_length_eq_zero hG0
        subst e0
        have hc2 := Rk.run_copy_zero (P := Try.prog) (wr.alloc (.cells #[.int .i64 pr, .slice q 0 c] 103)).drew 30 30 3 55 8 (some ⟨g, 0, none⟩) q 0 0 0 c Try.underlying30 HI.out (by simp)
        have HO2 : Hid (Rk.Own Or.S (wr.alloc (.cells #[.int .i64 pr, .slice q ([] : List Or.E).length c] 103)).drew w.heap.size 55 (.slice (some ⟨g, 0, none⟩) n n) (Nb.flat (L.take (k + 1)) ++ List.replicate (n - (m + 0)) Or.S.z)) := by
          have := HO.out.below bX
          rw [← Rk.laid_none (F ++ List.replicate (n - m) Or.S.z) m, HLAID.out] at this
          exact this
        clear hvi HO bX
        subst hme
        go_wp2_with fail
        go_region
        go_wp2_with fail
        go_roundw
        case rel => exact ⟨k + 1, m, by omega, by go_num, by go_num, Nat.le_refl _, HM2, HO2, HBX⟩
        case measure => simp [intOf]; omega
      · have hmlt : m < n := by omega
        obtain ⟨w2, hc2, ho2, hg2⟩ := Rk.copy_run (P := Try.prog) 30 30 3 55 8 rfl Try.underlying30 HI.out w.heap.size g n n m (n - m) (n - m) q G.length c _ G (HO.out.below bX) (hvi.below bX) (by rw [HML.out]; exact hxn) (by omega)
        have HO2 : Hid (Rk.Own Or.S w2 w.heap.size 55 (.slice (some ⟨g, 0, none⟩) n n) (Nb.flat (L.take (k + 1)) ++ List.replicate (n - (m + G.length)) Or.S.z)) := by rw [← HLAID.out]; exact ho2
        have HB2 : Hid (Below w.heap.size w w2) := HBX.out.grown hg2 HBX.out.size (fun j hj => by obtain rfl := Option.some.inj hj; exact HG.out)
        clear hvi HO bX ho2 hg2
        go_wp2_with fail
        go_region
        go_wp2_with fail
        go_roundw
        case rel => exact ⟨k + 1, m + G.length, by omega, by go_num, by go_num, hxn, HM2, HO2, HB2⟩
        case measure => simp [intOf]; omega
    · have e : k = L.length := by omega
      subst e
      rw [Nb.flat_all] at HO HM
      have e2 : m = n := by rw [HM.out, HN.out]
      subst e2
      have HO3 : Hid (Rk.Own Or.S wr w.heap.size 55 (.slice (some ⟨g, 0, none⟩) m m) (Nb.flat L)) := by
        have := HO.out
        rw [Nat.sub_self, List.replicate_zero, List.append_nil] at this
        exact this
      clear HO
      go_wp2_with fail
      go_ret
      exact ⟨⟨_, rfl, HO3.out⟩, HB.out⟩

/-- the first ones without what only a newer book has -/
def Nb.bare (F : List Or.E) (k : Nat) : List Or.E := (F.take k).map Nb.strip ++ F.drop k
theorem Nb.bare_length (F : List Or.E) (k : Nat) : (Nb.bare F k).length = F.length := by simp [Nb.bare]; omega
theorem Nb.bare_none (F : List Or.E) : Nb.bare F 0 = F := by simp [Nb.bare]
theorem Nb.bare_all (F : List Or.E) : Nb.bare F F.length = F.map Nb.strip := by simp [Nb.bare]
theorem Nb.bare_at (F : List Or.E) (k : Nat) (h : k < F.length) : Rk.at_ Or.S (Nb.bare F k) k = Rk.at_ Or.S F k := by
  rw [Rk.at_get _ _ (by rw [Nb.bare_length]; exact h), Rk.at_get _ _ h]
  simp only [Nb.bare]
  have hl : ((F.take k).map Nb.strip).length = k := by simp; omega
  rw [List.getElem_append_right (by omega), List.getElem_drop]
  simp only [hl, Nat.sub_self, Nat.add_zero]
theorem Nb.bare_step (F : List Or.E) (k : Nat) (h : k < F.length) : (Nb.bare F k).set k (Nb.strip (Rk.at_ Or.S F k)) = Nb.bare F (k + 1) := by
  unfold Nb.bare
  have hl : ((F.take k).map Nb.strip).length = k := by simp; omega
  rw [List.set_append_right _ _ (by omega), hl, Nat.sub_self, List.drop_eq_getElem_cons h, List.set_cons_zero, List.take_succ_eq_append_getElem h, Rk.at_get _ _ h, List.map_append, List.append_assoc]
  rfl

set_option maxRecDepth 100000 in
set_option maxHeartbeats 4000000 in
theorem asOld_any (v : Value) (L : List Lv.E) (w : World) (hv : Lv.View w v L) (hl : L.length ≤ 1048576) (hm : (Nb.flat L).length ≤ 1048576) :
    Calls Try.prog 86 #[v] w fun e w' => (∃ u, e = .returned u ∧ Rk.Own Or.S w' w.heap.size 55 u ((Nb.flat L).map Nb.strip)) ∧ Below w.heap.size w w' := by
  have HV := Fk.hide hv
  obtain ⟨a, cap, rfl⟩ := hv.slice
  clear hv
  go_enter Try.func86, Try.ntmps86
  go_wp2_with fail
  refine (inRow_any _ L _ HV.out hl hm).mono ?_
  rintro e w1 ⟨⟨u, rfl, ho⟩, k1⟩
  obtain ⟨F, hF⟩ : ∃ F, F = Nb.flat L := ⟨_, rfl⟩
  rw [← hF] at ho hm
  have HFF := Fk.hide hF
  clear hF
  obtain ⟨ua, uc, rfl⟩ := ho.slice
  have HO := Fk.hide ho
  clear ho
  go_wp2_with fail
  go_loopw [9] (fun i wr => ∃ k : Nat, k ≤ F.length ∧ i = .int .i64 k ∧ Hid (Rk.Own Or.S wr w.heap.size 55 (.slice ua F.length uc) (Nb.bare F k)) ∧ Below w.heap.size w wr) (fun i _ => F.length - (intOf i).toNat)
  case atStart => exact ⟨0, Nat.zero_le _, rfl, (by rw [Nb.bare_none]; exact HO), k1⟩
  case round =>
    obtain ⟨k, hk, rfl, HP, bel⟩ := hrel
    by_cases hlt : k < F.length
    · obtain ⟨g, rfl⟩ : ∃ g, ua = some ⟨g, 0, none⟩ := by
        rcases HO.out.form with ⟨h1, h2⟩ | ⟨g, c, h1, _⟩
        · rw [h2] at hlt; simp at hlt
        · simp only [Value.slice.injEq] at h1; exact ⟨g, h1.1⟩
      have hkb : k < (Nb.bare F k).length := by rw [Nb.bare_length]; exact hlt
      have p5 := Or.o5 HP.out hkb
      have p6 := Or.o6 HP.out hkb
      have p7 := Or.o7 HP.out hkb
      rw [Nb.bare_at F k hlt] at p5 p6 p7
      have f5 := HP.out.frozen (k * 8 + 5)
      have f6 := HP.out.frozen (k * 8 + 6)
      have f7 := HP.out.frozen (k * 8 + 7)
      have HG : Hid (w.heap.size ≤ g) := (HP.out.lt g rfl).1
      have HKB := Fk.hide hkb
      clear hkb
      go_wp2_with fail
      refine ⟨⟨k + 1, by omega, by go_num, ?_, ?_⟩, by simp [intOf]; omega⟩
      · obtain ⟨f, hf⟩ : ∃ f, f = Rk.at_ Or.S F k := ⟨_, rfl⟩
        have e0 := Nb.bare_at F k hlt
        rw [← hf] at e0
        have s1 := HP.out.put HKB.out 5 (by decide) (.int .i64 0) (f.1, f.2.1, f.2.2.1, f.2.2.2.1, f.2.2.2.2.1, 0, f.2.2.2.2.2.2.1, f.2.2.2.2.2.2.2) (by rw [e0]; rfl)
        have s2 := s1.put (k := k) (by rw [List.length_set]; exact HKB.out) 6 (by decide) (.int .i64 0) (f.1, f.2.1, f.2.2.1, f.2.2.2.1, f.2.2.2.2.1, 0, 0, f.2.2.2.2.2.2.2) (by rw [Rk.at_set _ _ HKB.out]; rfl)
        rw [List.set_set] at s2
        have s3 := s2.put (k := k) (by rw [List.length_set]; exact HKB.out) 7 (by decide) (.bool false) (Nb.strip f) (by rw [Rk.at_set _ _ HKB.out]; rfl)
        rw [List.set_set, hf, Nb.bare_step F k hlt] at s3
        exact s3
      · exact ((bel.setCell HG.out _).setCell HG.out _).setCell HG.out _
    · have e : k = F.length := by omega
      subst e
      rw [Nb.bare_all] at HP
      go_wp2_with fail
      go_ret
      exact ⟨⟨_, rfl, by rw [← HFF.out]; exact HP.out⟩, bel⟩
end Go.Proofs.Ytjagohadeegghaa

namespace Go.Proofs.Ytjagohadeegghaa
open Go.RowKit
set_option linter.unusedVariables false
set_option linter.unusedSimpArgs false
set_option maxRecDepth 100000 in
set_option maxHeartbeats 4000000 in
theorem newRight_impl (u v : Value) (n : Int) (B A : List Lv.E) (w : World) (hu : Lv.View w u B) (hv : Lv.View w v A) (l0 : B.length ≤ 1048576) (l1 : A.length ≤ 1048576) (m0 : (Nb.flat B).length ≤ 1048576) (m1 : (Nb.flat A).length ≤ 1048576) :
    Calls Try.prog 36 #[.agg #[u, v, .int .i64 n]] w fun e w' => e = .returned (.bool (Nb.right B A n)) ∧ Below w.heap.size w w' := by
  obtain ⟨W, hW⟩ : ∃ W, W = w.alloc (.cells #[u, v, .int .i64 n] 28) := ⟨_, rfl⟩
  have b0 : Below w.heap.size w W := by rw [hW]; exact (Below.refl _ _).alloc (Nat.le_refl _) _
  have c0 : W.cell? ⟨w.heap.size, 0, none⟩ = some u := by rw [hW, Fk.cellTop _ _ _ _ _ rfl]; rfl
  have c1 : W.cell? ⟨w.heap.size, 1, none⟩ = some v := by rw [hW, Fk.cellTop _ _ _ _ _ rfl]; rfl
  have c2 : W.cell? ⟨w.heap.size, 2, none⟩ = some (.int .i64 n) := by rw [hW, Fk.cellTop _ _ _ _ _ rfl]; rfl
  have hz : w.heap.size < W.heap.size := by rw [hW]; simp
  have HU := Fk.hide hu
  have HV := Fk.hide hv
  have ME0 : Hid (∀ i, i < B.length → (Lv.at' B i).2.length ≤ 1048576) := fun i hi => Nat.le_trans (Nb.each_le B i hi) m0
  have ME1 : Hid (∀ i, i < A.length → (Lv.at' A i).2.length ≤ 1048576) := fun i hi => Nat.le_trans (Nb.each_le A i hi) m1
  obtain ⟨a0, cap0, rfl⟩ := hu.slice
  obtain ⟨a1, cap1, rfl⟩ := hv.slice
  have HR := Fk.hide (Nb.right_impl B A n)
  have HW := Fk.hide hW
  clear hW hu hv
  obtain ⟨p, hp⟩ : ∃ p, p = (Nb.flat B).length := ⟨_, rfl⟩
  obtain ⟨q, hq⟩ : ∃ q, q = (Nb.flat A).length := ⟨_, rfl⟩
  have HC0 : Hid (∀ w' x, Lv.View w' x B → Calls Try.prog 84 #[x] w' fun e w'' => e = .returned (.int .i64 p) ∧ Below w'.heap.size w' w'') := fun w' x h => by rw [hp]; exact countOf_any x B w' h l0 m0
  have HC1 : Hid (∀ w' x, Lv.View w' x A → Calls Try.prog 84 #[x] w' fun e w'' => e = .returned (.int .i64 q) ∧ Below w'.heap.size w' w'') := fun w' x h => by rw [hq]; exact countOf_any x A w' h l1 m1
  have M0 := Fk.hide m0
  have M1 := Fk.hide m1
  rw [← hp] at m0
  rw [← hq] at m1
  have HRR : Hid ((decide (p + q ≤ 24) && (Nb.lvlsI B && (Nb.lvlsI A && Ob.right ((Nb.flat B).map Nb.strip) ((Nb.flat A).map Nb.strip) n))) = Nb.right B A n) := by show _ = _; rw [hp, hq]; exact HR.out
  clear hp hq HR
  have HB : Hid (Below w.heap.size w W.drew) := b0.trans ((Below.drew (Below.refl W.heap.size W)).mono b0.size)
  have hzd : W.drew.heap.size = W.heap.size := by simp
  have HC : Hid (W.cell? ⟨w.heap.size, 0, none⟩ = some (.slice a0 B.length cap0) ∧ W.cell? ⟨w.heap.size, 1, none⟩ = some (.slice a1 A.length cap1) ∧ W.cell? ⟨w.heap.size, 2, none⟩ = some (.int .i64 n)) := ⟨c0, c1, c2⟩
  go_enter Try.func36, Try.ntmps36
  go_wp2_with fail
  rw [← HW.out]
  go_region_held3 (fun w' => w'.cell? ⟨w.heap.size, 0, none⟩ = some (.slice a0 B.length cap0) ∧ w'.cell? ⟨w.heap.size, 1, none⟩ = some (.slice a1 A.length cap1) ∧ w'.cell? ⟨w.heap.size, 2, none⟩ = some (.int .i64 n))
    (first | go_keep | (go_split_ands; exact ⟨by assumption, by assumption, by assumption⟩))
    (first
      | (have hchk := HB1.out; clear hchk; go_at_call 84; refine (HC1.out _ _ (HV.out.below HB1.out)).mono ?_; rintro e w2 ⟨rfl, m2⟩; have HB2 : Hid (Below w.heap.size w w2) := HB1.out.trans (m2.mono HB1.out.size); have f0 := (m2.cell (p := ⟨w.heap.size, 0, none⟩) (by show w.heap.size < _; omega)).trans d0; have f1 := (m2.cell (p := ⟨w.heap.size, 1, none⟩) (by show w.heap.size < _; omega)).trans d1; have f2 := (m2.cell (p := ⟨w.heap.size, 2, none⟩) (by show w.heap.size < _; omega)).trans d2; have sz2 : w.heap.size < w2.heap.size := Nat.lt_of_lt_of_le sz1 m2.size; clear m2)
      | (go_at_call 84; refine (HC0.out _ _ (HU.out.below HB.out)).mono ?_; rintro e w1 ⟨rfl, m1⟩; have HB1 : Hid (Below w.heap.size w w1) := HB.out.trans (m1.mono HB.out.size); have d0 := (m1.cell (p := ⟨w.heap.size, 0, none⟩) (by show w.heap.size < _; simp; omega)).trans HC.out.1; have d1 := (m1.cell (p := ⟨w.heap.size, 1, none⟩) (by show w.heap.size < _; simp; omega)).trans HC.out.2.1; have d2 := (m1.cell (p := ⟨w.heap.size, 2, none⟩) (by show w.heap.size < _; simp; omega)).trans HC.out.2.2; have sz1 : w.heap.size < w1.heap.size := Nat.lt_of_lt_of_le hz m1.size; clear m1))
  have hwr : IntKind.i64.wrap ((p : Int) + q) = (p : Int) + q := by rw [IntKind.wrap_i64]; omega
  rw [hwr]
  clear d0 d1 d2 c0 c1 c2 HC HB1 HB b0 hwr
  by_cases hc : p + q ≤ 24
  · have hc1 : decide ((24 : Int) < (p : Int) + q) = false := decide_eq_false (by omega)
    rw [hc1]
    go_wp2_with fail
    refine (levelsRight_any _ B _ (HU.out.below HB2.out) l0 ME0.out).mono ?_
    rintro e w3 ⟨rfl, k3⟩
    obtain ⟨r3, hr3⟩ : ∃ r, r = Nb.lvlsI B := ⟨_, rfl⟩
    rw [← hr3]
    have H3 := Fk.hide hr3
    have HB3 : Hid (Below w.heap.size w w3) := HB2.out.trans (k3.mono HB2.out.size)
    have sz3 : w.heap.size < w3.heap.size := Nat.lt_of_lt_of_le sz2 k3.size
    have g0 := (k3.cell (p := ⟨w.heap.size, 0, none⟩) (by show w.heap.size < _; omega)).trans f0
    have g1 := (k3.cell (p := ⟨w.heap.size, 1, none⟩) (by show w.heap.size < _; omega)).trans f1
    have g2 := (k3.cell (p := ⟨w.heap.size, 2, none⟩) (by show w.heap.size < _; omega)).trans f2
    clear k3 hr3 f0 f1 f2
    cases r3 with
    | false =>
      have HA : Hid (Nb.right B A n = false) := by show _ = _; rw [← HRR.out, ← H3.out]; simp
      go_wp2_with fail
      go_ret
      exact ⟨by rw [HA.out]; rfl, HB3.out⟩
    | true =>
    go_wp2_with fail
    refine (levelsRight_any _ A _ (HV.out.below HB3.out) l1 ME1.out).mono ?_
    rintro e w4 ⟨rfl, k4⟩
    obtain ⟨r4, hr4⟩ : ∃ r, r = Nb.lvlsI A := ⟨_, rfl⟩
    rw [← hr4]
    have H4 := Fk.hide hr4
    have HB4 : Hid (Below w.heap.size w w4) := HB3.out.trans (k4.mono HB3.out.size)
    have sz4 : w.heap.size < w4.heap.size := Nat.lt_of_lt_of_le sz3 k4.size
    have j0 := (k4.cell (p := ⟨w.heap.size, 0, none⟩) (by show w.heap.size < _; omega)).trans g0
    have j1 := (k4.cell (p := ⟨w.heap.size, 1, none⟩) (by show w.heap.size < _; omega)).trans g1
    have j2 := (k4.cell (p := ⟨w.heap.size, 2, none⟩) (by show w.heap.size < _; omega)).trans g2
    clear k4 hr4 g0 g1 g2
    cases r4 with
    | false =>
      have HA : Hid (Nb.right B A n = false) := by show _ = _; rw [← HRR.out, ← H3.out, ← H4.out]; simp
      go_wp2_with fail
      go_ret
      exact ⟨by rw [HA.out]; rfl, HB4.out⟩
    | true =>
    have HA : Hid (Nb.right B A n = Ob.right ((Nb.flat B).map Nb.strip) ((Nb.flat A).map Nb.strip) n) := by show _ = _; rw [← HRR.out, ← H3.out, ← H4.out, decide_eq_true hc]; simp
    obtain ⟨SB, hSB⟩ : ∃ x, x = (Nb.flat B).map Nb.strip := ⟨_, rfl⟩
    obtain ⟨SA, hSA⟩ : ∃ x, x = (Nb.flat A).map Nb.strip := ⟨_, rfl⟩
    have HS0 : Hid (∀ w' x, Lv.View w' x B → Calls Try.prog 86 #[x] w' fun e w'' => (∃ u, e = .returned u ∧ Rk.Own Or.S w'' w'.heap.size 55 u SB) ∧ Below w'.heap.size w' w'') := fun w' x h => by rw [hSB]; exact asOld_any x B w' h l0 M0.out
    have HS1 : Hid (∀ w' x, Lv.View w' x A → Calls Try.prog 86 #[x] w' fun e w'' => (∃ u, e = .returned u ∧ Rk.Own Or.S w'' w'.heap.size 55 u SA) ∧ Below w'.heap.size w' w'') := fun w' x h => by rw [hSA]; exact asOld_any x A w' h l1 M1.out
    have hs0 : SB.length ≤ 1048576 := by rw [hSB, List.length_map]; exact M0.out
    have hs1 : SA.length ≤ 1048576 := by rw [hSA, List.length_map]; exact M1.out
    rw [← hSB, ← hSA] at HA
    clear hSB hSA
    have HB : Hid (Below w.heap.size w w4.drew) := HB4.out.trans ((Below.drew (Below.refl w4.heap.size w4)).mono HB4.out.size)
    have hzd : w4.drew.heap.size = w4.heap.size := by simp
    have HC : Hid (w4.cell? ⟨w.heap.size, 0, none⟩ = some (.slice a0 B.length cap0) ∧ w4.cell? ⟨w.heap.size, 1, none⟩ = some (.slice a1 A.length cap1) ∧ w4.cell? ⟨w.heap.size, 2, none⟩ = some (.int .i64 n)) := ⟨j0, j1, j2⟩
    go_wp2_with fail
    go_region_held3 (fun w' => w'.cell? ⟨w.heap.size, 0, none⟩ = some (.slice a0 B.length cap0) ∧ w'.cell? ⟨w.heap.size, 1, none⟩ = some (.slice a1 A.length cap1) ∧ w'.cell? ⟨w.heap.size, 2, none⟩ = some (.int .i64 n))
      (first | go_keep | (go_split_ands; exact ⟨by assumption, by assumption, by assumption⟩))
      (first
        | (go_at_call 67; refine (oldRight_impl _ _ _ SB SA _ O6.out.view O7.out.view O6.out.shut O7.out.shut hs0 hs1).mono ?_; rintro e w8 ⟨rfl, m8⟩; have HB8 : Hid (Below w.heap.size w w8) := HB7.out.trans (m8.mono HB7.out.size); have q0 := (m8.cell (p := ⟨w.heap.size, 0, none⟩) (by show w.heap.size < _; omega)).trans o0; have q1 := (m8.cell (p := ⟨w.heap.size, 1, none⟩) (by show w.heap.size < _; omega)).trans o1; have q2 := (m8.cell (p := ⟨w.heap.size, 2, none⟩) (by show w.heap.size < _; omega)).trans o2; clear m8)
        | (have hchk := HB6.out; clear hchk; go_at_call 86; refine (HS1.out _ _ (HV.out.below HB6.out)).mono ?_; rintro e w7 ⟨⟨u7, rfl, ow7⟩, m7⟩; have HB7 : Hid (Below w.heap.size w w7) := HB6.out.trans (m7.mono HB6.out.size); have o0 := (m7.cell (p := ⟨w.heap.size, 0, none⟩) (by show w.heap.size < _; omega)).trans l0'; have o1 := (m7.cell (p := ⟨w.heap.size, 1, none⟩) (by show w.heap.size < _; omega)).trans l1'; have o2 := (m7.cell (p := ⟨w.heap.size, 2, none⟩) (by show w.heap.size < _; omega)).trans l2'; have sz7 : w.heap.size < w7.heap.size := Nat.lt_of_lt_of_le sz6 m7.size; obtain ⟨x7, n7, c7, rfl⟩ := ow7.slice'; have O7 := Fk.hide ow7; have O6 := Fk.hide (O5.out.below m7); clear ow7 m7)
        | (go_at_call 86; refine (HS0.out _ _ (HU.out.below HB.out)).mono ?_; rintro e w6 ⟨⟨u6, rfl, ow6⟩, m6⟩; have HB6 : Hid (Below w.heap.size w w6) := HB.out.trans (m6.mono HB.out.size); have l0' := (m6.cell (p := ⟨w.heap.size, 0, none⟩) (by show w.heap.size < _; simp; omega)).trans HC.out.1; have l1' := (m6.cell (p := ⟨w.heap.size, 1, none⟩) (by show w.heap.size < _; simp; omega)).trans HC.out.2.1; have l2' := (m6.cell (p := ⟨w.heap.size, 2, none⟩) (by show w.heap.size < _; simp; omega)).trans HC.out.2.2; have sz6 : w.heap.size < w6.heap.size := Nat.lt_of_lt_of_le sz4 m6.size; obtain ⟨x6, n6, c6, rfl⟩ := ow6.slice'; have O5 := Fk.hide ow6; clear ow6 m6))
    clear q0 q1 q2 o0 o1 o2 j0 j1 j2 l0' l1' l2' HC
    go_wp2_with fail
    go_ret
    exact ⟨by rw [HA.out]; rfl, HB8.out⟩
  · have hc1 : decide ((24 : Int) < (p : Int) + q) = true := decide_eq_true (by omega)
    have HA : Hid (Nb.right B A n = false) := by show _ = _; rw [← HRR.out, decide_eq_false hc]; rfl
    rw [hc1]
    go_wp2_with fail
    go_ret
    exact ⟨by rw [HA.out]; rfl, HB2.out⟩
end Go.Proofs.Ytjagohadeegghaa

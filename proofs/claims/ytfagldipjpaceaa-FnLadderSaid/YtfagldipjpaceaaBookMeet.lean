/- The walk of the specification's meet. -/
import Derived.Test.YtfagldipjpaceaaBookWork
namespace Go.Proofs.Ytfagldipjpaceaa
open Go.RowKit
set_option linter.unusedVariables false
set_option linter.unusedSimpArgs false
theorem Bw.pick_lt {x y : Value} {q : Nat} (c : Bool) (hx : ∀ k, x.ownBlock = some k → k < q) (hy : ∀ k, y.ownBlock = some k → k < q) : ∀ k, (Ob.pick c y x).ownBlock = some k → k < q := by
  cases c
  · exact hx
  · exact hy
theorem Bw.ne2 {k g b n c : Nat} (h : (Value.slice (some ⟨g, 0, none⟩) n c).ownBlock = some k) (e : some k = some b) (hg : g < b) : False := by
  have h1 : k = g := by simpa [Value.ownBlock] using h.symm
  have h2 : k = b := by simpa using e
  omega
set_option maxRecDepth 100000 in
set_option maxHeartbeats 8000000 in
theorem bookMeet_any (base b : Nat) (x0 y0 z0 : Value) (X : Dm.Bk) (i ow p0 a : Int) (d : Bool) (pk h : Int) (g buy : Bool) (p left : Int) (w : World) (hI : Bw.Is w base b x0 y0 z0 X) (hw : base ≤ w.heap.size) (hl0 : 0 ≤ left) (hl1 : left ≤ 100000) (hF : ∀ x ∈ X.side (!buy), Dm.Fine x) (hn : (X.side (!buy)).length ≤ 100000) (he : X.ev.length ≤ 100000) :
    Calls Try.prog 100 #[.pointer (some ⟨b, 0, none⟩), .agg #[.int .i64 i, .int .i64 ow, .int .i64 p0, .int .i64 a, .bool d, .int .i64 pk, .int .i64 h, .bool g], .bool buy, .int .i64 p, .int .i64 left] w fun e w' => e = .returned (.tuple #[.int .i64 (Dm.meetB (i, ow, p0, a, d, pk, h, g) buy p left.toNat left X).1, .bool (Dm.meetB (i, ow, p0, a, d, pk, h, g) buy p left.toNat left X).2.1]) ∧ (∃ x y z, Bw.Is w' base b x y z (Dm.meetB (i, ow, p0, a, d, pk, h, g) buy p left.toNat left X).2.2) ∧ Below base w w' ∧ Bw.Fr w w' := by
  obtain ⟨i0, hi, hz0, hz1, hz2⟩ := info_parts infoOrdS
  obtain ⟨R, hR⟩ : ∃ R, R = Dm.meetB (i, ow, p0, a, d, pk, h, g) buy p left.toNat left X := ⟨_, rfl⟩
  obtain ⟨W, hW⟩ : ∃ W, W = w.alloc (.cells #[.int .i64 i, .int .i64 ow, .int .i64 p0, .int .i64 a, .bool d, .int .i64 pk, .int .i64 h, .bool g] 40) := ⟨_, rfl⟩
  have bW : Below w.heap.size w W := by rw [hW]; exact (Below.refl _ _).alloc (Nat.le_refl _) _
  have kO : Wq.Kind W w.heap.size 40 := by rw [hW]; exact ⟨_, _, heap_alloc_new w _⟩
  have o0 : W.cell? ⟨w.heap.size, 0, none⟩ = some (.int .i64 i) := by rw [hW, Fk.cellTop _ _ _ _ _ rfl]; rfl
  have o1 : W.cell? ⟨w.heap.size, 1, none⟩ = some (.int .i64 ow) := by rw [hW, Fk.cellTop _ _ _ _ _ rfl]; rfl
  have o7 : W.cell? ⟨w.heap.size, 7, none⟩ = some (.bool g) := by rw [hW, Fk.cellTop _ _ _ _ _ rfl]; rfl
  have HW := Fk.hide hW
  have HBW := Fk.hide (bW.mono hw)
  have HFW := Fk.hide (Bw.Fr.of_below bW)
  have HKO := Fk.hide kO
  have HI := Fk.hide (hI.below bW)
  have HR := Fk.hide hR
  have HFN := Fk.hide hF
  rw [← hR]
  clear hW bW kO hI hR hF
  go_enter Try.func100, Try.ntmps100
  go_wp2_with fail
  rw [← HW.out]
  go_loopw [4] (fun u wr => ∃ (lf : Int) (f : Nat) (x y z : Value) (Y : Dm.Bk), u = .int .i64 lf ∧ 0 ≤ lf ∧ lf ≤ 100000 ∧ lf.toNat ≤ f ∧ (Y.side (!buy)).length ≤ 100000 ∧ Y.ev.length + f ≤ 200000 ∧ Hid (Bw.Is wr base b x y z Y) ∧ Hid (Dm.meetB (i, ow, p0, a, d, pk, h, g) buy p f lf Y = R) ∧ Hid (∀ x ∈ Y.side (!buy), Dm.Fine x) ∧ Hid (Below base w wr) ∧ Hid (Bw.Fr W wr)) (fun u _ => (intOf u).toNat)
  case atStart => exact ⟨left, left.toNat, x0, y0, z0, X, rfl, hl0, hl1, Nat.le_refl _, hn, by omega, HI.out, HR.out.symm, HFN.out, HBW.out, Bw.Fr.refl _⟩
  case round =>
    obtain ⟨lf, f, x, y, z, Y, rfl, hf0, hf1, hf2, hs1, he1, HJ, HM, HN, HB, HFr⟩ := hrel
    by_cases hlz : lf = 0
    · subst hlz
      have HE : Hid (R = (0, false, Y)) := HM.out.symm.trans (Dm.meetB_zero _ _ _ _ _)
      go_wp2_with fail
      refine bodyPost_ret (v := .tuple #[.int .i64 0, .bool false]) (by simp [results, Try.results100, go_sem]) rfl ⟨by rw [HE.out], ⟨x, y, z, by rw [HE.out]; exact HJ.out⟩, HB.out, HFW.out.trans HFr.out⟩
    · have hlp : 0 < lf := by omega
      obtain ⟨f, rfl⟩ : ∃ f', f = f' + 1 := ⟨f - 1, by omega⟩
      have HV : Hid (Rk.Own Or.S wr base 40 (Ob.pick (!buy) x y) (Y.side (!buy))) := by cases buy; exact HJ.out.two.b; exact HJ.out.two.a
      obtain ⟨S, hS⟩ : ∃ S, S = Y.side (!buy) := ⟨_, rfl⟩
      rw [← hS] at HV HN hs1
      have HS := Fk.hide hS
      clear hS
      have HC0 := HJ.out.c0
      have HC1 := HJ.out.c1
      have HSX : Hid (∃ a n c, x = .slice a n c) := HJ.out.two.b.slice'
      have HSY : Hid (∃ a n c, y = .slice a n c) := HJ.out.two.a.slice'
      go_wp2_with fail
      refine (side_any b x y (!buy) wr HC0 HC1 HSX.out HSY.out).mono ?_
      rintro e w1 ⟨rfl, hw1⟩
      obtain rfl := hw1.symm
      obtain ⟨v, hv⟩ : ∃ v, v = Ob.pick (!buy) x y := ⟨_, rfl⟩
      have HVV := Fk.hide hv
      rw [← hv] at HV ⊢
      clear hv
      have q0 := (HFr.out.cell (j := 0) HKO.out (by decide) (by decide)).trans o0
      have q1 := (HFr.out.cell (j := 1) HKO.out (by decide) (by decide)).trans o1
      have q7 := (HFr.out.cell (j := 7) HKO.out (by decide) (by decide)).trans o7
      clear HC0 HC1
      rcases HV.out.form with ⟨hvn, hsn⟩ | ⟨g0, cap, hvs, hbg, hg0⟩
      · subst hvn hsn
        have HE : Hid (R = (lf, false, Y)) := HM.out.symm.trans (Dm.meetB_none hlp HS.out.symm)
        go_wp2_with fail
        refine bodyPost_ret (v := .tuple #[.int .i64 lf, .bool false]) (by simp [results, Try.results100, go_sem]) rfl ⟨by rw [HE.out], ⟨x, y, z, by rw [HE.out]; exact HJ.out⟩, HB.out, HFW.out.trans HFr.out⟩
      · subst hvs
        cases S with
        | nil =>
          have HE : Hid (R = (lf, false, Y)) := HM.out.symm.trans (Dm.meetB_none hlp HS.out.symm)
          go_wp2_with fail
          refine bodyPost_ret (v := .tuple #[.int .i64 lf, .bool false]) (by simp [results, Try.results100, go_sem]) rfl ⟨by rw [HE.out], ⟨x, y, z, by rw [HE.out]; exact HJ.out⟩, HB.out, HFW.out.trans HFr.out⟩
        | cons xe r =>
          have HV0 := HV.out
          have s0 := Or.o0 HV0 (k := 0) (by simp)
          have s1 := Or.o1 HV0 (k := 0) (by simp)
          have s2 := Or.o2 HV0 (k := 0) (by simp)
          have s3 := Or.o3 HV0 (k := 0) (by simp)
          have s4 := Or.o4 HV0 (k := 0) (by simp)
          have s5 := Or.o5 HV0 (k := 0) (by simp)
          have s6 := Or.o6 HV0 (k := 0) (by simp)
          have s7 := Or.o7 HV0 (k := 0) (by simp)
          clear HV0
          change wr.cell? _ = some (.int .i64 xe.1) at s0
          change wr.cell? _ = some (.int .i64 xe.2.1) at s1
          change wr.cell? _ = some (.int .i64 xe.2.2.1) at s2
          change wr.cell? _ = some (.int .i64 xe.2.2.2.1) at s3
          change wr.cell? _ = some (.bool xe.2.2.2.2.1) at s4
          change wr.cell? _ = some (.int .i64 xe.2.2.2.2.2.1) at s5
          change wr.cell? _ = some (.int .i64 xe.2.2.2.2.2.2.1) at s6
          change wr.cell? _ = some (.bool xe.2.2.2.2.2.2.2) at s7
          simp only [Nat.zero_mul, Nat.zero_add] at s0 s1 s2 s3 s4 s5 s6 s7
          have HXF : Hid (Dm.Fine xe) := HN.out xe (List.mem_cons_self ..)
          have HRF : Hid (∀ y ∈ r, Dm.Fine y) := fun y hy => HN.out y (List.mem_cons_of_mem _ hy)
          obtain ⟨x0, x1, x2, x3, x4, x5, x6, x7⟩ := xe
          dsimp only at s0 s1 s2 s3 s4 s5 s6 s7
          have hln : (0 : Int) < ((r.length : Int) + 1) := by omega
          have hln0 : ((r.length : Int) + 1 == 0) = false := by simp; omega
          have hln1 : (r.length + 1 == 0) = false := by simp
          have hln2 : decide ((r.length : Int) + 1 = 0) = false := by simp; omega
          have hln3 : decide (r.length + 1 = 0) = false := by simp
          simp only [List.length_cons] at HV hs1 ⊢
          go_wp2_with fail
          refine (l06Meets_any buy p x2 wr).mono ?_
          rintro e w2 ⟨rfl, hw2⟩
          obtain rfl := hw2.symm
          obtain ⟨m, hm⟩ : ∃ m, m = Dm.meets buy p x2 := ⟨_, rfl⟩
          rw [← hm]
          have HMT : Hid (Dm.meets buy p x2 = m) := hm.symm
          clear hm
          cases m with
          | false =>
            have HE : Hid (R = (lf, false, Y)) := HM.out.symm.trans (Dm.meetB_far hlp HS.out.symm HMT.out)
            go_wp2_with fail
            refine bodyPost_ret (v := .tuple #[.int .i64 lf, .bool false]) (by simp [results, Try.results100, go_sem]) rfl ⟨by rw [HE.out], ⟨x, y, z, by rw [HE.out]; exact HJ.out⟩, HB.out, HFW.out.trans HFr.out⟩
          | true =>
            have hzw : w.heap.size < wr.heap.size := by
              obtain ⟨cs, fr, hq⟩ := HKO.out
              exact (Array.getElem?_eq_some_iff.1 ((HFr.out _ _ _ _ hq (by decide) (by decide)).trans hq)).1
            have HZW := Fk.hide hzw
            have l0 := (Fk.cellOld wr (.cells #[.int .i64 x0, .int .i64 x1, .int .i64 x2, .int .i64 x3, .bool x4, .int .i64 x5, .int .i64 x6, .bool x7] 40) w.heap.size 0 hzw).trans q0
            have l1 := (Fk.cellOld wr (.cells #[.int .i64 x0, .int .i64 x1, .int .i64 x2, .int .i64 x3, .bool x4, .int .i64 x5, .int .i64 x6, .bool x7] 40) w.heap.size 1 hzw).trans q1
            have l7 := (Fk.cellOld wr (.cells #[.int .i64 x0, .int .i64 x1, .int .i64 x2, .int .i64 x3, .bool x4, .int .i64 x5, .int .i64 x6, .bool x7] 40) w.heap.size 7 hzw).trans q7
            clear hzw q0 q1 q7
            have hne : (w.heap.size == wr.heap.size) = false := by have := HZW.out; simp; omega
            by_cases hgo : (g && decide (x1 = ow)) = true
            · have HE : Hid (R = (lf, true, Y)) := HM.out.symm.trans (Dm.meetB_guard hlp HS.out.symm HMT.out hgo)
              simp only [Bool.and_eq_true, decide_eq_true_eq] at hgo
              obtain ⟨rfl, rfl⟩ := hgo
              go_wp2_with fail
              have bX : Below wr.heap.size wr (wr.alloc (.cells #[.int .i64 x0, .int .i64 x1, .int .i64 x2, .int .i64 x3, .bool x4, .int .i64 x5, .int .i64 x6, .bool x7] 40)) := (Below.refl _ _).alloc (Nat.le_refl _) _
              have JX := Fk.hide (HJ.out.below bX)
              refine bodyPost_ret (v := .tuple #[.int .i64 lf, .bool true]) (by simp [results, Try.results100, go_sem]) rfl ⟨by rw [HE.out], ⟨x, y, z, by rw [HE.out]; exact JX.out⟩, HB.out.trans (bX.mono (Nat.le_trans hw HB.out.size)), HFW.out.trans (HFr.out.trans (Bw.Fr.of_below bX))⟩
            · have HGO : Hid ((g && decide (x1 = ow)) = false) := by show _ = _; simpa using hgo
              have hgo' : g = false ∨ (g = true ∧ x1 ≠ ow) := by
                cases g
                · exact .inl rfl
                · exact .inr ⟨rfl, fun e => hgo (by simp [e])⟩
              clear hgo
              obtain ⟨nn, hnn⟩ : ∃ n, n = min lf x3 := ⟨_, rfl⟩
              have HE : Hid (R = Dm.meetB (i, ow, p0, a, d, pk, h, g) buy p f (lf - nn) ((Y.tell (Dm.fill i (x0, x1, x2, x3, x4, x5, x6, x7) nn)).put (!buy) (Dm.rest buy (x0, x1, x2, x3, x4, x5, x6, x7) nn r))) := by
                show _ = _
                rw [hnn]
                exact HM.out.symm.trans (Dm.meetB_go hlp HS.out.symm HMT.out HGO.out)
              have hx3 := HXF.out.1
              have hx5 := HXF.out.2.1
              have hx6 := HXF.out.2.2.1
              dsimp only at hx3 hx5 hx6
              have hn1 : 1 ≤ nn := by omega
              have hn2 : nn ≤ lf := by omega
              have hn3 : nn ≤ x3 := by omega
              have HNN := Fk.hide hnn
              rcases hgo' with rfl | ⟨rfl, hxo⟩
              · go_wp2_with fail
                refine (l01Min_any lf x3 _).mono ?_
                rintro e w2 ⟨rfl, hw2⟩
                obtain rfl := hw2.symm
                rw [← HNN.out]
                clear hnn
                obtain ⟨Wx, hWx⟩ : ∃ W, W = wr.alloc (.cells #[.int .i64 x0, .int .i64 x1, .int .i64 x2, .int .i64 x3, .bool x4, .int .i64 x5, .int .i64 x6, .bool x7] 40) := ⟨_, rfl⟩
                have bX : Below wr.heap.size wr Wx := by rw [hWx]; exact (Below.refl _ _).alloc (Nat.le_refl _) _
                have KX : Hid (Wq.Kind Wx wr.heap.size 40) := by show Wq.Kind _ _ _; rw [hWx]; exact ⟨_, _, heap_alloc_new wr _⟩
                have y0 : Wx.cell? ⟨wr.heap.size, 0, none⟩ = some (.int .i64 x0) := by rw [hWx, Fk.cellTop _ _ _ _ _ rfl]; rfl
                have y1 : Wx.cell? ⟨wr.heap.size, 1, none⟩ = some (.int .i64 x1) := by rw [hWx, Fk.cellTop _ _ _ _ _ rfl]; rfl
                have y2 : Wx.cell? ⟨wr.heap.size, 2, none⟩ = some (.int .i64 x2) := by rw [hWx, Fk.cellTop _ _ _ _ _ rfl]; rfl
                have y3 : Wx.cell? ⟨wr.heap.size, 3, none⟩ = some (.int .i64 x3) := by rw [hWx, Fk.cellTop _ _ _ _ _ rfl]; rfl
                have y4 : Wx.cell? ⟨wr.heap.size, 4, none⟩ = some (.bool x4) := by rw [hWx, Fk.cellTop _ _ _ _ _ rfl]; rfl
                have y5 : Wx.cell? ⟨wr.heap.size, 5, none⟩ = some (.int .i64 x5) := by rw [hWx, Fk.cellTop _ _ _ _ _ rfl]; rfl
                have y6 : Wx.cell? ⟨wr.heap.size, 6, none⟩ = some (.int .i64 x6) := by rw [hWx, Fk.cellTop _ _ _ _ _ rfl]; rfl
                have y7 : Wx.cell? ⟨wr.heap.size, 7, none⟩ = some (.bool x7) := by rw [hWx, Fk.cellTop _ _ _ _ _ rfl]; rfl
                have yf : ∀ j, Wx.frozen? ⟨wr.heap.size, j, none⟩ = false := fun j => by rw [hWx, Fk.frozTop _ _ _ _ _ rfl]
                rw [← hWx] at l0 l1 l7 ⊢
                have JX := Fk.hide (HJ.out.below bX)
                have BX := Fk.hide (HB.out.trans (bX.mono (Nat.le_trans hw HB.out.size)))
                have FX := Fk.hide (HFr.out.trans (Bw.Fr.of_below bX))
                have VX := Fk.hide (HV.out.below bX)
                have HLX : Hid (∀ k, x.ownBlock = some k → k < wr.heap.size) := fun k hk => (HJ.out.two.b.lt k hk).2
                have HLY : Hid (∀ k, y.ownBlock = some k → k < wr.heap.size) := fun k hk => (HJ.out.two.a.lt k hk).2
                have FXw := Fk.hide (Bw.Fr.of_below bX)
                have hgx : g0 < wr.heap.size := hg0
                have hwX : base ≤ Wx.heap.size := Nat.le_trans hw BX.out.size
                have hbw : base ≤ wr.heap.size := Nat.le_trans hw HB.out.size
                have hxl : Hid (wr.heap.size < Wx.heap.size) := by show _ < _; rw [hWx]; simp
                clear hWx bX s0 s1 s2 s3 s4 s5 s6 s7 HV HJ HB
                go_wp2_with fail
                refine (bookTell_any base b x y z Y 2 i x0 x2 nn Wx JX.out hwX (by omega)).mono ?_
                rintro e w5 ⟨rfl, ⟨z5, J5⟩, B5, F5⟩
                have J5' := Fk.hide J5
                have B5' := Fk.hide (BX.out.trans B5)
                have F5' := Fk.hide (FX.out.trans F5)
                have F5w := Fk.hide (FXw.out.trans F5)
                have V5 := Fk.hide (F5.own VX.out (by decide) (by decide))
                have KX5 : Hid (Wq.Kind w5 wr.heap.size 40) := by
                  obtain ⟨cs, fr, hq⟩ := KX.out
                  exact ⟨cs, fr, (F5 _ _ _ _ hq (by decide) (by decide)).trans hq⟩
                have v0 := (F5.cell (j := 0) KX.out (by decide) (by decide)).trans y0
                have v1 := (F5.cell (j := 1) KX.out (by decide) (by decide)).trans y1
                have v2 := (F5.cell (j := 2) KX.out (by decide) (by decide)).trans y2
                have v3 := (F5.cell (j := 3) KX.out (by decide) (by decide)).trans y3
                have v4 := (F5.cell (j := 4) KX.out (by decide) (by decide)).trans y4
                have v5 := (F5.cell (j := 5) KX.out (by decide) (by decide)).trans y5
                have v6 := (F5.cell (j := 6) KX.out (by decide) (by decide)).trans y6
                have v7 := (F5.cell (j := 7) KX.out (by decide) (by decide)).trans y7
                have vf : w5.frozen? ⟨wr.heap.size, 3, none⟩ = false := by
                  obtain ⟨cs, fr, hq⟩ := KX.out
                  exact (World.frozen?_of_block (a := ⟨wr.heap.size, 3, none⟩) (F5 _ _ _ _ hq (by decide) (by decide))).trans (yf 3)
                have hw5 : base ≤ w5.heap.size := Nat.le_trans hw B5'.out.size
                have HX5 : Hid (wr.heap.size < w5.heap.size) := Nat.lt_of_lt_of_le hxl.out B5.size
                clear y0 y1 y2 y3 y4 y5 y6 y7 yf J5 B5 F5 JX BX FX VX KX l0 l1 l7 HVV hxl
                have t0 : (w5.setCell ⟨wr.heap.size, 3, none⟩ (.int .i64 (x3 - nn))).cell? ⟨wr.heap.size, 0, none⟩ = some (.int .i64 x0) := (World.cell?_setCell_other _ _ _ _ (by simp)).trans v0
                have t1 : (w5.setCell ⟨wr.heap.size, 3, none⟩ (.int .i64 (x3 - nn))).cell? ⟨wr.heap.size, 1, none⟩ = some (.int .i64 x1) := (World.cell?_setCell_other _ _ _ _ (by simp)).trans v1
                have t2 : (w5.setCell ⟨wr.heap.size, 3, none⟩ (.int .i64 (x3 - nn))).cell? ⟨wr.heap.size, 2, none⟩ = some (.int .i64 x2) := (World.cell?_setCell_other _ _ _ _ (by simp)).trans v2
                have t3 : (w5.setCell ⟨wr.heap.size, 3, none⟩ (.int .i64 (x3 - nn))).cell? ⟨wr.heap.size, 3, none⟩ = some (.int .i64 (x3 - nn)) := World.cell?_setCell_same _ _ _ v3
                have t4 : (w5.setCell ⟨wr.heap.size, 3, none⟩ (.int .i64 (x3 - nn))).cell? ⟨wr.heap.size, 4, none⟩ = some (.bool x4) := (World.cell?_setCell_other _ _ _ _ (by simp)).trans v4
                have t5 : (w5.setCell ⟨wr.heap.size, 3, none⟩ (.int .i64 (x3 - nn))).cell? ⟨wr.heap.size, 5, none⟩ = some (.int .i64 x5) := (World.cell?_setCell_other _ _ _ _ (by simp)).trans v5
                have t6 : (w5.setCell ⟨wr.heap.size, 3, none⟩ (.int .i64 (x3 - nn))).cell? ⟨wr.heap.size, 6, none⟩ = some (.int .i64 x6) := (World.cell?_setCell_other _ _ _ _ (by simp)).trans v6
                have t7 : (w5.setCell ⟨wr.heap.size, 3, none⟩ (.int .i64 (x3 - nn))).cell? ⟨wr.heap.size, 7, none⟩ = some (.bool x7) := (World.cell?_setCell_other _ _ _ _ (by simp)).trans v7
                have HG6 : Hid (w5.grownBy (w5.setCell ⟨wr.heap.size, 3, none⟩ (.int .i64 (x3 - nn))) (some wr.heap.size)) := Fk.grownBy_setCell _ _ _ _
                have V6 : Hid (Rk.Own Or.S (w5.setCell ⟨wr.heap.size, 3, none⟩ (.int .i64 (x3 - nn))) base 40 (.slice (some ⟨g0, 0, none⟩) (r.length + 1) cap) ((x0, x1, x2, x3, x4, x5, x6, x7) :: r)) := V5.out.kept HG6.out (fun k hk e => Bw.ne2 hk e hgx)
                have B6 : Hid (Below base w (w5.setCell ⟨wr.heap.size, 3, none⟩ (.int .i64 (x3 - nn)))) := B5'.out.setCell hbw _
                have J6 : Hid (Bw.Is (w5.setCell ⟨wr.heap.size, 3, none⟩ (.int .i64 (x3 - nn))) base b x y z5 (Y.tell (Dm.fill i (x0, x1, x2, x3, x4, x5, x6, x7) nn))) := J5'.out.setBox KX5.out (by decide) (by decide) (fun k hk => Nat.ne_of_lt (HLX.out k hk)) (fun k hk => Nat.ne_of_lt (HLY.out k hk)) _ _
                have F6 : Hid (Bw.Fr wr (w5.setCell ⟨wr.heap.size, 3, none⟩ (.int .i64 (x3 - nn)))) := fun q cs TT fr hq h1 h2 => (HG6.out.block q (by have := (Array.getElem?_eq_some_iff.1 ((F5w.out q cs TT fr hq h1 h2).trans hq)).1; exact this) (fun e => by have := (Array.getElem?_eq_some_iff.1 hq).1; have := Option.some.inj e; omega)).trans (F5w.out q cs TT fr hq h1 h2)
                have hcap : r.length + 1 ≤ cap := by
                  obtain ⟨_, h1 | ⟨g', cap', cur, hv, _, _, hc, _⟩⟩ := V6.out
                  · cases h1.1
                  · simp only [Value.slice.injEq] at hv; simp only [List.length_cons] at hc; omega
                have n1 : (1 : Int) ≤ (r.length : Int) + 1 := by omega
                have n2 : ((r.length : Int) + 1) ≤ (cap : Int) := by omega
                have n3 : IntKind.i64.wrap (lf - nn) = lf - nn := by rw [IntKind.wrap_i64]; omega
                have n4 : IntKind.i64.wrap (x3 - nn) = x3 - nn := by rw [IntKind.wrap_i64]; omega
                have b7 : Below (w5.setCell ⟨wr.heap.size, 3, none⟩ (.int .i64 (x3 - nn))).heap.size (w5.setCell ⟨wr.heap.size, 3, none⟩ (.int .i64 (x3 - nn))) ((w5.setCell ⟨wr.heap.size, 3, none⟩ (.int .i64 (x3 - nn))).alloc (.cells #[] 40)) := (Below.refl _ _).alloc (Nat.le_refl _) _
                have hM : Hid (Rk.Own Or.S ((w5.setCell ⟨wr.heap.size, 3, none⟩ (.int .i64 (x3 - nn))).alloc (.cells #[] 40)) (w5.setCell ⟨wr.heap.size, 3, none⟩ (.int .i64 (x3 - nn))).heap.size 40 (.slice (some ⟨w5.heap.size, 0, none⟩) 0 0) []) := by have := Rk.own_empty (S := Or.S) (w5.setCell ⟨wr.heap.size, 3, none⟩ (.int .i64 (x3 - nn))) 40 (w5.setCell ⟨wr.heap.size, 3, none⟩ (.int .i64 (x3 - nn))).heap.size (Nat.le_refl _); show Rk.Own _ _ _ _ _ _; simpa using this
                have HSS : Hid (Rk.Sees Or.S (w5.setCell ⟨wr.heap.size, 3, none⟩ (.int .i64 (x3 - nn))) g0 0 ((x0, x1, x2, x3, x4, x5, x6, x7) :: r)) := fun i hi j hj => by have := V6.out.at hi j hj; simpa using this
                have hxs : Hid (wr.heap.size < (w5.setCell ⟨wr.heap.size, 3, none⟩ (.int .i64 (x3 - nn))).heap.size) := by show _ < _; have := HX5.out; simpa using this
                have hgs : Hid (g0 < (w5.setCell ⟨wr.heap.size, 3, none⟩ (.int .i64 (x3 - nn))).heap.size) := Nat.lt_trans hgx hxs.out
                have hbs : Hid (base ≤ (w5.setCell ⟨wr.heap.size, 3, none⟩ (.int .i64 (x3 - nn))).heap.size) := Nat.le_trans hw B6.out.size
                have HB7 := Fk.hide b7
                clear b7 v0 v1 v2 v4 v5 v6 v7 V5 KX5 J5'
                by_cases hc1 : cap = 1
                · have hr0 : r = [] := List.length_eq_zero_iff.1 (by omega)
                  subst hr0
                  subst hc1
                  simp only [List.length_nil, Nat.zero_add] at hs1 hln n1 n2 V6 ⊢
                  have hV : Hid (Rk.View Or.S ((w5.setCell ⟨wr.heap.size, 3, none⟩ (.int .i64 (x3 - nn))).alloc (.cells #[] 40)) (.slice (some ⟨g0, 0, none⟩) 0 0) ([] : List Or.E)) := Rk.view_of (fun i hi => absurd hi (by simp)) (Nat.lt_of_lt_of_le hgs.out HB7.out.size) rfl
                  have hl1 : Hid (([] : List Or.E).length + ([] : List Or.E).length ≤ 1000000000) := by show _ ≤ _; simp <;> omega
                  by_cases hpos : 0 < x3 - nn
                  · have HRS : Hid (Dm.rest buy (x0, x1, x2, x3, x4, x5, x6, x7) nn ([] : List Or.E) = (x0, x1, x2, x3 - nn, x4, x5, x6, x7) :: ([] : List Or.E)) := if_pos hpos
                    have hS7 : Hid (∀ a, Rk.Shut (.slice (some a) 1 1)) := fun a => Rk.shut_some a _ _
                    go_wp2_with (first
                      | (have hchk := B7.out; clear hchk; at_builtin; refine Rk.wpList_append_view _ rfl _ _ 23 rfl (w5.setCell ⟨wr.heap.size, 3, none⟩ (.int .i64 (x3 - nn))).heap.size 40 i0 _ 8 64 rfl Try.underlying23 hi hz0 hz1 hz2 rfl (by decide) (.slice (some ⟨w7.heap.size, 0, none⟩) 1 1) (.slice a7 m7 c7) [(x0, x1, x2, x3 - nn, x4, x5, x6, x7)] ([] : List Or.E) rfl rfl (Rk.own_lit1 w7 _ _ B7.out.size _ _ rfl) (HO7.out.below ((Below.refl _ _).alloc (Nat.le_refl _) _)).view HO7.out.shut (by simp <;> omega) (Nat.le_trans B7.out.size (by simp)) ?_; intro u8 w8 o8 g8; have B8 : Hid (Below (w5.setCell ⟨wr.heap.size, 3, none⟩ (.int .i64 (x3 - nn))).heap.size (w5.setCell ⟨wr.heap.size, 3, none⟩ (.int .i64 (x3 - nn))) w8) := (B7.out.alloc B7.out.size _).grown g8 (Nat.le_trans B7.out.size (by simp)) (fun j hj => by have h1 := B7.out.size; simp [Value.ownBlock] at hj; omega); obtain ⟨a8, m8, c8, rfl⟩ := o8.slice'; have HO8 := Fk.hide o8; clear o8 g8)
                      | (at_builtin; (refine Rk.wpList_append_view _ rfl _ _ 23 rfl (w5.setCell ⟨wr.heap.size, 3, none⟩ (.int .i64 (x3 - nn))).heap.size 40 i0 _ 8 64 rfl Try.underlying23 hi hz0 hz1 hz2 rfl (by decide) (.slice (some ⟨w5.heap.size, 0, none⟩) 0 0) (.slice (some ⟨g0, 0, none⟩) 0 0) [] ([] : List Or.E) rfl rfl hM.out hV.out (Rk.shut_some _ _ _) hl1.out HB7.out.size ?_); intro u7 w7 o7 g7; rw [List.nil_append] at o7; have B7 : Hid (Below (w5.setCell ⟨wr.heap.size, 3, none⟩ (.int .i64 (x3 - nn))).heap.size (w5.setCell ⟨wr.heap.size, 3, none⟩ (.int .i64 (x3 - nn))) w7) := HB7.out.grown g7 HB7.out.size (fun j hj => by have := (hM.out.lt j hj).1; exact this); obtain ⟨a7, m7, c7, rfl⟩ := o7.slice'; have HO7 := Fk.hide o7; have w7_0 := (B7.out.cell (p := ⟨wr.heap.size, 0, none⟩) (by exact hxs.out)).trans t0; have w7_1 := (B7.out.cell (p := ⟨wr.heap.size, 1, none⟩) (by exact hxs.out)).trans t1; have w7_2 := (B7.out.cell (p := ⟨wr.heap.size, 2, none⟩) (by exact hxs.out)).trans t2; have w7_3 := (B7.out.cell (p := ⟨wr.heap.size, 3, none⟩) (by exact hxs.out)).trans t3; have w7_4 := (B7.out.cell (p := ⟨wr.heap.size, 4, none⟩) (by exact hxs.out)).trans t4; have w7_5 := (B7.out.cell (p := ⟨wr.heap.size, 5, none⟩) (by exact hxs.out)).trans t5; have w7_6 := (B7.out.cell (p := ⟨wr.heap.size, 6, none⟩) (by exact hxs.out)).trans t6; have w7_7 := (B7.out.cell (p := ⟨wr.heap.size, 7, none⟩) (by exact hxs.out)).trans t7; clear o7 g7))
                    have K8 : Hid (Below (w5.setCell ⟨wr.heap.size, 3, none⟩ (.int .i64 (x3 - nn))).heap.size (w5.setCell ⟨wr.heap.size, 3, none⟩ (.int .i64 (x3 - nn))) w8) := B8
                    have J8 : Hid (Bw.Is w8 base b x y z5 (Y.tell (Dm.fill i (x0, x1, x2, x3, x4, x5, x6, x7) nn))) := J6.out.below K8.out
                    have BB8 : Hid (Below base w w8) := B6.out.trans (K8.out.mono hbs.out)
                    have FF8 : Hid (Bw.Fr (w5.setCell ⟨wr.heap.size, 3, none⟩ (.int .i64 (x3 - nn))) w8) := Bw.Fr.of_below K8.out
                    refine (bookPut_any base b x y z5 (.slice a8 m8 c8) (Y.tell (Dm.fill i (x0, x1, x2, x3, x4, x5, x6, x7) nn)) ((x0, x1, x2, x3 - nn, x4, x5, x6, x7) :: ([] : List Or.E)) (!buy) w8 J8.out (Nat.le_trans hw BB8.out.size) (HO8.out.mono hbs.out) (fun k hk e => by have h1 := (HO8.out.lt k hk).1; have h2 := hxs.out; have h3 := Bw.pick_lt (!buy) HLX.out HLY.out k e; omega)).mono ?_
                    rintro e w9 ⟨rfl, J9, B9, F9⟩
                    have J9' := Fk.hide J9
                    have B9' := Fk.hide (BB8.out.trans B9)
                    have F9' := Fk.hide (HFr.out.trans (F6.out.trans (FF8.out.trans F9)))
                    clear J9 B9 F9
                    go_wp2_with fail
                    go_roundw
                    case rel =>
                      refine ⟨lf - nn, f, _, _, z5, _, by go_num, by omega, by omega, by omega, ?_, ?_, J9'.out, ?_, ?_, B9'.out, F9'.out⟩
                      · rw [Dm.side_put]; have := Dm.rest_length buy (x0, x1, x2, x3, x4, x5, x6, x7) nn ([] : List Or.E); rw [HRS.out] at this; simp only [List.length_nil] at this; omega
                      · rw [Dm.ev_put]; simp only [Dm.Bk.tell, List.length_append, List.length_cons, List.length_nil]; omega
                      · have := HE.out; rw [HRS.out] at this; exact this.symm
                      · rw [Dm.side_put, ← HRS.out]; exact Dm.rest_fine HXF.out (by omega) HRF.out
                    case measure => simp [intOf]; omega
                  · by_cases h6 : 0 < x6
                    · have HRS : Hid (Dm.rest buy (x0, x1, x2, x3, x4, x5, x6, x7) nn ([] : List Or.E) = Dm.inn (!buy) (Dm.shown (x0, x1, x2, x3 - nn, x4, x5, x6, x7) x6) ([] : List Or.E)) := by show _ = _; unfold Dm.rest; rw [if_neg hpos, if_pos h6]; rfl
                      go_wp2_with (first
                        | (at_builtin; (refine Rk.wpList_append_view _ rfl _ _ 23 rfl (w5.setCell ⟨wr.heap.size, 3, none⟩ (.int .i64 (x3 - nn))).heap.size 40 i0 _ 8 64 rfl Try.underlying23 hi hz0 hz1 hz2 rfl (by decide) (.slice (some ⟨w5.heap.size, 0, none⟩) 0 0) (.slice (some ⟨g0, 0, none⟩) 0 0) [] ([] : List Or.E) rfl rfl hM.out hV.out (Rk.shut_some _ _ _) hl1.out HB7.out.size ?_); intro u7 w7 o7 g7; rw [List.nil_append] at o7; have B7 : Hid (Below (w5.setCell ⟨wr.heap.size, 3, none⟩ (.int .i64 (x3 - nn))).heap.size (w5.setCell ⟨wr.heap.size, 3, none⟩ (.int .i64 (x3 - nn))) w7) := HB7.out.grown g7 HB7.out.size (fun j hj => by have := (hM.out.lt j hj).1; exact this); obtain ⟨a7, m7, c7, rfl⟩ := o7.slice'; have HO7 := Fk.hide o7; have w7_0 := (B7.out.cell (p := ⟨wr.heap.size, 0, none⟩) (by exact hxs.out)).trans t0; have w7_1 := (B7.out.cell (p := ⟨wr.heap.size, 1, none⟩) (by exact hxs.out)).trans t1; have w7_2 := (B7.out.cell (p := ⟨wr.heap.size, 2, none⟩) (by exact hxs.out)).trans t2; have w7_3 := (B7.out.cell (p := ⟨wr.heap.size, 3, none⟩) (by exact hxs.out)).trans t3; have w7_4 := (B7.out.cell (p := ⟨wr.heap.size, 4, none⟩) (by exact hxs.out)).trans t4; have w7_5 := (B7.out.cell (p := ⟨wr.heap.size, 5, none⟩) (by exact hxs.out)).trans t5; have w7_6 := (B7.out.cell (p := ⟨wr.heap.size, 6, none⟩) (by exact hxs.out)).trans t6; have w7_7 := (B7.out.cell (p := ⟨wr.heap.size, 7, none⟩) (by exact hxs.out)).trans t7; clear o7 g7))
                      refine (l06Show_any x0 x1 x2 (x3 - nn) x4 x5 x6 x7 x6 (by omega) (by omega) _).mono ?_
                      rintro e w6 ⟨rfl, k8⟩
                      have B8 : Hid (Below (w5.setCell ⟨wr.heap.size, 3, none⟩ (.int .i64 (x3 - nn))).heap.size (w5.setCell ⟨wr.heap.size, 3, none⟩ (.int .i64 (x3 - nn))) w6) := B7.out.trans (k8.mono B7.out.size)
                      have O8 := Fk.hide (HO7.out.below k8)
                      clear k8
                      obtain ⟨so, hso⟩ : ∃ o, o = Dm.shown (x0, x1, x2, x3 - nn, x4, x5, x6, x7) x6 := ⟨_, rfl⟩
                      rw [← hso]
                      have HSO := Fk.hide hso
                      clear hso
                      obtain ⟨s0, s1, s2, s3, s4, s5, s6, s7⟩ := so
                      dsimp only [Or.vl]
                      go_wp2_with fail
                      refine (l06In_any _ ([] : List Or.E) s0 s1 s2 s3 s4 s5 s6 s7 (!buy) _ _ O8.out (by simp)).mono ?_
                      rintro e w8 ⟨⟨u8, rfl, o8⟩, k9⟩
                      have K8 : Hid (Below (w5.setCell ⟨wr.heap.size, 3, none⟩ (.int .i64 (x3 - nn))).heap.size (w5.setCell ⟨wr.heap.size, 3, none⟩ (.int .i64 (x3 - nn))) w8) := B8.out.trans (k9.mono B8.out.size)
                      have HO8 := Fk.hide (o8.mono B8.out.size)
                      obtain ⟨a8, m8, c8, rfl⟩ := o8.slice'
                      clear o8 k9
                      rw [HSO.out] at HO8
                      have J8 : Hid (Bw.Is w8 base b x y z5 (Y.tell (Dm.fill i (x0, x1, x2, x3, x4, x5, x6, x7) nn))) := J6.out.below K8.out
                      have BB8 : Hid (Below base w w8) := B6.out.trans (K8.out.mono hbs.out)
                      have FF8 : Hid (Bw.Fr (w5.setCell ⟨wr.heap.size, 3, none⟩ (.int .i64 (x3 - nn))) w8) := Bw.Fr.of_below K8.out
                      go_wp2_with fail
                      refine (bookPut_any base b x y z5 (.slice a8 m8 c8) (Y.tell (Dm.fill i (x0, x1, x2, x3, x4, x5, x6, x7) nn)) (Dm.inn (!buy) (Dm.shown (x0, x1, x2, x3 - nn, x4, x5, x6, x7) x6) ([] : List Or.E)) (!buy) w8 J8.out (Nat.le_trans hw BB8.out.size) (HO8.out.mono hbs.out) (fun k hk e => by have h1 := (HO8.out.lt k hk).1; have h2 := hxs.out; have h3 := Bw.pick_lt (!buy) HLX.out HLY.out k e; omega)).mono ?_
                      rintro e w9 ⟨rfl, J9, B9, F9⟩
                      have J9' := Fk.hide J9
                      have B9' := Fk.hide (BB8.out.trans B9)
                      have F9' := Fk.hide (HFr.out.trans (F6.out.trans (FF8.out.trans F9)))
                      clear J9 B9 F9
                      go_wp2_with fail
                      go_roundw
                      case rel =>
                        refine ⟨lf - nn, f, _, _, z5, _, by go_num, by omega, by omega, by omega, ?_, ?_, J9'.out, ?_, ?_, B9'.out, F9'.out⟩
                        · rw [Dm.side_put]; have := Dm.rest_length buy (x0, x1, x2, x3, x4, x5, x6, x7) nn ([] : List Or.E); rw [HRS.out] at this; simp only [List.length_nil] at this; omega
                        · rw [Dm.ev_put]; simp only [Dm.Bk.tell, List.length_append, List.length_cons, List.length_nil]; omega
                        · have := HE.out; rw [HRS.out] at this; exact this.symm
                        · rw [Dm.side_put, ← HRS.out]; exact Dm.rest_fine HXF.out (by omega) HRF.out
                      case measure => simp [intOf]; omega
                    · have HRS : Hid (Dm.rest buy (x0, x1, x2, x3, x4, x5, x6, x7) nn ([] : List Or.E) = ([] : List Or.E)) := by show _ = _; unfold Dm.rest; rw [if_neg hpos, if_neg h6]
                      go_wp2_with (first
                        | (at_builtin; (refine Rk.wpList_append_view _ rfl _ _ 23 rfl (w5.setCell ⟨wr.heap.size, 3, none⟩ (.int .i64 (x3 - nn))).heap.size 40 i0 _ 8 64 rfl Try.underlying23 hi hz0 hz1 hz2 rfl (by decide) (.slice (some ⟨w5.heap.size, 0, none⟩) 0 0) (.slice (some ⟨g0, 0, none⟩) 0 0) [] ([] : List Or.E) rfl rfl hM.out hV.out (Rk.shut_some _ _ _) hl1.out HB7.out.size ?_); intro u7 w7 o7 g7; rw [List.nil_append] at o7; have B7 : Hid (Below (w5.setCell ⟨wr.heap.size, 3, none⟩ (.int .i64 (x3 - nn))).heap.size (w5.setCell ⟨wr.heap.size, 3, none⟩ (.int .i64 (x3 - nn))) w7) := HB7.out.grown g7 HB7.out.size (fun j hj => by have := (hM.out.lt j hj).1; exact this); obtain ⟨a7, m7, c7, rfl⟩ := o7.slice'; have HO7 := Fk.hide o7; have w7_0 := (B7.out.cell (p := ⟨wr.heap.size, 0, none⟩) (by exact hxs.out)).trans t0; have w7_1 := (B7.out.cell (p := ⟨wr.heap.size, 1, none⟩) (by exact hxs.out)).trans t1; have w7_2 := (B7.out.cell (p := ⟨wr.heap.size, 2, none⟩) (by exact hxs.out)).trans t2; have w7_3 := (B7.out.cell (p := ⟨wr.heap.size, 3, none⟩) (by exact hxs.out)).trans t3; have w7_4 := (B7.out.cell (p := ⟨wr.heap.size, 4, none⟩) (by exact hxs.out)).trans t4; have w7_5 := (B7.out.cell (p := ⟨wr.heap.size, 5, none⟩) (by exact hxs.out)).trans t5; have w7_6 := (B7.out.cell (p := ⟨wr.heap.size, 6, none⟩) (by exact hxs.out)).trans t6; have w7_7 := (B7.out.cell (p := ⟨wr.heap.size, 7, none⟩) (by exact hxs.out)).trans t7; clear o7 g7))
                      have J8 : Hid (Bw.Is w7 base b x y z5 (Y.tell (Dm.fill i (x0, x1, x2, x3, x4, x5, x6, x7) nn))) := J6.out.below B7.out
                      have BB8 : Hid (Below base w w7) := B6.out.trans (B7.out.mono hbs.out)
                      have FF8 : Hid (Bw.Fr (w5.setCell ⟨wr.heap.size, 3, none⟩ (.int .i64 (x3 - nn))) w7) := Bw.Fr.of_below B7.out
                      refine (bookPut_any base b x y z5 (.slice a7 m7 c7) (Y.tell (Dm.fill i (x0, x1, x2, x3, x4, x5, x6, x7) nn)) ([] : List Or.E) (!buy) w7 J8.out (Nat.le_trans hw BB8.out.size) (HO7.out.mono hbs.out) (fun k hk e => by have h1 := (HO7.out.lt k hk).1; have h2 := hxs.out; have h3 := Bw.pick_lt (!buy) HLX.out HLY.out k e; omega)).mono ?_
                      rintro e w9 ⟨rfl, J9, B9, F9⟩
                      have J9' := Fk.hide J9
                      have B9' := Fk.hide (BB8.out.trans B9)
                      have F9' := Fk.hide (HFr.out.trans (F6.out.trans (FF8.out.trans F9)))
                      clear J9 B9 F9
                      go_wp2_with fail
                      go_roundw
                      case rel =>
                        refine ⟨lf - nn, f, _, _, z5, _, by go_num, by omega, by omega, by omega, ?_, ?_, J9'.out, ?_, ?_, B9'.out, F9'.out⟩
                        · rw [Dm.side_put]; have := Dm.rest_length buy (x0, x1, x2, x3, x4, x5, x6, x7) nn ([] : List Or.E); rw [HRS.out] at this; simp only [List.length_nil] at this; omega
                        · rw [Dm.ev_put]; simp only [Dm.Bk.tell, List.length_append, List.length_cons, List.length_nil]; omega
                        · have := HE.out; rw [HRS.out] at this; exact this.symm
                        · rw [Dm.side_put, ← HRS.out]; exact Dm.rest_fine HXF.out (by omega) HRF.out
                      case measure => simp [intOf]; omega
                · skip
                  have hV : Hid (Rk.View Or.S ((w5.setCell ⟨wr.heap.size, 3, none⟩ (.int .i64 (x3 - nn))).alloc (.cells #[] 40)) (.slice (some ⟨g0, 8, none⟩) r.length (cap - 1)) r) := Rk.view_of (by have := Rk.sees_drop (HSS.out.below hgs.out HB7.out) 1; rw [Nat.zero_add, Nat.one_mul] at this; exact this) (Nat.lt_of_lt_of_le hgs.out HB7.out.size) rfl
                  have hl1 : Hid (([] : List Or.E).length + r.length ≤ 1000000000) := by show _ ≤ _; simp <;> omega
                  by_cases hpos : 0 < x3 - nn
                  · have HRS : Hid (Dm.rest buy (x0, x1, x2, x3, x4, x5, x6, x7) nn r = (x0, x1, x2, x3 - nn, x4, x5, x6, x7) :: r) := if_pos hpos
                    have hS7 : Hid (∀ a, Rk.Shut (.slice (some a) 1 1)) := fun a => Rk.shut_some a _ _
                    go_wp2_with (first
                      | (have hchk := B7.out; clear hchk; at_builtin; refine Rk.wpList_append_view _ rfl _ _ 23 rfl (w5.setCell ⟨wr.heap.size, 3, none⟩ (.int .i64 (x3 - nn))).heap.size 40 i0 _ 8 64 rfl Try.underlying23 hi hz0 hz1 hz2 rfl (by decide) (.slice (some ⟨w7.heap.size, 0, none⟩) 1 1) (.slice a7 m7 c7) [(x0, x1, x2, x3 - nn, x4, x5, x6, x7)] r rfl rfl (Rk.own_lit1 w7 _ _ B7.out.size _ _ rfl) (HO7.out.below ((Below.refl _ _).alloc (Nat.le_refl _) _)).view HO7.out.shut (by simp <;> omega) (Nat.le_trans B7.out.size (by simp)) ?_; intro u8 w8 o8 g8; have B8 : Hid (Below (w5.setCell ⟨wr.heap.size, 3, none⟩ (.int .i64 (x3 - nn))).heap.size (w5.setCell ⟨wr.heap.size, 3, none⟩ (.int .i64 (x3 - nn))) w8) := (B7.out.alloc B7.out.size _).grown g8 (Nat.le_trans B7.out.size (by simp)) (fun j hj => by have h1 := B7.out.size; simp [Value.ownBlock] at hj; omega); obtain ⟨a8, m8, c8, rfl⟩ := o8.slice'; have HO8 := Fk.hide o8; clear o8 g8)
                      | (at_builtin; (refine Rk.wpList_append_view _ rfl _ _ 23 rfl (w5.setCell ⟨wr.heap.size, 3, none⟩ (.int .i64 (x3 - nn))).heap.size 40 i0 _ 8 64 rfl Try.underlying23 hi hz0 hz1 hz2 rfl (by decide) (.slice (some ⟨w5.heap.size, 0, none⟩) 0 0) (.slice (some ⟨g0, 8, none⟩) r.length (cap - 1)) [] r rfl rfl hM.out hV.out (Rk.shut_some _ _ _) hl1.out HB7.out.size ?_); intro u7 w7 o7 g7; rw [List.nil_append] at o7; have B7 : Hid (Below (w5.setCell ⟨wr.heap.size, 3, none⟩ (.int .i64 (x3 - nn))).heap.size (w5.setCell ⟨wr.heap.size, 3, none⟩ (.int .i64 (x3 - nn))) w7) := HB7.out.grown g7 HB7.out.size (fun j hj => by have := (hM.out.lt j hj).1; exact this); obtain ⟨a7, m7, c7, rfl⟩ := o7.slice'; have HO7 := Fk.hide o7; have w7_0 := (B7.out.cell (p := ⟨wr.heap.size, 0, none⟩) (by exact hxs.out)).trans t0; have w7_1 := (B7.out.cell (p := ⟨wr.heap.size, 1, none⟩) (by exact hxs.out)).trans t1; have w7_2 := (B7.out.cell (p := ⟨wr.heap.size, 2, none⟩) (by exact hxs.out)).trans t2; have w7_3 := (B7.out.cell (p := ⟨wr.heap.size, 3, none⟩) (by exact hxs.out)).trans t3; have w7_4 := (B7.out.cell (p := ⟨wr.heap.size, 4, none⟩) (by exact hxs.out)).trans t4; have w7_5 := (B7.out.cell (p := ⟨wr.heap.size, 5, none⟩) (by exact hxs.out)).trans t5; have w7_6 := (B7.out.cell (p := ⟨wr.heap.size, 6, none⟩) (by exact hxs.out)).trans t6; have w7_7 := (B7.out.cell (p := ⟨wr.heap.size, 7, none⟩) (by exact hxs.out)).trans t7; clear o7 g7))
                    have K8 : Hid (Below (w5.setCell ⟨wr.heap.size, 3, none⟩ (.int .i64 (x3 - nn))).heap.size (w5.setCell ⟨wr.heap.size, 3, none⟩ (.int .i64 (x3 - nn))) w8) := B8
                    have J8 : Hid (Bw.Is w8 base b x y z5 (Y.tell (Dm.fill i (x0, x1, x2, x3, x4, x5, x6, x7) nn))) := J6.out.below K8.out
                    have BB8 : Hid (Below base w w8) := B6.out.trans (K8.out.mono hbs.out)
                    have FF8 : Hid (Bw.Fr (w5.setCell ⟨wr.heap.size, 3, none⟩ (.int .i64 (x3 - nn))) w8) := Bw.Fr.of_below K8.out
                    refine (bookPut_any base b x y z5 (.slice a8 m8 c8) (Y.tell (Dm.fill i (x0, x1, x2, x3, x4, x5, x6, x7) nn)) ((x0, x1, x2, x3 - nn, x4, x5, x6, x7) :: r) (!buy) w8 J8.out (Nat.le_trans hw BB8.out.size) (HO8.out.mono hbs.out) (fun k hk e => by have h1 := (HO8.out.lt k hk).1; have h2 := hxs.out; have h3 := Bw.pick_lt (!buy) HLX.out HLY.out k e; omega)).mono ?_
                    rintro e w9 ⟨rfl, J9, B9, F9⟩
                    have J9' := Fk.hide J9
                    have B9' := Fk.hide (BB8.out.trans B9)
                    have F9' := Fk.hide (HFr.out.trans (F6.out.trans (FF8.out.trans F9)))
                    clear J9 B9 F9
                    go_wp2_with fail
                    go_roundw
                    case rel =>
                      refine ⟨lf - nn, f, _, _, z5, _, by go_num, by omega, by omega, by omega, ?_, ?_, J9'.out, ?_, ?_, B9'.out, F9'.out⟩
                      · rw [Dm.side_put]; have := Dm.rest_length buy (x0, x1, x2, x3, x4, x5, x6, x7) nn r; rw [HRS.out] at this; omega
                      · rw [Dm.ev_put]; simp only [Dm.Bk.tell, List.length_append, List.length_cons, List.length_nil]; omega
                      · have := HE.out; rw [HRS.out] at this; exact this.symm
                      · rw [Dm.side_put, ← HRS.out]; exact Dm.rest_fine HXF.out (by omega) HRF.out
                    case measure => simp [intOf]; omega
                  · by_cases h6 : 0 < x6
                    · have HRS : Hid (Dm.rest buy (x0, x1, x2, x3, x4, x5, x6, x7) nn r = Dm.inn (!buy) (Dm.shown (x0, x1, x2, x3 - nn, x4, x5, x6, x7) x6) r) := by show _ = _; unfold Dm.rest; rw [if_neg hpos, if_pos h6]; rfl
                      go_wp2_with (first
                        | (at_builtin; (refine Rk.wpList_append_view _ rfl _ _ 23 rfl (w5.setCell ⟨wr.heap.size, 3, none⟩ (.int .i64 (x3 - nn))).heap.size 40 i0 _ 8 64 rfl Try.underlying23 hi hz0 hz1 hz2 rfl (by decide) (.slice (some ⟨w5.heap.size, 0, none⟩) 0 0) (.slice (some ⟨g0, 8, none⟩) r.length (cap - 1)) [] r rfl rfl hM.out hV.out (Rk.shut_some _ _ _) hl1.out HB7.out.size ?_); intro u7 w7 o7 g7; rw [List.nil_append] at o7; have B7 : Hid (Below (w5.setCell ⟨wr.heap.size, 3, none⟩ (.int .i64 (x3 - nn))).heap.size (w5.setCell ⟨wr.heap.size, 3, none⟩ (.int .i64 (x3 - nn))) w7) := HB7.out.grown g7 HB7.out.size (fun j hj => by have := (hM.out.lt j hj).1; exact this); obtain ⟨a7, m7, c7, rfl⟩ := o7.slice'; have HO7 := Fk.hide o7; have w7_0 := (B7.out.cell (p := ⟨wr.heap.size, 0, none⟩) (by exact hxs.out)).trans t0; have w7_1 := (B7.out.cell (p := ⟨wr.heap.size, 1, none⟩) (by exact hxs.out)).trans t1; have w7_2 := (B7.out.cell (p := ⟨wr.heap.size, 2, none⟩) (by exact hxs.out)).trans t2; have w7_3 := (B7.out.cell (p := ⟨wr.heap.size, 3, none⟩) (by exact hxs.out)).trans t3; have w7_4 := (B7.out.cell (p := ⟨wr.heap.size, 4, none⟩) (by exact hxs.out)).trans t4; have w7_5 := (B7.out.cell (p := ⟨wr.heap.size, 5, none⟩) (by exact hxs.out)).trans t5; have w7_6 := (B7.out.cell (p := ⟨wr.heap.size, 6, none⟩) (by exact hxs.out)).trans t6; have w7_7 := (B7.out.cell (p := ⟨wr.heap.size, 7, none⟩) (by exact hxs.out)).trans t7; clear o7 g7))
                      refine (l06Show_any x0 x1 x2 (x3 - nn) x4 x5 x6 x7 x6 (by omega) (by omega) _).mono ?_
                      rintro e w6 ⟨rfl, k8⟩
                      have B8 : Hid (Below (w5.setCell ⟨wr.heap.size, 3, none⟩ (.int .i64 (x3 - nn))).heap.size (w5.setCell ⟨wr.heap.size, 3, none⟩ (.int .i64 (x3 - nn))) w6) := B7.out.trans (k8.mono B7.out.size)
                      have O8 := Fk.hide (HO7.out.below k8)
                      clear k8
                      obtain ⟨so, hso⟩ : ∃ o, o = Dm.shown (x0, x1, x2, x3 - nn, x4, x5, x6, x7) x6 := ⟨_, rfl⟩
                      rw [← hso]
                      have HSO := Fk.hide hso
                      clear hso
                      obtain ⟨s0, s1, s2, s3, s4, s5, s6, s7⟩ := so
                      dsimp only [Or.vl]
                      go_wp2_with fail
                      refine (l06In_any _ r s0 s1 s2 s3 s4 s5 s6 s7 (!buy) _ _ O8.out (by omega)).mono ?_
                      rintro e w8 ⟨⟨u8, rfl, o8⟩, k9⟩
                      have K8 : Hid (Below (w5.setCell ⟨wr.heap.size, 3, none⟩ (.int .i64 (x3 - nn))).heap.size (w5.setCell ⟨wr.heap.size, 3, none⟩ (.int .i64 (x3 - nn))) w8) := B8.out.trans (k9.mono B8.out.size)
                      have HO8 := Fk.hide (o8.mono B8.out.size)
                      obtain ⟨a8, m8, c8, rfl⟩ := o8.slice'
                      clear o8 k9
                      rw [HSO.out] at HO8
                      have J8 : Hid (Bw.Is w8 base b x y z5 (Y.tell (Dm.fill i (x0, x1, x2, x3, x4, x5, x6, x7) nn))) := J6.out.below K8.out
                      have BB8 : Hid (Below base w w8) := B6.out.trans (K8.out.mono hbs.out)
                      have FF8 : Hid (Bw.Fr (w5.setCell ⟨wr.heap.size, 3, none⟩ (.int .i64 (x3 - nn))) w8) := Bw.Fr.of_below K8.out
                      go_wp2_with fail
                      refine (bookPut_any base b x y z5 (.slice a8 m8 c8) (Y.tell (Dm.fill i (x0, x1, x2, x3, x4, x5, x6, x7) nn)) (Dm.inn (!buy) (Dm.shown (x0, x1, x2, x3 - nn, x4, x5, x6, x7) x6) r) (!buy) w8 J8.out (Nat.le_trans hw BB8.out.size) (HO8.out.mono hbs.out) (fun k hk e => by have h1 := (HO8.out.lt k hk).1; have h2 := hxs.out; have h3 := Bw.pick_lt (!buy) HLX.out HLY.out k e; omega)).mono ?_
                      rintro e w9 ⟨rfl, J9, B9, F9⟩
                      have J9' := Fk.hide J9
                      have B9' := Fk.hide (BB8.out.trans B9)
                      have F9' := Fk.hide (HFr.out.trans (F6.out.trans (FF8.out.trans F9)))
                      clear J9 B9 F9
                      go_wp2_with fail
                      go_roundw
                      case rel =>
                        refine ⟨lf - nn, f, _, _, z5, _, by go_num, by omega, by omega, by omega, ?_, ?_, J9'.out, ?_, ?_, B9'.out, F9'.out⟩
                        · rw [Dm.side_put]; have := Dm.rest_length buy (x0, x1, x2, x3, x4, x5, x6, x7) nn r; rw [HRS.out] at this; omega
                        · rw [Dm.ev_put]; simp only [Dm.Bk.tell, List.length_append, List.length_cons, List.length_nil]; omega
                        · have := HE.out; rw [HRS.out] at this; exact this.symm
                        · rw [Dm.side_put, ← HRS.out]; exact Dm.rest_fine HXF.out (by omega) HRF.out
                      case measure => simp [intOf]; omega
                    · have HRS : Hid (Dm.rest buy (x0, x1, x2, x3, x4, x5, x6, x7) nn r = r) := by show _ = _; unfold Dm.rest; rw [if_neg hpos, if_neg h6]
                      go_wp2_with (first
                        | (at_builtin; (refine Rk.wpList_append_view _ rfl _ _ 23 rfl (w5.setCell ⟨wr.heap.size, 3, none⟩ (.int .i64 (x3 - nn))).heap.size 40 i0 _ 8 64 rfl Try.underlying23 hi hz0 hz1 hz2 rfl (by decide) (.slice (some ⟨w5.heap.size, 0, none⟩) 0 0) (.slice (some ⟨g0, 8, none⟩) r.length (cap - 1)) [] r rfl rfl hM.out hV.out (Rk.shut_some _ _ _) hl1.out HB7.out.size ?_); intro u7 w7 o7 g7; rw [List.nil_append] at o7; have B7 : Hid (Below (w5.setCell ⟨wr.heap.size, 3, none⟩ (.int .i64 (x3 - nn))).heap.size (w5.setCell ⟨wr.heap.size, 3, none⟩ (.int .i64 (x3 - nn))) w7) := HB7.out.grown g7 HB7.out.size (fun j hj => by have := (hM.out.lt j hj).1; exact this); obtain ⟨a7, m7, c7, rfl⟩ := o7.slice'; have HO7 := Fk.hide o7; have w7_0 := (B7.out.cell (p := ⟨wr.heap.size, 0, none⟩) (by exact hxs.out)).trans t0; have w7_1 := (B7.out.cell (p := ⟨wr.heap.size, 1, none⟩) (by exact hxs.out)).trans t1; have w7_2 := (B7.out.cell (p := ⟨wr.heap.size, 2, none⟩) (by exact hxs.out)).trans t2; have w7_3 := (B7.out.cell (p := ⟨wr.heap.size, 3, none⟩) (by exact hxs.out)).trans t3; have w7_4 := (B7.out.cell (p := ⟨wr.heap.size, 4, none⟩) (by exact hxs.out)).trans t4; have w7_5 := (B7.out.cell (p := ⟨wr.heap.size, 5, none⟩) (by exact hxs.out)).trans t5; have w7_6 := (B7.out.cell (p := ⟨wr.heap.size, 6, none⟩) (by exact hxs.out)).trans t6; have w7_7 := (B7.out.cell (p := ⟨wr.heap.size, 7, none⟩) (by exact hxs.out)).trans t7; clear o7 g7))
                      have J8 : Hid (Bw.Is w7 base b x y z5 (Y.tell (Dm.fill i (x0, x1, x2, x3, x4, x5, x6, x7) nn))) := J6.out.below B7.out
                      have BB8 : Hid (Below base w w7) := B6.out.trans (B7.out.mono hbs.out)
                      have FF8 : Hid (Bw.Fr (w5.setCell ⟨wr.heap.size, 3, none⟩ (.int .i64 (x3 - nn))) w7) := Bw.Fr.of_below B7.out
                      refine (bookPut_any base b x y z5 (.slice a7 m7 c7) (Y.tell (Dm.fill i (x0, x1, x2, x3, x4, x5, x6, x7) nn)) r (!buy) w7 J8.out (Nat.le_trans hw BB8.out.size) (HO7.out.mono hbs.out) (fun k hk e => by have h1 := (HO7.out.lt k hk).1; have h2 := hxs.out; have h3 := Bw.pick_lt (!buy) HLX.out HLY.out k e; omega)).mono ?_
                      rintro e w9 ⟨rfl, J9, B9, F9⟩
                      have J9' := Fk.hide J9
                      have B9' := Fk.hide (BB8.out.trans B9)
                      have F9' := Fk.hide (HFr.out.trans (F6.out.trans (FF8.out.trans F9)))
                      clear J9 B9 F9
                      go_wp2_with fail
                      go_roundw
                      case rel =>
                        refine ⟨lf - nn, f, _, _, z5, _, by go_num, by omega, by omega, by omega, ?_, ?_, J9'.out, ?_, ?_, B9'.out, F9'.out⟩
                        · rw [Dm.side_put]; have := Dm.rest_length buy (x0, x1, x2, x3, x4, x5, x6, x7) nn r; rw [HRS.out] at this; omega
                        · rw [Dm.ev_put]; simp only [Dm.Bk.tell, List.length_append, List.length_cons, List.length_nil]; omega
                        · have := HE.out; rw [HRS.out] at this; exact this.symm
                        · rw [Dm.side_put, ← HRS.out]; exact Dm.rest_fine HXF.out (by omega) HRF.out
                      case measure => simp [intOf]; omega
              · have hxo' : (x1 == ow) = false := by simpa using hxo
                go_wp2_with fail
                refine (l01Min_any lf x3 _).mono ?_
                rintro e w2 ⟨rfl, hw2⟩
                obtain rfl := hw2.symm
                rw [← HNN.out]
                clear hnn
                obtain ⟨Wx, hWx⟩ : ∃ W, W = wr.alloc (.cells #[.int .i64 x0, .int .i64 x1, .int .i64 x2, .int .i64 x3, .bool x4, .int .i64 x5, .int .i64 x6, .bool x7] 40) := ⟨_, rfl⟩
                have bX : Below wr.heap.size wr Wx := by rw [hWx]; exact (Below.refl _ _).alloc (Nat.le_refl _) _
                have KX : Hid (Wq.Kind Wx wr.heap.size 40) := by show Wq.Kind _ _ _; rw [hWx]; exact ⟨_, _, heap_alloc_new wr _⟩
                have y0 : Wx.cell? ⟨wr.heap.size, 0, none⟩ = some (.int .i64 x0) := by rw [hWx, Fk.cellTop _ _ _ _ _ rfl]; rfl
                have y1 : Wx.cell? ⟨wr.heap.size, 1, none⟩ = some (.int .i64 x1) := by rw [hWx, Fk.cellTop _ _ _ _ _ rfl]; rfl
                have y2 : Wx.cell? ⟨wr.heap.size, 2, none⟩ = some (.int .i64 x2) := by rw [hWx, Fk.cellTop _ _ _ _ _ rfl]; rfl
                have y3 : Wx.cell? ⟨wr.heap.size, 3, none⟩ = some (.int .i64 x3) := by rw [hWx, Fk.cellTop _ _ _ _ _ rfl]; rfl
                have y4 : Wx.cell? ⟨wr.heap.size, 4, none⟩ = some (.bool x4) := by rw [hWx, Fk.cellTop _ _ _ _ _ rfl]; rfl
                have y5 : Wx.cell? ⟨wr.heap.size, 5, none⟩ = some (.int .i64 x5) := by rw [hWx, Fk.cellTop _ _ _ _ _ rfl]; rfl
                have y6 : Wx.cell? ⟨wr.heap.size, 6, none⟩ = some (.int .i64 x6) := by rw [hWx, Fk.cellTop _ _ _ _ _ rfl]; rfl
                have y7 : Wx.cell? ⟨wr.heap.size, 7, none⟩ = some (.bool x7) := by rw [hWx, Fk.cellTop _ _ _ _ _ rfl]; rfl
                have yf : ∀ j, Wx.frozen? ⟨wr.heap.size, j, none⟩ = false := fun j => by rw [hWx, Fk.frozTop _ _ _ _ _ rfl]
                rw [← hWx] at l0 l1 l7 ⊢
                have JX := Fk.hide (HJ.out.below bX)
                have BX := Fk.hide (HB.out.trans (bX.mono (Nat.le_trans hw HB.out.size)))
                have FX := Fk.hide (HFr.out.trans (Bw.Fr.of_below bX))
                have VX := Fk.hide (HV.out.below bX)
                have HLX : Hid (∀ k, x.ownBlock = some k → k < wr.heap.size) := fun k hk => (HJ.out.two.b.lt k hk).2
                have HLY : Hid (∀ k, y.ownBlock = some k → k < wr.heap.size) := fun k hk => (HJ.out.two.a.lt k hk).2
                have FXw := Fk.hide (Bw.Fr.of_below bX)
                have hgx : g0 < wr.heap.size := hg0
                have hwX : base ≤ Wx.heap.size := Nat.le_trans hw BX.out.size
                have hbw : base ≤ wr.heap.size := Nat.le_trans hw HB.out.size
                have hxl : Hid (wr.heap.size < Wx.heap.size) := by show _ < _; rw [hWx]; simp
                clear hWx bX s0 s1 s2 s3 s4 s5 s6 s7 HV HJ HB
                go_wp2_with fail
                refine (bookTell_any base b x y z Y 2 i x0 x2 nn Wx JX.out hwX (by omega)).mono ?_
                rintro e w5 ⟨rfl, ⟨z5, J5⟩, B5, F5⟩
                have J5' := Fk.hide J5
                have B5' := Fk.hide (BX.out.trans B5)
                have F5' := Fk.hide (FX.out.trans F5)
                have F5w := Fk.hide (FXw.out.trans F5)
                have V5 := Fk.hide (F5.own VX.out (by decide) (by decide))
                have KX5 : Hid (Wq.Kind w5 wr.heap.size 40) := by
                  obtain ⟨cs, fr, hq⟩ := KX.out
                  exact ⟨cs, fr, (F5 _ _ _ _ hq (by decide) (by decide)).trans hq⟩
                have v0 := (F5.cell (j := 0) KX.out (by decide) (by decide)).trans y0
                have v1 := (F5.cell (j := 1) KX.out (by decide) (by decide)).trans y1
                have v2 := (F5.cell (j := 2) KX.out (by decide) (by decide)).trans y2
                have v3 := (F5.cell (j := 3) KX.out (by decide) (by decide)).trans y3
                have v4 := (F5.cell (j := 4) KX.out (by decide) (by decide)).trans y4
                have v5 := (F5.cell (j := 5) KX.out (by decide) (by decide)).trans y5
                have v6 := (F5.cell (j := 6) KX.out (by decide) (by decide)).trans y6
                have v7 := (F5.cell (j := 7) KX.out (by decide) (by decide)).trans y7
                have vf : w5.frozen? ⟨wr.heap.size, 3, none⟩ = false := by
                  obtain ⟨cs, fr, hq⟩ := KX.out
                  exact (World.frozen?_of_block (a := ⟨wr.heap.size, 3, none⟩) (F5 _ _ _ _ hq (by decide) (by decide))).trans (yf 3)
                have hw5 : base ≤ w5.heap.size := Nat.le_trans hw B5'.out.size
                have HX5 : Hid (wr.heap.size < w5.heap.size) := Nat.lt_of_lt_of_le hxl.out B5.size
                clear y0 y1 y2 y3 y4 y5 y6 y7 yf J5 B5 F5 JX BX FX VX KX l0 l1 l7 HVV hxl
                have t0 : (w5.setCell ⟨wr.heap.size, 3, none⟩ (.int .i64 (x3 - nn))).cell? ⟨wr.heap.size, 0, none⟩ = some (.int .i64 x0) := (World.cell?_setCell_other _ _ _ _ (by simp)).trans v0
                have t1 : (w5.setCell ⟨wr.heap.size, 3, none⟩ (.int .i64 (x3 - nn))).cell? ⟨wr.heap.size, 1, none⟩ = some (.int .i64 x1) := (World.cell?_setCell_other _ _ _ _ (by simp)).trans v1
                have t2 : (w5.setCell ⟨wr.heap.size, 3, none⟩ (.int .i64 (x3 - nn))).cell? ⟨wr.heap.size, 2, none⟩ = some (.int .i64 x2) := (World.cell?_setCell_other _ _ _ _ (by simp)).trans v2
                have t3 : (w5.setCell ⟨wr.heap.size, 3, none⟩ (.int .i64 (x3 - nn))).cell? ⟨wr.heap.size, 3, none⟩ = some (.int .i64 (x3 - nn)) := World.cell?_setCell_same _ _ _ v3
                have t4 : (w5.setCell ⟨wr.heap.size, 3, none⟩ (.int .i64 (x3 - nn))).cell? ⟨wr.heap.size, 4, none⟩ = some (.bool x4) := (World.cell?_setCell_other _ _ _ _ (by simp)).trans v4
                have t5 : (w5.setCell ⟨wr.heap.size, 3, none⟩ (.int .i64 (x3 - nn))).cell? ⟨wr.heap.size, 5, none⟩ = some (.int .i64 x5) := (World.cell?_setCell_other _ _ _ _ (by simp)).trans v5
                have t6 : (w5.setCell ⟨wr.heap.size, 3, none⟩ (.int .i64 (x3 - nn))).cell? ⟨wr.heap.size, 6, none⟩ = some (.int .i64 x6) := (World.cell?_setCell_other _ _ _ _ (by simp)).trans v6
                have t7 : (w5.setCell ⟨wr.heap.size, 3, none⟩ (.int .i64 (x3 - nn))).cell? ⟨wr.heap.size, 7, none⟩ = some (.bool x7) := (World.cell?_setCell_other _ _ _ _ (by simp)).trans v7
                have HG6 : Hid (w5.grownBy (w5.setCell ⟨wr.heap.size, 3, none⟩ (.int .i64 (x3 - nn))) (some wr.heap.size)) := Fk.grownBy_setCell _ _ _ _
                have V6 : Hid (Rk.Own Or.S (w5.setCell ⟨wr.heap.size, 3, none⟩ (.int .i64 (x3 - nn))) base 40 (.slice (some ⟨g0, 0, none⟩) (r.length + 1) cap) ((x0, x1, x2, x3, x4, x5, x6, x7) :: r)) := V5.out.kept HG6.out (fun k hk e => Bw.ne2 hk e hgx)
                have B6 : Hid (Below base w (w5.setCell ⟨wr.heap.size, 3, none⟩ (.int .i64 (x3 - nn)))) := B5'.out.setCell hbw _
                have J6 : Hid (Bw.Is (w5.setCell ⟨wr.heap.size, 3, none⟩ (.int .i64 (x3 - nn))) base b x y z5 (Y.tell (Dm.fill i (x0, x1, x2, x3, x4, x5, x6, x7) nn))) := J5'.out.setBox KX5.out (by decide) (by decide) (fun k hk => Nat.ne_of_lt (HLX.out k hk)) (fun k hk => Nat.ne_of_lt (HLY.out k hk)) _ _
                have F6 : Hid (Bw.Fr wr (w5.setCell ⟨wr.heap.size, 3, none⟩ (.int .i64 (x3 - nn)))) := fun q cs TT fr hq h1 h2 => (HG6.out.block q (by have := (Array.getElem?_eq_some_iff.1 ((F5w.out q cs TT fr hq h1 h2).trans hq)).1; exact this) (fun e => by have := (Array.getElem?_eq_some_iff.1 hq).1; have := Option.some.inj e; omega)).trans (F5w.out q cs TT fr hq h1 h2)
                have hcap : r.length + 1 ≤ cap := by
                  obtain ⟨_, h1 | ⟨g', cap', cur, hv, _, _, hc, _⟩⟩ := V6.out
                  · cases h1.1
                  · simp only [Value.slice.injEq] at hv; simp only [List.length_cons] at hc; omega
                have n1 : (1 : Int) ≤ (r.length : Int) + 1 := by omega
                have n2 : ((r.length : Int) + 1) ≤ (cap : Int) := by omega
                have n3 : IntKind.i64.wrap (lf - nn) = lf - nn := by rw [IntKind.wrap_i64]; omega
                have n4 : IntKind.i64.wrap (x3 - nn) = x3 - nn := by rw [IntKind.wrap_i64]; omega
                have b7 : Below (w5.setCell ⟨wr.heap.size, 3, none⟩ (.int .i64 (x3 - nn))).heap.size (w5.setCell ⟨wr.heap.size, 3, none⟩ (.int .i64 (x3 - nn))) ((w5.setCell ⟨wr.heap.size, 3, none⟩ (.int .i64 (x3 - nn))).alloc (.cells #[] 40)) := (Below.refl _ _).alloc (Nat.le_refl _) _
                have hM : Hid (Rk.Own Or.S ((w5.setCell ⟨wr.heap.size, 3, none⟩ (.int .i64 (x3 - nn))).alloc (.cells #[] 40)) (w5.setCell ⟨wr.heap.size, 3, none⟩ (.int .i64 (x3 - nn))).heap.size 40 (.slice (some ⟨w5.heap.size, 0, none⟩) 0 0) []) := by have := Rk.own_empty (S := Or.S) (w5.setCell ⟨wr.heap.size, 3, none⟩ (.int .i64 (x3 - nn))) 40 (w5.setCell ⟨wr.heap.size, 3, none⟩ (.int .i64 (x3 - nn))).heap.size (Nat.le_refl _); show Rk.Own _ _ _ _ _ _; simpa using this
                have HSS : Hid (Rk.Sees Or.S (w5.setCell ⟨wr.heap.size, 3, none⟩ (.int .i64 (x3 - nn))) g0 0 ((x0, x1, x2, x3, x4, x5, x6, x7) :: r)) := fun i hi j hj => by have := V6.out.at hi j hj; simpa using this
                have hxs : Hid (wr.heap.size < (w5.setCell ⟨wr.heap.size, 3, none⟩ (.int .i64 (x3 - nn))).heap.size) := by show _ < _; have := HX5.out; simpa using this
                have hgs : Hid (g0 < (w5.setCell ⟨wr.heap.size, 3, none⟩ (.int .i64 (x3 - nn))).heap.size) := Nat.lt_trans hgx hxs.out
                have hbs : Hid (base ≤ (w5.setCell ⟨wr.heap.size, 3, none⟩ (.int .i64 (x3 - nn))).heap.size) := Nat.le_trans hw B6.out.size
                have HB7 := Fk.hide b7
                clear b7 v0 v1 v2 v4 v5 v6 v7 V5 KX5 J5'
                by_cases hc1 : cap = 1
                · have hr0 : r = [] := List.length_eq_zero_iff.1 (by omega)
                  subst hr0
                  subst hc1
                  simp only [List.length_nil, Nat.zero_add] at hs1 hln n1 n2 V6 ⊢
                  have hV : Hid (Rk.View Or.S ((w5.setCell ⟨wr.heap.size, 3, none⟩ (.int .i64 (x3 - nn))).alloc (.cells #[] 40)) (.slice (some ⟨g0, 0, none⟩) 0 0) ([] : List Or.E)) := Rk.view_of (fun i hi => absurd hi (by simp)) (Nat.lt_of_lt_of_le hgs.out HB7.out.size) rfl
                  have hl1 : Hid (([] : List Or.E).length + ([] : List Or.E).length ≤ 1000000000) := by show _ ≤ _; simp <;> omega
                  by_cases hpos : 0 < x3 - nn
                  · have HRS : Hid (Dm.rest buy (x0, x1, x2, x3, x4, x5, x6, x7) nn ([] : List Or.E) = (x0, x1, x2, x3 - nn, x4, x5, x6, x7) :: ([] : List Or.E)) := if_pos hpos
                    have hS7 : Hid (∀ a, Rk.Shut (.slice (some a) 1 1)) := fun a => Rk.shut_some a _ _
                    go_wp2_with (first
                      | (have hchk := B7.out; clear hchk; at_builtin; refine Rk.wpList_append_view _ rfl _ _ 23 rfl (w5.setCell ⟨wr.heap.size, 3, none⟩ (.int .i64 (x3 - nn))).heap.size 40 i0 _ 8 64 rfl Try.underlying23 hi hz0 hz1 hz2 rfl (by decide) (.slice (some ⟨w7.heap.size, 0, none⟩) 1 1) (.slice a7 m7 c7) [(x0, x1, x2, x3 - nn, x4, x5, x6, x7)] ([] : List Or.E) rfl rfl (Rk.own_lit1 w7 _ _ B7.out.size _ _ rfl) (HO7.out.below ((Below.refl _ _).alloc (Nat.le_refl _) _)).view HO7.out.shut (by simp <;> omega) (Nat.le_trans B7.out.size (by simp)) ?_; intro u8 w8 o8 g8; have B8 : Hid (Below (w5.setCell ⟨wr.heap.size, 3, none⟩ (.int .i64 (x3 - nn))).heap.size (w5.setCell ⟨wr.heap.size, 3, none⟩ (.int .i64 (x3 - nn))) w8) := (B7.out.alloc B7.out.size _).grown g8 (Nat.le_trans B7.out.size (by simp)) (fun j hj => by have h1 := B7.out.size; simp [Value.ownBlock] at hj; omega); obtain ⟨a8, m8, c8, rfl⟩ := o8.slice'; have HO8 := Fk.hide o8; clear o8 g8)
                      | (at_builtin; (refine Rk.wpList_append_view _ rfl _ _ 23 rfl (w5.setCell ⟨wr.heap.size, 3, none⟩ (.int .i64 (x3 - nn))).heap.size 40 i0 _ 8 64 rfl Try.underlying23 hi hz0 hz1 hz2 rfl (by decide) (.slice (some ⟨w5.heap.size, 0, none⟩) 0 0) (.slice (some ⟨g0, 0, none⟩) 0 0) [] ([] : List Or.E) rfl rfl hM.out hV.out (Rk.shut_some _ _ _) hl1.out HB7.out.size ?_); intro u7 w7 o7 g7; rw [List.nil_append] at o7; have B7 : Hid (Below (w5.setCell ⟨wr.heap.size, 3, none⟩ (.int .i64 (x3 - nn))).heap.size (w5.setCell ⟨wr.heap.size, 3, none⟩ (.int .i64 (x3 - nn))) w7) := HB7.out.grown g7 HB7.out.size (fun j hj => by have := (hM.out.lt j hj).1; exact this); obtain ⟨a7, m7, c7, rfl⟩ := o7.slice'; have HO7 := Fk.hide o7; have w7_0 := (B7.out.cell (p := ⟨wr.heap.size, 0, none⟩) (by exact hxs.out)).trans t0; have w7_1 := (B7.out.cell (p := ⟨wr.heap.size, 1, none⟩) (by exact hxs.out)).trans t1; have w7_2 := (B7.out.cell (p := ⟨wr.heap.size, 2, none⟩) (by exact hxs.out)).trans t2; have w7_3 := (B7.out.cell (p := ⟨wr.heap.size, 3, none⟩) (by exact hxs.out)).trans t3; have w7_4 := (B7.out.cell (p := ⟨wr.heap.size, 4, none⟩) (by exact hxs.out)).trans t4; have w7_5 := (B7.out.cell (p := ⟨wr.heap.size, 5, none⟩) (by exact hxs.out)).trans t5; have w7_6 := (B7.out.cell (p := ⟨wr.heap.size, 6, none⟩) (by exact hxs.out)).trans t6; have w7_7 := (B7.out.cell (p := ⟨wr.heap.size, 7, none⟩) (by exact hxs.out)).trans t7; clear o7 g7))
                    have K8 : Hid (Below (w5.setCell ⟨wr.heap.size, 3, none⟩ (.int .i64 (x3 - nn))).heap.size (w5.setCell ⟨wr.heap.size, 3, none⟩ (.int .i64 (x3 - nn))) w8) := B8
                    have J8 : Hid (Bw.Is w8 base b x y z5 (Y.tell (Dm.fill i (x0, x1, x2, x3, x4, x5, x6, x7) nn))) := J6.out.below K8.out
                    have BB8 : Hid (Below base w w8) := B6.out.trans (K8.out.mono hbs.out)
                    have FF8 : Hid (Bw.Fr (w5.setCell ⟨wr.heap.size, 3, none⟩ (.int .i64 (x3 - nn))) w8) := Bw.Fr.of_below K8.out
                    refine (bookPut_any base b x y z5 (.slice a8 m8 c8) (Y.tell (Dm.fill i (x0, x1, x2, x3, x4, x5, x6, x7) nn)) ((x0, x1, x2, x3 - nn, x4, x5, x6, x7) :: ([] : List Or.E)) (!buy) w8 J8.out (Nat.le_trans hw BB8.out.size) (HO8.out.mono hbs.out) (fun k hk e => by have h1 := (HO8.out.lt k hk).1; have h2 := hxs.out; have h3 := Bw.pick_lt (!buy) HLX.out HLY.out k e; omega)).mono ?_
                    rintro e w9 ⟨rfl, J9, B9, F9⟩
                    have J9' := Fk.hide J9
                    have B9' := Fk.hide (BB8.out.trans B9)
                    have F9' := Fk.hide (HFr.out.trans (F6.out.trans (FF8.out.trans F9)))
                    clear J9 B9 F9
                    go_wp2_with fail
                    go_roundw
                    case rel =>
                      refine ⟨lf - nn, f, _, _, z5, _, by go_num, by omega, by omega, by omega, ?_, ?_, J9'.out, ?_, ?_, B9'.out, F9'.out⟩
                      · rw [Dm.side_put]; have := Dm.rest_length buy (x0, x1, x2, x3, x4, x5, x6, x7) nn ([] : List Or.E); rw [HRS.out] at this; simp only [List.length_nil] at this; omega
                      · rw [Dm.ev_put]; simp only [Dm.Bk.tell, List.length_append, List.length_cons, List.length_nil]; omega
                      · have := HE.out; rw [HRS.out] at this; exact this.symm
                      · rw [Dm.side_put, ← HRS.out]; exact Dm.rest_fine HXF.out (by omega) HRF.out
                    case measure => simp [intOf]; omega
                  · by_cases h6 : 0 < x6
                    · have HRS : Hid (Dm.rest buy (x0, x1, x2, x3, x4, x5, x6, x7) nn ([] : List Or.E) = Dm.inn (!buy) (Dm.shown (x0, x1, x2, x3 - nn, x4, x5, x6, x7) x6) ([] : List Or.E)) := by show _ = _; unfold Dm.rest; rw [if_neg hpos, if_pos h6]; rfl
                      go_wp2_with (first
                        | (at_builtin; (refine Rk.wpList_append_view _ rfl _ _ 23 rfl (w5.setCell ⟨wr.heap.size, 3, none⟩ (.int .i64 (x3 - nn))).heap.size 40 i0 _ 8 64 rfl Try.underlying23 hi hz0 hz1 hz2 rfl (by decide) (.slice (some ⟨w5.heap.size, 0, none⟩) 0 0) (.slice (some ⟨g0, 0, none⟩) 0 0) [] ([] : List Or.E) rfl rfl hM.out hV.out (Rk.shut_some _ _ _) hl1.out HB7.out.size ?_); intro u7 w7 o7 g7; rw [List.nil_append] at o7; have B7 : Hid (Below (w5.setCell ⟨wr.heap.size, 3, none⟩ (.int .i64 (x3 - nn))).heap.size (w5.setCell ⟨wr.heap.size, 3, none⟩ (.int .i64 (x3 - nn))) w7) := HB7.out.grown g7 HB7.out.size (fun j hj => by have := (hM.out.lt j hj).1; exact this); obtain ⟨a7, m7, c7, rfl⟩ := o7.slice'; have HO7 := Fk.hide o7; have w7_0 := (B7.out.cell (p := ⟨wr.heap.size, 0, none⟩) (by exact hxs.out)).trans t0; have w7_1 := (B7.out.cell (p := ⟨wr.heap.size, 1, none⟩) (by exact hxs.out)).trans t1; have w7_2 := (B7.out.cell (p := ⟨wr.heap.size, 2, none⟩) (by exact hxs.out)).trans t2; have w7_3 := (B7.out.cell (p := ⟨wr.heap.size, 3, none⟩) (by exact hxs.out)).trans t3; have w7_4 := (B7.out.cell (p := ⟨wr.heap.size, 4, none⟩) (by exact hxs.out)).trans t4; have w7_5 := (B7.out.cell (p := ⟨wr.heap.size, 5, none⟩) (by exact hxs.out)).trans t5; have w7_6 := (B7.out.cell (p := ⟨wr.heap.size, 6, none⟩) (by exact hxs.out)).trans t6; have w7_7 := (B7.out.cell (p := ⟨wr.heap.size, 7, none⟩) (by exact hxs.out)).trans t7; clear o7 g7))
                      refine (l06Show_any x0 x1 x2 (x3 - nn) x4 x5 x6 x7 x6 (by omega) (by omega) _).mono ?_
                      rintro e w6 ⟨rfl, k8⟩
                      have B8 : Hid (Below (w5.setCell ⟨wr.heap.size, 3, none⟩ (.int .i64 (x3 - nn))).heap.size (w5.setCell ⟨wr.heap.size, 3, none⟩ (.int .i64 (x3 - nn))) w6) := B7.out.trans (k8.mono B7.out.size)
                      have O8 := Fk.hide (HO7.out.below k8)
                      clear k8
                      obtain ⟨so, hso⟩ : ∃ o, o = Dm.shown (x0, x1, x2, x3 - nn, x4, x5, x6, x7) x6 := ⟨_, rfl⟩
                      rw [← hso]
                      have HSO := Fk.hide hso
                      clear hso
                      obtain ⟨s0, s1, s2, s3, s4, s5, s6, s7⟩ := so
                      dsimp only [Or.vl]
                      go_wp2_with fail
                      refine (l06In_any _ ([] : List Or.E) s0 s1 s2 s3 s4 s5 s6 s7 (!buy) _ _ O8.out (by simp)).mono ?_
                      rintro e w8 ⟨⟨u8, rfl, o8⟩, k9⟩
                      have K8 : Hid (Below (w5.setCell ⟨wr.heap.size, 3, none⟩ (.int .i64 (x3 - nn))).heap.size (w5.setCell ⟨wr.heap.size, 3, none⟩ (.int .i64 (x3 - nn))) w8) := B8.out.trans (k9.mono B8.out.size)
                      have HO8 := Fk.hide (o8.mono B8.out.size)
                      obtain ⟨a8, m8, c8, rfl⟩ := o8.slice'
                      clear o8 k9
                      rw [HSO.out] at HO8
                      have J8 : Hid (Bw.Is w8 base b x y z5 (Y.tell (Dm.fill i (x0, x1, x2, x3, x4, x5, x6, x7) nn))) := J6.out.below K8.out
                      have BB8 : Hid (Below base w w8) := B6.out.trans (K8.out.mono hbs.out)
                      have FF8 : Hid (Bw.Fr (w5.setCell ⟨wr.heap.size, 3, none⟩ (.int .i64 (x3 - nn))) w8) := Bw.Fr.of_below K8.out
                      go_wp2_with fail
                      refine (bookPut_any base b x y z5 (.slice a8 m8 c8) (Y.tell (Dm.fill i (x0, x1, x2, x3, x4, x5, x6, x7) nn)) (Dm.inn (!buy) (Dm.shown (x0, x1, x2, x3 - nn, x4, x5, x6, x7) x6) ([] : List Or.E)) (!buy) w8 J8.out (Nat.le_trans hw BB8.out.size) (HO8.out.mono hbs.out) (fun k hk e => by have h1 := (HO8.out.lt k hk).1; have h2 := hxs.out; have h3 := Bw.pick_lt (!buy) HLX.out HLY.out k e; omega)).mono ?_
                      rintro e w9 ⟨rfl, J9, B9, F9⟩
                      have J9' := Fk.hide J9
                      have B9' := Fk.hide (BB8.out.trans B9)
                      have F9' := Fk.hide (HFr.out.trans (F6.out.trans (FF8.out.trans F9)))
                      clear J9 B9 F9
                      go_wp2_with fail
                      go_roundw
                      case rel =>
                        refine ⟨lf - nn, f, _, _, z5, _, by go_num, by omega, by omega, by omega, ?_, ?_, J9'.out, ?_, ?_, B9'.out, F9'.out⟩
                        · rw [Dm.side_put]; have := Dm.rest_length buy (x0, x1, x2, x3, x4, x5, x6, x7) nn ([] : List Or.E); rw [HRS.out] at this; simp only [List.length_nil] at this; omega
                        · rw [Dm.ev_put]; simp only [Dm.Bk.tell, List.length_append, List.length_cons, List.length_nil]; omega
                        · have := HE.out; rw [HRS.out] at this; exact this.symm
                        · rw [Dm.side_put, ← HRS.out]; exact Dm.rest_fine HXF.out (by omega) HRF.out
                      case measure => simp [intOf]; omega
                    · have HRS : Hid (Dm.rest buy (x0, x1, x2, x3, x4, x5, x6, x7) nn ([] : List Or.E) = ([] : List Or.E)) := by show _ = _; unfold Dm.rest; rw [if_neg hpos, if_neg h6]
                      go_wp2_with (first
                        | (at_builtin; (refine Rk.wpList_append_view _ rfl _ _ 23 rfl (w5.setCell ⟨wr.heap.size, 3, none⟩ (.int .i64 (x3 - nn))).heap.size 40 i0 _ 8 64 rfl Try.underlying23 hi hz0 hz1 hz2 rfl (by decide) (.slice (some ⟨w5.heap.size, 0, none⟩) 0 0) (.slice (some ⟨g0, 0, none⟩) 0 0) [] ([] : List Or.E) rfl rfl hM.out hV.out (Rk.shut_some _ _ _) hl1.out HB7.out.size ?_); intro u7 w7 o7 g7; rw [List.nil_append] at o7; have B7 : Hid (Below (w5.setCell ⟨wr.heap.size, 3, none⟩ (.int .i64 (x3 - nn))).heap.size (w5.setCell ⟨wr.heap.size, 3, none⟩ (.int .i64 (x3 - nn))) w7) := HB7.out.grown g7 HB7.out.size (fun j hj => by have := (hM.out.lt j hj).1; exact this); obtain ⟨a7, m7, c7, rfl⟩ := o7.slice'; have HO7 := Fk.hide o7; have w7_0 := (B7.out.cell (p := ⟨wr.heap.size, 0, none⟩) (by exact hxs.out)).trans t0; have w7_1 := (B7.out.cell (p := ⟨wr.heap.size, 1, none⟩) (by exact hxs.out)).trans t1; have w7_2 := (B7.out.cell (p := ⟨wr.heap.size, 2, none⟩) (by exact hxs.out)).trans t2; have w7_3 := (B7.out.cell (p := ⟨wr.heap.size, 3, none⟩) (by exact hxs.out)).trans t3; have w7_4 := (B7.out.cell (p := ⟨wr.heap.size, 4, none⟩) (by exact hxs.out)).trans t4; have w7_5 := (B7.out.cell (p := ⟨wr.heap.size, 5, none⟩) (by exact hxs.out)).trans t5; have w7_6 := (B7.out.cell (p := ⟨wr.heap.size, 6, none⟩) (by exact hxs.out)).trans t6; have w7_7 := (B7.out.cell (p := ⟨wr.heap.size, 7, none⟩) (by exact hxs.out)).trans t7; clear o7 g7))
                      have J8 : Hid (Bw.Is w7 base b x y z5 (Y.tell (Dm.fill i (x0, x1, x2, x3, x4, x5, x6, x7) nn))) := J6.out.below B7.out
                      have BB8 : Hid (Below base w w7) := B6.out.trans (B7.out.mono hbs.out)
                      have FF8 : Hid (Bw.Fr (w5.setCell ⟨wr.heap.size, 3, none⟩ (.int .i64 (x3 - nn))) w7) := Bw.Fr.of_below B7.out
                      refine (bookPut_any base b x y z5 (.slice a7 m7 c7) (Y.tell (Dm.fill i (x0, x1, x2, x3, x4, x5, x6, x7) nn)) ([] : List Or.E) (!buy) w7 J8.out (Nat.le_trans hw BB8.out.size) (HO7.out.mono hbs.out) (fun k hk e => by have h1 := (HO7.out.lt k hk).1; have h2 := hxs.out; have h3 := Bw.pick_lt (!buy) HLX.out HLY.out k e; omega)).mono ?_
                      rintro e w9 ⟨rfl, J9, B9, F9⟩
                      have J9' := Fk.hide J9
                      have B9' := Fk.hide (BB8.out.trans B9)
                      have F9' := Fk.hide (HFr.out.trans (F6.out.trans (FF8.out.trans F9)))
                      clear J9 B9 F9
                      go_wp2_with fail
                      go_roundw
                      case rel =>
                        refine ⟨lf - nn, f, _, _, z5, _, by go_num, by omega, by omega, by omega, ?_, ?_, J9'.out, ?_, ?_, B9'.out, F9'.out⟩
                        · rw [Dm.side_put]; have := Dm.rest_length buy (x0, x1, x2, x3, x4, x5, x6, x7) nn ([] : List Or.E); rw [HRS.out] at this; simp only [List.length_nil] at this; omega
                        · rw [Dm.ev_put]; simp only [Dm.Bk.tell, List.length_append, List.length_cons, List.length_nil]; omega
                        · have := HE.out; rw [HRS.out] at this; exact this.symm
                        · rw [Dm.side_put, ← HRS.out]; exact Dm.rest_fine HXF.out (by omega) HRF.out
                      case measure => simp [intOf]; omega
                · skip
                  have hV : Hid (Rk.View Or.S ((w5.setCell ⟨wr.heap.size, 3, none⟩ (.int .i64 (x3 - nn))).alloc (.cells #[] 40)) (.slice (some ⟨g0, 8, none⟩) r.length (cap - 1)) r) := Rk.view_of (by have := Rk.sees_drop (HSS.out.below hgs.out HB7.out) 1; rw [Nat.zero_add, Nat.one_mul] at this; exact this) (Nat.lt_of_lt_of_le hgs.out HB7.out.size) rfl
                  have hl1 : Hid (([] : List Or.E).length + r.length ≤ 1000000000) := by show _ ≤ _; simp <;> omega
                  by_cases hpos : 0 < x3 - nn
                  · have HRS : Hid (Dm.rest buy (x0, x1, x2, x3, x4, x5, x6, x7) nn r = (x0, x1, x2, x3 - nn, x4, x5, x6, x7) :: r) := if_pos hpos
                    have hS7 : Hid (∀ a, Rk.Shut (.slice (some a) 1 1)) := fun a => Rk.shut_some a _ _
                    go_wp2_with (first
                      | (have hchk := B7.out; clear hchk; at_builtin; refine Rk.wpList_append_view _ rfl _ _ 23 rfl (w5.setCell ⟨wr.heap.size, 3, none⟩ (.int .i64 (x3 - nn))).heap.size 40 i0 _ 8 64 rfl Try.underlying23 hi hz0 hz1 hz2 rfl (by decide) (.slice (some ⟨w7.heap.size, 0, none⟩) 1 1) (.slice a7 m7 c7) [(x0, x1, x2, x3 - nn, x4, x5, x6, x7)] r rfl rfl (Rk.own_lit1 w7 _ _ B7.out.size _ _ rfl) (HO7.out.below ((Below.refl _ _).alloc (Nat.le_refl _) _)).view HO7.out.shut (by simp <;> omega) (Nat.le_trans B7.out.size (by simp)) ?_; intro u8 w8 o8 g8; have B8 : Hid (Below (w5.setCell ⟨wr.heap.size, 3, none⟩ (.int .i64 (x3 - nn))).heap.size (w5.setCell ⟨wr.heap.size, 3, none⟩ (.int .i64 (x3 - nn))) w8) := (B7.out.alloc B7.out.size _).grown g8 (Nat.le_trans B7.out.size (by simp)) (fun j hj => by have h1 := B7.out.size; simp [Value.ownBlock] at hj; omega); obtain ⟨a8, m8, c8, rfl⟩ := o8.slice'; have HO8 := Fk.hide o8; clear o8 g8)
                      | (at_builtin; (refine Rk.wpList_append_view _ rfl _ _ 23 rfl (w5.setCell ⟨wr.heap.size, 3, none⟩ (.int .i64 (x3 - nn))).heap.size 40 i0 _ 8 64 rfl Try.underlying23 hi hz0 hz1 hz2 rfl (by decide) (.slice (some ⟨w5.heap.size, 0, none⟩) 0 0) (.slice (some ⟨g0, 8, none⟩) r.length (cap - 1)) [] r rfl rfl hM.out hV.out (Rk.shut_some _ _ _) hl1.out HB7.out.size ?_); intro u7 w7 o7 g7; rw [List.nil_append] at o7; have B7 : Hid (Below (w5.setCell ⟨wr.heap.size, 3, none⟩ (.int .i64 (x3 - nn))).heap.size (w5.setCell ⟨wr.heap.size, 3, none⟩ (.int .i64 (x3 - nn))) w7) := HB7.out.grown g7 HB7.out.size (fun j hj => by have := (hM.out.lt j hj).1; exact this); obtain ⟨a7, m7, c7, rfl⟩ := o7.slice'; have HO7 := Fk.hide o7; have w7_0 := (B7.out.cell (p := ⟨wr.heap.size, 0, none⟩) (by exact hxs.out)).trans t0; have w7_1 := (B7.out.cell (p := ⟨wr.heap.size, 1, none⟩) (by exact hxs.out)).trans t1; have w7_2 := (B7.out.cell (p := ⟨wr.heap.size, 2, none⟩) (by exact hxs.out)).trans t2; have w7_3 := (B7.out.cell (p := ⟨wr.heap.size, 3, none⟩) (by exact hxs.out)).trans t3; have w7_4 := (B7.out.cell (p := ⟨wr.heap.size, 4, none⟩) (by exact hxs.out)).trans t4; have w7_5 := (B7.out.cell (p := ⟨wr.heap.size, 5, none⟩) (by exact hxs.out)).trans t5; have w7_6 := (B7.out.cell (p := ⟨wr.heap.size, 6, none⟩) (by exact hxs.out)).trans t6; have w7_7 := (B7.out.cell (p := ⟨wr.heap.size, 7, none⟩) (by exact hxs.out)).trans t7; clear o7 g7))
                    have K8 : Hid (Below (w5.setCell ⟨wr.heap.size, 3, none⟩ (.int .i64 (x3 - nn))).heap.size (w5.setCell ⟨wr.heap.size, 3, none⟩ (.int .i64 (x3 - nn))) w8) := B8
                    have J8 : Hid (Bw.Is w8 base b x y z5 (Y.tell (Dm.fill i (x0, x1, x2, x3, x4, x5, x6, x7) nn))) := J6.out.below K8.out
                    have BB8 : Hid (Below base w w8) := B6.out.trans (K8.out.mono hbs.out)
                    have FF8 : Hid (Bw.Fr (w5.setCell ⟨wr.heap.size, 3, none⟩ (.int .i64 (x3 - nn))) w8) := Bw.Fr.of_below K8.out
                    refine (bookPut_any base b x y z5 (.slice a8 m8 c8) (Y.tell (Dm.fill i (x0, x1, x2, x3, x4, x5, x6, x7) nn)) ((x0, x1, x2, x3 - nn, x4, x5, x6, x7) :: r) (!buy) w8 J8.out (Nat.le_trans hw BB8.out.size) (HO8.out.mono hbs.out) (fun k hk e => by have h1 := (HO8.out.lt k hk).1; have h2 := hxs.out; have h3 := Bw.pick_lt (!buy) HLX.out HLY.out k e; omega)).mono ?_
                    rintro e w9 ⟨rfl, J9, B9, F9⟩
                    have J9' := Fk.hide J9
                    have B9' := Fk.hide (BB8.out.trans B9)
                    have F9' := Fk.hide (HFr.out.trans (F6.out.trans (FF8.out.trans F9)))
                    clear J9 B9 F9
                    go_wp2_with fail
                    go_roundw
                    case rel =>
                      refine ⟨lf - nn, f, _, _, z5, _, by go_num, by omega, by omega, by omega, ?_, ?_, J9'.out, ?_, ?_, B9'.out, F9'.out⟩
                      · rw [Dm.side_put]; have := Dm.rest_length buy (x0, x1, x2, x3, x4, x5, x6, x7) nn r; rw [HRS.out] at this; omega
                      · rw [Dm.ev_put]; simp only [Dm.Bk.tell, List.length_append, List.length_cons, List.length_nil]; omega
                      · have := HE.out; rw [HRS.out] at this; exact this.symm
                      · rw [Dm.side_put, ← HRS.out]; exact Dm.rest_fine HXF.out (by omega) HRF.out
                    case measure => simp [intOf]; omega
                  · by_cases h6 : 0 < x6
                    · have HRS : Hid (Dm.rest buy (x0, x1, x2, x3, x4, x5, x6, x7) nn r = Dm.inn (!buy) (Dm.shown (x0, x1, x2, x3 - nn, x4, x5, x6, x7) x6) r) := by show _ = _; unfold Dm.rest; rw [if_neg hpos, if_pos h6]; rfl
                      go_wp2_with (first
                        | (at_builtin; (refine Rk.wpList_append_view _ rfl _ _ 23 rfl (w5.setCell ⟨wr.heap.size, 3, none⟩ (.int .i64 (x3 - nn))).heap.size 40 i0 _ 8 64 rfl Try.underlying23 hi hz0 hz1 hz2 rfl (by decide) (.slice (some ⟨w5.heap.size, 0, none⟩) 0 0) (.slice (some ⟨g0, 8, none⟩) r.length (cap - 1)) [] r rfl rfl hM.out hV.out (Rk.shut_some _ _ _) hl1.out HB7.out.size ?_); intro u7 w7 o7 g7; rw [List.nil_append] at o7; have B7 : Hid (Below (w5.setCell ⟨wr.heap.size, 3, none⟩ (.int .i64 (x3 - nn))).heap.size (w5.setCell ⟨wr.heap.size, 3, none⟩ (.int .i64 (x3 - nn))) w7) := HB7.out.grown g7 HB7.out.size (fun j hj => by have := (hM.out.lt j hj).1; exact this); obtain ⟨a7, m7, c7, rfl⟩ := o7.slice'; have HO7 := Fk.hide o7; have w7_0 := (B7.out.cell (p := ⟨wr.heap.size, 0, none⟩) (by exact hxs.out)).trans t0; have w7_1 := (B7.out.cell (p := ⟨wr.heap.size, 1, none⟩) (by exact hxs.out)).trans t1; have w7_2 := (B7.out.cell (p := ⟨wr.heap.size, 2, none⟩) (by exact hxs.out)).trans t2; have w7_3 := (B7.out.cell (p := ⟨wr.heap.size, 3, none⟩) (by exact hxs.out)).trans t3; have w7_4 := (B7.out.cell (p := ⟨wr.heap.size, 4, none⟩) (by exact hxs.out)).trans t4; have w7_5 := (B7.out.cell (p := ⟨wr.heap.size, 5, none⟩) (by exact hxs.out)).trans t5; have w7_6 := (B7.out.cell (p := ⟨wr.heap.size, 6, none⟩) (by exact hxs.out)).trans t6; have w7_7 := (B7.out.cell (p := ⟨wr.heap.size, 7, none⟩) (by exact hxs.out)).trans t7; clear o7 g7))
                      refine (l06Show_any x0 x1 x2 (x3 - nn) x4 x5 x6 x7 x6 (by omega) (by omega) _).mono ?_
                      rintro e w6 ⟨rfl, k8⟩
                      have B8 : Hid (Below (w5.setCell ⟨wr.heap.size, 3, none⟩ (.int .i64 (x3 - nn))).heap.size (w5.setCell ⟨wr.heap.size, 3, none⟩ (.int .i64 (x3 - nn))) w6) := B7.out.trans (k8.mono B7.out.size)
                      have O8 := Fk.hide (HO7.out.below k8)
                      clear k8
                      obtain ⟨so, hso⟩ : ∃ o, o = Dm.shown (x0, x1, x2, x3 - nn, x4, x5, x6, x7) x6 := ⟨_, rfl⟩
                      rw [← hso]
                      have HSO := Fk.hide hso
                      clear hso
                      obtain ⟨s0, s1, s2, s3, s4, s5, s6, s7⟩ := so
                      dsimp only [Or.vl]
                      go_wp2_with fail
                      refine (l06In_any _ r s0 s1 s2 s3 s4 s5 s6 s7 (!buy) _ _ O8.out (by omega)).mono ?_
                      rintro e w8 ⟨⟨u8, rfl, o8⟩, k9⟩
                      have K8 : Hid (Below (w5.setCell ⟨wr.heap.size, 3, none⟩ (.int .i64 (x3 - nn))).heap.size (w5.setCell ⟨wr.heap.size, 3, none⟩ (.int .i64 (x3 - nn))) w8) := B8.out.trans (k9.mono B8.out.size)
                      have HO8 := Fk.hide (o8.mono B8.out.size)
                      obtain ⟨a8, m8, c8, rfl⟩ := o8.slice'
                      clear o8 k9
                      rw [HSO.out] at HO8
                      have J8 : Hid (Bw.Is w8 base b x y z5 (Y.tell (Dm.fill i (x0, x1, x2, x3, x4, x5, x6, x7) nn))) := J6.out.below K8.out
                      have BB8 : Hid (Below base w w8) := B6.out.trans (K8.out.mono hbs.out)
                      have FF8 : Hid (Bw.Fr (w5.setCell ⟨wr.heap.size, 3, none⟩ (.int .i64 (x3 - nn))) w8) := Bw.Fr.of_below K8.out
                      go_wp2_with fail
                      refine (bookPut_any base b x y z5 (.slice a8 m8 c8) (Y.tell (Dm.fill i (x0, x1, x2, x3, x4, x5, x6, x7) nn)) (Dm.inn (!buy) (Dm.shown (x0, x1, x2, x3 - nn, x4, x5, x6, x7) x6) r) (!buy) w8 J8.out (Nat.le_trans hw BB8.out.size) (HO8.out.mono hbs.out) (fun k hk e => by have h1 := (HO8.out.lt k hk).1; have h2 := hxs.out; have h3 := Bw.pick_lt (!buy) HLX.out HLY.out k e; omega)).mono ?_
                      rintro e w9 ⟨rfl, J9, B9, F9⟩
                      have J9' := Fk.hide J9
                      have B9' := Fk.hide (BB8.out.trans B9)
                      have F9' := Fk.hide (HFr.out.trans (F6.out.trans (FF8.out.trans F9)))
                      clear J9 B9 F9
                      go_wp2_with fail
                      go_roundw
                      case rel =>
                        refine ⟨lf - nn, f, _, _, z5, _, by go_num, by omega, by omega, by omega, ?_, ?_, J9'.out, ?_, ?_, B9'.out, F9'.out⟩
                        · rw [Dm.side_put]; have := Dm.rest_length buy (x0, x1, x2, x3, x4, x5, x6, x7) nn r; rw [HRS.out] at this; omega
                        · rw [Dm.ev_put]; simp only [Dm.Bk.tell, List.length_append, List.length_cons, List.length_nil]; omega
                        · have := HE.out; rw [HRS.out] at this; exact this.symm
                        · rw [Dm.side_put, ← HRS.out]; exact Dm.rest_fine HXF.out (by omega) HRF.out
                      case measure => simp [intOf]; omega
                    · have HRS : Hid (Dm.rest buy (x0, x1, x2, x3, x4, x5, x6, x7) nn r = r) := by show _ = _; unfold Dm.rest; rw [if_neg hpos, if_neg h6]
                      go_wp2_with (first
                        | (at_builtin; (refine Rk.wpList_append_view _ rfl _ _ 23 rfl (w5.setCell ⟨wr.heap.size, 3, none⟩ (.int .i64 (x3 - nn))).heap.size 40 i0 _ 8 64 rfl Try.underlying23 hi hz0 hz1 hz2 rfl (by decide) (.slice (some ⟨w5.heap.size, 0, none⟩) 0 0) (.slice (some ⟨g0, 8, none⟩) r.length (cap - 1)) [] r rfl rfl hM.out hV.out (Rk.shut_some _ _ _) hl1.out HB7.out.size ?_); intro u7 w7 o7 g7; rw [List.nil_append] at o7; have B7 : Hid (Below (w5.setCell ⟨wr.heap.size, 3, none⟩ (.int .i64 (x3 - nn))).heap.size (w5.setCell ⟨wr.heap.size, 3, none⟩ (.int .i64 (x3 - nn))) w7) := HB7.out.grown g7 HB7.out.size (fun j hj => by have := (hM.out.lt j hj).1; exact this); obtain ⟨a7, m7, c7, rfl⟩ := o7.slice'; have HO7 := Fk.hide o7; have w7_0 := (B7.out.cell (p := ⟨wr.heap.size, 0, none⟩) (by exact hxs.out)).trans t0; have w7_1 := (B7.out.cell (p := ⟨wr.heap.size, 1, none⟩) (by exact hxs.out)).trans t1; have w7_2 := (B7.out.cell (p := ⟨wr.heap.size, 2, none⟩) (by exact hxs.out)).trans t2; have w7_3 := (B7.out.cell (p := ⟨wr.heap.size, 3, none⟩) (by exact hxs.out)).trans t3; have w7_4 := (B7.out.cell (p := ⟨wr.heap.size, 4, none⟩) (by exact hxs.out)).trans t4; have w7_5 := (B7.out.cell (p := ⟨wr.heap.size, 5, none⟩) (by exact hxs.out)).trans t5; have w7_6 := (B7.out.cell (p := ⟨wr.heap.size, 6, none⟩) (by exact hxs.out)).trans t6; have w7_7 := (B7.out.cell (p := ⟨wr.heap.size, 7, none⟩) (by exact hxs.out)).trans t7; clear o7 g7))
                      have J8 : Hid (Bw.Is w7 base b x y z5 (Y.tell (Dm.fill i (x0, x1, x2, x3, x4, x5, x6, x7) nn))) := J6.out.below B7.out
                      have BB8 : Hid (Below base w w7) := B6.out.trans (B7.out.mono hbs.out)
                      have FF8 : Hid (Bw.Fr (w5.setCell ⟨wr.heap.size, 3, none⟩ (.int .i64 (x3 - nn))) w7) := Bw.Fr.of_below B7.out
                      refine (bookPut_any base b x y z5 (.slice a7 m7 c7) (Y.tell (Dm.fill i (x0, x1, x2, x3, x4, x5, x6, x7) nn)) r (!buy) w7 J8.out (Nat.le_trans hw BB8.out.size) (HO7.out.mono hbs.out) (fun k hk e => by have h1 := (HO7.out.lt k hk).1; have h2 := hxs.out; have h3 := Bw.pick_lt (!buy) HLX.out HLY.out k e; omega)).mono ?_
                      rintro e w9 ⟨rfl, J9, B9, F9⟩
                      have J9' := Fk.hide J9
                      have B9' := Fk.hide (BB8.out.trans B9)
                      have F9' := Fk.hide (HFr.out.trans (F6.out.trans (FF8.out.trans F9)))
                      clear J9 B9 F9
                      go_wp2_with fail
                      go_roundw
                      case rel =>
                        refine ⟨lf - nn, f, _, _, z5, _, by go_num, by omega, by omega, by omega, ?_, ?_, J9'.out, ?_, ?_, B9'.out, F9'.out⟩
                        · rw [Dm.side_put]; have := Dm.rest_length buy (x0, x1, x2, x3, x4, x5, x6, x7) nn r; rw [HRS.out] at this; omega
                        · rw [Dm.ev_put]; simp only [Dm.Bk.tell, List.length_append, List.length_cons, List.length_nil]; omega
                        · have := HE.out; rw [HRS.out] at this; exact this.symm
                        · rw [Dm.side_put, ← HRS.out]; exact Dm.rest_fine HXF.out (by omega) HRF.out
                      case measure => simp [intOf]; omega
end Go.Proofs.Ytfagldipjpaceaa

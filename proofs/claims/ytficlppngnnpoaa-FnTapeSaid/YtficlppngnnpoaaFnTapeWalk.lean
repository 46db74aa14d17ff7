/- The walk of the law of promise 19: the bars of drawn trades. -/
import Derived.Test.YtficlppngnnpoaaDrawTape
import Derived.Test.YtficlppngnnpoaaTapeLawMath
import Derived.Test.YtficlppngnnpoaaTapeFaces
import Derived.Test.YtficlppngnnpoaaTapeBarsSpec
import Derived.Test.YtficlppngnnpoaaTapeTradesSpec
import Derived.Test.YtficlppngnnpoaaLwTape
namespace Go.Proofs.Ytficlppngnnpoaa
open Go.RowKit
set_option linter.unusedVariables false
set_option linter.unusedSimpArgs false
set_option maxRecDepth 100000 in
set_option maxHeartbeats 8000000 in
theorem fnTape_walk (a0 : Option Addr) (n0 c0 : Nat) (m0 : n0 ≤ maxLen) (a1 : Option Addr) (n1 c1 : Nat) (m1 : n1 ≤ maxLen) (w : World) (g0 : Dk.Bytes w.heap.size w a0 n0) (g1 : Dk.Bytes w.heap.size w a1 n1) :
    Calls Try.prog 3 #[.slice a0 n0 c0, .slice a1 n1 c1] w fun e w' => e = .returned (.bool true) ∧ Below w.heap.size w w' := by
  unfold maxLen at m0 m1
  by_cases hb0 : (1048576 : Int) < (n0 : Int)
  · go_enter Try.func3, Try.ntmps3
    go_wp2_with fail
    go_ret
    exact ⟨rfl, Below.refl _ _⟩
  by_cases hb1 : (1048576 : Int) < (n1 : Int)
  · go_enter Try.func3, Try.ntmps3
    go_wp2_with fail
    go_ret
    exact ⟨rfl, Below.refl _ _⟩
  have G0 := Fk.hide g0
  have G1 := Fk.hide g1
  clear g0 g1
  go_enter Try.func3, Try.ntmps3
  go_wp2_with fail
  refine (drawBarsOf_any a0 n0 c0 w (by omega) G0.out).mono ?_
  rintro e W1 ⟨⟨u, L, m, rfl, ho, hl8, hma, hmb⟩, b1⟩
  have HB1 := Fk.hide b1
  obtain ⟨ua, uc, rfl⟩ := ho.slice
  have HL1 := Fk.hide ho
  have HL8 : Hid (L.length ≤ 1048576) := by show _ ≤ _; omega
  have HMM : Hid (-9223372036854775808 ≤ m ∧ m ≤ 9223372036854775807) := ⟨hma, hmb⟩
  have hz1 : w.heap.size ≤ W1.heap.size := b1.size
  obtain ⟨BL, hBL⟩ : ∃ x, x = Tp.barsAll L m := ⟨_, rfl⟩
  obtain ⟨EL, hEL⟩ : ∃ x : Int × Int × Int × Int, x = ((Tp.barAll L).2.2.2.2, Tp.turnAll L, (Tp.barAll L).2.1, (Tp.barAll L).2.2.1) := ⟨_, rfl⟩
  obtain ⟨vv, tv, hv, lv⟩ := EL
  simp only [Prod.mk.injEq] at hEL
  obtain ⟨e_v, e_t, e_h, e_l⟩ := hEL
  have FB : Hid (∀ W' v b, Rk.Own Td.S W' b 37 v L → Calls Try.prog 11 #[v, .int .i64 m] W' fun e w'' => (∃ u, e = .returned u ∧ Rk.Own Ba.S w'' W'.heap.size 35 u BL) ∧ Below W'.heap.size W' w'') := fun W' v b hv => by rw [hBL]; exact barsOf_impl v L m W' hv.view (Td.fit_own hv) HL8.out
  have FC : Hid (∀ W' v b, Rk.Own Td.S W' b 37 v L → Calls Try.prog 18 #[v, .int .i64 m] W' fun e w'' => (∃ u, e = .returned u ∧ Rk.Own Ba.S w'' W'.heap.size 35 u BL) ∧ Below W'.heap.size W' w'') := fun W' v b hv => by rw [hBL]; exact barsOf_spec v L m W' hv.view (Td.fit_own hv) HL8.out
  have FIVolumeOf : Hid (∀ W' v, Rk.View Td.S W' v L → Calls Try.prog 13 #[v] W' fun e w'' => e = .returned (.int .i64 vv) ∧ Below W'.heap.size W' w'') := fun W' v hw => by rw [e_v]; exact volumeOf_impl v L W' hw HL8.out
  have FSVolumeOf : Hid (∀ W' v, Rk.View Td.S W' v L → Calls Try.prog 22 #[v] W' fun e w'' => e = .returned (.int .i64 vv) ∧ Below W'.heap.size W' w'') := fun W' v hw => by rw [e_v]; exact volumeOf_spec v L W' hw HL8.out
  have FITurnoverOf : Hid (∀ W' v, Rk.View Td.S W' v L → Calls Try.prog 14 #[v] W' fun e w'' => e = .returned (.int .i64 tv) ∧ Below W'.heap.size W' w'') := fun W' v hw => by rw [e_t]; exact turnoverOf_impl v L W' hw HL8.out
  have FSTurnoverOf : Hid (∀ W' v, Rk.View Td.S W' v L → Calls Try.prog 23 #[v] W' fun e w'' => e = .returned (.int .i64 tv) ∧ Below W'.heap.size W' w'') := fun W' v hw => by rw [e_t]; exact turnoverOf_spec v L W' hw HL8.out
  have FIHighOf : Hid (∀ W' v, Rk.View Td.S W' v L → Calls Try.prog 15 #[v] W' fun e w'' => e = .returned (.int .i64 hv) ∧ Below W'.heap.size W' w'') := fun W' v hw => by rw [e_h]; exact highOf_impl v L W' hw HL8.out
  have FSHighOf : Hid (∀ W' v, Rk.View Td.S W' v L → Calls Try.prog 24 #[v] W' fun e w'' => e = .returned (.int .i64 hv) ∧ Below W'.heap.size W' w'') := fun W' v hw => by rw [e_h]; exact highOf_spec v L W' hw HL8.out
  have FILowOf : Hid (∀ W' v, Rk.View Td.S W' v L → Calls Try.prog 16 #[v] W' fun e w'' => e = .returned (.int .i64 lv) ∧ Below W'.heap.size W' w'') := fun W' v hw => by rw [e_l]; exact lowOf_impl v L W' hw HL8.out
  have FSLowOf : Hid (∀ W' v, Rk.View Td.S W' v L → Calls Try.prog 25 #[v] W' fun e w'' => e = .returned (.int .i64 lv) ∧ Below W'.heap.size W' w'') := fun W' v hw => by rw [e_l]; exact lowOf_spec v L W' hw HL8.out
  have HAS : Hid ((0 ≤ vv ∧ vv ≤ 400000) ∧ (0 ≤ lv ∧ lv ≤ 10000) ∧ (0 ≤ hv ∧ hv ≤ 10000)) := by show _ ∧ _; rw [e_v, e_l, e_h]; exact Tp.all_small L
  have HTA : Hid (lv * vv ≤ tv ∧ tv ≤ hv * vv) := by show _ ∧ _; rw [e_v, e_l, e_h, e_t]; exact Tp.turn_all L
  obtain ⟨s, hs0, hs1, hs2, hs3⟩ := Tp.law L m
  rw [← hBL] at hs1 hs2 hs3
  have HS0 := Fk.hide hs0
  have HS1 : Hid (∀ k, k < BL.length → s (k + 1) = s k + (Rk.at_ Ba.S BL k).2.2.2.2 ∧ ((Rk.at_ Ba.S BL k).2.1 ≤ hv ∧ lv ≤ (Rk.at_ Ba.S BL k).2.2.1 ∧ (Rk.at_ Ba.S BL k).1 ≤ (Rk.at_ Ba.S BL k).2.1 ∧ (Rk.at_ Ba.S BL k).2.2.1 ≤ (Rk.at_ Ba.S BL k).1 ∧ (Rk.at_ Ba.S BL k).2.2.2.1 ≤ (Rk.at_ Ba.S BL k).2.1 ∧ (Rk.at_ Ba.S BL k).2.2.1 ≤ (Rk.at_ Ba.S BL k).2.2.2.1) ∧ 0 ≤ (Rk.at_ Ba.S BL k).2.2.2.2 ∧ (Rk.at_ Ba.S BL k).2.2.2.2 ≤ 400000) := fun k hk => by
    obtain ⟨h1, ⟨h2, h3, h4, h5, h6, h7⟩, h8, h9⟩ := hs1 k hk
    rw [← e_h] at h2
    rw [← e_l] at h3
    exact ⟨h1, ⟨h2, h3, h4, h5, h6, h7⟩, h8, h9⟩
  have HS2 := Fk.hide hs2
  have HS3 : Hid (0 < BL.length → s BL.length = vv ∧ (Rk.at_ Ba.S BL 0).1 = (Rk.at_ Td.S L 0).1 ∧ (Rk.at_ Ba.S BL (BL.length - 1)).2.2.2.1 = (Rk.at_ Td.S L (L.length - 1)).1 ∧ 0 < L.length) := fun h0 => by rw [e_v]; exact hs3 h0
  have HBL : Hid (BL.length ≤ 1048576) := by show _ ≤ _; rw [hBL]; exact Nat.le_trans (Tp.barsAll_len L m) (by decide)
  clear hBL e_v e_t e_h e_l hs0 hs1 hs2 hs3 b1 ho hl8 hma hmb
  go_wp2_with fail
  refine (FB.out W1 _ _ HL1.out).mono ?_
  rintro e W2 ⟨⟨uHX, rfl, oHX⟩, k2⟩
  obtain ⟨aHX, cHX, rfl⟩ := oHX.slice
  have HX2 := Fk.hide oHX
  clear oHX
  have HB2 : Hid (Below w.heap.size w W2) := HB1.out.trans (k2.mono HB1.out.size)
  have HL2 := Fk.hide (HL1.out.below k2)
  clear k2 HB1 HL1
  have HG1 : Hid (Dk.Bytes W2.heap.size W2 a1 n1) := fun i hi => by
    obtain ⟨b, o, x, e1, hb, hx, hc⟩ := G1.out i hi
    exact ⟨b, o, x, e1, Nat.lt_of_lt_of_le hb HB2.out.size, hx, (HB2.out.cell (by exact hb)).trans hc⟩
  go_wp2_with fail
  refine (drawTradesOf_any a1 n1 c1 W2 (by omega) HG1.out).mono ?_
  rintro e W3 ⟨⟨ue, E, rfl, oe, hE4⟩, k3⟩
  obtain ⟨ea, ec, rfl⟩ := oe.slice
  have HE3 := Fk.hide oe
  have HE4 : Hid (E.length ≤ 1048576) := by show _ ≤ _; omega
  clear oe hE4 HG1 G0 G1
  have HB3 : Hid (Below w.heap.size w W3) := HB2.out.trans (k3.mono HB2.out.size)
  have HL3 := Fk.hide (HL2.out.below k3)
  have HX3 := Fk.hide (HX2.out.below k3)
  clear k3 HB2 HL2 HX2
  go_wp2_with fail
  refine (FIVolumeOf.out W3 _ HL3.out.view).mono ?_
  rintro e W4 ⟨rfl, k4⟩
  have HB4 : Hid (Below w.heap.size w W4) := HB3.out.trans (k4.mono HB3.out.size)
  have HL4 := Fk.hide (HL3.out.below k4)
  have HX4 := Fk.hide (HX3.out.below k4)
  have HE4 := Fk.hide (HE3.out.below k4)
  clear k4 HB3 HL3 HX3 HE3
  go_wp2_with fail
  refine (FITurnoverOf.out W4 _ HL4.out.view).mono ?_
  rintro e W5 ⟨rfl, k5⟩
  have HB5 : Hid (Below w.heap.size w W5) := HB4.out.trans (k5.mono HB4.out.size)
  have HL5 := Fk.hide (HL4.out.below k5)
  have HX5 := Fk.hide (HX4.out.below k5)
  have HE5 := Fk.hide (HE4.out.below k5)
  clear k5 HB4 HL4 HX4 HE4
  go_wp2_with fail
  refine (FIHighOf.out W5 _ HL5.out.view).mono ?_
  rintro e W6 ⟨rfl, k6⟩
  have HB6 : Hid (Below w.heap.size w W6) := HB5.out.trans (k6.mono HB5.out.size)
  have HL6 := Fk.hide (HL5.out.below k6)
  have HX6 := Fk.hide (HX5.out.below k6)
  have HE6 := Fk.hide (HE5.out.below k6)
  clear k6 HB5 HL5 HX5 HE5
  go_wp2_with fail
  refine (FILowOf.out W6 _ HL6.out.view).mono ?_
  rintro e W7 ⟨rfl, k7⟩
  have HB7 : Hid (Below w.heap.size w W7) := HB6.out.trans (k7.mono HB6.out.size)
  have HL7 := Fk.hide (HL6.out.below k7)
  have HX7 := Fk.hide (HX6.out.below k7)
  have HE7 := Fk.hide (HE6.out.below k7)
  clear k7 HB6 HL6 HX6 HE6
  go_wp2_with fail
  refine (FC.out W7 _ _ HL7.out).mono ?_
  rintro e W8 ⟨⟨uHY, rfl, oHY⟩, k8⟩
  obtain ⟨aHY, cHY, rfl⟩ := oHY.slice
  have HY8 := Fk.hide oHY
  clear oHY
  have HB8 : Hid (Below w.heap.size w W8) := HB7.out.trans (k8.mono HB7.out.size)
  have HL8 := Fk.hide (HL7.out.below k8)
  have HX8 := Fk.hide (HX7.out.below k8)
  have HE8 := Fk.hide (HE7.out.below k8)
  clear k8 HB7 HL7 HX7 HE7
  go_wp2_with fail
  refine (lwBars_same _ _ BL W8 HX8.out.view HY8.out.view HBL.out).mono ?_
  rintro e W9 ⟨rfl, k9⟩
  have HB9 : Hid (Below w.heap.size w W9) := HB8.out.trans (k9.mono HB8.out.size)
  have HL9 := Fk.hide (HL8.out.below k9)
  have HX9 := Fk.hide (HX8.out.below k9)
  have HE9 := Fk.hide (HE8.out.below k9)
  have HY9 := Fk.hide (HY8.out.below k9)
  clear k9 HB8 HL8 HX8 HE8 HY8
  obtain ⟨PL, hPL⟩ : ∃ x, x = Tt.tradesOf E := ⟨_, rfl⟩
  have FPI : Hid (∀ W' v, Rk.View Vt.S W' v E → Calls Try.prog 20 #[v] W' fun e w'' => (∃ u, e = .returned u ∧ Rk.Own Td.S w'' W'.heap.size 37 u PL) ∧ Below W'.heap.size W' w'') := fun W' v hw => by rw [hPL]; exact tradesOf_impl v E W' hw HE4.out
  have FPS : Hid (∀ W' v, Rk.View Vt.S W' v E → Calls Try.prog 21 #[v] W' fun e w'' => (∃ u, e = .returned u ∧ Rk.Own Td.S w'' W'.heap.size 37 u PL) ∧ Below W'.heap.size W' w'') := fun W' v hw => by rw [hPL]; exact tradesOf_spec v E W' hw HE4.out
  have HPL : Hid (PL.length ≤ 1048576) := by show _ ≤ _; rw [hPL]; exact Nat.le_trans (Tt.tradesOf_len E) (by decide)
  clear hPL
  go_wp2_with fail
  refine (FPI.out W9 _ HE9.out.view).mono ?_
  rintro e W10 ⟨⟨uHP, rfl, oHP⟩, k10⟩
  obtain ⟨aHP, cHP, rfl⟩ := oHP.slice
  have HP10 := Fk.hide oHP
  clear oHP
  have HB10 : Hid (Below w.heap.size w W10) := HB9.out.trans (k10.mono HB9.out.size)
  have HL10 := Fk.hide (HL9.out.below k10)
  have HX10 := Fk.hide (HX9.out.below k10)
  have HE10 := Fk.hide (HE9.out.below k10)
  have HY10 := Fk.hide (HY9.out.below k10)
  clear k10 HB9 HL9 HX9 HE9 HY9
  go_wp2_with fail
  refine (FPS.out W10 _ HE10.out.view).mono ?_
  rintro e W11 ⟨⟨uHQ, rfl, oHQ⟩, k11⟩
  obtain ⟨aHQ, cHQ, rfl⟩ := oHQ.slice
  have HQ11 := Fk.hide oHQ
  clear oHQ
  have HB11 : Hid (Below w.heap.size w W11) := HB10.out.trans (k11.mono HB10.out.size)
  have HL11 := Fk.hide (HL10.out.below k11)
  have HX11 := Fk.hide (HX10.out.below k11)
  have HE11 := Fk.hide (HE10.out.below k11)
  have HY11 := Fk.hide (HY10.out.below k11)
  have HP11 := Fk.hide (HP10.out.below k11)
  clear k11 HB10 HL10 HX10 HE10 HY10 HP10
  go_wp2_with fail
  refine (lwTrades_same _ _ PL W11 HP11.out.view HQ11.out.view HPL.out).mono ?_
  rintro e W12 ⟨rfl, k12⟩
  have HB12 : Hid (Below w.heap.size w W12) := HB11.out.trans (k12.mono HB11.out.size)
  have HL12 := Fk.hide (HL11.out.below k12)
  have HX12 := Fk.hide (HX11.out.below k12)
  have HE12 := Fk.hide (HE11.out.below k12)
  have HY12 := Fk.hide (HY11.out.below k12)
  have HP12 := Fk.hide (HP11.out.below k12)
  have HQ12 := Fk.hide (HQ11.out.below k12)
  clear k12 HB11 HL11 HX11 HE11 HY11 HP11 HQ11
  clear HP12
  clear HQ12
  clear HY12
  clear HE12
  go_wp2_with fail
  refine (FSVolumeOf.out W12 _ HL12.out.view).mono ?_
  rintro e W13 ⟨rfl, k13⟩
  have HB13 : Hid (Below w.heap.size w W13) := HB12.out.trans (k13.mono HB12.out.size)
  have HL13 := Fk.hide (HL12.out.below k13)
  have HX13 := Fk.hide (HX12.out.below k13)
  clear k13 HB12 HL12 HX12
  go_wp2_with fail
  refine (FSTurnoverOf.out W13 _ HL13.out.view).mono ?_
  rintro e W14 ⟨rfl, k14⟩
  have HB14 : Hid (Below w.heap.size w W14) := HB13.out.trans (k14.mono HB13.out.size)
  have HL14 := Fk.hide (HL13.out.below k14)
  have HX14 := Fk.hide (HX13.out.below k14)
  clear k14 HB13 HL13 HX13
  go_wp2_with fail
  refine (FSHighOf.out W14 _ HL14.out.view).mono ?_
  rintro e W15 ⟨rfl, k15⟩
  have HB15 : Hid (Below w.heap.size w W15) := HB14.out.trans (k15.mono HB14.out.size)
  have HL15 := Fk.hide (HL14.out.below k15)
  have HX15 := Fk.hide (HX14.out.below k15)
  clear k15 HB14 HL14 HX14
  obtain ⟨⟨v0, v1⟩, ⟨l0, l1⟩, h0, h1⟩ := HAS.out
  obtain ⟨pl, hpl⟩ : ∃ x, x = lv * vv := ⟨_, rfl⟩
  obtain ⟨ph, hph⟩ : ∃ x, x = hv * vv := ⟨_, rfl⟩
  have hpl2 := Tp.mul_small l0 l1 v0 v1
  have hph2 := Tp.mul_small h0 h1 v0 v1
  have hta := HTA.out
  rw [← hpl] at hta hpl2
  rw [← hph] at hta hph2
  obtain ⟨t0, t1⟩ := hta
  have HPLM := Fk.hide hpl
  have HPHM := Fk.hide hph
  clear hpl hph
  have hw1 : IntKind.i64.wrap (lv * vv) = pl := by rw [← HPLM.out, IntKind.wrap_i64]; omega
  have hw2 : IntKind.i64.wrap (hv * vv) = ph := by rw [← HPHM.out, IntKind.wrap_i64]; omega
  have ht0 : decide (tv < pl) = false := decide_eq_false (by omega)
  have ht1 : decide (ph < tv) = false := decide_eq_false (by omega)
  go_wp2_with fail
  refine (FSLowOf.out W15 _ HL15.out.view).mono ?_
  rintro e W16 ⟨rfl, k16⟩
  have HB16 : Hid (Below w.heap.size w W16) := HB15.out.trans (k16.mono HB15.out.size)
  have HL16 := Fk.hide (HL15.out.below k16)
  have HX16 := Fk.hide (HX15.out.below k16)
  clear k16 HB15 HL15 HX15
  go_wp2_with fail
  have HXV : Hid (0 < BL.length → ∃ b o, aHX = some ⟨b, o, none⟩ ∧ b < W16.heap.size ∧ Rk.Sees Ba.S W16 b o BL) := fun h0 => by
    obtain ⟨a', c', e', hse⟩ := HX16.out.view
    obtain ⟨b, o, eb, hb, hs1⟩ := hse h0
    simp only [Value.slice.injEq] at e'
    exact ⟨b, o, e'.1.trans eb, hb, hs1⟩
  have HLV : Hid (0 < L.length → ∃ b o, ua = some ⟨b, o, none⟩ ∧ b < W16.heap.size ∧ Rk.Sees Td.S W16 b o L) := fun h0 => by
    obtain ⟨a', c', e', hse⟩ := HL16.out.view
    obtain ⟨b, o, eb, hb, hs1⟩ := hse h0
    simp only [Value.slice.injEq] at e'
    exact ⟨b, o, e'.1.trans eb, hb, hs1⟩
  clear hw1 hw2 ht0 ht1 hpl2 hph2 t0 t1 HPLM HPHM HX16 HL16
  go_loopw [13, 14] (fun nn i wr => ∃ (k : Nat) (n : Int), k ≤ BL.length ∧ nn = .int .i64 n ∧ i = .int .i64 k ∧ 0 ≤ n ∧ n ≤ 400000 ∧ Hid (n = s k) ∧ Hid (Below W16.heap.size W16 wr)) (fun _ i _ => BL.length - (intOf i).toNat)
  case atStart => exact ⟨0, 0, Nat.zero_le _, rfl, rfl, by omega, by omega, HS0.out.symm, Below.refl _ _⟩
  case round =>
    obtain ⟨k, n, hk, rfl, rfl, hn0, hn1, HN, BEL⟩ := hrel
    by_cases hlt : k < BL.length
    · obtain ⟨b, o, rfl, hb, hs1⟩ := HXV.out (by omega)
      have hs' := hs1.below hb BEL.out
      have q0 := Ba.c0 hs' hlt
      have q1 := Ba.c1 hs' hlt
      have q2 := Ba.c2 hs' hlt
      have q3 := Ba.c3 hs' hlt
      have q4 := Ba.c4 hs' hlt
      obtain ⟨t1, ⟨t2, t3, t4, t5, t6, t7⟩, t8, t9⟩ := HS1.out k hlt
      obtain ⟨f, hf⟩ : ∃ f, f = Rk.at_ Ba.S BL k := ⟨_, rfl⟩
      rw [← hf] at q0 q1 q2 q3 q4 t1 t2 t3 t4 t5 t6 t7 t8 t9
      have hs22 := HS2.out (k + 1) (by omega)
      rw [t1, ← HN.out] at hs22
      have HN2 : Hid (n + f.2.2.2.2 = s (k + 1)) := by show _ = _; rw [t1, HN.out]
      have BA : Hid (∀ o, Below W16.heap.size W16 (wr.alloc o)) := fun o => BEL.out.alloc BEL.out.size _
      have hBm := HBL.out
      clear hf hs' t1 HN
      obtain ⟨b0, b1, b2, b3, b4⟩ := f
      simp only at q0 q1 q2 q3 q4 t2 t3 t4 t5 t6 t7 t8 t9 hs22
      have e1 : decide (hv < b1) = false := decide_eq_false (by omega)
      have e2 : decide (b2 < lv) = false := decide_eq_false (by omega)
      have e3 : decide (b1 < b0) = false := decide_eq_false (by omega)
      have e4 : decide (b0 < b2) = false := decide_eq_false (by omega)
      have e5 : decide (b1 < b3) = false := decide_eq_false (by omega)
      have e6 : decide (b3 < b2) = false := decide_eq_false (by omega)
      go_wp2_with fail
      go_roundw
      case rel => exact ⟨k + 1, n + b4, by omega, by go_num, by go_num, by omega, by omega, HN2.out, BA.out _⟩
      case measure => simp [intOf]; omega
    · have e : k = BL.length := by omega
      have HBF : Hid (Below w.heap.size w wr) := HB16.out.trans (BEL.out.mono HB16.out.size)
      have hnv : 0 < BL.length → n = vv := fun h0 => by rw [HN.out, e]; exact (HS3.out h0).1
      clear HN
      by_cases h0 : BL.length = 0
      · have d0 : decide ((BL.length : Int) = 0) = true := decide_eq_true (by omega)
        have d1 : ((BL.length : Int) == 0) = true := by simpa using h0
        subst e
        go_wp2_with fail
        refine wp_region_quiet_below (by kernel_rfl) (by kernel_rfl) ?_
        repeat (go_big_quiet_step (fail))
        refine wpQuiet_nil ?_
        intro w4 hw'
        obtain ⟨⟨dq, osq⟩, hw''⟩ := hw'
        have B4 : Below w.heap.size w w4 := by rw [hw'']; exact HBF.out.trans ((below_regrown wr dq osq).mono HBF.out.size)
        clear hw''
        go_wp2_with fail
        go_ret
        exact ⟨rfl, B4⟩
      · obtain ⟨_, f1, f2, f3⟩ := HS3.out (by omega)
        obtain ⟨b, o, rfl, hb, hs1⟩ := HXV.out (by omega)
        obtain ⟨b2, o2, rfl, hb2, hs2⟩ := HLV.out f3
        have hsx := hs1.below hb BEL.out
        have hsl := hs2.below hb2 BEL.out
        have hn := hnv (by omega)
        obtain ⟨K, hK⟩ : ∃ K, BL.length = K + 1 := ⟨BL.length - 1, by omega⟩
        obtain ⟨J, hJ⟩ : ∃ J, L.length = J + 1 := ⟨L.length - 1, by omega⟩
        have x0 := Ba.c0 hsx (k := 0) (by omega)
        have x3 := Ba.c3 hsx (k := K) (by omega)
        have y0 := Td.c0 hsl (k := 0) (by omega)
        have y3 := Td.c0 hsl (k := J) (by omega)
        rw [f1] at x0
        rw [show K = BL.length - 1 by omega, f2, show L.length - 1 = J by omega, show BL.length - 1 = K by omega] at x3
        obtain ⟨p0, hp0⟩ : ∃ p, p = (Rk.at_ Td.S L 0).1 := ⟨_, rfl⟩
        obtain ⟨p3, hp3⟩ : ∃ p, p = (Rk.at_ Td.S L J).1 := ⟨_, rfl⟩
        rw [← hp0] at x0 y0
        rw [← hp3] at x3 y3
        have hBm := HBL.out
        have hLm := HL8.out
        simp only [Nat.zero_mul, Nat.add_zero] at x0 y0
        have d0 : decide ((BL.length : Int) = 0) = false := decide_eq_false (by omega)
        have d1 : ((BL.length : Int) == 0) = false := by simpa using h0
        have d2 : ((K : Int) + 1 == 0) = false := by simp; omega
        have d3 : decide ((K : Int) + 1 = 0) = false := decide_eq_false (by omega)
        have d4 : (K + 1 == 0) = false := by simp
        have d5 : (BL.length == 0) = false := by simpa using h0
        have d6 : decide (BL.length = 0) = false := decide_eq_false h0
        clear hsx hsl f1 f2 hp0 hp3 hnv
        have rx0 := cell_regrown x0
        have rx3 := cell_regrown x3
        have ry0 := cell_regrown y0
        have ry3 := cell_regrown y3
        subst hn
        go_wp2_with fail
        refine wp_region_quiet_below (by kernel_rfl) (by kernel_rfl) ?_
        repeat (go_big_quiet_step (fail))
        refine wpQuiet_nil ?_
        intro w4 hw'
        obtain ⟨⟨dq, osq⟩, hw''⟩ := hw'
        have B4 : Below w.heap.size w w4 := by rw [hw'']; exact HBF.out.trans ((below_regrown wr dq osq).mono HBF.out.size)
        clear hw''
        go_wp2_with fail
        go_ret
        exact ⟨rfl, B4⟩
end Go.Proofs.Ytficlppngnnpoaa

/- The walk of the law of ladders: the rungs of a drawn older book. -/
import Derived.Test.YtfagldipjpaceaaDrawOldLadder
import Derived.Test.YtfagldipjpaceaaLadderMath
import Derived.Test.YtfagldipjpaceaaLwRungs
import Derived.Test.YtfagldipjpaceaaOldLadderSpec2
import Derived.Test.YtfagldipjpaceaaOldLadderImpl
import Derived.Test.YtfagldipjpaceaaOldBest
namespace Go.Proofs.Ytfagldipjpaceaa
open Go.RowKit
set_option linter.unusedVariables false
set_option linter.unusedSimpArgs false
set_option maxRecDepth 100000 in
set_option maxHeartbeats 8000000 in
theorem fnLadder_walk (a0 : Option Addr) (n0 c0 : Nat) (m0 : n0 ≤ maxLen) (w : World) (g0 : Dk.Bytes w.heap.size w a0 n0) :
    Calls Try.prog 4 #[.slice a0 n0 c0] w fun e w' => e = .returned (.bool true) ∧ Below w.heap.size w w' := by
  unfold maxLen at m0
  by_cases hb0 : (1048576 : Int) < (n0 : Int)
  · go_enter Try.func4, Try.ntmps4
    go_wp2_with fail
    go_ret
    exact ⟨rfl, Below.refl _ _⟩
  have G0 := Fk.hide g0
  clear g0
  go_enter Try.func4, Try.ntmps4
  go_wp2_with fail
  refine (drawOldLadder_any a0 n0 c0 w (by omega) G0.out).mono ?_
  rintro e W1 ⟨⟨u, v, n, X, Y, buy, rfl, ht, hl⟩, b1⟩
  obtain ⟨ua, uc, rfl⟩ := ht.b.slice
  obtain ⟨va, vc, rfl⟩ := ht.a.slice
  have HXL : Hid (X.length ≤ 1048576 ∧ Y.length ≤ 1048576) := ⟨by omega, by omega⟩
  obtain ⟨q, hq⟩ : ∃ q, q = W1.heap.size := ⟨_, rfl⟩
  obtain ⟨W2, hW2⟩ : ∃ W, W = W1.alloc (.cells #[.slice ua X.length uc, .slice va Y.length vc, .int .i64 n] 25) := ⟨_, rfl⟩
  have k2 : Below W1.heap.size W1 W2 := by rw [hW2]; exact (Below.refl _ _).alloc (Nat.le_refl _) _
  have qa2 : W2.cell? ⟨q, 0, none⟩ = some (.slice ua X.length uc) := by rw [hW2, hq, Fk.cellTop _ _ _ _ _ rfl]; rfl
  have qb2 : W2.cell? ⟨q, 1, none⟩ = some (.slice va Y.length vc) := by rw [hW2, hq, Fk.cellTop _ _ _ _ _ rfl]; rfl
  have qc2 : W2.cell? ⟨q, 2, none⟩ = some (.int .i64 n) := by rw [hW2, hq, Fk.cellTop _ _ _ _ _ rfl]; rfl
  have hz2 : q < W2.heap.size := by rw [hW2, hq]; simp
  have HB2 : Hid (Below w.heap.size w W2) := b1.trans (k2.mono b1.size)
  have HT2 := Fk.hide (ht.below k2)
  have HW := Fk.hide hW2
  have HQ := Fk.hide hq
  clear k2 b1 ht hl hW2 hq G0
  obtain ⟨R, hR⟩ : ∃ R, R = Ob.ladder X Y n buy := ⟨_, rfl⟩
  obtain ⟨r, hr⟩ : ∃ r, r = Ob.right X Y n := ⟨_, rfl⟩
  obtain ⟨bs, hbs⟩ : ∃ b, b = Ob.best X Y n buy := ⟨_, rfl⟩
  have FI : Hid (∀ W', Ob.Two W' w.heap.size 40 (.slice ua X.length uc) (.slice va Y.length vc) X Y → Calls Try.prog 25 #[.agg #[.slice ua X.length uc, .slice va Y.length vc, .int .i64 n], .bool buy] W' fun e w' => (∃ x, e = .returned x ∧ Rk.Own Rg.S w' W'.heap.size 55 x R) ∧ Below W'.heap.size W' w') := fun W' h => by rw [hR]; exact oldLadder_impl _ _ n buy X Y W' h.b.view h.a.view h.b.shut h.a.shut HXL.out.1 HXL.out.2
  have FS : Hid (∀ W', Ob.Two W' w.heap.size 40 (.slice ua X.length uc) (.slice va Y.length vc) X Y → Calls Try.prog 27 #[.agg #[.slice ua X.length uc, .slice va Y.length vc, .int .i64 n], .bool buy] W' fun e w' => (∃ x, e = .returned x ∧ Rk.Own Rg.S w' W'.heap.size 55 x R) ∧ Below W'.heap.size W' w') := fun W' h => by rw [hR]; exact oldLadder_spec _ _ n buy X Y W' h.b.view h.a.view h.b.shut h.a.shut HXL.out.1 HXL.out.2
  have FR : Hid (∀ W', Ob.Two W' w.heap.size 40 (.slice ua X.length uc) (.slice va Y.length vc) X Y → Calls Try.prog 19 #[.agg #[.slice ua X.length uc, .slice va Y.length vc, .int .i64 n]] W' fun e w' => e = .returned (.bool r) ∧ Below W'.heap.size W' w') := fun W' h => by rw [hr]; exact oldRight_spec _ _ n X Y W' h.b.view h.a.view h.b.shut h.a.shut HXL.out.1 HXL.out.2
  have FB : Hid (∀ W', Ob.Two W' w.heap.size 40 (.slice ua X.length uc) (.slice va Y.length vc) X Y → Calls Try.prog 12 #[.agg #[.slice ua X.length uc, .slice va Y.length vc, .int .i64 n], .bool buy] W' fun e w' => e = .returned (.agg #[.int .i64 bs.1, .int .i64 bs.2.1, .int .i64 bs.2.2.1, .int .i64 bs.2.2.2.1, .bool bs.2.2.2.2.1, .int .i64 bs.2.2.2.2.2.1, .int .i64 bs.2.2.2.2.2.2.1, .bool bs.2.2.2.2.2.2.2]) ∧ Below W'.heap.size W' w') := fun W' h => by rw [hbs]; exact oldBest_impl _ _ n buy X Y W' h.b.view h.a.view h.b.shut h.a.shut HXL.out.1 HXL.out.2
  have HR24 : Hid (R.length ≤ 24) := by show _ ≤ _; rw [hR]; exact Ob.ladder_length X Y n buy
  have HRF : Hid (r = false → R.length = 0) := fun h => by rw [hR]; unfold Ob.ladder; rw [← hr, h]; rfl
  have HRT : Hid (r = true → Ob.Climb buy (Ob.pick buy X Y) (Ob.pick buy X Y).length R ∧ (∀ k, (0 ≤ Ob.tot (·.2.1) (R.take k) ∧ Ob.tot (·.2.1) (R.take k) ≤ 576000) ∧ (0 ≤ Ob.tot (·.2.2) (R.take k) ∧ Ob.tot (·.2.2) (R.take k) ≤ 576)) ∧ (∀ k, 0 ≤ Ob.tot (·.2.2.2.1) ((Ob.pick buy X Y).take k) ∧ Ob.tot (·.2.2.2.1) ((Ob.pick buy X Y).take k) ≤ 24000) ∧ bs = Ob.at' (Ob.pick buy X Y) 0 ∧ (Ob.pick buy X Y).length ≤ 24) := fun h => by
    have h1 : Ob.right X Y n = true := by rw [← hr]; exact h
    refine ⟨by rw [hR]; exact Ob.ladder_law h1 buy, fun k => by rw [hR]; exact Ob.ladder_small h1 buy k, fun k => Ob.side_small h1 buy k, by rw [hbs]; unfold Ob.best; rw [h1]; rfl, (Ob.right_pick h1 buy).1⟩
  clear hR hr hbs
  go_wp2_with fail
  rw [← HQ.out, ← HW.out]
  refine (FI.out W2 HT2.out).mono ?_
  rintro e W3 ⟨⟨zHL, rfl, oHL⟩, k3⟩
  obtain ⟨aHL, cHL, rfl⟩ := oHL.slice
  have HL3 := Fk.hide oHL
  clear oHL
  have HB3 : Hid (Below w.heap.size w W3) := HB2.out.trans (k3.mono HB2.out.size)
  have hz3 : q < W3.heap.size := Nat.lt_of_lt_of_le hz2 k3.size
  have qa3 : W3.cell? ⟨q, 0, none⟩ = some (.slice ua X.length uc) := (k3.cell (by show q < _; omega)).trans qa2
  have qb3 : W3.cell? ⟨q, 1, none⟩ = some (.slice va Y.length vc) := (k3.cell (by show q < _; omega)).trans qb2
  have qc3 : W3.cell? ⟨q, 2, none⟩ = some (.int .i64 n) := (k3.cell (by show q < _; omega)).trans qc2
  have HT3 := Fk.hide (HT2.out.below k3)
  clear k3 HB2 hz2 qa2 qb2 qc2 HT2 
  go_wp2_with fail
  refine (FS.out W3 HT3.out).mono ?_
  rintro e W4 ⟨⟨zHM, rfl, oHM⟩, k4⟩
  obtain ⟨aHM, cHM, rfl⟩ := oHM.slice
  have HM4 := Fk.hide oHM
  clear oHM
  have HB4 : Hid (Below w.heap.size w W4) := HB3.out.trans (k4.mono HB3.out.size)
  have hz4 : q < W4.heap.size := Nat.lt_of_lt_of_le hz3 k4.size
  have qa4 : W4.cell? ⟨q, 0, none⟩ = some (.slice ua X.length uc) := (k4.cell (by show q < _; omega)).trans qa3
  have qb4 : W4.cell? ⟨q, 1, none⟩ = some (.slice va Y.length vc) := (k4.cell (by show q < _; omega)).trans qb3
  have qc4 : W4.cell? ⟨q, 2, none⟩ = some (.int .i64 n) := (k4.cell (by show q < _; omega)).trans qc3
  have HT4 := Fk.hide (HT3.out.below k4)
  have HL4 := Fk.hide (HL3.out.below k4)
  clear k4 HB3 hz3 qa3 qb3 qc3 HT3 HL3
  go_wp2_with fail
  refine (lwRungs_same _ _ R W4 HL4.out.view HM4.out.view (Nat.le_trans HR24.out (by decide))).mono ?_
  rintro e W5 ⟨rfl, k5⟩
  have HB5 : Hid (Below w.heap.size w W5) := HB4.out.trans (k5.mono HB4.out.size)
  have hz5 : q < W5.heap.size := Nat.lt_of_lt_of_le hz4 k5.size
  have qa5 : W5.cell? ⟨q, 0, none⟩ = some (.slice ua X.length uc) := (k5.cell (by show q < _; omega)).trans qa4
  have qb5 : W5.cell? ⟨q, 1, none⟩ = some (.slice va Y.length vc) := (k5.cell (by show q < _; omega)).trans qb4
  have qc5 : W5.cell? ⟨q, 2, none⟩ = some (.int .i64 n) := (k5.cell (by show q < _; omega)).trans qc4
  have HT5 := Fk.hide (HT4.out.below k5)
  have HL5 := Fk.hide (HL4.out.below k5)
  have HM5 := Fk.hide (HM4.out.below k5)
  clear k5 HB4 hz4 qa4 qb4 qc4 HT4 HL4 HM4
  go_wp2_with fail
  refine (FR.out W5 HT5.out).mono ?_
  rintro e W6 ⟨rfl, k6⟩
  have HB6 : Hid (Below w.heap.size w W6) := HB5.out.trans (k6.mono HB5.out.size)
  have hz6 : q < W6.heap.size := Nat.lt_of_lt_of_le hz5 k6.size
  have qa6 : W6.cell? ⟨q, 0, none⟩ = some (.slice ua X.length uc) := (k6.cell (by show q < _; omega)).trans qa5
  have qb6 : W6.cell? ⟨q, 1, none⟩ = some (.slice va Y.length vc) := (k6.cell (by show q < _; omega)).trans qb5
  have qc6 : W6.cell? ⟨q, 2, none⟩ = some (.int .i64 n) := (k6.cell (by show q < _; omega)).trans qc5
  have HT6 := Fk.hide (HT5.out.below k6)
  have HL6 := Fk.hide (HL5.out.below k6)
  have HM6 := Fk.hide (HM5.out.below k6)
  clear k6 HB5 hz5 qa5 qb5 qc5 HT5 HL5 HM5
  clear HM6
  cases r with
  | false =>
    have HR0 := Fk.hide (HRF.out rfl)
    go_wp2_with fail
    refine (FS.out W6 HT6.out).mono ?_
    rintro e W7 ⟨⟨zHN, rfl, oHN⟩, k7⟩
    obtain ⟨aHN, cHN, rfl⟩ := oHN.slice
    have HN7 := Fk.hide oHN
    clear oHN
    have HB7 : Hid (Below w.heap.size w W7) := HB6.out.trans (k7.mono HB6.out.size)
    have hz7 : q < W7.heap.size := Nat.lt_of_lt_of_le hz6 k7.size
    have qa7 : W7.cell? ⟨q, 0, none⟩ = some (.slice ua X.length uc) := (k7.cell (by show q < _; omega)).trans qa6
    have qb7 : W7.cell? ⟨q, 1, none⟩ = some (.slice va Y.length vc) := (k7.cell (by show q < _; omega)).trans qb6
    have qc7 : W7.cell? ⟨q, 2, none⟩ = some (.int .i64 n) := (k7.cell (by show q < _; omega)).trans qc6
    have HT7 := Fk.hide (HT6.out.below k7)
    have HL7 := Fk.hide (HL6.out.below k7)
    clear k7 HB6 hz6 qa6 qb6 qc6 HT6 HL6
    go_wp2_with fail
    refine (lwRungs_same _ _ R W7 HL7.out.view HN7.out.view (Nat.le_trans HR24.out (by decide))).mono ?_
    rintro e W8 ⟨rfl, k8⟩
    have HB8 : Hid (Below w.heap.size w W8) := HB7.out.trans (k8.mono HB7.out.size)
    have hz8 : q < W8.heap.size := Nat.lt_of_lt_of_le hz7 k8.size
    have qa8 : W8.cell? ⟨q, 0, none⟩ = some (.slice ua X.length uc) := (k8.cell (by show q < _; omega)).trans qa7
    have qb8 : W8.cell? ⟨q, 1, none⟩ = some (.slice va Y.length vc) := (k8.cell (by show q < _; omega)).trans qb7
    have qc8 : W8.cell? ⟨q, 2, none⟩ = some (.int .i64 n) := (k8.cell (by show q < _; omega)).trans qc7
    have HT8 := Fk.hide (HT7.out.below k8)
    have HL8 := Fk.hide (HL7.out.below k8)
    have HN8 := Fk.hide (HN7.out.below k8)
    clear k8 HB7 hz7 qa7 qb7 qc7 HT7 HL7 HN7
    go_wp2_with fail
    refine (FR.out W8 HT8.out).mono ?_
    rintro e W9 ⟨rfl, k9⟩
    have HB9 : Hid (Below w.heap.size w W9) := HB8.out.trans (k9.mono HB8.out.size)
    have hz9 : q < W9.heap.size := Nat.lt_of_lt_of_le hz8 k9.size
    have qa9 : W9.cell? ⟨q, 0, none⟩ = some (.slice ua X.length uc) := (k9.cell (by show q < _; omega)).trans qa8
    have qb9 : W9.cell? ⟨q, 1, none⟩ = some (.slice va Y.length vc) := (k9.cell (by show q < _; omega)).trans qb8
    have qc9 : W9.cell? ⟨q, 2, none⟩ = some (.int .i64 n) := (k9.cell (by show q < _; omega)).trans qc8
    have HT9 := Fk.hide (HT8.out.below k9)
    have HL9 := Fk.hide (HL8.out.below k9)
    have HN9 := Fk.hide (HN8.out.below k9)
    clear k9 HB8 hz8 qa8 qb8 qc8 HT8 HL8 HN8
    have d0 : decide ((R.length : Int) = 0) = true := decide_eq_true (by have := HR0.out; omega)
    have d1 : ((R.length : Int) == 0) = true := by simpa using HR0.out
    go_wp2_with fail
    go_ret
    exact ⟨rfl, HB9.out⟩
  | true =>
    obtain ⟨hC, hS, hP, hbq, hPL⟩ := HRT.out rfl
    have HC := Fk.hide hC
    have HS := Fk.hide hS
    have HP := Fk.hide hP
    have HBQ := Fk.hide hbq
    have HPL := Fk.hide hPL
    clear hC hS hP hbq hPL HRT HRF FR FI FS
    have HVL : Hid (0 < R.length → ∃ b o, aHL = some ⟨b, o, none⟩ ∧ b < W6.heap.size ∧ Rk.Sees Rg.S W6 b o R) := fun h0 => by
      obtain ⟨a', c', e', hse⟩ := HL6.out.view
      obtain ⟨b, o, eb, hb, hs1⟩ := hse h0
      simp only [Value.slice.injEq] at e'
      exact ⟨b, o, e'.1.trans eb, hb, hs1⟩
    clear HL6
    cases buy with
    | false =>
      have HSV : Hid (Rk.View Or.S W6 (.slice va Y.length vc) Y) := HT6.out.a.view
      have HC2 : Hid (Ob.Climb false Y Y.length R) := HC.out
      have HP2 : Hid (∀ k, 0 ≤ Ob.tot (·.2.2.2.1) (Y.take k) ∧ Ob.tot (·.2.2.2.1) (Y.take k) ≤ 24000) := HP.out
      have HBQ2 : Hid (bs = Ob.at' Y 0) := HBQ.out
      have HPL2 : Hid (Y.length ≤ 24) := HPL.out
      have HSS : Hid (0 < Y.length → ∃ b o, va = some ⟨b, o, none⟩ ∧ b < W6.heap.size ∧ Rk.Sees Or.S W6 b o Y) := fun h0 => by
        obtain ⟨a', c', e', hse⟩ := HSV.out
        obtain ⟨b, o, eb, hb, hs1⟩ := hse h0
        simp only [Value.slice.injEq] at e'
        exact ⟨b, o, e'.1.trans eb, hb, hs1⟩
      clear HC HP HBQ HPL HSV
      go_wp2_with fail
      obtain ⟨T, hT⟩ : ∃ T : Nat → Int, T = fun k => Ob.tot (·.2.2.2.1) (Y.take k) := ⟨_, rfl⟩
      have HT0 : Hid (T 0 = 0) := by show _ = _; rw [hT]; rfl
      have HTB : Hid (∀ k, 0 ≤ T k ∧ T k ≤ 24000) := by show ∀ k, _; rw [hT]; exact HP2.out
      have HTS : Hid (∀ k, k < Y.length → T (k + 1) = T k + (Rk.at_ Or.S Y k).2.2.2.1) := fun k hk => by rw [hT]; exact Ob.tot_step Or.S (·.2.2.2.1) Y k hk
      have HTE : Hid (T Y.length = Ob.tot (·.2.1) R) := by show _ = _; rw [HC2.out.amt, hT]
      clear hT HP2
      go_loopw [7, 9] (fun nn i wr => ∃ (k : Nat) (n : Int), k ≤ Y.length ∧ nn = .int .i64 n ∧ i = .int .i64 k ∧ 0 ≤ n ∧ n ≤ 24000 ∧ Hid (n = T k) ∧ Hid (Below W6.heap.size W6 wr)) (fun _ i _ => Y.length - (intOf i).toNat)
      case atStart => exact ⟨0, 0, Nat.zero_le _, rfl, rfl, by omega, by omega, HT0.out.symm, Below.refl _ _⟩
      case round =>
        obtain ⟨k, m, hk, rfl, rfl, hm0, hm1, HN, BEL⟩ := hrel
        by_cases hlt : k < Y.length
        · obtain ⟨b, o, rfl, hb, hs1⟩ := HSS.out (by omega)
          have hs' := hs1.below hb BEL.out
          have q3 := Or.c3 hs' hlt
          have t1 := HTS.out k hlt
          have t2 := HTB.out (k + 1)
          obtain ⟨f, hf⟩ : ∃ f, f = (Rk.at_ Or.S Y k).2.2.2.1 := ⟨_, rfl⟩
          rw [← hf] at q3 t1
          rw [t1, ← HN.out] at t2
          have HN2 : Hid (m + f = T (k + 1)) := by show _ = _; rw [t1, HN.out]
          have hlm := HPL2.out
          clear hf hs' t1 HN hs1
          go_wp2_with fail
          go_roundw
          case rel => exact ⟨k + 1, m + f, by omega, by go_num, by go_num, by omega, by omega, HN2.out, BEL.out⟩
          case measure => simp [intOf]; omega
        · have e : k = Y.length := by omega
          have HM : Hid (m = Ob.tot (·.2.1) R) := by show _ = _; rw [HN.out, e]; exact HTE.out
          have hmb : 0 ≤ m ∧ m ≤ 24000 := ⟨hm0, hm1⟩
          subst e
          clear HN HT0 HTB HTS HTE hm0 hm1 hlt hk
          obtain ⟨wa, ea⟩ : ∃ x, x = wr := ⟨_, rfl⟩
          subst ea
          have hz : q < wa.heap.size := Nat.lt_of_lt_of_le hz6 BEL.out.size
          have qa := (BEL.out.cell (p := ⟨q, 0, none⟩) (by show q < _; omega)).trans qa6
          have qb := (BEL.out.cell (p := ⟨q, 1, none⟩) (by show q < _; omega)).trans qb6
          have qc := (BEL.out.cell (p := ⟨q, 2, none⟩) (by show q < _; omega)).trans qc6
          have HVR : Hid (0 < R.length → ∃ b o, aHL = some ⟨b, o, none⟩ ∧ b < wa.heap.size ∧ Rk.Sees Rg.S wa b o R) := fun h0 => by
            obtain ⟨b, o, eb, hb, hs1⟩ := HVL.out h0
            exact ⟨b, o, eb, Nat.lt_of_lt_of_le hb BEL.out.size, hs1.below hb BEL.out⟩
          have HTW := Fk.hide (HT6.out.below BEL.out)
          have HBW : Hid (Below w.heap.size w wa) := HB6.out.trans (BEL.out.mono HB6.out.size)
          clear HVL HT6 HB6 qa6 qb6 qc6 hz6 BEL HSS
          obtain ⟨S1, hS1⟩ : ∃ T : Nat → Int, T = fun k => Ob.tot (·.2.1) (R.take k) := ⟨_, rfl⟩
          obtain ⟨S2, hS2⟩ : ∃ T : Nat → Int, T = fun k => Ob.tot (·.2.2) (R.take k) := ⟨_, rfl⟩
          have HS0 : Hid (S1 0 = 0 ∧ S2 0 = 0) := by show _ ∧ _; rw [hS1, hS2]; exact ⟨rfl, rfl⟩
          have HSB : Hid (∀ k, (0 ≤ S1 k ∧ S1 k ≤ 576000) ∧ (0 ≤ S2 k ∧ S2 k ≤ 576)) := by show ∀ k, _; rw [hS1, hS2]; exact HS.out
          have HSS : Hid (∀ k, k < R.length → S1 (k + 1) = S1 k + (Rk.at_ Rg.S R k).2.1 ∧ S2 (k + 1) = S2 k + (Rk.at_ Rg.S R k).2.2) := fun k hk => by rw [hS1, hS2]; exact ⟨Ob.tot_step Rg.S (·.2.1) R k hk, Ob.tot_step Rg.S (·.2.2) R k hk⟩
          have HSE : Hid (S1 R.length = m ∧ S2 R.length = Y.length) := by show _ ∧ _; rw [hS1, hS2, HM.out]; refine ⟨by simp only [List.take_length], ?_⟩; simp only [List.take_length]; exact HC2.out.many
          have hR24 := HR24.out
          clear hS1 hS2 HM HS HR24
          go_wp2_with fail
          go_loopw [7, 8, 10] (fun nn yy i wr => ∃ (k : Nat) (n y : Int), k ≤ R.length ∧ nn = .int .i64 n ∧ yy = .int .i64 y ∧ i = .int .i64 k ∧ Hid (n = m - S1 k) ∧ Hid (y = S2 k) ∧ Hid (Below wa.heap.size wa wr)) (fun _ _ i _ => R.length - (intOf i).toNat)
          case atStart => exact ⟨0, m, 0, Nat.zero_le _, rfl, rfl, rfl, by show _ = _; rw [HS0.out.1]; omega, HS0.out.2.symm, Below.refl _ _⟩
          case round =>
            obtain ⟨k, x, y, hk, rfl, rfl, rfl, HN, HY, BEL⟩ := hrel
            have u1 := HSB.out k
            have u2 : -600000 ≤ x ∧ x ≤ 600000 := by rw [HN.out]; omega
            have u3 : 0 ≤ y ∧ y ≤ 576 := by rw [HY.out]; omega
            clear u1
            by_cases hlt : k < R.length
            · obtain ⟨b, o, rfl, hb, hs1⟩ := HVR.out (by omega)
              have hs' := hs1.below hb BEL.out
              have r0 := Rg.c0 hs' hlt
              have r1 := Rg.c1 hs' hlt
              have r2 := Rg.c2 hs' hlt
              obtain ⟨t1, t2⟩ := HSS.out k hlt
              have t3 := HSB.out (k + 1)
              have t4 := HSB.out k
              obtain ⟨f1, hf1⟩ : ∃ f, f = (Rk.at_ Rg.S R k).2.1 := ⟨_, rfl⟩
              obtain ⟨f2, hf2⟩ : ∃ f, f = (Rk.at_ Rg.S R k).2.2 := ⟨_, rfl⟩
              obtain ⟨f0, hf0⟩ : ∃ f, f = (Rk.at_ Rg.S R k).1 := ⟨_, rfl⟩
              rw [← hf1] at r1 t1
              rw [← hf2] at r2 t2
              rw [← hf0] at r0
              have v1 : -600000 ≤ f1 ∧ f1 ≤ 600000 := by omega
              have v2 : -600 ≤ f2 ∧ f2 ≤ 600 := by omega
              have HN2 : Hid (x - f1 = m - S1 (k + 1)) := by show _ = _; rw [t1, HN.out]; omega
              have HY2 : Hid (y + f2 = S2 (k + 1)) := by show _ = _; rw [t2, HY.out]
              have HF0 := Fk.hide hf0
              clear hf1 hf2 hf0 t1 t2 t3 t4 HN HY
              go_wp2_with fail
              by_cases hk0 : k = 0
              · subst hk0
                have d0 : decide ((0 : Int) < ((0 : Nat) : Int)) = false := by decide
                clear hs' hs1 r0 r1 r2
                refine wp_region_quiet_below (by kernel_rfl) (by kernel_rfl) ?_
                repeat (go_big_quiet_step (fail))
                refine wpQuiet_nil ?_
                intro w4 hw'
                obtain ⟨⟨dq, osq⟩, hw''⟩ := hw'
                have B4 : Hid (Below wa.heap.size wa w4) := by show Below _ _ _; rw [hw'']; exact BEL.out.trans ((below_regrown wr dq osq).mono BEL.out.size)
                clear hw''
                go_wp2_with fail
                go_roundw
                case rel => exact ⟨1, x - f1, y + f2, by omega, by go_num, by go_num, by go_num, HN2.out, HY2.out, B4.out⟩
                case measure => simp [intOf]; omega
              · obtain ⟨j, rfl⟩ : ∃ j, k = j + 1 := ⟨k - 1, by omega⟩
                have p0 := Rg.c0 hs' (k := j) (by omega)
                obtain ⟨g0, hg0⟩ : ∃ f, f = (Rk.at_ Rg.S R j).1 := ⟨_, rfl⟩
                rw [← hg0] at p0
                have ord := HC2.out.ord j (by omega)
                rw [← HF0.out, ← hg0] at ord
                have d1 : decide (f0 ≤ g0) = false := decide_eq_false (by unfold Ob.ahead at ord; simp at ord; omega)
                have d2 : decide ((0 : Int) < (j : Int) + 1) = true := decide_eq_true (by omega)
                have d3 : decide ((0 : Int) < ((j + 1 : Nat) : Int)) = true := decide_eq_true (by omega)
                have d4 : (0 : Int) < (j : Int) + 1 := by omega
                have hjl : j < R.length := by omega
                have hj24 : j < 24 := by omega
                have rr0 := cell_regrown r0
                have rp0 := cell_regrown p0
                clear hg0 hs' hs1 r1 r2 HF0
                refine wp_region_quiet_below (by kernel_rfl) (by kernel_rfl) ?_
                repeat (go_big_quiet_step (fail))
                refine wpQuiet_nil ?_
                intro w4 hw'
                obtain ⟨⟨dq, osq⟩, hw''⟩ := hw'
                have B4 : Hid (Below wa.heap.size wa w4) := by show Below _ _ _; rw [hw'']; exact BEL.out.trans ((below_regrown wr dq osq).mono BEL.out.size)
                clear hw''
                go_wp2_with fail
                go_roundw
                case rel => exact ⟨j + 2, x - f1, y + f2, by omega, by go_num, by go_num, by go_num, HN2.out, HY2.out, B4.out⟩
                case measure => simp [intOf]; omega
            · have e : k = R.length := by omega
              subst e
              obtain rfl : x = 0 := by rw [HN.out, HSE.out.1]; omega
              obtain rfl : y = (Y.length : Int) := by rw [HY.out]; exact HSE.out.2
              have BELd := Below.trans BEL.out (Below.drew (Below.refl _ _) |>.mono BEL.out.size)
              have hd : Hid (Below wa.heap.size wa wr.drew) := BELd
              have e0 := (BELd.cell (p := ⟨q, 0, none⟩) (by exact hz)).trans qa
              have e1 := (BELd.cell (p := ⟨q, 1, none⟩) (by exact hz)).trans qb
              have e2 := (BELd.cell (p := ⟨q, 2, none⟩) (by exact hz)).trans qc
              have FIN : Hid (∀ Z, Below wa.heap.size wa Z → Below w.heap.size w Z) := fun Z h => HBW.out.trans (h.mono HBW.out.size)
              have hln := HPL2.out
              clear HN HY HS0 HSB HSS HSE u2 u3 hlt hk BELd
              by_cases h0 : R.length = 0
              · have d0 : decide ((R.length : Int) = 0) = true := decide_eq_true (by omega)
                have d1 : ((R.length : Int) == 0) = true := by simpa using h0
                have d2 : ((Y.length : Int) == (Y.length : Int)) = true := by simp
                clear HVR h0
                go_wp2_with fail
                refine wp_region_held_drew (S := (fun w' => Hid (Below wa.heap.size wa w') ∧ w'.cell? ⟨q, 0, none⟩ = some (.slice ua X.length uc) ∧ w'.cell? ⟨q, 1, none⟩ = some (.slice va Y.length vc) ∧ w'.cell? ⟨q, 2, none⟩ = some (.int .i64 n))) (by kernel_rfl) ?_ (fun hH => ?_)
                · (try dsimp only); exact ⟨hd, e0, e1, e2⟩
                refine wpAnyH_take (i := 0) (oi := ?_) (v := ?_) ?_ (by kernel_rfl) (by kernel_rfl) (by kernel_rfl) ?_ ?_ (by assumption) ?_
                rotate_left
                rotate_left
                · (simp only [List.getElem?_toArray, List.getElem?_cons_succ, List.getElem?_cons_zero]; rfl)
                · exact fun _ _ _ h => h
                · refine Or.inl ⟨by rfl, ?_⟩; (intro w hSw; (try dsimp only at hSw); go_simp; first | done | with_reducible rfl)
                (try simp only [Act.put, List.setIfInBounds_toArray, List.set_cons_zero, List.set_cons_succ])
                refine wpAnyH_take (i := 1) (oi := ?_) (v := ?_) ?_ (by kernel_rfl) (by kernel_rfl) (by kernel_rfl) ?_ ?_ (by assumption) ?_
                rotate_left
                rotate_left
                · (simp only [List.getElem?_toArray, List.getElem?_cons_succ, List.getElem?_cons_zero]; rfl)
                · exact fun _ _ _ h => h
                · refine Or.inl ⟨by rfl, ?_⟩; (intro w hSw; (try dsimp only at hSw); go_simp; first | done | with_reducible rfl)
                (try simp only [Act.put, List.setIfInBounds_toArray, List.set_cons_zero, List.set_cons_succ])
                refine wpAnyH_take (i := 2) (oi := ?_) (v := ?_) ?_ (by kernel_rfl) (by kernel_rfl) (by kernel_rfl) ?_ ?_ (by assumption) ?_
                rotate_left
                rotate_left
                · (simp only [List.getElem?_toArray, List.getElem?_cons_succ, List.getElem?_cons_zero]; rfl)
                · exact fun _ _ _ h => h
                · refine Or.inl ⟨by rfl, ?_⟩; (intro w hSw; (try dsimp only at hSw); go_simp; first | done | with_reducible rfl)
                (try simp only [Act.put, List.setIfInBounds_toArray, List.set_cons_zero, List.set_cons_succ])
                refine wpAnyH_take (i := 3) (oi := ?_) (v := ?_) ?_ (by kernel_rfl) (by kernel_rfl) (by kernel_rfl) ?_ ?_ (by assumption) ?_
                rotate_left
                rotate_left
                · (simp only [List.getElem?_toArray, List.getElem?_cons_succ, List.getElem?_cons_zero]; rfl)
                · exact fun _ _ _ h => h
                · refine Or.inl ⟨by rfl, ?_⟩; (intro w hSw; (try dsimp only at hSw); go_simp; first | done | with_reducible rfl)
                (try simp only [Act.put, List.setIfInBounds_toArray, List.set_cons_zero, List.set_cons_succ])
                refine wpAnyH_take (i := 4) (oi := ?_) (v := ?_) ?_ (by kernel_rfl) (by kernel_rfl) (by kernel_rfl) ?_ ?_ (by assumption) ?_
                rotate_left
                rotate_left
                · (simp only [List.getElem?_toArray, List.getElem?_cons_succ, List.getElem?_cons_zero]; rfl)
                · exact fun _ _ _ h => h
                · refine Or.inl ⟨by rfl, ?_⟩; (intro w hSw; (try dsimp only at hSw); go_simp; first | done | with_reducible rfl)
                (try simp only [Act.put, List.setIfInBounds_toArray, List.set_cons_zero, List.set_cons_succ])
                refine wpAnyH_take (i := 5) (oi := ?_) (v := ?_) ?_ (by kernel_rfl) (by kernel_rfl) (by kernel_rfl) ?_ ?_ (by assumption) ?_
                rotate_left
                rotate_left
                · (simp only [List.getElem?_toArray, List.getElem?_cons_succ, List.getElem?_cons_zero]; rfl)
                · exact fun _ _ _ h => h
                · refine Or.inl ⟨by rfl, ?_⟩; (intro w hSw; (try dsimp only at hSw); go_simp; first | done | with_reducible rfl)
                (try simp only [Act.put, List.setIfInBounds_toArray, List.set_cons_zero, List.set_cons_succ])
                refine wpAnyH_take (i := 6) (oi := ?_) (v := ?_) ?_ (by kernel_rfl) (by kernel_rfl) (by kernel_rfl) ?_ ?_ (by assumption) ?_
                rotate_left
                rotate_left
                · (simp only [List.getElem?_toArray, List.getElem?_cons_succ, List.getElem?_cons_zero]; rfl)
                · exact fun _ _ _ h => h
                · refine Or.inl ⟨by rfl, ?_⟩; (intro w hSw; (try dsimp only at hSw); go_simp; first | done | with_reducible rfl)
                (try simp only [Act.put, List.setIfInBounds_toArray, List.set_cons_zero, List.set_cons_succ])
                refine wpAnyH_take (i := 7) (oi := ?_) (v := ?_) ?_ (by kernel_rfl) (by kernel_rfl) (by kernel_rfl) ?_ ?_ (by assumption) ?_
                rotate_left
                rotate_left
                · (simp only [List.getElem?_toArray, List.getElem?_cons_succ, List.getElem?_cons_zero]; rfl)
                · exact fun _ _ _ h => h
                · refine Or.inl ⟨by rfl, ?_⟩; (intro w hSw; (try dsimp only at hSw); go_simp; first | done | with_reducible rfl)
                (try simp only [Act.put, List.setIfInBounds_toArray, List.set_cons_zero, List.set_cons_succ])
                refine wpAnyH_take (i := 8) (oi := ?_) (v := ?_) ?_ (by kernel_rfl) (by kernel_rfl) (by kernel_rfl) ?_ ?_ (by assumption) ?_
                rotate_left
                rotate_left
                · (simp only [List.getElem?_toArray, List.getElem?_cons_succ, List.getElem?_cons_zero]; rfl)
                · exact fun _ _ _ h => h
                · refine Or.inl ⟨by rfl, ?_⟩; (intro w hSw; (try dsimp only at hSw); go_simp; first | done | with_reducible rfl)
                (try simp only [Act.put, List.setIfInBounds_toArray, List.set_cons_zero, List.set_cons_succ])
                refine wpAnyH_take (i := 9) (oi := ?_) (v := ?_) ?_ (by kernel_rfl) (by kernel_rfl) (by kernel_rfl) ?_ ?_ (by assumption) ?_
                rotate_left
                rotate_left
                · (simp only [List.getElem?_toArray, List.getElem?_cons_succ, List.getElem?_cons_zero]; rfl)
                · exact fun _ _ _ h => h
                · refine Or.inl ⟨by rfl, ?_⟩; (intro w hSw; (try dsimp only at hSw); go_simp; first | done | with_reducible rfl)
                (try simp only [Act.put, List.setIfInBounds_toArray, List.set_cons_zero, List.set_cons_succ])
                refine wpAnyH_take (i := 10) (oi := ?_) (v := ?_) ?_ (by kernel_rfl) (by kernel_rfl) (by kernel_rfl) ?_ ?_ (by assumption) ?_
                rotate_left
                rotate_left
                · (simp only [List.getElem?_toArray, List.getElem?_cons_succ, List.getElem?_cons_zero]; rfl)
                · exact fun _ _ _ h => h
                · refine Or.inl ⟨by rfl, ?_⟩; (intro w hSw; (try dsimp only at hSw); go_simp; first | done | with_reducible rfl)
                (try simp only [Act.put, List.setIfInBounds_toArray, List.set_cons_zero, List.set_cons_succ])
                refine wpAnyH_take (i := 11) (oi := ?_) (v := ?_) ?_ (by kernel_rfl) (by kernel_rfl) (by kernel_rfl) ?_ ?_ (by assumption) ?_
                rotate_left
                rotate_left
                · (simp only [List.getElem?_toArray, List.getElem?_cons_succ, List.getElem?_cons_zero]; rfl)
                · exact fun _ _ _ h => h
                · refine Or.inl ⟨by rfl, ?_⟩; (intro w hSw; (try dsimp only at hSw); go_simp; first | done | with_reducible rfl)
                (try simp only [Act.put, List.setIfInBounds_toArray, List.set_cons_zero, List.set_cons_succ])
                refine wpAnyH_take (i := 12) (oi := ?_) (v := ?_) ?_ (by kernel_rfl) (by kernel_rfl) (by kernel_rfl) ?_ ?_ (by assumption) ?_
                rotate_left
                rotate_left
                · (simp only [List.getElem?_toArray, List.getElem?_cons_succ, List.getElem?_cons_zero]; rfl)
                · exact fun _ _ _ h => h
                · refine Or.inl ⟨by rfl, ?_⟩; (intro w hSw; (try dsimp only at hSw); go_simp; first | done | with_reducible rfl)
                (try simp only [Act.put, List.setIfInBounds_toArray, List.set_cons_zero, List.set_cons_succ])
                refine wpAnyH_take (i := 13) (oi := ?_) (v := undef) ?_ (by kernel_rfl) (by kernel_rfl) (by kernel_rfl) ?_ ?_ (by assumption) ?_
                rotate_left
                · (simp only [List.getElem?_toArray, List.getElem?_cons_succ, List.getElem?_cons_zero]; rfl)
                · exact fun _ _ _ h => h
                · exact Or.inr ⟨by rfl, rfl⟩
                (try simp only [Act.put, List.setIfInBounds_toArray, List.set_cons_zero, List.set_cons_succ])
                refine wpAnyH_take (i := 14) (oi := ?_) (v := undef) ?_ (by kernel_rfl) (by kernel_rfl) (by kernel_rfl) ?_ ?_ (by assumption) ?_
                rotate_left
                · (simp only [List.getElem?_toArray, List.getElem?_cons_succ, List.getElem?_cons_zero]; rfl)
                · exact fun _ _ _ h => h
                · exact Or.inr ⟨by rfl, rfl⟩
                (try simp only [Act.put, List.setIfInBounds_toArray, List.set_cons_zero, List.set_cons_succ])
                refine wpAnyH_take (i := 15) (oi := ?_) (v := undef) ?_ (by kernel_rfl) (by kernel_rfl) (by kernel_rfl) ?_ ?_ (by assumption) ?_
                rotate_left
                · (simp only [List.getElem?_toArray, List.getElem?_cons_succ, List.getElem?_cons_zero]; rfl)
                · exact fun _ _ _ h => h
                · exact Or.inr ⟨by rfl, rfl⟩
                (try simp only [Act.put, List.setIfInBounds_toArray, List.set_cons_zero, List.set_cons_succ])
                refine wpAnyH_take (i := 16) (oi := ?_) (v := undef) ?_ (by kernel_rfl) (by kernel_rfl) (by kernel_rfl) ?_ ?_ (by assumption) ?_
                rotate_left
                · (simp only [List.getElem?_toArray, List.getElem?_cons_succ, List.getElem?_cons_zero]; rfl)
                · exact fun _ _ _ h => h
                · exact Or.inr ⟨by rfl, rfl⟩
                (try simp only [Act.put, List.setIfInBounds_toArray, List.set_cons_zero, List.set_cons_succ])
                refine wpAnyH_take (i := 17) (oi := ?_) (v := undef) ?_ (by kernel_rfl) (by kernel_rfl) (by kernel_rfl) ?_ ?_ (by assumption) ?_
                rotate_left
                · (simp only [List.getElem?_toArray, List.getElem?_cons_succ, List.getElem?_cons_zero]; rfl)
                · exact fun _ _ _ h => h
                · exact Or.inr ⟨by rfl, rfl⟩
                (try simp only [Act.put, List.setIfInBounds_toArray, List.set_cons_zero, List.set_cons_succ])
                refine wpAnyH_take (i := 18) (oi := ?_) (v := undef) ?_ (by kernel_rfl) (by kernel_rfl) (by kernel_rfl) ?_ ?_ (by assumption) ?_
                rotate_left
                · (simp only [List.getElem?_toArray, List.getElem?_cons_succ, List.getElem?_cons_zero]; rfl)
                · exact fun _ _ _ h => h
                · exact Or.inr ⟨by rfl, rfl⟩
                (try simp only [Act.put, List.setIfInBounds_toArray, List.set_cons_zero, List.set_cons_succ])
                refine wpAnyH_take (i := 19) (oi := ?_) (v := undef) ?_ (by kernel_rfl) (by kernel_rfl) (by kernel_rfl) ?_ ?_ (by assumption) ?_
                rotate_left
                · (simp only [List.getElem?_toArray, List.getElem?_cons_succ, List.getElem?_cons_zero]; rfl)
                · exact fun _ _ _ h => h
                · exact Or.inr ⟨by rfl, rfl⟩
                (try simp only [Act.put, List.setIfInBounds_toArray, List.set_cons_zero, List.set_cons_succ])
                refine wpAnyH_take (i := 20) (oi := ?_) (v := undef) ?_ (by kernel_rfl) (by kernel_rfl) (by kernel_rfl) ?_ ?_ (by assumption) ?_
                rotate_left
                · (simp only [List.getElem?_toArray, List.getElem?_cons_succ, List.getElem?_cons_zero]; rfl)
                · exact fun _ _ _ h => h
                · exact Or.inr ⟨by rfl, rfl⟩
                (try simp only [Act.put, List.setIfInBounds_toArray, List.set_cons_zero, List.set_cons_succ])
                refine wpAnyH_take (i := 21) (oi := ?_) (v := undef) ?_ (by kernel_rfl) (by kernel_rfl) (by kernel_rfl) ?_ ?_ (by assumption) ?_
                rotate_left
                · (simp only [List.getElem?_toArray, List.getElem?_cons_succ, List.getElem?_cons_zero]; rfl)
                · exact fun _ _ _ h => h
                · exact Or.inr ⟨by rfl, rfl⟩
                (try simp only [Act.put, List.setIfInBounds_toArray, List.set_cons_zero, List.set_cons_succ])
                refine wpAnyH_take (i := 22) (oi := ?_) (v := ?_) ?_ (by kernel_rfl) (by kernel_rfl) (by kernel_rfl) ?_ ?_ (by assumption) ?_
                rotate_left
                rotate_left
                · (simp only [List.getElem?_toArray, List.getElem?_cons_succ, List.getElem?_cons_zero]; rfl)
                · exact fun _ _ _ h => h
                · refine Or.inl ⟨by rfl, ?_⟩; (intro w hSw; (try dsimp only at hSw); go_simp; first | done | with_reducible rfl)
                (try simp only [Act.put, List.setIfInBounds_toArray, List.set_cons_zero, List.set_cons_succ])
                refine wpAnyH_take (i := 23) (oi := ?_) (v := ?_) ?_ (by kernel_rfl) (by kernel_rfl) (by kernel_rfl) ?_ ?_ (by assumption) ?_
                rotate_left
                rotate_left
                · (simp only [List.getElem?_toArray, List.getElem?_cons_succ, List.getElem?_cons_zero]; rfl)
                · exact fun _ _ _ h => h
                · refine Or.inl ⟨by rfl, ?_⟩; (intro w hSw; (try dsimp only at hSw); go_simp; first | done | with_reducible rfl)
                (try simp only [Act.put, List.setIfInBounds_toArray, List.set_cons_zero, List.set_cons_succ])
                refine wpAnyH_take (i := 24) (oi := ?_) (v := ?_) ?_ (by kernel_rfl) (by kernel_rfl) (by kernel_rfl) ?_ ?_ (by assumption) ?_
                rotate_left
                rotate_left
                · (simp only [List.getElem?_toArray, List.getElem?_cons_succ, List.getElem?_cons_zero]; rfl)
                · exact fun _ _ _ h => h
                · refine Or.inl ⟨by rfl, ?_⟩; (intro w hSw; (try dsimp only at hSw); go_simp; first | done | with_reducible rfl)
                (try simp only [Act.put, List.setIfInBounds_toArray, List.set_cons_zero, List.set_cons_succ])
                refine wpAnyH_done (by kernel_rfl) ?_ _
                have BZ := FIN.out _ hH.1.out
                clear hH
                go_wp2_with fail
                go_ret
                exact ⟨rfl, BZ⟩
              · obtain ⟨b, o, rfl, hb, hs1⟩ := HVR.out (by omega)
                have p0 := Rg.c0 (hs1.below hb hd.out) (k := 0) (by omega)
                simp only [Nat.zero_mul, Nat.add_zero] at p0
                have hp : (Rk.at_ Rg.S R 0).1 = bs.2.2.1 := by
                  rw [HBQ2.out]
                  refine HC2.out.first ?_
                  by_cases hl : 0 < Y.length
                  · exact hl
                  · exact absurd (HC2.out.zero (by omega)) h0
                rw [hp] at p0
                have hR0 : 0 < R.length := by omega
                have d0 : decide ((R.length : Int) = 0) = false := decide_eq_false (by omega)
                have d1 : ((R.length : Int) == 0) = false := by simpa using h0
                have d2 : ((Y.length : Int) == (Y.length : Int)) = true := by simp
                have d3 : decide (0 < R.length) = true := decide_eq_true hR0
                clear HVR hs1
                go_wp2_with fail
                refine wp_region_held_drew (S := (fun w' => Hid (Below wa.heap.size wa w') ∧ w'.cell? ⟨q, 0, none⟩ = some (.slice ua X.length uc) ∧ w'.cell? ⟨q, 1, none⟩ = some (.slice va Y.length vc) ∧ w'.cell? ⟨q, 2, none⟩ = some (.int .i64 n) ∧ w'.cell? ⟨b, o, none⟩ = some (.int .i64 bs.2.2.1))) (by kernel_rfl) ?_ (fun hH => ?_)
                · (try dsimp only); exact ⟨hd, e0, e1, e2, p0⟩
                refine wpAnyH_take (i := 0) (oi := ?_) (v := ?_) ?_ (by kernel_rfl) (by kernel_rfl) (by kernel_rfl) ?_ ?_ (by assumption) ?_
                rotate_left
                rotate_left
                · (simp only [List.getElem?_toArray, List.getElem?_cons_succ, List.getElem?_cons_zero]; rfl)
                · exact fun _ _ _ h => h
                · refine Or.inl ⟨by rfl, ?_⟩; (intro w hSw; (try dsimp only at hSw); go_simp; first | done | with_reducible rfl)
                (try simp only [Act.put, List.setIfInBounds_toArray, List.set_cons_zero, List.set_cons_succ])
                refine wpAnyH_take (i := 1) (oi := ?_) (v := ?_) ?_ (by kernel_rfl) (by kernel_rfl) (by kernel_rfl) ?_ ?_ (by assumption) ?_
                rotate_left
                rotate_left
                · (simp only [List.getElem?_toArray, List.getElem?_cons_succ, List.getElem?_cons_zero]; rfl)
                · exact fun _ _ _ h => h
                · refine Or.inl ⟨by rfl, ?_⟩; (intro w hSw; (try dsimp only at hSw); go_simp; first | done | with_reducible rfl)
                (try simp only [Act.put, List.setIfInBounds_toArray, List.set_cons_zero, List.set_cons_succ])
                refine wpAnyH_take (i := 2) (oi := ?_) (v := ?_) ?_ (by kernel_rfl) (by kernel_rfl) (by kernel_rfl) ?_ ?_ (by assumption) ?_
                rotate_left
                rotate_left
                · (simp only [List.getElem?_toArray, List.getElem?_cons_succ, List.getElem?_cons_zero]; rfl)
                · exact fun _ _ _ h => h
                · refine Or.inl ⟨by rfl, ?_⟩; (intro w hSw; (try dsimp only at hSw); go_simp; first | done | with_reducible rfl)
                (try simp only [Act.put, List.setIfInBounds_toArray, List.set_cons_zero, List.set_cons_succ])
                refine wpAnyH_take (i := 3) (oi := ?_) (v := ?_) ?_ (by kernel_rfl) (by kernel_rfl) (by kernel_rfl) ?_ ?_ (by assumption) ?_
                rotate_left
                rotate_left
                · (simp only [List.getElem?_toArray, List.getElem?_cons_succ, List.getElem?_cons_zero]; rfl)
                · exact fun _ _ _ h => h
                · refine Or.inl ⟨by rfl, ?_⟩; (intro w hSw; (try dsimp only at hSw); go_simp; first | done | with_reducible rfl)
                (try simp only [Act.put, List.setIfInBounds_toArray, List.set_cons_zero, List.set_cons_succ])
                refine wpAnyH_take (i := 4) (oi := ?_) (v := ?_) ?_ (by kernel_rfl) (by kernel_rfl) (by kernel_rfl) ?_ ?_ (by assumption) ?_
                rotate_left
                rotate_left
                · (simp only [List.getElem?_toArray, List.getElem?_cons_succ, List.getElem?_cons_zero]; rfl)
                · exact fun _ _ _ h => h
                · refine Or.inl ⟨by rfl, ?_⟩; (intro w hSw; (try dsimp only at hSw); go_simp; first | done | with_reducible rfl)
                (try simp only [Act.put, List.setIfInBounds_toArray, List.set_cons_zero, List.set_cons_succ])
                refine wpAnyH_take (i := 5) (oi := ?_) (v := ?_) ?_ (by kernel_rfl) (by kernel_rfl) (by kernel_rfl) ?_ ?_ (by assumption) ?_
                rotate_left
                rotate_left
                · (simp only [List.getElem?_toArray, List.getElem?_cons_succ, List.getElem?_cons_zero]; rfl)
                · exact fun _ _ _ h => h
                · refine Or.inl ⟨by rfl, ?_⟩; (intro w hSw; (try dsimp only at hSw); go_simp; first | done | with_reducible rfl)
                (try simp only [Act.put, List.setIfInBounds_toArray, List.set_cons_zero, List.set_cons_succ])
                refine wpAnyH_take (i := 6) (oi := ?_) (v := ?_) ?_ (by kernel_rfl) (by kernel_rfl) (by kernel_rfl) ?_ ?_ (by assumption) ?_
                rotate_left
                rotate_left
                · (simp only [List.getElem?_toArray, List.getElem?_cons_succ, List.getElem?_cons_zero]; rfl)
                · exact fun _ _ _ h => h
                · refine Or.inl ⟨by rfl, ?_⟩; (intro w hSw; (try dsimp only at hSw); go_simp; first | done | with_reducible rfl)
                (try simp only [Act.put, List.setIfInBounds_toArray, List.set_cons_zero, List.set_cons_succ])
                refine wpAnyH_take (i := 7) (oi := ?_) (v := ?_) ?_ (by kernel_rfl) (by kernel_rfl) (by kernel_rfl) ?_ ?_ (by assumption) ?_
                rotate_left
                rotate_left
                · (simp only [List.getElem?_toArray, List.getElem?_cons_succ, List.getElem?_cons_zero]; rfl)
                · exact fun _ _ _ h => h
                · refine Or.inl ⟨by rfl, ?_⟩; (intro w hSw; (try dsimp only at hSw); go_simp; first | done | with_reducible rfl)
                (try simp only [Act.put, List.setIfInBounds_toArray, List.set_cons_zero, List.set_cons_succ])
                refine wpAnyH_take (i := 8) (oi := ?_) (v := ?_) ?_ (by kernel_rfl) (by kernel_rfl) (by kernel_rfl) ?_ ?_ (by assumption) ?_
                rotate_left
                rotate_left
                · (simp only [List.getElem?_toArray, List.getElem?_cons_succ, List.getElem?_cons_zero]; rfl)
                · exact fun _ _ _ h => h
                · refine Or.inl ⟨by rfl, ?_⟩; (intro w hSw; (try dsimp only at hSw); go_simp; first | done | with_reducible rfl)
                (try simp only [Act.put, List.setIfInBounds_toArray, List.set_cons_zero, List.set_cons_succ])
                refine wpAnyH_take (i := 9) (oi := ?_) (v := ?_) ?_ (by kernel_rfl) (by kernel_rfl) (by kernel_rfl) ?_ ?_ (by assumption) ?_
                rotate_left
                rotate_left
                · (simp only [List.getElem?_toArray, List.getElem?_cons_succ, List.getElem?_cons_zero]; rfl)
                · exact fun _ _ _ h => h
                · refine Or.inl ⟨by rfl, ?_⟩; (intro w hSw; (try dsimp only at hSw); go_simp; first | done | with_reducible rfl)
                (try simp only [Act.put, List.setIfInBounds_toArray, List.set_cons_zero, List.set_cons_succ])
                refine wpAnyH_take (i := 10) (oi := ?_) (v := ?_) ?_ (by kernel_rfl) (by kernel_rfl) (by kernel_rfl) ?_ ?_ (by assumption) ?_
                rotate_left
                rotate_left
                · (simp only [List.getElem?_toArray, List.getElem?_cons_succ, List.getElem?_cons_zero]; rfl)
                · exact fun _ _ _ h => h
                · refine Or.inl ⟨by rfl, ?_⟩; (intro w hSw; (try dsimp only at hSw); go_simp; first | done | with_reducible rfl)
                (try simp only [Act.put, List.setIfInBounds_toArray, List.set_cons_zero, List.set_cons_succ])
                refine wpAnyH_take (i := 11) (oi := ?_) (v := ?_) ?_ (by kernel_rfl) (by kernel_rfl) (by kernel_rfl) ?_ ?_ (by assumption) ?_
                rotate_left
                rotate_left
                · (simp only [List.getElem?_toArray, List.getElem?_cons_succ, List.getElem?_cons_zero]; rfl)
                · exact fun _ _ _ h => h
                · refine Or.inl ⟨by rfl, ?_⟩; (intro w hSw; (try dsimp only at hSw); go_simp; first | done | with_reducible rfl)
                (try simp only [Act.put, List.setIfInBounds_toArray, List.set_cons_zero, List.set_cons_succ])
                refine wpAnyH_take (i := 12) (oi := ?_) (v := ?_) ?_ (by kernel_rfl) (by kernel_rfl) (by kernel_rfl) ?_ ?_ (by assumption) ?_
                rotate_left
                rotate_left
                · (simp only [List.getElem?_toArray, List.getElem?_cons_succ, List.getElem?_cons_zero]; rfl)
                · exact fun _ _ _ h => h
                · refine Or.inl ⟨by rfl, ?_⟩; (intro w hSw; (try dsimp only at hSw); go_simp; first | done | with_reducible rfl)
                (try simp only [Act.put, List.setIfInBounds_toArray, List.set_cons_zero, List.set_cons_succ])
                refine wpAnyH_take (i := 13) (oi := ?_) (v := ?_) ?_ (by kernel_rfl) (by kernel_rfl) (by kernel_rfl) ?_ ?_ (by assumption) ?_
                rotate_left
                rotate_left
                · (simp only [List.getElem?_toArray, List.getElem?_cons_succ, List.getElem?_cons_zero]; rfl)
                · exact fun _ _ _ h => h
                · refine Or.inl ⟨by rfl, ?_⟩; (intro w hSw; (try dsimp only at hSw); go_simp; first | done | with_reducible rfl)
                (try simp only [Act.put, List.setIfInBounds_toArray, List.set_cons_zero, List.set_cons_succ])
                refine wpAnyH_take (i := 14) (oi := ?_) (v := ?_) ?_ (by kernel_rfl) (by kernel_rfl) (by kernel_rfl) ?_ ?_ (by assumption) ?_
                rotate_left
                rotate_left
                · (simp only [List.getElem?_toArray, List.getElem?_cons_succ, List.getElem?_cons_zero]; rfl)
                · exact fun _ _ _ h => h
                · refine Or.inl ⟨by rfl, ?_⟩; (intro w hSw; (try dsimp only at hSw); go_simp; first | done | with_reducible rfl)
                (try simp only [Act.put, List.setIfInBounds_toArray, List.set_cons_zero, List.set_cons_succ])
                refine wpAnyH_take (i := 17) (oi := ?_) (v := ?_) ?_ (by kernel_rfl) (by kernel_rfl) (by kernel_rfl) ?_ ?_ (by assumption) ?_
                rotate_left
                rotate_left
                · (simp only [List.getElem?_toArray, List.getElem?_cons_succ, List.getElem?_cons_zero]; rfl)
                · exact fun _ _ _ h => h
                · refine Or.inl ⟨by rfl, ?_⟩; (intro w hSw; (try dsimp only at hSw); go_simp; first | done | with_reducible rfl)
                (try simp only [Act.put, List.setIfInBounds_toArray, List.set_cons_zero, List.set_cons_succ])
                refine wpAnyH_take (i := 18) (oi := ?_) (v := ?_) ?_ (by kernel_rfl) (by kernel_rfl) (by kernel_rfl) ?_ ?_ (by assumption) ?_
                rotate_left
                rotate_left
                · (simp only [List.getElem?_toArray, List.getElem?_cons_succ, List.getElem?_cons_zero]; rfl)
                · exact fun _ _ _ h => h
                · refine Or.inl ⟨by rfl, ?_⟩; (intro w hSw; (try dsimp only at hSw); go_simp; first | done | with_reducible rfl)
                (try simp only [Act.put, List.setIfInBounds_toArray, List.set_cons_zero, List.set_cons_succ])
                refine wpAnyH_take (i := 19) (oi := ?_) (v := ?_) ?_ (by kernel_rfl) (by kernel_rfl) (by kernel_rfl) ?_ ?_ (by assumption) ?_
                rotate_left
                rotate_left
                · (simp only [List.getElem?_toArray, List.getElem?_cons_succ, List.getElem?_cons_zero]; rfl)
                · exact fun _ _ _ h => h
                · refine Or.inl ⟨by rfl, ?_⟩; (intro w hSw; (try dsimp only at hSw); go_simp; first | done | with_reducible rfl)
                (try simp only [Act.put, List.setIfInBounds_toArray, List.set_cons_zero, List.set_cons_succ])
                refine wpAnyH_take (i := 20) (oi := ?_) (v := ?_) ?_ (by kernel_rfl) (by kernel_rfl) (by kernel_rfl) ?_ ?_ (by assumption) ?_
                rotate_left
                rotate_left
                · (simp only [List.getElem?_toArray, List.getElem?_cons_succ, List.getElem?_cons_zero]; rfl)
                · exact fun _ _ _ h => h
                · refine Or.inl ⟨by rfl, ?_⟩; (intro w hSw; (try dsimp only at hSw); go_simp; first | done | with_reducible rfl)
                (try simp only [Act.put, List.setIfInBounds_toArray, List.set_cons_zero, List.set_cons_succ])
                refine wpAnyH_ready (rs := [15]) (by kernel_rfl) (by simp) ?_
                refine AllReadyH.cons (o := ?_) ?_ (fun K hK => ?_) AllReadyH.nil
                rotate_left
                · (simp only [List.getElem?_toArray, List.getElem?_cons_succ, List.getElem?_cons_zero]; rfl)
                go_simp
                go_at_call 12; refine (FB.out _ (HTW.out.below hH.1.out)).mono ?_; rintro e wn ⟨rfl, bn⟩; have BN : Hid (Below wa.heap.size wa wn) := hH.1.out.trans (bn.mono hH.1.out.size); have hzn : q < _ := Nat.lt_of_lt_of_le hz hH.1.out.size; have SN0 := (bn.cell (p := ⟨q, 0, none⟩) (by exact hzn)).trans hH.2.1; have SN1 := (bn.cell (p := ⟨q, 1, none⟩) (by exact hzn)).trans hH.2.2.1; have SN2 := (bn.cell (p := ⟨q, 2, none⟩) (by exact hzn)).trans hH.2.2.2.1; have SN3 := (bn.cell (p := ⟨b, o, none⟩) (by exact Nat.lt_of_lt_of_le hb hH.1.out.size)).trans hH.2.2.2.2
                (try go_wp2_with fail)
                refine hK.out _ _ ?_ (fun hH2 => ?_)
                · (try dsimp only); exact ⟨BN, SN0, SN1, SN2, SN3⟩
                clear hK K hH
                have hH := hH2
                clear hH2
                (try simp only [Act.put, List.setIfInBounds_toArray, List.set_cons_zero, List.set_cons_succ])
                refine wpAnyH_take (i := 16) (oi := ?_) (v := .int .i64 bs.2.2.1) ?_ (by kernel_rfl) (by kernel_rfl) (by kernel_rfl) ?_ ?_ (by assumption) ?_
                rotate_left
                · (simp only [List.getElem?_toArray, List.getElem?_cons_succ, List.getElem?_cons_zero]; rfl)
                · exact fun _ _ _ h => h
                · refine Or.inl ⟨by rfl, ?_⟩; (intro w hSw; (try dsimp only at hSw); go_simp; first | done | with_reducible rfl | rfl | kernel_rfl)
                (try simp only [Act.put, List.setIfInBounds_toArray, List.set_cons_zero, List.set_cons_succ])
                refine wpAnyH_take (i := 21) (oi := ?_) (v := ?_) ?_ (by kernel_rfl) (by kernel_rfl) (by kernel_rfl) ?_ ?_ (by assumption) ?_
                rotate_left
                rotate_left
                · (simp only [List.getElem?_toArray, List.getElem?_cons_succ, List.getElem?_cons_zero]; rfl)
                · exact fun _ _ _ h => h
                · refine Or.inl ⟨by rfl, ?_⟩; (intro w hSw; (try dsimp only at hSw); go_simp; first | done | with_reducible rfl)
                (try simp only [Act.put, List.setIfInBounds_toArray, List.set_cons_zero, List.set_cons_succ])
                refine wpAnyH_take (i := 22) (oi := ?_) (v := ?_) ?_ (by kernel_rfl) (by kernel_rfl) (by kernel_rfl) ?_ ?_ (by assumption) ?_
                rotate_left
                rotate_left
                · (simp only [List.getElem?_toArray, List.getElem?_cons_succ, List.getElem?_cons_zero]; rfl)
                · exact fun _ _ _ h => h
                · refine Or.inl ⟨by rfl, ?_⟩; (intro w hSw; (try dsimp only at hSw); go_simp; first | done | with_reducible rfl)
                (try simp only [Act.put, List.setIfInBounds_toArray, List.set_cons_zero, List.set_cons_succ])
                refine wpAnyH_take (i := 23) (oi := ?_) (v := ?_) ?_ (by kernel_rfl) (by kernel_rfl) (by kernel_rfl) ?_ ?_ (by assumption) ?_
                rotate_left
                rotate_left
                · (simp only [List.getElem?_toArray, List.getElem?_cons_succ, List.getElem?_cons_zero]; rfl)
                · exact fun _ _ _ h => h
                · refine Or.inl ⟨by rfl, ?_⟩; (intro w hSw; (try dsimp only at hSw); go_simp; first | done | with_reducible rfl)
                (try simp only [Act.put, List.setIfInBounds_toArray, List.set_cons_zero, List.set_cons_succ])
                refine wpAnyH_take (i := 24) (oi := ?_) (v := ?_) ?_ (by kernel_rfl) (by kernel_rfl) (by kernel_rfl) ?_ ?_ (by assumption) ?_
                rotate_left
                rotate_left
                · (simp only [List.getElem?_toArray, List.getElem?_cons_succ, List.getElem?_cons_zero]; rfl)
                · exact fun _ _ _ h => h
                · refine Or.inl ⟨by rfl, ?_⟩; (intro w hSw; (try dsimp only at hSw); go_simp; first | done | with_reducible rfl)
                (try simp only [Act.put, List.setIfInBounds_toArray, List.set_cons_zero, List.set_cons_succ])
                refine wpAnyH_done (by kernel_rfl) ?_ _
                have BZ := FIN.out _ hH.1.out
                clear hH
                go_wp2_with fail
                go_ret
                exact ⟨rfl, BZ⟩
    | true =>
      have HSV : Hid (Rk.View Or.S W6 (.slice ua X.length uc) X) := HT6.out.b.view
      have HC2 : Hid (Ob.Climb true X X.length R) := HC.out
      have HP2 : Hid (∀ k, 0 ≤ Ob.tot (·.2.2.2.1) (X.take k) ∧ Ob.tot (·.2.2.2.1) (X.take k) ≤ 24000) := HP.out
      have HBQ2 : Hid (bs = Ob.at' X 0) := HBQ.out
      have HPL2 : Hid (X.length ≤ 24) := HPL.out
      have HSS : Hid (0 < X.length → ∃ b o, ua = some ⟨b, o, none⟩ ∧ b < W6.heap.size ∧ Rk.Sees Or.S W6 b o X) := fun h0 => by
        obtain ⟨a', c', e', hse⟩ := HSV.out
        obtain ⟨b, o, eb, hb, hs1⟩ := hse h0
        simp only [Value.slice.injEq] at e'
        exact ⟨b, o, e'.1.trans eb, hb, hs1⟩
      clear HC HP HBQ HPL HSV
      go_wp2_with fail
      obtain ⟨T, hT⟩ : ∃ T : Nat → Int, T = fun k => Ob.tot (·.2.2.2.1) (X.take k) := ⟨_, rfl⟩
      have HT0 : Hid (T 0 = 0) := by show _ = _; rw [hT]; rfl
      have HTB : Hid (∀ k, 0 ≤ T k ∧ T k ≤ 24000) := by show ∀ k, _; rw [hT]; exact HP2.out
      have HTS : Hid (∀ k, k < X.length → T (k + 1) = T k + (Rk.at_ Or.S X k).2.2.2.1) := fun k hk => by rw [hT]; exact Ob.tot_step Or.S (·.2.2.2.1) X k hk
      have HTE : Hid (T X.length = Ob.tot (·.2.1) R) := by show _ = _; rw [HC2.out.amt, hT]
      clear hT HP2
      go_loopw [7, 9] (fun nn i wr => ∃ (k : Nat) (n : Int), k ≤ X.length ∧ nn = .int .i64 n ∧ i = .int .i64 k ∧ 0 ≤ n ∧ n ≤ 24000 ∧ Hid (n = T k) ∧ Hid (Below W6.heap.size W6 wr)) (fun _ i _ => X.length - (intOf i).toNat)
      case atStart => exact ⟨0, 0, Nat.zero_le _, rfl, rfl, by omega, by omega, HT0.out.symm, Below.refl _ _⟩
      case round =>
        obtain ⟨k, m, hk, rfl, rfl, hm0, hm1, HN, BEL⟩ := hrel
        by_cases hlt : k < X.length
        · obtain ⟨b, o, rfl, hb, hs1⟩ := HSS.out (by omega)
          have hs' := hs1.below hb BEL.out
          have q3 := Or.c3 hs' hlt
          have t1 := HTS.out k hlt
          have t2 := HTB.out (k + 1)
          obtain ⟨f, hf⟩ : ∃ f, f = (Rk.at_ Or.S X k).2.2.2.1 := ⟨_, rfl⟩
          rw [← hf] at q3 t1
          rw [t1, ← HN.out] at t2
          have HN2 : Hid (m + f = T (k + 1)) := by show _ = _; rw [t1, HN.out]
          have hlm := HPL2.out
          clear hf hs' t1 HN hs1
          go_wp2_with fail
          go_roundw
          case rel => exact ⟨k + 1, m + f, by omega, by go_num, by go_num, by omega, by omega, HN2.out, BEL.out⟩
          case measure => simp [intOf]; omega
        · have e : k = X.length := by omega
          have HM : Hid (m = Ob.tot (·.2.1) R) := by show _ = _; rw [HN.out, e]; exact HTE.out
          have hmb : 0 ≤ m ∧ m ≤ 24000 := ⟨hm0, hm1⟩
          subst e
          clear HN HT0 HTB HTS HTE hm0 hm1 hlt hk
          obtain ⟨wa, ea⟩ : ∃ x, x = wr := ⟨_, rfl⟩
          subst ea
          have hz : q < wa.heap.size := Nat.lt_of_lt_of_le hz6 BEL.out.size
          have qa := (BEL.out.cell (p := ⟨q, 0, none⟩) (by show q < _; omega)).trans qa6
          have qb := (BEL.out.cell (p := ⟨q, 1, none⟩) (by show q < _; omega)).trans qb6
          have qc := (BEL.out.cell (p := ⟨q, 2, none⟩) (by show q < _; omega)).trans qc6
          have HVR : Hid (0 < R.length → ∃ b o, aHL = some ⟨b, o, none⟩ ∧ b < wa.heap.size ∧ Rk.Sees Rg.S wa b o R) := fun h0 => by
            obtain ⟨b, o, eb, hb, hs1⟩ := HVL.out h0
            exact ⟨b, o, eb, Nat.lt_of_lt_of_le hb BEL.out.size, hs1.below hb BEL.out⟩
          have HTW := Fk.hide (HT6.out.below BEL.out)
          have HBW : Hid (Below w.heap.size w wa) := HB6.out.trans (BEL.out.mono HB6.out.size)
          clear HVL HT6 HB6 qa6 qb6 qc6 hz6 BEL HSS
          obtain ⟨S1, hS1⟩ : ∃ T : Nat → Int, T = fun k => Ob.tot (·.2.1) (R.take k) := ⟨_, rfl⟩
          obtain ⟨S2, hS2⟩ : ∃ T : Nat → Int, T = fun k => Ob.tot (·.2.2) (R.take k) := ⟨_, rfl⟩
          have HS0 : Hid (S1 0 = 0 ∧ S2 0 = 0) := by show _ ∧ _; rw [hS1, hS2]; exact ⟨rfl, rfl⟩
          have HSB : Hid (∀ k, (0 ≤ S1 k ∧ S1 k ≤ 576000) ∧ (0 ≤ S2 k ∧ S2 k ≤ 576)) := by show ∀ k, _; rw [hS1, hS2]; exact HS.out
          have HSS : Hid (∀ k, k < R.length → S1 (k + 1) = S1 k + (Rk.at_ Rg.S R k).2.1 ∧ S2 (k + 1) = S2 k + (Rk.at_ Rg.S R k).2.2) := fun k hk => by rw [hS1, hS2]; exact ⟨Ob.tot_step Rg.S (·.2.1) R k hk, Ob.tot_step Rg.S (·.2.2) R k hk⟩
          have HSE : Hid (S1 R.length = m ∧ S2 R.length = X.length) := by show _ ∧ _; rw [hS1, hS2, HM.out]; refine ⟨by simp only [List.take_length], ?_⟩; simp only [List.take_length]; exact HC2.out.many
          have hR24 := HR24.out
          clear hS1 hS2 HM HS HR24
          go_wp2_with fail
          go_loopw [7, 8, 10] (fun nn yy i wr => ∃ (k : Nat) (n y : Int), k ≤ R.length ∧ nn = .int .i64 n ∧ yy = .int .i64 y ∧ i = .int .i64 k ∧ Hid (n = m - S1 k) ∧ Hid (y = S2 k) ∧ Hid (Below wa.heap.size wa wr)) (fun _ _ i _ => R.length - (intOf i).toNat)
          case atStart => exact ⟨0, m, 0, Nat.zero_le _, rfl, rfl, rfl, by show _ = _; rw [HS0.out.1]; omega, HS0.out.2.symm, Below.refl _ _⟩
          case round =>
            obtain ⟨k, x, y, hk, rfl, rfl, rfl, HN, HY, BEL⟩ := hrel
            have u1 := HSB.out k
            have u2 : -600000 ≤ x ∧ x ≤ 600000 := by rw [HN.out]; omega
            have u3 : 0 ≤ y ∧ y ≤ 576 := by rw [HY.out]; omega
            clear u1
            by_cases hlt : k < R.length
            · obtain ⟨b, o, rfl, hb, hs1⟩ := HVR.out (by omega)
              have hs' := hs1.below hb BEL.out
              have r0 := Rg.c0 hs' hlt
              have r1 := Rg.c1 hs' hlt
              have r2 := Rg.c2 hs' hlt
              obtain ⟨t1, t2⟩ := HSS.out k hlt
              have t3 := HSB.out (k + 1)
              have t4 := HSB.out k
              obtain ⟨f1, hf1⟩ : ∃ f, f = (Rk.at_ Rg.S R k).2.1 := ⟨_, rfl⟩
              obtain ⟨f2, hf2⟩ : ∃ f, f = (Rk.at_ Rg.S R k).2.2 := ⟨_, rfl⟩
              obtain ⟨f0, hf0⟩ : ∃ f, f = (Rk.at_ Rg.S R k).1 := ⟨_, rfl⟩
              rw [← hf1] at r1 t1
              rw [← hf2] at r2 t2
              rw [← hf0] at r0
              have v1 : -600000 ≤ f1 ∧ f1 ≤ 600000 := by omega
              have v2 : -600 ≤ f2 ∧ f2 ≤ 600 := by omega
              have HN2 : Hid (x - f1 = m - S1 (k + 1)) := by show _ = _; rw [t1, HN.out]; omega
              have HY2 : Hid (y + f2 = S2 (k + 1)) := by show _ = _; rw [t2, HY.out]
              have HF0 := Fk.hide hf0
              clear hf1 hf2 hf0 t1 t2 t3 t4 HN HY
              go_wp2_with fail
              by_cases hk0 : k = 0
              · subst hk0
                have d0 : decide ((0 : Int) < ((0 : Nat) : Int)) = false := by decide
                clear hs' hs1 r0 r1 r2
                refine wp_region_quiet_below (by kernel_rfl) (by kernel_rfl) ?_
                repeat (go_big_quiet_step (fail))
                refine wpQuiet_nil ?_
                intro w4 hw'
                obtain ⟨⟨dq, osq⟩, hw''⟩ := hw'
                have B4 : Hid (Below wa.heap.size wa w4) := by show Below _ _ _; rw [hw'']; exact BEL.out.trans ((below_regrown wr dq osq).mono BEL.out.size)
                clear hw''
                go_wp2_with fail
                go_roundw
                case rel => exact ⟨1, x - f1, y + f2, by omega, by go_num, by go_num, by go_num, HN2.out, HY2.out, B4.out⟩
                case measure => simp [intOf]; omega
              · obtain ⟨j, rfl⟩ : ∃ j, k = j + 1 := ⟨k - 1, by omega⟩
                have p0 := Rg.c0 hs' (k := j) (by omega)
                obtain ⟨g0, hg0⟩ : ∃ f, f = (Rk.at_ Rg.S R j).1 := ⟨_, rfl⟩
                rw [← hg0] at p0
                have ord := HC2.out.ord j (by omega)
                rw [← HF0.out, ← hg0] at ord
                have d1 : decide (g0 ≤ f0) = false := decide_eq_false (by unfold Ob.ahead at ord; simp at ord; omega)
                have d2 : decide ((0 : Int) < (j : Int) + 1) = true := decide_eq_true (by omega)
                have d3 : decide ((0 : Int) < ((j + 1 : Nat) : Int)) = true := decide_eq_true (by omega)
                have d4 : (0 : Int) < (j : Int) + 1 := by omega
                have hjl : j < R.length := by omega
                have hj24 : j < 24 := by omega
                have rr0 := cell_regrown r0
                have rp0 := cell_regrown p0
                clear hg0 hs' hs1 r1 r2 HF0
                refine wp_region_quiet_below (by kernel_rfl) (by kernel_rfl) ?_
                repeat (go_big_quiet_step (fail))
                refine wpQuiet_nil ?_
                intro w4 hw'
                obtain ⟨⟨dq, osq⟩, hw''⟩ := hw'
                have B4 : Hid (Below wa.heap.size wa w4) := by show Below _ _ _; rw [hw'']; exact BEL.out.trans ((below_regrown wr dq osq).mono BEL.out.size)
                clear hw''
                go_wp2_with fail
                go_roundw
                case rel => exact ⟨j + 2, x - f1, y + f2, by omega, by go_num, by go_num, by go_num, HN2.out, HY2.out, B4.out⟩
                case measure => simp [intOf]; omega
            · have e : k = R.length := by omega
              subst e
              obtain rfl : x = 0 := by rw [HN.out, HSE.out.1]; omega
              obtain rfl : y = (X.length : Int) := by rw [HY.out]; exact HSE.out.2
              have BELd := Below.trans BEL.out (Below.drew (Below.refl _ _) |>.mono BEL.out.size)
              have hd : Hid (Below wa.heap.size wa wr.drew) := BELd
              have e0 := (BELd.cell (p := ⟨q, 0, none⟩) (by exact hz)).trans qa
              have e1 := (BELd.cell (p := ⟨q, 1, none⟩) (by exact hz)).trans qb
              have e2 := (BELd.cell (p := ⟨q, 2, none⟩) (by exact hz)).trans qc
              have FIN : Hid (∀ Z, Below wa.heap.size wa Z → Below w.heap.size w Z) := fun Z h => HBW.out.trans (h.mono HBW.out.size)
              have hln := HPL2.out
              clear HN HY HS0 HSB HSS HSE u2 u3 hlt hk BELd
              by_cases h0 : R.length = 0
              · have d0 : decide ((R.length : Int) = 0) = true := decide_eq_true (by omega)
                have d1 : ((R.length : Int) == 0) = true := by simpa using h0
                have d2 : ((X.length : Int) == (X.length : Int)) = true := by simp
                clear HVR h0
                go_wp2_with fail
                refine wp_region_held_drew (S := (fun w' => Hid (Below wa.heap.size wa w') ∧ w'.cell? ⟨q, 0, none⟩ = some (.slice ua X.length uc) ∧ w'.cell? ⟨q, 1, none⟩ = some (.slice va Y.length vc) ∧ w'.cell? ⟨q, 2, none⟩ = some (.int .i64 n))) (by kernel_rfl) ?_ (fun hH => ?_)
                · (try dsimp only); exact ⟨hd, e0, e1, e2⟩
                refine wpAnyH_take (i := 0) (oi := ?_) (v := ?_) ?_ (by kernel_rfl) (by kernel_rfl) (by kernel_rfl) ?_ ?_ (by assumption) ?_
                rotate_left
                rotate_left
                · (simp only [List.getElem?_toArray, List.getElem?_cons_succ, List.getElem?_cons_zero]; rfl)
                · exact fun _ _ _ h => h
                · refine Or.inl ⟨by rfl, ?_⟩; (intro w hSw; (try dsimp only at hSw); go_simp; first | done | with_reducible rfl)
                (try simp only [Act.put, List.setIfInBounds_toArray, List.set_cons_zero, List.set_cons_succ])
                refine wpAnyH_take (i := 1) (oi := ?_) (v := ?_) ?_ (by kernel_rfl) (by kernel_rfl) (by kernel_rfl) ?_ ?_ (by assumption) ?_
                rotate_left
                rotate_left
                · (simp only [List.getElem?_toArray, List.getElem?_cons_succ, List.getElem?_cons_zero]; rfl)
                · exact fun _ _ _ h => h
                · refine Or.inl ⟨by rfl, ?_⟩; (intro w hSw; (try dsimp only at hSw); go_simp; first | done | with_reducible rfl)
                (try simp only [Act.put, List.setIfInBounds_toArray, List.set_cons_zero, List.set_cons_succ])
                refine wpAnyH_take (i := 2) (oi := ?_) (v := ?_) ?_ (by kernel_rfl) (by kernel_rfl) (by kernel_rfl) ?_ ?_ (by assumption) ?_
                rotate_left
                rotate_left
                · (simp only [List.getElem?_toArray, List.getElem?_cons_succ, List.getElem?_cons_zero]; rfl)
                · exact fun _ _ _ h => h
                · refine Or.inl ⟨by rfl, ?_⟩; (intro w hSw; (try dsimp only at hSw); go_simp; first | done | with_reducible rfl)
                (try simp only [Act.put, List.setIfInBounds_toArray, List.set_cons_zero, List.set_cons_succ])
                refine wpAnyH_take (i := 3) (oi := ?_) (v := ?_) ?_ (by kernel_rfl) (by kernel_rfl) (by kernel_rfl) ?_ ?_ (by assumption) ?_
                rotate_left
                rotate_left
                · (simp only [List.getElem?_toArray, List.getElem?_cons_succ, List.getElem?_cons_zero]; rfl)
                · exact fun _ _ _ h => h
                · refine Or.inl ⟨by rfl, ?_⟩; (intro w hSw; (try dsimp only at hSw); go_simp; first | done | with_reducible rfl)
                (try simp only [Act.put, List.setIfInBounds_toArray, List.set_cons_zero, List.set_cons_succ])
                refine wpAnyH_take (i := 4) (oi := ?_) (v := ?_) ?_ (by kernel_rfl) (by kernel_rfl) (by kernel_rfl) ?_ ?_ (by assumption) ?_
                rotate_left
                rotate_left
                · (simp only [List.getElem?_toArray, List.getElem?_cons_succ, List.getElem?_cons_zero]; rfl)
                · exact fun _ _ _ h => h
                · refine Or.inl ⟨by rfl, ?_⟩; (intro w hSw; (try dsimp only at hSw); go_simp; first | done | with_reducible rfl)
                (try simp only [Act.put, List.setIfInBounds_toArray, List.set_cons_zero, List.set_cons_succ])
                refine wpAnyH_take (i := 5) (oi := ?_) (v := ?_) ?_ (by kernel_rfl) (by kernel_rfl) (by kernel_rfl) ?_ ?_ (by assumption) ?_
                rotate_left
                rotate_left
                · (simp only [List.getElem?_toArray, List.getElem?_cons_succ, List.getElem?_cons_zero]; rfl)
                · exact fun _ _ _ h => h
                · refine Or.inl ⟨by rfl, ?_⟩; (intro w hSw; (try dsimp only at hSw); go_simp; first | done | with_reducible rfl)
                (try simp only [Act.put, List.setIfInBounds_toArray, List.set_cons_zero, List.set_cons_succ])
                refine wpAnyH_take (i := 6) (oi := ?_) (v := ?_) ?_ (by kernel_rfl) (by kernel_rfl) (by kernel_rfl) ?_ ?_ (by assumption) ?_
                rotate_left
                rotate_left
                · (simp only [List.getElem?_toArray, List.getElem?_cons_succ, List.getElem?_cons_zero]; rfl)
                · exact fun _ _ _ h => h
                · refine Or.inl ⟨by rfl, ?_⟩; (intro w hSw; (try dsimp only at hSw); go_simp; first | done | with_reducible rfl)
                (try simp only [Act.put, List.setIfInBounds_toArray, List.set_cons_zero, List.set_cons_succ])
                refine wpAnyH_take (i := 7) (oi := ?_) (v := ?_) ?_ (by kernel_rfl) (by kernel_rfl) (by kernel_rfl) ?_ ?_ (by assumption) ?_
                rotate_left
                rotate_left
                · (simp only [List.getElem?_toArray, List.getElem?_cons_succ, List.getElem?_cons_zero]; rfl)
                · exact fun _ _ _ h => h
                · refine Or.inl ⟨by rfl, ?_⟩; (intro w hSw; (try dsimp only at hSw); go_simp; first | done | with_reducible rfl)
                (try simp only [Act.put, List.setIfInBounds_toArray, List.set_cons_zero, List.set_cons_succ])
                refine wpAnyH_take (i := 8) (oi := ?_) (v := ?_) ?_ (by kernel_rfl) (by kernel_rfl) (by kernel_rfl) ?_ ?_ (by assumption) ?_
                rotate_left
                rotate_left
                · (simp only [List.getElem?_toArray, List.getElem?_cons_succ, List.getElem?_cons_zero]; rfl)
                · exact fun _ _ _ h => h
                · refine Or.inl ⟨by rfl, ?_⟩; (intro w hSw; (try dsimp only at hSw); go_simp; first | done | with_reducible rfl)
                (try simp only [Act.put, List.setIfInBounds_toArray, List.set_cons_zero, List.set_cons_succ])
                refine wpAnyH_take (i := 9) (oi := ?_) (v := ?_) ?_ (by kernel_rfl) (by kernel_rfl) (by kernel_rfl) ?_ ?_ (by assumption) ?_
                rotate_left
                rotate_left
                · (simp only [List.getElem?_toArray, List.getElem?_cons_succ, List.getElem?_cons_zero]; rfl)
                · exact fun _ _ _ h => h
                · refine Or.inl ⟨by rfl, ?_⟩; (intro w hSw; (try dsimp only at hSw); go_simp; first | done | with_reducible rfl)
                (try simp only [Act.put, List.setIfInBounds_toArray, List.set_cons_zero, List.set_cons_succ])
                refine wpAnyH_take (i := 10) (oi := ?_) (v := ?_) ?_ (by kernel_rfl) (by kernel_rfl) (by kernel_rfl) ?_ ?_ (by assumption) ?_
                rotate_left
                rotate_left
                · (simp only [List.getElem?_toArray, List.getElem?_cons_succ, List.getElem?_cons_zero]; rfl)
                · exact fun _ _ _ h => h
                · refine Or.inl ⟨by rfl, ?_⟩; (intro w hSw; (try dsimp only at hSw); go_simp; first | done | with_reducible rfl)
                (try simp only [Act.put, List.setIfInBounds_toArray, List.set_cons_zero, List.set_cons_succ])
                refine wpAnyH_take (i := 11) (oi := ?_) (v := ?_) ?_ (by kernel_rfl) (by kernel_rfl) (by kernel_rfl) ?_ ?_ (by assumption) ?_
                rotate_left
                rotate_left
                · (simp only [List.getElem?_toArray, List.getElem?_cons_succ, List.getElem?_cons_zero]; rfl)
                · exact fun _ _ _ h => h
                · refine Or.inl ⟨by rfl, ?_⟩; (intro w hSw; (try dsimp only at hSw); go_simp; first | done | with_reducible rfl)
                (try simp only [Act.put, List.setIfInBounds_toArray, List.set_cons_zero, List.set_cons_succ])
                refine wpAnyH_take (i := 12) (oi := ?_) (v := ?_) ?_ (by kernel_rfl) (by kernel_rfl) (by kernel_rfl) ?_ ?_ (by assumption) ?_
                rotate_left
                rotate_left
                · (simp only [List.getElem?_toArray, List.getElem?_cons_succ, List.getElem?_cons_zero]; rfl)
                · exact fun _ _ _ h => h
                · refine Or.inl ⟨by rfl, ?_⟩; (intro w hSw; (try dsimp only at hSw); go_simp; first | done | with_reducible rfl)
                (try simp only [Act.put, List.setIfInBounds_toArray, List.set_cons_zero, List.set_cons_succ])
                refine wpAnyH_take (i := 13) (oi := ?_) (v := undef) ?_ (by kernel_rfl) (by kernel_rfl) (by kernel_rfl) ?_ ?_ (by assumption) ?_
                rotate_left
                · (simp only [List.getElem?_toArray, List.getElem?_cons_succ, List.getElem?_cons_zero]; rfl)
                · exact fun _ _ _ h => h
                · exact Or.inr ⟨by rfl, rfl⟩
                (try simp only [Act.put, List.setIfInBounds_toArray, List.set_cons_zero, List.set_cons_succ])
                refine wpAnyH_take (i := 14) (oi := ?_) (v := undef) ?_ (by kernel_rfl) (by kernel_rfl) (by kernel_rfl) ?_ ?_ (by assumption) ?_
                rotate_left
                · (simp only [List.getElem?_toArray, List.getElem?_cons_succ, List.getElem?_cons_zero]; rfl)
                · exact fun _ _ _ h => h
                · exact Or.inr ⟨by rfl, rfl⟩
                (try simp only [Act.put, List.setIfInBounds_toArray, List.set_cons_zero, List.set_cons_succ])
                refine wpAnyH_take (i := 15) (oi := ?_) (v := undef) ?_ (by kernel_rfl) (by kernel_rfl) (by kernel_rfl) ?_ ?_ (by assumption) ?_
                rotate_left
                · (simp only [List.getElem?_toArray, List.getElem?_cons_succ, List.getElem?_cons_zero]; rfl)
                · exact fun _ _ _ h => h
                · exact Or.inr ⟨by rfl, rfl⟩
                (try simp only [Act.put, List.setIfInBounds_toArray, List.set_cons_zero, List.set_cons_succ])
                refine wpAnyH_take (i := 16) (oi := ?_) (v := undef) ?_ (by kernel_rfl) (by kernel_rfl) (by kernel_rfl) ?_ ?_ (by assumption) ?_
                rotate_left
                · (simp only [List.getElem?_toArray, List.getElem?_cons_succ, List.getElem?_cons_zero]; rfl)
                · exact fun _ _ _ h => h
                · exact Or.inr ⟨by rfl, rfl⟩
                (try simp only [Act.put, List.setIfInBounds_toArray, List.set_cons_zero, List.set_cons_succ])
                refine wpAnyH_take (i := 17) (oi := ?_) (v := undef) ?_ (by kernel_rfl) (by kernel_rfl) (by kernel_rfl) ?_ ?_ (by assumption) ?_
                rotate_left
                · (simp only [List.getElem?_toArray, List.getElem?_cons_succ, List.getElem?_cons_zero]; rfl)
                · exact fun _ _ _ h => h
                · exact Or.inr ⟨by rfl, rfl⟩
                (try simp only [Act.put, List.setIfInBounds_toArray, List.set_cons_zero, List.set_cons_succ])
                refine wpAnyH_take (i := 18) (oi := ?_) (v := undef) ?_ (by kernel_rfl) (by kernel_rfl) (by kernel_rfl) ?_ ?_ (by assumption) ?_
                rotate_left
                · (simp only [List.getElem?_toArray, List.getElem?_cons_succ, List.getElem?_cons_zero]; rfl)
                · exact fun _ _ _ h => h
                · exact Or.inr ⟨by rfl, rfl⟩
                (try simp only [Act.put, List.setIfInBounds_toArray, List.set_cons_zero, List.set_cons_succ])
                refine wpAnyH_take (i := 19) (oi := ?_) (v := undef) ?_ (by kernel_rfl) (by kernel_rfl) (by kernel_rfl) ?_ ?_ (by assumption) ?_
                rotate_left
                · (simp only [List.getElem?_toArray, List.getElem?_cons_succ, List.getElem?_cons_zero]; rfl)
                · exact fun _ _ _ h => h
                · exact Or.inr ⟨by rfl, rfl⟩
                (try simp only [Act.put, List.setIfInBounds_toArray, List.set_cons_zero, List.set_cons_succ])
                refine wpAnyH_take (i := 20) (oi := ?_) (v := undef) ?_ (by kernel_rfl) (by kernel_rfl) (by kernel_rfl) ?_ ?_ (by assumption) ?_
                rotate_left
                · (simp only [List.getElem?_toArray, List.getElem?_cons_succ, List.getElem?_cons_zero]; rfl)
                · exact fun _ _ _ h => h
                · exact Or.inr ⟨by rfl, rfl⟩
                (try simp only [Act.put, List.setIfInBounds_toArray, List.set_cons_zero, List.set_cons_succ])
                refine wpAnyH_take (i := 21) (oi := ?_) (v := undef) ?_ (by kernel_rfl) (by kernel_rfl) (by kernel_rfl) ?_ ?_ (by assumption) ?_
                rotate_left
                · (simp only [List.getElem?_toArray, List.getElem?_cons_succ, List.getElem?_cons_zero]; rfl)
                · exact fun _ _ _ h => h
                · exact Or.inr ⟨by rfl, rfl⟩
                (try simp only [Act.put, List.setIfInBounds_toArray, List.set_cons_zero, List.set_cons_succ])
                refine wpAnyH_take (i := 22) (oi := ?_) (v := ?_) ?_ (by kernel_rfl) (by kernel_rfl) (by kernel_rfl) ?_ ?_ (by assumption) ?_
                rotate_left
                rotate_left
                · (simp only [List.getElem?_toArray, List.getElem?_cons_succ, List.getElem?_cons_zero]; rfl)
                · exact fun _ _ _ h => h
                · refine Or.inl ⟨by rfl, ?_⟩; (intro w hSw; (try dsimp only at hSw); go_simp; first | done | with_reducible rfl)
                (try simp only [Act.put, List.setIfInBounds_toArray, List.set_cons_zero, List.set_cons_succ])
                refine wpAnyH_take (i := 23) (oi := ?_) (v := ?_) ?_ (by kernel_rfl) (by kernel_rfl) (by kernel_rfl) ?_ ?_ (by assumption) ?_
                rotate_left
                rotate_left
                · (simp only [List.getElem?_toArray, List.getElem?_cons_succ, List.getElem?_cons_zero]; rfl)
                · exact fun _ _ _ h => h
                · refine Or.inl ⟨by rfl, ?_⟩; (intro w hSw; (try dsimp only at hSw); go_simp; first | done | with_reducible rfl)
                (try simp only [Act.put, List.setIfInBounds_toArray, List.set_cons_zero, List.set_cons_succ])
                refine wpAnyH_take (i := 24) (oi := ?_) (v := ?_) ?_ (by kernel_rfl) (by kernel_rfl) (by kernel_rfl) ?_ ?_ (by assumption) ?_
                rotate_left
                rotate_left
                · (simp only [List.getElem?_toArray, List.getElem?_cons_succ, List.getElem?_cons_zero]; rfl)
                · exact fun _ _ _ h => h
                · refine Or.inl ⟨by rfl, ?_⟩; (intro w hSw; (try dsimp only at hSw); go_simp; first | done | with_reducible rfl)
                (try simp only [Act.put, List.setIfInBounds_toArray, List.set_cons_zero, List.set_cons_succ])
                refine wpAnyH_done (by kernel_rfl) ?_ _
                have BZ := FIN.out _ hH.1.out
                clear hH
                go_wp2_with fail
                go_ret
                exact ⟨rfl, BZ⟩
              · obtain ⟨b, o, rfl, hb, hs1⟩ := HVR.out (by omega)
                have p0 := Rg.c0 (hs1.below hb hd.out) (k := 0) (by omega)
                simp only [Nat.zero_mul, Nat.add_zero] at p0
                have hp : (Rk.at_ Rg.S R 0).1 = bs.2.2.1 := by
                  rw [HBQ2.out]
                  refine HC2.out.first ?_
                  by_cases hl : 0 < X.length
                  · exact hl
                  · exact absurd (HC2.out.zero (by omega)) h0
                rw [hp] at p0
                have hR0 : 0 < R.length := by omega
                have d0 : decide ((R.length : Int) = 0) = false := decide_eq_false (by omega)
                have d1 : ((R.length : Int) == 0) = false := by simpa using h0
                have d2 : ((X.length : Int) == (X.length : Int)) = true := by simp
                have d3 : decide (0 < R.length) = true := decide_eq_true hR0
                clear HVR hs1
                go_wp2_with fail
                refine wp_region_held_drew (S := (fun w' => Hid (Below wa.heap.size wa w') ∧ w'.cell? ⟨q, 0, none⟩ = some (.slice ua X.length uc) ∧ w'.cell? ⟨q, 1, none⟩ = some (.slice va Y.length vc) ∧ w'.cell? ⟨q, 2, none⟩ = some (.int .i64 n) ∧ w'.cell? ⟨b, o, none⟩ = some (.int .i64 bs.2.2.1))) (by kernel_rfl) ?_ (fun hH => ?_)
                · (try dsimp only); exact ⟨hd, e0, e1, e2, p0⟩
                refine wpAnyH_take (i := 0) (oi := ?_) (v := ?_) ?_ (by kernel_rfl) (by kernel_rfl) (by kernel_rfl) ?_ ?_ (by assumption) ?_
                rotate_left
                rotate_left
                · (simp only [List.getElem?_toArray, List.getElem?_cons_succ, List.getElem?_cons_zero]; rfl)
                · exact fun _ _ _ h => h
                · refine Or.inl ⟨by rfl, ?_⟩; (intro w hSw; (try dsimp only at hSw); go_simp; first | done | with_reducible rfl)
                (try simp only [Act.put, List.setIfInBounds_toArray, List.set_cons_zero, List.set_cons_succ])
                refine wpAnyH_take (i := 1) (oi := ?_) (v := ?_) ?_ (by kernel_rfl) (by kernel_rfl) (by kernel_rfl) ?_ ?_ (by assumption) ?_
                rotate_left
                rotate_left
                · (simp only [List.getElem?_toArray, List.getElem?_cons_succ, List.getElem?_cons_zero]; rfl)
                · exact fun _ _ _ h => h
                · refine Or.inl ⟨by rfl, ?_⟩; (intro w hSw; (try dsimp only at hSw); go_simp; first | done | with_reducible rfl)
                (try simp only [Act.put, List.setIfInBounds_toArray, List.set_cons_zero, List.set_cons_succ])
                refine wpAnyH_take (i := 2) (oi := ?_) (v := ?_) ?_ (by kernel_rfl) (by kernel_rfl) (by kernel_rfl) ?_ ?_ (by assumption) ?_
                rotate_left
                rotate_left
                · (simp only [List.getElem?_toArray, List.getElem?_cons_succ, List.getElem?_cons_zero]; rfl)
                · exact fun _ _ _ h => h
                · refine Or.inl ⟨by rfl, ?_⟩; (intro w hSw; (try dsimp only at hSw); go_simp; first | done | with_reducible rfl)
                (try simp only [Act.put, List.setIfInBounds_toArray, List.set_cons_zero, List.set_cons_succ])
                refine wpAnyH_take (i := 3) (oi := ?_) (v := ?_) ?_ (by kernel_rfl) (by kernel_rfl) (by kernel_rfl) ?_ ?_ (by assumption) ?_
                rotate_left
                rotate_left
                · (simp only [List.getElem?_toArray, List.getElem?_cons_succ, List.getElem?_cons_zero]; rfl)
                · exact fun _ _ _ h => h
                · refine Or.inl ⟨by rfl, ?_⟩; (intro w hSw; (try dsimp only at hSw); go_simp; first | done | with_reducible rfl)
                (try simp only [Act.put, List.setIfInBounds_toArray, List.set_cons_zero, List.set_cons_succ])
                refine wpAnyH_take (i := 4) (oi := ?_) (v := ?_) ?_ (by kernel_rfl) (by kernel_rfl) (by kernel_rfl) ?_ ?_ (by assumption) ?_
                rotate_left
                rotate_left
                · (simp only [List.getElem?_toArray, List.getElem?_cons_succ, List.getElem?_cons_zero]; rfl)
                · exact fun _ _ _ h => h
                · refine Or.inl ⟨by rfl, ?_⟩; (intro w hSw; (try dsimp only at hSw); go_simp; first | done | with_reducible rfl)
                (try simp only [Act.put, List.setIfInBounds_toArray, List.set_cons_zero, List.set_cons_succ])
                refine wpAnyH_take (i := 5) (oi := ?_) (v := ?_) ?_ (by kernel_rfl) (by kernel_rfl) (by kernel_rfl) ?_ ?_ (by assumption) ?_
                rotate_left
                rotate_left
                · (simp only [List.getElem?_toArray, List.getElem?_cons_succ, List.getElem?_cons_zero]; rfl)
                · exact fun _ _ _ h => h
                · refine Or.inl ⟨by rfl, ?_⟩; (intro w hSw; (try dsimp only at hSw); go_simp; first | done | with_reducible rfl)
                (try simp only [Act.put, List.setIfInBounds_toArray, List.set_cons_zero, List.set_cons_succ])
                refine wpAnyH_take (i := 6) (oi := ?_) (v := ?_) ?_ (by kernel_rfl) (by kernel_rfl) (by kernel_rfl) ?_ ?_ (by assumption) ?_
                rotate_left
                rotate_left
                · (simp only [List.getElem?_toArray, List.getElem?_cons_succ, List.getElem?_cons_zero]; rfl)
                · exact fun _ _ _ h => h
                · refine Or.inl ⟨by rfl, ?_⟩; (intro w hSw; (try dsimp only at hSw); go_simp; first | done | with_reducible rfl)
                (try simp only [Act.put, List.setIfInBounds_toArray, List.set_cons_zero, List.set_cons_succ])
                refine wpAnyH_take (i := 7) (oi := ?_) (v := ?_) ?_ (by kernel_rfl) (by kernel_rfl) (by kernel_rfl) ?_ ?_ (by assumption) ?_
                rotate_left
                rotate_left
                · (simp only [List.getElem?_toArray, List.getElem?_cons_succ, List.getElem?_cons_zero]; rfl)
                · exact fun _ _ _ h => h
                · refine Or.inl ⟨by rfl, ?_⟩; (intro w hSw; (try dsimp only at hSw); go_simp; first | done | with_reducible rfl)
                (try simp only [Act.put, List.setIfInBounds_toArray, List.set_cons_zero, List.set_cons_succ])
                refine wpAnyH_take (i := 8) (oi := ?_) (v := ?_) ?_ (by kernel_rfl) (by kernel_rfl) (by kernel_rfl) ?_ ?_ (by assumption) ?_
                rotate_left
                rotate_left
                · (simp only [List.getElem?_toArray, List.getElem?_cons_succ, List.getElem?_cons_zero]; rfl)
                · exact fun _ _ _ h => h
                · refine Or.inl ⟨by rfl, ?_⟩; (intro w hSw; (try dsimp only at hSw); go_simp; first | done | with_reducible rfl)
                (try simp only [Act.put, List.setIfInBounds_toArray, List.set_cons_zero, List.set_cons_succ])
                refine wpAnyH_take (i := 9) (oi := ?_) (v := ?_) ?_ (by kernel_rfl) (by kernel_rfl) (by kernel_rfl) ?_ ?_ (by assumption) ?_
                rotate_left
                rotate_left
                · (simp only [List.getElem?_toArray, List.getElem?_cons_succ, List.getElem?_cons_zero]; rfl)
                · exact fun _ _ _ h => h
                · refine Or.inl ⟨by rfl, ?_⟩; (intro w hSw; (try dsimp only at hSw); go_simp; first | done | with_reducible rfl)
                (try simp only [Act.put, List.setIfInBounds_toArray, List.set_cons_zero, List.set_cons_succ])
                refine wpAnyH_take (i := 10) (oi := ?_) (v := ?_) ?_ (by kernel_rfl) (by kernel_rfl) (by kernel_rfl) ?_ ?_ (by assumption) ?_
                rotate_left
                rotate_left
                · (simp only [List.getElem?_toArray, List.getElem?_cons_succ, List.getElem?_cons_zero]; rfl)
                · exact fun _ _ _ h => h
                · refine Or.inl ⟨by rfl, ?_⟩; (intro w hSw; (try dsimp only at hSw); go_simp; first | done | with_reducible rfl)
                (try simp only [Act.put, List.setIfInBounds_toArray, List.set_cons_zero, List.set_cons_succ])
                refine wpAnyH_take (i := 11) (oi := ?_) (v := ?_) ?_ (by kernel_rfl) (by kernel_rfl) (by kernel_rfl) ?_ ?_ (by assumption) ?_
                rotate_left
                rotate_left
                · (simp only [List.getElem?_toArray, List.getElem?_cons_succ, List.getElem?_cons_zero]; rfl)
                · exact fun _ _ _ h => h
                · refine Or.inl ⟨by rfl, ?_⟩; (intro w hSw; (try dsimp only at hSw); go_simp; first | done | with_reducible rfl)
                (try simp only [Act.put, List.setIfInBounds_toArray, List.set_cons_zero, List.set_cons_succ])
                refine wpAnyH_take (i := 12) (oi := ?_) (v := ?_) ?_ (by kernel_rfl) (by kernel_rfl) (by kernel_rfl) ?_ ?_ (by assumption) ?_
                rotate_left
                rotate_left
                · (simp only [List.getElem?_toArray, List.getElem?_cons_succ, List.getElem?_cons_zero]; rfl)
                · exact fun _ _ _ h => h
                · refine Or.inl ⟨by rfl, ?_⟩; (intro w hSw; (try dsimp only at hSw); go_simp; first | done | with_reducible rfl)
                (try simp only [Act.put, List.setIfInBounds_toArray, List.set_cons_zero, List.set_cons_succ])
                refine wpAnyH_take (i := 13) (oi := ?_) (v := ?_) ?_ (by kernel_rfl) (by kernel_rfl) (by kernel_rfl) ?_ ?_ (by assumption) ?_
                rotate_left
                rotate_left
                · (simp only [List.getElem?_toArray, List.getElem?_cons_succ, List.getElem?_cons_zero]; rfl)
                · exact fun _ _ _ h => h
                · refine Or.inl ⟨by rfl, ?_⟩; (intro w hSw; (try dsimp only at hSw); go_simp; first | done | with_reducible rfl)
                (try simp only [Act.put, List.setIfInBounds_toArray, List.set_cons_zero, List.set_cons_succ])
                refine wpAnyH_take (i := 14) (oi := ?_) (v := ?_) ?_ (by kernel_rfl) (by kernel_rfl) (by kernel_rfl) ?_ ?_ (by assumption) ?_
                rotate_left
                rotate_left
                · (simp only [List.getElem?_toArray, List.getElem?_cons_succ, List.getElem?_cons_zero]; rfl)
                · exact fun _ _ _ h => h
                · refine Or.inl ⟨by rfl, ?_⟩; (intro w hSw; (try dsimp only at hSw); go_simp; first | done | with_reducible rfl)
                (try simp only [Act.put, List.setIfInBounds_toArray, List.set_cons_zero, List.set_cons_succ])
                refine wpAnyH_take (i := 17) (oi := ?_) (v := ?_) ?_ (by kernel_rfl) (by kernel_rfl) (by kernel_rfl) ?_ ?_ (by assumption) ?_
                rotate_left
                rotate_left
                · (simp only [List.getElem?_toArray, List.getElem?_cons_succ, List.getElem?_cons_zero]; rfl)
                · exact fun _ _ _ h => h
                · refine Or.inl ⟨by rfl, ?_⟩; (intro w hSw; (try dsimp only at hSw); go_simp; first | done | with_reducible rfl)
                (try simp only [Act.put, List.setIfInBounds_toArray, List.set_cons_zero, List.set_cons_succ])
                refine wpAnyH_take (i := 18) (oi := ?_) (v := ?_) ?_ (by kernel_rfl) (by kernel_rfl) (by kernel_rfl) ?_ ?_ (by assumption) ?_
                rotate_left
                rotate_left
                · (simp only [List.getElem?_toArray, List.getElem?_cons_succ, List.getElem?_cons_zero]; rfl)
                · exact fun _ _ _ h => h
                · refine Or.inl ⟨by rfl, ?_⟩; (intro w hSw; (try dsimp only at hSw); go_simp; first | done | with_reducible rfl)
                (try simp only [Act.put, List.setIfInBounds_toArray, List.set_cons_zero, List.set_cons_succ])
                refine wpAnyH_take (i := 19) (oi := ?_) (v := ?_) ?_ (by kernel_rfl) (by kernel_rfl) (by kernel_rfl) ?_ ?_ (by assumption) ?_
                rotate_left
                rotate_left
                · (simp only [List.getElem?_toArray, List.getElem?_cons_succ, List.getElem?_cons_zero]; rfl)
                · exact fun _ _ _ h => h
                · refine Or.inl ⟨by rfl, ?_⟩; (intro w hSw; (try dsimp only at hSw); go_simp; first | done | with_reducible rfl)
                (try simp only [Act.put, List.setIfInBounds_toArray, List.set_cons_zero, List.set_cons_succ])
                refine wpAnyH_take (i := 20) (oi := ?_) (v := ?_) ?_ (by kernel_rfl) (by kernel_rfl) (by kernel_rfl) ?_ ?_ (by assumption) ?_
                rotate_left
                rotate_left
                · (simp only [List.getElem?_toArray, List.getElem?_cons_succ, List.getElem?_cons_zero]; rfl)
                · exact fun _ _ _ h => h
                · refine Or.inl ⟨by rfl, ?_⟩; (intro w hSw; (try dsimp only at hSw); go_simp; first | done | with_reducible rfl)
                (try simp only [Act.put, List.setIfInBounds_toArray, List.set_cons_zero, List.set_cons_succ])
                refine wpAnyH_ready (rs := [15]) (by kernel_rfl) (by simp) ?_
                refine AllReadyH.cons (o := ?_) ?_ (fun K hK => ?_) AllReadyH.nil
                rotate_left
                · (simp only [List.getElem?_toArray, List.getElem?_cons_succ, List.getElem?_cons_zero]; rfl)
                go_simp
                go_at_call 12; refine (FB.out _ (HTW.out.below hH.1.out)).mono ?_; rintro e wn ⟨rfl, bn⟩; have BN : Hid (Below wa.heap.size wa wn) := hH.1.out.trans (bn.mono hH.1.out.size); have hzn : q < _ := Nat.lt_of_lt_of_le hz hH.1.out.size; have SN0 := (bn.cell (p := ⟨q, 0, none⟩) (by exact hzn)).trans hH.2.1; have SN1 := (bn.cell (p := ⟨q, 1, none⟩) (by exact hzn)).trans hH.2.2.1; have SN2 := (bn.cell (p := ⟨q, 2, none⟩) (by exact hzn)).trans hH.2.2.2.1; have SN3 := (bn.cell (p := ⟨b, o, none⟩) (by exact Nat.lt_of_lt_of_le hb hH.1.out.size)).trans hH.2.2.2.2
                (try go_wp2_with fail)
                refine hK.out _ _ ?_ (fun hH2 => ?_)
                · (try dsimp only); exact ⟨BN, SN0, SN1, SN2, SN3⟩
                clear hK K hH
                have hH := hH2
                clear hH2
                (try simp only [Act.put, List.setIfInBounds_toArray, List.set_cons_zero, List.set_cons_succ])
                refine wpAnyH_take (i := 16) (oi := ?_) (v := .int .i64 bs.2.2.1) ?_ (by kernel_rfl) (by kernel_rfl) (by kernel_rfl) ?_ ?_ (by assumption) ?_
                rotate_left
                · (simp only [List.getElem?_toArray, List.getElem?_cons_succ, List.getElem?_cons_zero]; rfl)
                · exact fun _ _ _ h => h
                · refine Or.inl ⟨by rfl, ?_⟩; (intro w hSw; (try dsimp only at hSw); go_simp; first | done | with_reducible rfl | rfl | kernel_rfl)
                (try simp only [Act.put, List.setIfInBounds_toArray, List.set_cons_zero, List.set_cons_succ])
                refine wpAnyH_take (i := 21) (oi := ?_) (v := ?_) ?_ (by kernel_rfl) (by kernel_rfl) (by kernel_rfl) ?_ ?_ (by assumption) ?_
                rotate_left
                rotate_left
                · (simp only [List.getElem?_toArray, List.getElem?_cons_succ, List.getElem?_cons_zero]; rfl)
                · exact fun _ _ _ h => h
                · refine Or.inl ⟨by rfl, ?_⟩; (intro w hSw; (try dsimp only at hSw); go_simp; first | done | with_reducible rfl)
                (try simp only [Act.put, List.setIfInBounds_toArray, List.set_cons_zero, List.set_cons_succ])
                refine wpAnyH_take (i := 22) (oi := ?_) (v := ?_) ?_ (by kernel_rfl) (by kernel_rfl) (by kernel_rfl) ?_ ?_ (by assumption) ?_
                rotate_left
                rotate_left
                · (simp only [List.getElem?_toArray, List.getElem?_cons_succ, List.getElem?_cons_zero]; rfl)
                · exact fun _ _ _ h => h
                · refine Or.inl ⟨by rfl, ?_⟩; (intro w hSw; (try dsimp only at hSw); go_simp; first | done | with_reducible rfl)
                (try simp only [Act.put, List.setIfInBounds_toArray, List.set_cons_zero, List.set_cons_succ])
                refine wpAnyH_take (i := 23) (oi := ?_) (v := ?_) ?_ (by kernel_rfl) (by kernel_rfl) (by kernel_rfl) ?_ ?_ (by assumption) ?_
                rotate_left
                rotate_left
                · (simp only [List.getElem?_toArray, List.getElem?_cons_succ, List.getElem?_cons_zero]; rfl)
                · exact fun _ _ _ h => h
                · refine Or.inl ⟨by rfl, ?_⟩; (intro w hSw; (try dsimp only at hSw); go_simp; first | done | with_reducible rfl)
                (try simp only [Act.put, List.setIfInBounds_toArray, List.set_cons_zero, List.set_cons_succ])
                refine wpAnyH_take (i := 24) (oi := ?_) (v := ?_) ?_ (by kernel_rfl) (by kernel_rfl) (by kernel_rfl) ?_ ?_ (by assumption) ?_
                rotate_left
                rotate_left
                · (simp only [List.getElem?_toArray, List.getElem?_cons_succ, List.getElem?_cons_zero]; rfl)
                · exact fun _ _ _ h => h
                · refine Or.inl ⟨by rfl, ?_⟩; (intro w hSw; (try dsimp only at hSw); go_simp; first | done | with_reducible rfl)
                (try simp only [Act.put, List.setIfInBounds_toArray, List.set_cons_zero, List.set_cons_succ])
                refine wpAnyH_done (by kernel_rfl) ?_ _
                have BZ := FIN.out _ hH.1.out
                clear hH
                go_wp2_with fail
                go_ret
                exact ⟨rfl, BZ⟩
end Go.Proofs.Ytfagldipjpaceaa

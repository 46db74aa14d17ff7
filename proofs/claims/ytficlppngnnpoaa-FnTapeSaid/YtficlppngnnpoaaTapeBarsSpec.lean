/- The walk of the specification's bars of trades. -/
import Derived.Test.YtficlppngnnpoaaTapeBarSpec
import Derived.Test.YtficlppngnnpoaaTapeBars
import Derived.Test.YtficlppngnnpoaaRowsMore
namespace Go.Proofs.Ytficlppngnnpoaa
open Go.RowKit
set_option linter.unusedVariables false
set_option linter.unusedSimpArgs false
theorem Td.fit_own {w : World} {base : Nat} {e : TypeId} {v : Value} {L : List Td.E} (h : Rk.Own Td.S w base e v L) : ∀ a n c, v = .slice a n c → n ≤ c := by
  obtain ⟨_, h1 | ⟨g, cap, cur, hv, _, _, hc, _⟩⟩ := h
  · intro a n c e
    rw [h1.1] at e
    cases e
    exact Nat.le_refl _
  · intro a n c e
    rw [hv] at e
    cases e
    exact hc
set_option maxRecDepth 100000 in
set_option maxHeartbeats 4000000 in
theorem barsOf_spec (v : Value) (L : List Td.E) (many : Int) (w : World) (hv : Rk.View Td.S w v L) (hfit : ∀ a n c, v = .slice a n c → n ≤ c) (hl : L.length ≤ 1048576) :
    Calls Try.prog 18 #[v, .int .i64 many] w fun e w' => (∃ u, e = .returned u ∧ Rk.Own Ba.S w' w.heap.size 35 u (Tp.barsAll L many)) ∧ Below w.heap.size w w' := by
  have HV := Fk.hide hv
  obtain ⟨a, cap, rfl, hs⟩ := hv
  have hcap : L.length ≤ cap := hfit _ _ _ rfl
  clear hfit
  obtain ⟨i0, hi, hz0, hz1, hz2⟩ := info_parts Ba.info
  have HB0 : Hid (Below w.heap.size w (w.alloc (.cells #[] 35))) := (Below.refl _ _).alloc (Nat.le_refl _) _
  have HN0 : Hid (Rk.Own Ba.S (w.alloc (.cells #[] 35)) w.heap.size 35 (.slice (some ⟨w.heap.size, 0, none⟩) 0 0) []) := Rk.own_empty w 35 w.heap.size (Nat.le_refl _)
  have HT : Hid (Calls Try.prog 48 #[.slice a L.length cap] (w.alloc (.cells #[] 35)) fun e w' => e = .returned (.bool (Tp.right L)) ∧ Below (w.alloc (.cells #[] 35)).heap.size (w.alloc (.cells #[] 35)) w') := l12Right_any _ L _ (HV.out.below HB0.out) hl
  obtain ⟨c, hc⟩ : ∃ c, c = Tp.right L := ⟨_, rfl⟩
  have HC := Fk.hide hc
  have HT2 := HT.out
  rw [← hc] at HT2
  have HTT := Fk.hide HT2
  clear hc HT HT2
  cases c with
  | false =>
    have HA : Hid (Tp.barsAll L many = []) := Tp.barsAll_no HC.out.symm
    go_enter Try.func18, Try.ntmps18
    go_wp2_with (go_at_call 48; refine HTT.out.mono ?_; rintro e W1 ⟨rfl, k1⟩)
    go_ret
    exact ⟨⟨_, rfl, by rw [HA.out]; exact HN0.out.below k1⟩, HB0.out.trans (k1.mono HB0.out.size)⟩
  | true =>
  obtain ⟨c1, hc1⟩ : ∃ c, c = Ev.inn many 1 100 := ⟨_, rfl⟩
  have HC1 := Fk.hide hc1
  have e0 : Ev.inn many 1 100 = c1 := hc1.symm
  clear hc1
  cases c1 with
  | false =>
    have HA : Hid (Tp.barsAll L many = []) := Tp.barsAll_no2 HC1.out.symm
    go_enter Try.func18, Try.ntmps18
    go_wp2_with (first | (go_at_call 48; refine HTT.out.mono ?_; rintro e W1 ⟨rfl, k1⟩) | (go_at_call 49; refine (l02Is_ev _ _ _ _).mono ?_; rintro e w' ⟨rfl, rfl⟩; rw [e0]))
    go_ret
    exact ⟨⟨_, rfl, by rw [HA.out]; exact HN0.out.below k1⟩, HB0.out.trans (k1.mono HB0.out.size)⟩
  | true =>
  have hmb : 1 ≤ many ∧ many ≤ 100 := by have := HC1.out.symm; simpa [Ev.inn] using this
  obtain ⟨m, rfl⟩ : ∃ m : Nat, many = (m : Int) := ⟨many.toNat, by omega⟩
  have HA : Hid (Tp.barsAll L m = Tp.bars L m (Tp.many L m)) := by show _ = _; rw [Tp.barsAll_yes HC.out.symm HC1.out.symm]; rfl
  have h1 : 1 ≤ m := by omega
  have h2 : m ≤ 100 := by omega
  have hl4 : L.length ≤ 400 := (Tp.right_inv HC.out.symm).1
  go_enter Try.func18, Try.ntmps18
  go_wp2_with (first | (go_at_call 48; refine HTT.out.mono ?_; rintro e W1 ⟨rfl, k1⟩; have HK1 : Hid (Below w.heap.size w W1) := HB0.out.trans (k1.mono HB0.out.size); have HN1 := Fk.hide (HN0.out.below k1); clear k1) | (go_at_call 49; refine (l02Is_ev _ _ _ _).mono ?_; rintro e w' ⟨rfl, rfl⟩; rw [e0]))
  clear e0
  go_loopw [5, 6] (fun out i wr => ∃ (k x : Nat) (ua : Option Addr) (un uc : Nat), out = .slice ua un uc ∧ i = .int .i64 x ∧ x ≤ 500 ∧ Hid (x = k * m) ∧ Hid (k ≤ Tp.many L m) ∧ Hid (Rk.Own Ba.S wr w.heap.size 35 (.slice ua un uc) (Tp.bars L m k)) ∧ Hid (Below w.heap.size w wr)) (fun _ i _ => L.length - (intOf i).toNat)
  case atStart => exact ⟨0, 0, _, _, _, rfl, rfl, by omega, by show 0 = 0 * m; omega, Nat.zero_le _, HN1.out, HK1.out⟩
  case round =>
    obtain ⟨k, x, ua, un, uc, rfl, rfl, hx5, HX, HKM, HO, BEL⟩ := hrel
    by_cases hlt : x < L.length
    · obtain ⟨b, o, rfl, hb, hs1⟩ := hs (by omega)
      obtain ⟨T, hT⟩ : ∃ T, T = (L.drop x).take m := ⟨_, rfl⟩
      have hTl : T.length = min m (L.length - x) := by rw [hT, List.length_take, List.length_drop]
      have hTR : Hid (Tp.right T = true) := by show _ = _; rw [hT]; exact Tp.right_part HC.out.symm x m
      have hmn : Tp.mn ((x : Int) + (m : Int)) (L.length : Int) = ((x + T.length : Nat) : Int) := by unfold Tp.mn; split <;> omega
      have HMN := Fk.hide hmn
      have HTP : Hid (Rk.Sees Td.S w b (o + x * 2) T) := by show Rk.Sees _ _ _ _ _; rw [hT]; exact Ck.piece hs1 x m hlt
      have HTL : Hid (0 < T.length ∧ x + T.length ≤ L.length) := ⟨by omega, by omega⟩
      obtain ⟨y, hy⟩ : ∃ y, y = x + T.length := ⟨_, rfl⟩
      have hyx : x ≤ y ∧ y ≤ L.length ∧ y - x = T.length := by omega
      obtain ⟨R, hR⟩ : ∃ R, R = Tp.bars L m k := ⟨_, rfl⟩
      have hRl : R.length = k := by rw [hR]; exact Tp.bars_length L m k
      have hk4 : k ≤ 400 := by have h9 := HX.out; have h7 : k ≤ k * m := Nat.le_mul_of_pos_right k (by omega); omega
      rw [← hR] at HO
      obtain rfl : un = R.length := by obtain ⟨x1, x2, hx⟩ := HO.out.slice; simp only [Value.slice.injEq] at hx; exact hx.2.1
      have HNEW : Hid (Tp.bars L m (k + 1) = R ++ [Tp.bar T]) := by show _ = _; rw [Tp.bars_succ, ← hR, hT, HX.out]
      have HKM2 : Hid (k + 1 ≤ Tp.many L m) := by have h9 := HX.out; exact Tp.many_lt (by omega) (by omega)
      have hsl : ∀ Z, (Instr.slice 23 (.slice (some ⟨b, o, none⟩) L.length cap) (some (.int .i64 x)) (some (.int .i64 y)) none).run Try.prog Z = .ok (.slice (some ⟨b, o + x * 2, none⟩) T.length (cap - x)) Z := fun Z => by
        rw [run_slice_lh Z 23 _ _ _ Try.underlying23 .i64 .i64 x y (by omega) (by omega) (by omega)]
        show ((sizeOf 37).run Try.prog Z).andThen _ = _
        rw [sizeTd]
        simp only [Result.andThen, sliced]
        have e1 : (y : Int).toNat = y := by omega
        have e2 : (x : Int).toNat = x := by omega
        rw [e1, e2, hyx.2.2, if_neg (by omega)]
        simp [Addr.add]
      have hRk : R.length ≤ 400 := by omega
      rw [← hy] at hmn
      have hK1 : ∀ w', Calls Try.prog 51 #[.int .i64 ((x : Int) + (m : Int)), .int .i64 (L.length : Int)] w' fun e w'' => e = .returned (.int .i64 (y : Int)) ∧ w'' = w' := fun w' => by rw [← hmn]; exact l01Min_tp _ _ _
      obtain ⟨g, hg⟩ : ∃ g, g = Tp.bar T := ⟨_, rfl⟩
      have HGB := Fk.hide hg
      have hK2 : Hid (∀ w', Below w.heap.size w w' → Calls Try.prog 50 #[.slice (some ⟨b, o + x * 2, none⟩) T.length (cap - x)] w' fun e w'' => e = .returned (.agg #[.int .i64 g.1, .int .i64 g.2.1, .int .i64 g.2.2.1, .int .i64 g.2.2.2.1, .int .i64 g.2.2.2.2]) ∧ Below w'.heap.size w' w'') := fun w' hb' => by
        rw [hg]
        exact l12Bar_any _ T w' ⟨_, _, rfl, fun _ => ⟨b, o + x * 2, rfl, Nat.lt_of_lt_of_le hb hb'.size, HTP.out.below hb hb'⟩⟩ hTR.out HTL.out.1
      clear hT hTl hmn hy hR hg hyx HTP HTL HMN hs1 hRl
      go_wp2_with (go_at_call 51; refine (hK1 _).mono ?_; rintro e w' ⟨rfl, rfl⟩)
      refine (hK2.out _ BEL.out).mono ?_
      rintro e w4 ⟨rfl, k4⟩
      have B4 : Below w.heap.size w w4 := BEL.out.trans (k4.mono BEL.out.size)
      have b5 : Below w4.heap.size w4 (w4.alloc (.cells #[.int .i64 g.1, .int .i64 g.2.1, .int .i64 g.2.2.1, .int .i64 g.2.2.2.1, .int .i64 g.2.2.2.2] 35)) := (Below.refl _ _).alloc (Nat.le_refl _) _
      have HB5 : Hid (Below w.heap.size w (w4.alloc (.cells #[.int .i64 g.1, .int .i64 g.2.1, .int .i64 g.2.2.1, .int .i64 g.2.2.2.1, .int .i64 g.2.2.2.2] 35))) := B4.trans (b5.mono B4.size)
      have HO5 := Fk.hide ((HO.out.below k4).below b5)
      have HV5 := Fk.hide (Rk.view_lit1 (S := Ba.S) w4 35 #[.int .i64 g.1, .int .i64 g.2.1, .int .i64 g.2.2.1, .int .i64 g.2.2.2.1, .int .i64 g.2.2.2.2] g rfl)
      have HNN : Hid (Tp.bars L m (k + 1) = R ++ [g]) := by show _ = _; rw [HNEW.out, HGB.out]
      clear k4 B4 b5 HO hK1 hsl HNEW
      go_wp2_with (at_builtin; refine Rk.wpList_append_view _ rfl _ _ 26 rfl w.heap.size 35 i0 _ 5 40 rfl Try.underlying26 hi hz0 hz1 hz2 rfl (by decide) (.slice ua R.length uc) (.slice (some ⟨w4.heap.size, 0, none⟩) 1 1) R [g] rfl rfl HO5.out HV5.out (Rk.shut_some _ _ _) (by simp <;> omega) HB5.out.size ?_; intro u6 w6 o6 g6; have HB6 : Hid (Below w.heap.size w w6) := HB5.out.grown g6 HB5.out.size (fun j hj => (HO5.out.lt j hj).1); obtain ⟨x6, n6, c6, rfl⟩ := o6.slice'; have HO6 : Hid (Rk.Own Ba.S w6 w.heap.size 35 (.slice x6 n6 c6) (Tp.bars L m (k + 1))) := (by show Rk.Own _ _ _ _ _ _; rw [HNN.out]; exact o6); clear o6 g6)
      go_roundw
      case rel =>
        refine ⟨k + 1, x + m, _, _, _, rfl, by go_num, by omega, ?_, HKM2.out, HO6.out, HB6.out⟩
        show x + m = (k + 1) * m
        rw [HX.out, Nat.succ_mul]
      case measure => simp [intOf]; omega
    · have HE : Hid (Rk.Own Ba.S wr w.heap.size 35 (.slice ua un uc) (Tp.barsAll L m)) := by
        show Rk.Own _ _ _ _ _ _
        have h9 := HX.out
        rw [HA.out, ← Tp.many_is (by omega) HKM.out (by omega)]
        exact HO.out
      have hge : (L.length : Int) ≤ (x : Int) := by omega
      clear HO
      go_wp2_with fail
      go_ret
      exact ⟨⟨_, rfl, HE.out⟩, BEL.out⟩
end Go.Proofs.Ytficlppngnnpoaa

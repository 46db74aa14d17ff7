/- The walk of the specification's trades of what was told. -/
import Derived.Test.YtficlppngnnpoaaTapeTrades
namespace Go.Proofs.Ytficlppngnnpoaa
open Go.RowKit
set_option linter.unusedVariables false
set_option linter.unusedSimpArgs false
set_option maxRecDepth 100000 in
set_option maxHeartbeats 4000000 in
theorem tradesOf_spec (v : Value) (L : List Vt.E) (w : World) (hv : Rk.View Vt.S w v L) (hl : L.length ≤ 1048576) :
    Calls Try.prog 21 #[v] w fun e w' => (∃ u, e = .returned u ∧ Rk.Own Td.S w' w.heap.size 37 u (Tt.tradesOf L)) ∧ Below w.heap.size w w' := by
  obtain ⟨a, cap, rfl, hs⟩ := hv
  obtain ⟨i0, hi, hz0, hz1, hz2⟩ := info_parts Td.info
  have HB0 : Hid (Below w.heap.size w (w.alloc (.cells #[] 37))) := (Below.refl _ _).alloc (Nat.le_refl _) _
  have HN0 : Hid (Rk.Own Td.S (w.alloc (.cells #[] 37)) w.heap.size 37 (.slice (some ⟨w.heap.size, 0, none⟩) 0 0) []) := Rk.own_empty w 37 w.heap.size (Nat.le_refl _)
  by_cases hbig : (400 : Int) < (L.length : Int)
  · have HA := Fk.hide (Tt.tradesOf_no (Tt.right_long hbig))
    go_enter Try.func21, Try.ntmps21
    go_wp2_with fail
    go_ret
    exact ⟨⟨_, rfl, by rw [HA.out]; exact HN0.out⟩, HB0.out⟩
  have h4 : (L.length : Int) ≤ 400 := by omega
  go_enter Try.func21, Try.ntmps21
  go_wp2_with fail
  go_loopw [3, 4] (fun out i wr => ∃ (k : Nat) (ua : Option Addr) (un uc : Nat), k ≤ L.length ∧ out = .slice ua un uc ∧ i = .int .i64 k ∧ Hid (∀ j, j < k → Tt.ok (Tt.at' L j) = true) ∧ Hid (Rk.Own Td.S wr w.heap.size 37 (.slice ua un uc) (Tt.trades (L.take k))) ∧ Hid (Below w.heap.size w wr)) (fun _ i _ => L.length - (intOf i).toNat)
  case atStart => exact ⟨0, _, _, _, Nat.zero_le _, rfl, rfl, fun j hj => absurd hj (by omega), HN0.out, HB0.out⟩
  case round =>
    obtain ⟨k, ua, un, uc, hk, rfl, rfl, HK, HO, BEL⟩ := hrel
    by_cases hlt : k < L.length
    · obtain ⟨b, o, rfl, hb, hs1⟩ := hs (by omega)
      have hs' := hs1.below hb BEL.out
      have q0 := Vt.c0 hs' hlt
      have q1 := Vt.c1 hs' hlt
      have q2 := Vt.c2 hs' hlt
      have q3 := Vt.c3 hs' hlt
      have q4 := Vt.c4 hs' hlt
      have hst := Tt.trades_take L k hlt
      unfold Tt.at' at hst
      have hRl : (Tt.trades (L.take k)).length ≤ 400 := by have := Tt.trades_len (L.take k); have := List.length_take_le k L; omega
      obtain ⟨R, hR⟩ : ∃ R, R = Tt.trades (L.take k) := ⟨_, rfl⟩
      rw [← hR] at HO hst hRl
      obtain rfl : un = R.length := by obtain ⟨x1, x2, hx⟩ := HO.out.slice; simp only [Value.slice.injEq] at hx; exact hx.2.1
      obtain ⟨f, hf⟩ : ∃ f, f = Rk.at_ Vt.S L k := ⟨_, rfl⟩
      have HF := Fk.hide hf
      rw [← hf] at q0 q1 q2 q3 q4 hst
      have HST := Fk.hide hst
      clear hf hs' hR hst
      obtain ⟨f0, f1, f2, f3, f4⟩ := f
      simp only at q0 q1 q2 q3 q4
      obtain ⟨c0, hc0⟩ : ∃ c, c = Tt.ok (f0, f1, f2, f3, f4) := ⟨_, rfl⟩
      have fb0 : ∀ w', Calls Try.prog 53 #[.agg #[.int .i64 f0, .int .i64 f1, .int .i64 f2, .int .i64 f3, .int .i64 f4]] w' fun e w'' => e = .returned (.bool c0) ∧ Below w'.heap.size w' w'' := fun w' => by rw [hc0]; exact eventRight_spec (Tt.ev (f0, f1, f2, f3, f4)) w'
      have HOK : Hid (Tt.ok (Tt.at' L k) = c0) := by show _ = _; unfold Tt.at'; rw [← HF.out, hc0]
      clear hc0
      go_wp2_with fail
      refine (fb0 _).mono ?_
      rintro e w2 ⟨rfl, k2⟩
      have HB2 : Hid (Below w.heap.size w w2) := BEL.out.trans (k2.mono BEL.out.size)
      have HO2 := Fk.hide (HO.out.below k2)
      clear fb0 q0 q1 q2 q3 q4
      cases c0 with
      | false =>
        have HA : Hid (Tt.tradesOf L = []) := Tt.tradesOf_ill (Tt.okAll_no hlt HOK.out)
        have HN2 : Hid (Rk.Own Td.S (w2.alloc (.cells #[] 37)) w.heap.size 37 (.slice (some ⟨w2.heap.size, 0, none⟩) 0 0) []) := Rk.own_empty w2 37 w.heap.size HB2.out.size
        go_wp2_with fail
        go_ret
        exact ⟨⟨_, rfl, by rw [HA.out]; exact HN2.out⟩, HB2.out.alloc HB2.out.size _⟩
      | true =>
      have hs2 := hs1.below hb HB2.out
      have q0 := Vt.c0 hs2 hlt
      have q3 := Vt.c3 hs2 hlt
      have q4 := Vt.c4 hs2 hlt
      rw [← HF.out] at q0 q3 q4
      simp only at q0 q3 q4
      have HKK : Hid (∀ j, j < k + 1 → Tt.ok (Tt.at' L j) = true) := fun j hj => by
        rcases Nat.lt_succ_iff_lt_or_eq.1 hj with h | rfl
        · exact HK.out j h
        · exact HOK.out
      clear hs2 HO k2
      by_cases h2 : f0 = 2
      · have HS2 : Hid (Tt.trades (L.take (k + 1)) = R ++ [(f3, f4)]) := by show _ = _; rw [HST.out]; simp [Tt.one, h2]
        subst h2
        have b5 : Below w2.heap.size w2 (w2.alloc (.cells #[.int .i64 f3, .int .i64 f4] 37)) := (Below.refl _ _).alloc (Nat.le_refl _) _
        have HB5 : Hid (Below w.heap.size w (w2.alloc (.cells #[.int .i64 f3, .int .i64 f4] 37))) := HB2.out.trans (b5.mono HB2.out.size)
        have HB5d : Hid (Below w.heap.size w (w2.alloc (.cells #[.int .i64 f3, .int .i64 f4] 37)).drew) := HB5.out.drew
        have HO5 := Fk.hide (HO2.out.below b5)
        have HV5 := Fk.hide (Rk.view_lit1 (S := Td.S) w2 37 #[.int .i64 f3, .int .i64 f4] (f3, f4) rfl)
        have hb2 : b < w2.heap.size := Nat.lt_of_lt_of_le hb HB2.out.size
        clear b5
        go_wp2_with fail
        go_region_held3 (fun w' => w'.cell? ⟨b, o + k * 5 + 3, none⟩ = some (.int .i64 f3) ∧ w'.cell? ⟨b, o + k * 5 + 4, none⟩ = some (.int .i64 f4))
          (first | go_keep | (go_split_ands; exact ⟨by assumption, by assumption⟩))
          (first | (refine Rk.step_append_view _ (by rfl) _ _ 23 (by rfl) w.heap.size 37 i0 _ 2 16 rfl Try.underlying23 hi hz0 hz1 hz2 (by rfl) (by decide) (.slice ua R.length uc) (.slice (some ⟨w2.heap.size, 0, none⟩) 1 1) R [(f3, f4)] (by rfl) (by rfl) HO5.out HV5.out (Rk.shut_some _ _ _) (by simp <;> omega) HB5.out.size ?_; intro u6 w6 o6 g6; have HB6 : Hid (Below w.heap.size w w6) := HB5d.out.grown g6 HB5d.out.size (fun j hj => (HO5.out.lt j hj).1); have x3 := (HB6.out.cell (p := ⟨b, o + k * 5 + 3, none⟩) hb).trans (Vt.c3 hs1 hlt); have x4 := (HB6.out.cell (p := ⟨b, o + k * 5 + 4, none⟩) hb).trans (Vt.c4 hs1 hlt); rw [← HF.out] at x3 x4; simp only at x3 x4; obtain ⟨x6, n6, c6, rfl⟩ := o6.slice'; have HO6 : Hid (Rk.Own Td.S w6 w.heap.size 37 (.slice x6 n6 c6) (Tt.trades (L.take (k + 1)))) := (by show Rk.Own _ _ _ _ _ _; rw [HS2.out]; exact o6); clear o6 g6))
        go_wp2_with fail
        go_roundw
        case rel => exact ⟨k + 1, _, _, _, by omega, rfl, by go_num, HKK.out, HO6.out, HB6.out⟩
        case measure => simp [intOf]; omega
      · have HS2 : Hid (Tt.trades (L.take (k + 1)) = R) := by show _ = _; rw [HST.out]; simp [Tt.one, h2]
        have d2 : decide (f0 = 2) = false := decide_eq_false h2
        have d3 : (f0 == 2) = false := by simpa using h2
        go_wp2_with fail
        go_roundw
        case rel => exact ⟨k + 1, _, _, _, by omega, rfl, by go_num, HKK.out, by rw [HS2.out]; exact HO2.out, HB2.out⟩
        case measure => simp [intOf]; omega
    · have e : k = L.length := by omega
      have HG : Hid (Rk.Own Td.S wr w.heap.size 37 (.slice ua un uc) (Tt.tradesOf L)) := by
        show Rk.Own _ _ _ _ _ _
        rw [Tt.tradesOf_yes h4 (Tt.okAll_yes fun i hi => HK.out i (by omega))]
        have := HO.out
        rwa [e, List.take_length] at this
      clear HO
      go_wp2_with fail
      go_ret
      exact ⟨⟨_, rfl, HG.out⟩, BEL.out⟩
end Go.Proofs.Ytficlppngnnpoaa

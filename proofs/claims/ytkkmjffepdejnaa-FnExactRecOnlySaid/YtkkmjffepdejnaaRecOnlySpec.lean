/- The walk of the specification's RecOnly. -/
import Derived.Test.YtkkmjffepdejnaaRecOnlyMath
import Derived.Test.YtkkmjffepdejnaaRecPickImpl
import Derived.Test.YtkkmjffepdejnaaRecRightSpec
namespace Go.Proofs.Ytkkmjffepdejnaa
open Go.RowKit
set_option linter.unusedVariables false
set_option linter.unusedSimpArgs false
namespace Rc
/-- what has been taken of a field, of which the first known numbers were asked -/
def half (L : List Fd.E) (T : List Int) (i k : Nat) : List Fd.E := pick (fun x => T.contains x) L i ++ (if (T.take k).contains (idAt L i) then [(idAt L i, textAt L i)] else [])
theorem half_none (L : List Fd.E) (T : List Int) (i : Nat) : half L T i 0 = pick (fun x => T.contains x) L i := by simp [half]
theorem half_all (L : List Fd.E) (T : List Int) {i : Nat} (hi : i < L.length) : half L T i T.length = pick (fun x => T.contains x) L (i + 1) := by
  rw [pick_next _ L hi]
  unfold half
  rw [List.take_length]
  by_cases h : T.contains (idAt L i) = true
  · rw [if_pos h, if_pos h]
  · rw [if_neg h, if_neg h, List.append_nil]
theorem take_more (T : List Int) {k : Nat} (hk : k < T.length) (x : Int) : (T.take (k + 1)).contains x = ((T.take k).contains x || decide (Ik.at_ T k = x)) := by
  have e : T.take (k + 1) = T.take k ++ [T[k]] := by rw [List.take_add_one, List.getElem?_eq_getElem hk]; rfl
  rw [e, Ri.at_get T k hk, Bool.eq_iff_iff, List.contains_iff_mem, Bool.or_eq_true, List.contains_iff_mem, decide_eq_true_eq, List.mem_append, List.mem_singleton]
  exact or_congr Iff.rfl ⟨Eq.symm, Eq.symm⟩
theorem half_hit {L : List Fd.E} {T : List Int} (hu : Ri.upAll T = true) {i k : Nat} (hk : k < T.length) (h : Ik.at_ T k = idAt L i) : half L T i k = pick (fun x => T.contains x) L i ∧ half L T i (k + 1) = half L T i k ++ [(idAt L i, textAt L i)] := by
  have h1 : (T.take k).contains (idAt L i) = false := by
    apply Ri.has_miss
    intro j hj e
    have hj' : j < k := by simp at hj; omega
    have e2 : Ik.at_ (T.take k) j = Ik.at_ T j := by
      rw [Ri.at_get _ _ hj, Ri.at_get T j (by omega), List.getElem_take]
    have := Ri.lt_of_up hu hj' hk
    rw [e2] at e
    omega
  have h2 : (T.take (k + 1)).contains (idAt L i) = true := by rw [take_more T hk, h1]; simp [h]
  have e1 : half L T i k = pick (fun x => T.contains x) L i := by unfold half; rw [h1]; simp
  refine ⟨e1, ?_⟩
  rw [e1]
  unfold half
  rw [h2]
  rfl
theorem half_miss {L : List Fd.E} {T : List Int} {i k : Nat} (hk : k < T.length) (h : Ik.at_ T k ≠ idAt L i) : half L T i (k + 1) = half L T i k := by
  unfold half
  rw [take_more T hk, decide_eq_false h, Bool.or_false]
theorem half_length (L : List Fd.E) (T : List Int) (i k : Nat) : (half L T i k).length ≤ L.length + 1 := by
  unfold half
  rw [List.length_append]
  have h1 := pick_length (fun x => T.contains x) L i
  have h2 : (if (T.take k).contains (idAt L i) then [(idAt L i, textAt L i)] else ([] : List Fd.E)).length ≤ 1 := by split <;> simp
  omega
/-- a record that the call itself makes, in a box of its own -/
def OutBox (W wr : World) (h : Nat) (K : Int) (e : TypeId) (M : List Fd.E) : Prop :=
  ∃ ua un uc, un = M.length ∧ wr.cell? ⟨h, 0, none⟩ = some (.int .i64 K) ∧ wr.cell? ⟨h, 1, none⟩ = some (.slice ua un uc) ∧ (∀ j, wr.frozen? ⟨h, j, none⟩ = false) ∧ Rk.Own Fd.S wr (h + 1) e (.slice ua un uc) M ∧ Below h W wr ∧ h + 1 ≤ wr.heap.size
theorem OutBox.below {W wr w' : World} {h : Nat} {K : Int} {e : TypeId} {M : List Fd.E} (x : OutBox W wr h K e M) (hB : Below wr.heap.size wr w') : OutBox W w' h K e M := by
  obtain ⟨ua, un, uc, hu, h1, h2, h3, h4, h5, h6⟩ := x
  exact ⟨ua, un, uc, hu, (hB.cell (by show h < _; omega)).trans h1, (hB.cell (by show h < _; omega)).trans h2, fun j => (hB.frozen (by show h < _; omega)).trans (h3 j), h4.below hB, h5.trans (hB.mono (by omega)), Nat.le_trans h6 hB.size⟩
theorem OutBox.store {W w8 : World} {h g c n : Nat} {K : Int} {e : TypeId} {M : List Fd.E} {u : Value} (h0 : n = M.length) (h1 : w8.cell? ⟨h, 0, none⟩ = some (.int .i64 K)) (h2 : w8.cell? ⟨h, 1, none⟩ = some u) (h3 : ∀ j, w8.frozen? ⟨h, j, none⟩ = false)
    (h4 : Rk.Own Fd.S w8 (h + 1) e (.slice (some ⟨g, 0, none⟩) n c) M) (h5 : Below h W w8) (h6 : h + 1 ≤ w8.heap.size) : OutBox W (w8.setCell ⟨h, 1, none⟩ (.slice (some ⟨g, 0, none⟩) n c)) h K e M := by
  refine ⟨_, _, _, h0, ?_, World.cell?_setCell_same _ _ _ h2, fun j => by rw [World.frozen?_setCell]; exact h3 j, ownsRow_setCell_below h4 (by show h < h + 1; omega) _, h5.setCell (by show h ≤ h; omega) _, by simpa using h6⟩
  rw [World.cell?_setCell_other _ _ _ _ (by simp)]
  exact h1
end Rc

set_option maxHeartbeats 8000000 in
theorem recOnly_spec (K : Int) (v vt : Value) (L : List Fd.E) (T : List Int) (w : World) (hv : Rk.View Fd.S w v L) (hL : ∀ f ∈ L, Fd.Fit f) (hl : L.length ≤ maxLen) (ht : Ik.View w vt T) (htl : T.length ≤ 1048576) :
    Calls Try.prog 28 #[.agg #[.int .i64 K, v], vt] w fun e w' => (∃ u, e = .returned (.agg #[.int .i64 (Rc.only K L T).1, u, .int .i64 0, .int .i64 (Rc.only K L T).2.2]) ∧ Rk.Own Fd.S w' w.heap.size 76 u (Rc.only K L T).2.1) ∧ Below w.heap.size w w' := by
  obtain ⟨i0, hi, hz0, hz1, hz2⟩ := info_parts infoField
  have hzs : (Value.agg #[.int .i64 0, .string ByteArray.empty]).cells.size = 2 := by kernel_rfl
  obtain ⟨W, hW⟩ : ∃ W, W = ((w.alloc (.cells #[.int .i64 K, v] 45)).alloc (.cells #[.int .i64 0, .slice none 0 0, .int .i64 0, .int .i64 0] 50)).alloc (.cells #[.int .i64 K, .slice none 0 0] 45) := ⟨_, rfl⟩
  have b0 : Below w.heap.size w W := by
    rw [hW]
    repeat (first | exact Below.refl _ _ | refine Below.alloc ?_ (by simp <;> omega) _)
  have hsz : W.heap.size = w.heap.size + 1 + 1 + 1 := by rw [hW]; simp
  have c0 : W.cell? ⟨w.heap.size, 0, none⟩ = some (.int .i64 K) := by rw [hW, Fk.cellOld _ _ _ _ (by simp <;> omega), Fk.cellOld _ _ _ _ (by simp <;> omega), Fk.cellTop _ _ _ _ _ rfl]; rfl
  have c1 : W.cell? ⟨w.heap.size, 1, none⟩ = some v := by rw [hW, Fk.cellOld _ _ _ _ (by simp <;> omega), Fk.cellOld _ _ _ _ (by simp <;> omega), Fk.cellTop _ _ _ _ _ rfl]; rfl
  have d0 : W.cell? ⟨w.heap.size + 1, 0, none⟩ = some (.int .i64 0) := by rw [hW, Fk.cellOld _ _ _ _ (by simp <;> omega), Fk.cellTop _ _ _ _ _ (by simp)]; rfl
  have d1 : W.cell? ⟨w.heap.size + 1, 1, none⟩ = some (.slice none 0 0) := by rw [hW, Fk.cellOld _ _ _ _ (by simp <;> omega), Fk.cellTop _ _ _ _ _ (by simp)]; rfl
  have d2 : W.cell? ⟨w.heap.size + 1, 2, none⟩ = some (.int .i64 0) := by rw [hW, Fk.cellOld _ _ _ _ (by simp <;> omega), Fk.cellTop _ _ _ _ _ (by simp)]; rfl
  have d3 : W.cell? ⟨w.heap.size + 1, 3, none⟩ = some (.int .i64 0) := by rw [hW, Fk.cellOld _ _ _ _ (by simp <;> omega), Fk.cellTop _ _ _ _ _ (by simp)]; rfl
  have df : ∀ j, W.frozen? ⟨w.heap.size + 1, j, none⟩ = false := fun j => by rw [hW, Fk.frozOld _ _ _ _ (by simp <;> omega), Fk.frozTop _ _ _ _ _ (by simp)]
  have o0 : W.cell? ⟨w.heap.size + 1 + 1, 0, none⟩ = some (.int .i64 K) := by rw [hW, Fk.cellTop _ _ _ _ _ (by simp)]; rfl
  have o1 : W.cell? ⟨w.heap.size + 1 + 1, 1, none⟩ = some (.slice none 0 0) := by rw [hW, Fk.cellTop _ _ _ _ _ (by simp)]; rfl
  have of : ∀ j, W.frozen? ⟨w.heap.size + 1 + 1, j, none⟩ = false := fun j => by rw [hW, Fk.frozTop _ _ _ _ _ (by simp)]
  have HV := Fk.hide (hv.below b0)
  have HT := Fk.hide (ht.below b0)
  have HV0 := Fk.hide hv
  have HT0 := Fk.hide ht
  obtain ⟨a, cap, rfl, _⟩ := hv
  obtain ⟨ta, tcap, rfl, _⟩ := ht
  have HW := Fk.hide hW
  have HB0 := Fk.hide b0
  clear hW b0
  by_cases hbig : 400 < T.length
  · have HE : Hid (Rc.only K L T = (0, [], 2)) := Rc.only_size hbig
    have hb1 : (400 : Int) < (T.length : Int) := by omega
    go_enter Try.func28, Try.ntmps28
    go_wp2_with fail
    exact bodyPost_ret (v := .agg #[.int .i64 0, .slice none 0 0, .int .i64 0, .int .i64 2]) (by simp [results, Try.results28, go_sem] <;> rfl) rfl ⟨⟨_, by rw [HE.out], by rw [HE.out]; exact Rk.own_nil _ _ _⟩, by repeat (first | exact Below.refl _ _ | refine Below.alloc ?_ (by simp <;> omega) _)⟩
  · have hb1 : ¬ (400 : Int) < (T.length : Int) := by omega
    obtain ⟨ta', tcap', hteq, hts⟩ := HT.out
    simp only [Value.slice.injEq] at hteq
    obtain ⟨rfl, _, rfl⟩ := hteq
    go_enter Try.func28, Try.ntmps28
    go_wp2_with fail
    rw [← HW.out]
    go_loopw [6] (fun i wr => ∃ k : Nat, 1 ≤ k ∧ (k ≤ T.length ∨ k = 1) ∧ i = .int .i64 k ∧ Hid (∀ j, j < k → Ri.up T j = true) ∧ Hid (Below W.heap.size W wr)) (fun i _ => T.length - (intOf i).toNat)
    case atStart => exact ⟨1, Nat.le_refl _, .inr rfl, rfl, (fun j hj => by have e : j = 0 := by omega
                                                                            subst e; rfl), Below.refl _ _⟩
    case round =>
      obtain ⟨k, hk1, hk, rfl, HK, bel⟩ := hrel
      by_cases hlt : k < T.length
      · obtain ⟨b, o, rfl, hb, hs1⟩ := hts (by omega)
        have q0 : wr.cell? ⟨b, o + k, none⟩ = some (.int .i64 (Ik.at_ T k)) := (bel.out.cell (by exact hb)).trans (hs1 k hlt)
        have p0 : wr.cell? ⟨b, o + (k - 1), none⟩ = some (.int .i64 (Ik.at_ T (k - 1))) := (bel.out.cell (by exact hb)).trans (hs1 (k - 1) (by omega))
        have hu : Ri.up T k = decide (Ik.at_ T (k - 1) < Ik.at_ T k) := by
          have : ¬ k = 0 := by omega
          simp [Ri.up, this]
        obtain ⟨f, hf⟩ : ∃ f, f = Ik.at_ T k := ⟨_, rfl⟩
        obtain ⟨g, hg⟩ : ∃ g, g = Ik.at_ T (k - 1) := ⟨_, rfl⟩
        rw [← hf] at q0 hu
        rw [← hg] at p0 hu
        have HU := Fk.hide hu
        clear hu hf hg hs1
        have k2 : ((k : Int) - 1).toNat = k - 1 := by omega
        have k3 : (0 : Int) ≤ (k : Int) - 1 := by omega
        have k4 : (k : Int) - 1 < (T.length : Int) := by omega
        have r0 := cell_regrown q0
        have r2 := cell_regrown p0
        by_cases hup : g < f
        · have HD : Hid (Ri.up T k = true) := by show _ = _; rw [HU.out]; exact decide_eq_true hup
          have hd : decide (f ≤ g) = false := decide_eq_false (by omega)
          go_wp2_with fail
          refine wp_region_quiet_below (by kernel_rfl) (by kernel_rfl) ?_
          repeat (go_big_quiet_step (fail))
          refine wpQuiet_nil ?_
          intro w4 hw'
          obtain ⟨⟨dq, osq⟩, hw''⟩ := hw'
          have b4 : Hid (Below W.heap.size W w4) := by show Below _ _ _; rw [hw'']; exact bel.out.trans ((below_regrown wr dq osq).mono bel.out.size)
          clear hw'' r0 r2 q0 p0 hts
          go_wp2_with fail
          go_roundw
          case rel =>
            refine ⟨k + 1, by omega, .inl (by omega), by go_num, (fun j hj => ?_), b4.out⟩
            by_cases e : j = k
            · rw [e]; exact HD.out
            · exact HK.out j (by omega)
          case measure => simp [intOf]; omega
        · have HD : Hid (Ri.upAll T = false) := Ri.upAll_at hlt (by rw [HU.out]; exact decide_eq_false hup)
          have hd : decide (f ≤ g) = true := decide_eq_true (by omega)
          have HE : Hid (Rc.only K L T = (0, [], 1)) := Rc.only_ill hbig (by rw [HD.out]; simp)
          go_wp2_with fail
          refine wp_region_quiet_below (by kernel_rfl) (by kernel_rfl) ?_
          repeat (go_big_quiet_step (fail))
          refine wpQuiet_nil ?_
          intro w4 hw'
          obtain ⟨⟨dq, osq⟩, hw''⟩ := hw'
          have b4 : Below W.heap.size W w4 := by rw [hw'']; exact bel.out.trans ((below_regrown wr dq osq).mono bel.out.size)
          have f0 := (b4.cell (p := ⟨w.heap.size + 1, 0, none⟩) (by show w.heap.size + 1 < _; omega)).trans d0
          have f1 := (b4.cell (p := ⟨w.heap.size + 1, 1, none⟩) (by show w.heap.size + 1 < _; omega)).trans d1
          have f2 := (b4.cell (p := ⟨w.heap.size + 1, 2, none⟩) (by show w.heap.size + 1 < _; omega)).trans d2
          have f3 := (b4.cell (p := ⟨w.heap.size + 1, 3, none⟩) (by show w.heap.size + 1 < _; omega)).trans d3
          have ff : ∀ j, w4.frozen? ⟨w.heap.size + 1, j, none⟩ = false := fun j => (b4.frozen (by show w.heap.size + 1 < _; omega)).trans (df j)
          have B4 := Fk.hide (HB0.out.trans (b4.mono HB0.out.size))
          clear hw'' r0 r2 q0 p0 hts b4 c0 c1 d0 d1 d2 d3 df o0 o1 of
          go_wp2_with fail
          refine bodyPost_ret (v := .agg #[.int .i64 0, .slice none 0 0, .int .i64 0, .int .i64 1]) (by simp [results, Try.results28, go_sem, f0, f1, f2, f3] <;> rfl) rfl ⟨⟨_, by rw [HE.out], by rw [HE.out]; exact Rk.own_nil _ _ _⟩, ?_⟩
          have b9 := B4.out
          repeat (first | exact b9 | refine Below.setCell ?_ (by simp <;> omega) _)
      · have HU : Hid (Ri.upAll T = true) := Ri.upAll_yes (fun i hi => HK.out i (by omega))
        have e0 := (bel.out.cell (p := ⟨w.heap.size, 0, none⟩) (by show w.heap.size < _; omega)).trans c0
        have e1 := (bel.out.cell (p := ⟨w.heap.size, 1, none⟩) (by show w.heap.size < _; omega)).trans c1
        go_wp2_with fail
        refine (recRight_spec K _ L _ (HV.out.below bel.out) hL hl).mono ?_
        rintro e w1 ⟨rfl, b1'⟩
        have b1 : Below W.heap.size W w1 := bel.out.trans (b1'.mono bel.out.size)
        clear e0 e1 b1' bel
        obtain ⟨rb, hrb⟩ : ∃ rb, rb = Rc.right K L := ⟨_, rfl⟩
        have HR := Fk.hide hrb
        rw [← hrb]
        clear hrb
        have f0 := (b1.cell (p := ⟨w.heap.size + 1, 0, none⟩) (by show w.heap.size + 1 < _; omega)).trans d0
        have f1 := (b1.cell (p := ⟨w.heap.size + 1, 1, none⟩) (by show w.heap.size + 1 < _; omega)).trans d1
        have f2 := (b1.cell (p := ⟨w.heap.size + 1, 2, none⟩) (by show w.heap.size + 1 < _; omega)).trans d2
        have f3 := (b1.cell (p := ⟨w.heap.size + 1, 3, none⟩) (by show w.heap.size + 1 < _; omega)).trans d3
        have ff : ∀ j, w1.frozen? ⟨w.heap.size + 1, j, none⟩ = false := fun j => (b1.frozen (by show w.heap.size + 1 < _; omega)).trans (df j)
        cases rb with
        | false =>
          have HE : Hid (Rc.only K L T = (0, [], 1)) := Rc.only_ill hbig (by rw [← HR.out]; rfl)
          have B4 := Fk.hide (HB0.out.trans (b1.mono HB0.out.size))
          clear hts b1 c0 c1 d0 d1 d2 d3 df o0 o1 of
          go_wp2_with fail
          refine bodyPost_ret (v := .agg #[.int .i64 0, .slice none 0 0, .int .i64 0, .int .i64 1]) (by simp [results, Try.results28, go_sem, f0, f1, f2, f3] <;> rfl) rfl ⟨⟨_, by rw [HE.out], by rw [HE.out]; exact Rk.own_nil _ _ _⟩, ?_⟩
          have b9 := B4.out
          repeat (first | exact b9 | refine Below.setCell ?_ (by simp <;> omega) _)
        | true =>
          have HE : Hid (Rc.only K L T = (K, L.filter (fun f => T.contains f.1), 0)) := Rc.only_ok hbig HR.out.symm HU.out
          have h30 : L.length ≤ 30 := (Rc.right_inv HR.out.symm).1.2.2
          clear f0 f1 f2 f3 ff
          have HB1 := Fk.hide b1
          have HO1 := Fk.hide (⟨(b1.cell (p := ⟨w.heap.size + 1 + 1, 0, none⟩) (by show w.heap.size + 1 + 1 < _; omega)).trans o0, (b1.cell (p := ⟨w.heap.size + 1 + 1, 1, none⟩) (by show w.heap.size + 1 + 1 < _; omega)).trans o1, fun j => (b1.frozen (p := ⟨w.heap.size + 1 + 1, j, none⟩) (by show w.heap.size + 1 + 1 < _; omega)).trans (of j)⟩ : _ ∧ _ ∧ ∀ j, _)
          have HOB : Hid (Rc.OutBox W w1 (w.heap.size + 1 + 1) K 76 []) := ⟨none, 0, 0, rfl, HO1.out.1, HO1.out.2.1, HO1.out.2.2, Rk.own_nil _ _ _, HB1.out.mono (by omega), by have := HB1.out.size; omega⟩
          obtain ⟨a', cap', hveq, hs⟩ := HV0.out
          simp only [Value.slice.injEq] at hveq
          obtain ⟨rfl, _, rfl⟩ := hveq
          clear b1 o0 o1 of hts
          obtain ⟨ta', tcap', hteq, hts⟩ := HT0.out
          simp only [Value.slice.injEq] at hteq
          obtain ⟨rfl, _, rfl⟩ := hteq
          go_wp2_with fail
          go_loopw [7] (fun i wr => ∃ n : Nat, n ≤ L.length ∧ i = .int .i64 n ∧ Hid (Rc.OutBox W wr (w.heap.size + 1 + 1) K 76 (Rc.pick (fun x => T.contains x) L n))) (fun i _ => L.length - (intOf i).toNat)
          case atStart => exact ⟨0, Nat.zero_le _, rfl, HOB.out⟩
          case round =>
            obtain ⟨n, hn, rfl, HX⟩ := hrel
            obtain ⟨ua, un, uc, hun, m0, m1, mf, mo, belh, hszr⟩ := HX.out
            have q1 : wr.cell? ⟨w.heap.size, 1, none⟩ = some (.slice a L.length cap) := (belh.cell (by show w.heap.size < _; omega)).trans c1
            by_cases hln : n < L.length
            · have HX0 : Hid (Rc.OutBox W wr (w.heap.size + 1 + 1) K 76 (Rc.half L T n 0)) := by show Rc.OutBox _ _ _ _ _ _; rw [Rc.half_none]; exact HX.out
              clear belh m0 m1 mf mo hun
              go_wp2_with fail
              clear q1
              go_loopw [8] (fun j ws => ∃ k : Nat, k ≤ T.length ∧ j = .int .i64 k ∧ Hid (Rc.OutBox W ws (w.heap.size + 1 + 1) K 76 (Rc.half L T n k))) (fun j _ => T.length - (intOf j).toNat)
              case atStart => exact ⟨0, Nat.zero_le _, rfl, HX0.out⟩
              case round =>
                obtain ⟨k, hk, rfl, HY⟩ := hrel
                obtain ⟨ua, un, uc, hun, m0, m1, mf, mo, belh, hszr⟩ := HY.out
                have hun2 : un ≤ 31 := by rw [hun]; have := Rc.half_length L T n k; omega
                have HUN := Fk.hide hun
                clear hun
                have q1 : wr.cell? ⟨w.heap.size, 1, none⟩ = some (.slice a L.length cap) := (belh.cell (by show w.heap.size < _; omega)).trans c1
                have BW : Below w.heap.size w wr := HB0.out.trans (belh.mono (by omega))
                by_cases hkt : k < T.length
                · obtain ⟨tb, tq, rfl, htb, hts1⟩ := hts (by omega)
                  obtain ⟨b, o, rfl, hb, hs1⟩ := hs (by omega)
                  have x0 := Fd.c0 (hs1.below hb BW) hln
                  have x1 := Fd.c1 (hs1.below hb BW) hln
                  have y0 : wr.cell? ⟨tb, tq + k, none⟩ = some (.int .i64 (Ik.at_ T k)) := (BW.cell (by exact htb)).trans (hts1 k hkt)
                  change wr.cell? _ = some (.int .i64 (Rc.idAt L n)) at x0
                  change wr.cell? _ = some (.string (Rc.textAt L n)) at x1
                  have hhit := Fk.hide (Rc.half_hit (L := L) HU.out (i := n) hkt)
                  have hmiss := Fk.hide (Rc.half_miss (L := L) (T := T) (i := n) hkt)
                  have xw0 := Fd.c0 hs1 hln
                  have xw1 := Fd.c1 hs1 hln
                  change w.cell? _ = some (.int .i64 (Rc.idAt L n)) at xw0
                  change w.cell? _ = some (.string (Rc.textAt L n)) at xw1
                  obtain ⟨i, hi'⟩ : ∃ i, i = Rc.idAt L n := ⟨_, rfl⟩
                  obtain ⟨t, ht'⟩ : ∃ t, t = Rc.textAt L n := ⟨_, rfl⟩
                  obtain ⟨g, hg'⟩ : ∃ g, g = Ik.at_ T k := ⟨_, rfl⟩
                  rw [← hi'] at x0 xw0 hhit hmiss
                  rw [← ht'] at x1 xw1 hhit
                  have HX4 := Fk.hide (⟨xw0, xw1⟩ : _ ∧ _)
                  clear xw0 xw1
                  rw [← hg'] at y0 hhit hmiss
                  clear hi' ht' hg' hs1 hts1 hts hs
                  have r0 := cell_regrown q1
                  have r1 := cell_regrown x0
                  have r2 := cell_regrown y0
                  have k3 : (0 : Int) ≤ (k : Int) := Int.natCast_nonneg _
                  have k4 : (k : Int) < (T.length : Int) := by omega
                  have n3 : (0 : Int) ≤ (n : Int) := Int.natCast_nonneg _
                  have n4 : (n : Int) < (L.length : Int) := by omega
                  by_cases he : g = i
                  · have he' : (g == i) = true := by simpa using he
                    have HH := Fk.hide (hhit.out he)
                    clear he hhit hmiss
                    go_wp2_with fail
                    refine wp_region_quiet_below (by kernel_rfl) (by kernel_rfl) ?_
                    repeat (go_big_quiet_step (fail))
                    refine wpQuiet_nil ?_
                    intro w4 hw'
                    obtain ⟨⟨dq, osq⟩, hw''⟩ := hw'
                    have b4 : Below wr.heap.size wr w4 := by rw [hw'']; exact below_regrown wr dq osq
                    have HZ := Fk.hide (HY.out.below b4)
                    have z1 : w4.cell? ⟨w.heap.size, 1, none⟩ = some (.slice (some ⟨b, o, none⟩) L.length cap) := (b4.cell (by show w.heap.size < _; omega)).trans q1
                    have z2 : w4.cell? ⟨b, o + n * 2, none⟩ = some (.int .i64 i) := (b4.cell (World.block_lt_of_cell? wr _ x0)).trans x0
                    have z3 : w4.cell? ⟨b, o + n * 2 + 1, none⟩ = some (.string t) := (b4.cell (World.block_lt_of_cell? wr _ x1)).trans x1
                    clear hw'' r0 r1 r2 x0 x1 y0 q1 b4 m0 m1 mf mo belh BW
                    obtain ⟨va, vn, vc, hvn, m0, m1, mf, mo, belh, hszr⟩ := HZ.out
                    have hvn2 : vn ≤ 31 := by rw [hvn]; have := Rc.half_length L T n k; omega
                    have HVN := Fk.hide hvn
                    clear hvn
                    have NX : Hid ((w4.drew.alloc (.cells #[.int .i64 i, .string t] 76)).ownsRow (w.heap.size + 1 + 1 + 1) 76 2 (.slice va vn vc) vn (Rk.flat Fd.S (Rc.half L T n k)) ∧ Below (w.heap.size + 1 + 1) W (w4.drew.alloc (.cells #[.int .i64 i, .string t] 76)) ∧ w.heap.size + 1 + 1 + 1 ≤ (w4.drew.alloc (.cells #[.int .i64 i, .string t] 76)).heap.size) := by
                      have b7 : Below w4.heap.size w4 (w4.drew.alloc (.cells #[.int .i64 i, .string t] 76)) := (Below.drew (Below.refl _ _)).alloc (Nat.le_refl _) _
                      have O7 := mo.below b7
                      refine ⟨?_, belh.trans (b7.mono (by omega)), by have := b7.size; omega⟩
                      unfold Rk.Own at O7
                      rw [← HVN.out] at O7
                      exact O7
                    have HNE : Hid (some (w.heap.size + 1 + 1) ≠ (Value.slice va vn vc).ownBlock) := fun h => by have := (mo.lt _ h.symm).1; omega
                    have HM0 := Fk.hide (⟨m0, m1, mf⟩ : _ ∧ _ ∧ ∀ j, _)
                    have hz4 : w.heap.size + 1 + 1 < w4.heap.size := by omega
                    clear mo belh m0 mf
                    have hne1 := World.new_ne w4 _ z1
                    have hne2 := World.new_ne w4 _ z2
                    have hne3 := World.new_ne w4 _ z3
                    have hne4 := World.new_ne w4 _ m1
                    go_wp2_with fail
                    set_option maxRecDepth 20000 in
                    go_region_law
                      (first
                        | (refine step_append_lies _ (by rfl) _ _ _ (by rfl) (w.heap.size + 1 + 1 + 1) 76 i0 _ 2 24 Try.underlying43 hi hz0 hz1 hz2 hzs (by decide) (.slice va vn vc) vn (Rk.flat Fd.S (Rc.half L T n k)) (by rfl) NX.out.1 ⟨w4.heap.size, 0, none⟩ 1 1 [.int .i64 i, .string t] (by rfl) (by rfl) (World.news_of_block (cs := #[.int .i64 i, .string t]) (t := 76) (fr := (0, 0)) (heap_alloc_new w4.drew _)) (by simp [Value.oneCell']) (by omega) (by unfold maxLen; omega) (by omega) NX.out.2.2 (w4.heap.size + 1) (by simp) ?_; intro gg cc w8 o8 g8 hat hlt8; have B8 := NX.out.2.1.grown g8 (Nat.le_of_succ_le NX.out.2.2) (fun j hj => by have := (World.ownsRow.lt NX.out.1 j hj).1; omega); have u1 : w8.cell? ⟨w.heap.size, 1, none⟩ = some (.slice (some ⟨b, o, none⟩) L.length cap) := (B8.cell (by show w.heap.size < _; omega)).trans c1; have bw8 : Below w.heap.size w w8 := HB0.out.trans (B8.mono (by omega)); have u2 : w8.cell? ⟨b, o + n * 2, none⟩ = some (.int .i64 i) := (bw8.cell (by exact hb)).trans HX4.out.1; have u3 : w8.cell? ⟨b, o + n * 2 + 1, none⟩ = some (.string t) := (bw8.cell (by exact hb)).trans HX4.out.2; have u4 : w8.cell? ⟨w.heap.size + 1 + 1, 1, none⟩ = some (.slice va vn vc) := (g8.cell_far ⟨w.heap.size + 1 + 1, 1, none⟩ (Nat.lt_of_lt_of_le (Nat.lt_succ_self _) NX.out.2.2) HNE.out).trans ((Fk.cellOld _ _ _ _ hz4).trans HM0.out.2.1); have uf : w8.frozen? ⟨w.heap.size + 1 + 1, 1, none⟩ = false := (g8.frozen_far ⟨w.heap.size + 1 + 1, 1, none⟩ (Nat.lt_of_lt_of_le (Nat.lt_succ_self _) NX.out.2.2) HNE.out).trans ((Fk.frozOld _ _ _ _ hz4).trans (HM0.out.2.2 1)); have HB8 := Fk.hide B8; have HO8 := Fk.hide o8; have HG8 := Fk.hide g8; clear bw8 B8 o8 g8 hat))
                    all_goals
                      have HV8 : Hid (w8.cell? ⟨w.heap.size + 1 + 1, 0, none⟩ = some (.int .i64 K) ∧ ∀ j, w8.frozen? ⟨w.heap.size + 1 + 1, j, none⟩ = false) := ⟨(HG8.out.cell_far ⟨w.heap.size + 1 + 1, 0, none⟩ (Nat.lt_of_lt_of_le (Nat.lt_succ_self _) NX.out.2.2) HNE.out).trans ((Fk.cellOld _ _ _ _ hz4).trans HM0.out.1), fun j => (HG8.out.frozen_far ⟨w.heap.size + 1 + 1, j, none⟩ (Nat.lt_of_lt_of_le (Nat.lt_succ_self _) NX.out.2.2) HNE.out).trans ((Fk.frozOld _ _ _ _ hz4).trans (HM0.out.2.2 j))⟩
                      have HS8 : Hid (w.heap.size + 1 + 1 + 1 ≤ w8.heap.size) := Nat.le_trans NX.out.2.2 HG8.out.size
                      have HU4 := Fk.hide u4
                      have HOW : Hid (Rk.Own Fd.S w8 (w.heap.size + 1 + 1 + 1) 76 (.slice (some ⟨gg, 0, none⟩) (vn + 1) cc) (Rc.half L T n (k + 1))) := by
                        show Rk.Own _ _ _ _ _ _
                        unfold Rk.Own
                        rw [HH.out.2, Rk.flat_append, List.length_append, ← HVN.out]
                        exact HO8.out
                      have HLN : Hid (vn + 1 = (Rc.half L T n (k + 1)).length) := by show _ = _; rw [HH.out.2, List.length_append, ← HVN.out]; rfl
                      clear u1 u2 u3 u4 uf z1 z2 z3 m1
                      go_wp2_with fail
                      go_roundw
                      case rel => exact ⟨k + 1, by omega, by go_num, Rc.OutBox.store HLN.out HV8.out.1 HU4.out HV8.out.2 HOW.out HB8.out HS8.out⟩
                      case measure => simp [intOf]; omega
                  · have he' : (g == i) = false := by simpa using he
                    have HM := Fk.hide (hmiss.out he)
                    clear he hhit hmiss
                    go_wp2_with fail
                    refine wp_region_quiet_below (by kernel_rfl) (by kernel_rfl) ?_
                    repeat (go_big_quiet_step (fail))
                    refine wpQuiet_nil ?_
                    intro w4 hw'
                    obtain ⟨⟨dq, osq⟩, hw''⟩ := hw'
                    have b4 : Below wr.heap.size wr w4 := by rw [hw'']; exact below_regrown wr dq osq
                    have HZ := Fk.hide (HY.out.below b4)
                    clear hw'' r0 r1 r2 x0 x1 y0 q1 b4 m0 m1 mf mo belh BW
                    go_wp2_with fail
                    go_roundw
                    case rel => exact ⟨k + 1, by omega, by go_num, by show Rc.OutBox _ _ _ _ _ _; rw [HM.out]; exact HZ.out⟩
                    case measure => simp [intOf]; omega
                · have e : k = T.length := by omega
                  subst e
                  have HZ : Hid (Rc.OutBox W wr (w.heap.size + 1 + 1) K 76 (Rc.pick (fun x => T.contains x) L (n + 1))) := by show Rc.OutBox _ _ _ _ _ _; rw [← Rc.half_all L T hln]; exact HY.out
                  clear m0 m1 mf mo belh BW hs hts q1
                  go_wp2_with fail
                  go_roundw
                  case rel => exact ⟨n + 1, by omega, by go_num, HZ.out⟩
                  case measure => simp [intOf]; omega
            · have e : n = L.length := by omega
              subst e
              have f0 := (belh.cell (p := ⟨w.heap.size + 1, 0, none⟩) (by show w.heap.size + 1 < _; omega)).trans d0
              have f1 := (belh.cell (p := ⟨w.heap.size + 1, 1, none⟩) (by show w.heap.size + 1 < _; omega)).trans d1
              have f2 := (belh.cell (p := ⟨w.heap.size + 1, 2, none⟩) (by show w.heap.size + 1 < _; omega)).trans d2
              have f3 := (belh.cell (p := ⟨w.heap.size + 1, 3, none⟩) (by show w.heap.size + 1 < _; omega)).trans d3
              have ff : ∀ j, wr.frozen? ⟨w.heap.size + 1, j, none⟩ = false := fun j => (belh.frozen (by show w.heap.size + 1 < _; omega)).trans (df j)
              have B9 := Fk.hide (HB0.out.trans (belh.mono (by omega : w.heap.size ≤ w.heap.size + 1 + 1)))
              have O9 := Fk.hide mo
              clear belh mo hts hs c0 c1 d0 d1 d2 d3 df hun
              go_wp2_with fail
              refine bodyPost_ret (v := .agg #[.int .i64 K, .slice ua un uc, .int .i64 0, .int .i64 0]) (by simp [results, Try.results28, go_sem, f0, f1, f2, f3] <;> rfl) rfl ⟨⟨.slice ua un uc, by rw [HE.out], ?_⟩, ?_⟩
              · rw [HE.out]
                refine Rk.Own.mono ?_ (by omega : w.heap.size ≤ w.heap.size + 1 + 1 + 1)
                have o9 := O9.out
                rw [Rc.pick_all] at o9
                repeat (first | exact o9 | refine ownsRow_setCell_below ?_ (by show w.heap.size + 1 < _; omega) _)
              · have b9 := B9.out
                repeat (first | exact b9 | refine Below.setCell ?_ (by simp <;> omega) _)
end Go.Proofs.Ytkkmjffepdejnaa

/- The walk of the specification's FsCrash. -/
import Derived.Test.YtojdfdlbdpdlkaaGreatDoorJoined29
import Derived.Test.YtojdfdlbdpdlkaaGreatDoorFsRightSpec
import Derived.Test.YtojdfdlbdpdlkaaGreatDoorJoined5
namespace Go.Proofs.YtojdfdlbdpdlkaaGreatDoor
open Go.RowKit
set_option linter.unusedVariables false
set_option linter.unusedSimpArgs false

theorem l01Min_crash (x y : Int) (w : World) : Calls Tryz.prog 47 #[.int .i64 x, .int .i64 y] w fun e w' => e = .returned (.int .i64 (min y x)) ∧ Below w.heap.size w w' := by
  by_cases h : x < y
  · have e : min y x = x := by omega
    rw [e]
    clear e
    go_enter Tryz.func47, Tryz.ntmps47
    go_wp2
    go_ret
    exact ⟨rfl, Below.refl _ _⟩
  · have e : min y x = y := by omega
    rw [e]
    clear e
    go_enter Tryz.func47, Tryz.ntmps47
    go_wp2
    go_ret
    exact ⟨rfl, Below.refl _ _⟩
namespace Ik
/-- the first files crashed, the others as they were -/
def half (L : List Fk.Fl) (T : List Int) (k : Nat) : List Fk.Fl := crs L T k ++ L.drop k
theorem crs_length (L : List Fk.Fl) (T : List Int) (k : Nat) : (crs L T k).length = k := by simp [crs]
theorem half_none (L : List Fk.Fl) (T : List Int) : half L T 0 = L := by simp [half, crs]
theorem half_all (L : List Fk.Fl) (T : List Int) : half L T L.length = crs L T L.length := by simp [half]
theorem half_length (L : List Fk.Fl) (T : List Int) {k : Nat} (h : k ≤ L.length) : (half L T k).length = L.length := by simp [half, crs_length]; omega
theorem half_at (L : List Fk.Fl) (T : List Int) {k : Nat} (h : k < L.length) : Fk.nm (half L T k) k = Fk.nm L k ∧ Fk.dt (half L T k) k = Fk.dt L k ∧ Fk.sy (half L T k) k = Fk.sy L k := by
  have e : (half L T k).getD k Fk.none_ = L.getD k Fk.none_ := by
    unfold half
    rw [List.getD_eq_getElem?_getD, List.getElem?_append_right (by rw [crs_length]; exact Nat.le_refl _), crs_length, Nat.sub_self, List.getElem?_drop, List.getD_eq_getElem?_getD]
    rfl
  simp only [Fk.nm, Fk.dt, Fk.sy, e, and_self]
theorem half_next (L : List Fk.Fl) (T : List Int) {k : Nat} (h : k < L.length) : (half L T k).set k (cr L T k) = half L T (k + 1) := by
  unfold half
  rw [List.set_append_right _ _ (by rw [crs_length]; exact Nat.le_refl _), crs_length, Nat.sub_self, List.drop_eq_getElem_cons h, List.set_cons_zero, ← crs_next, List.append_assoc]
  rfl
theorem crs_ill {L : List Fk.Fl} (T : List Int) (h : Fk.right L = false) (k : Nat) (hk : k ≤ L.length) : crs L T k = L.take k := by
  apply List.ext_getElem?
  intro i
  by_cases hi : i < k
  · have hl : i < L.length := by omega
    simp [crs, hi, cr, h, List.getElem?_eq_getElem hl, Fk.nm, Fk.dt, Fk.sy, List.getD]
  · rw [List.getElem?_eq_none (by simp [crs]; omega), List.getElem?_eq_none (by simp; omega)]
theorem half_ill {L : List Fk.Fl} (T : List Int) (h : Fk.right L = false) {k : Nat} (hk : k ≤ L.length) : half L T k = crs L T L.length := by
  rw [crs_ill T h L.length (Nat.le_refl _), half, crs_ill T h k hk, List.take_append_drop, List.take_length]
end Ik

set_option maxRecDepth 20000 in
set_option maxHeartbeats 8000000 in
theorem fsCrash_spec (v vt : Value) (L : List Fk.Fl) (T : List Int) (w : World) (hv : Fk.View w v L) (hsh : Fk.Shut v) (hL : Fk.Fits L) (hl : L.length ≤ 1048576) (ht : Ik.View w vt T) (htl : T.length ≤ 1048576) :
    Calls Tryz.prog 19 #[.agg #[v], vt] w fun e w' => (∃ u, e = .returned (.agg #[u]) ∧ Fk.Own w' w.heap.size 75 u (Ik.crash L T)) ∧ Below w.heap.size w w' := by
  obtain ⟨W, hW⟩ : ∃ W, W = (w.alloc (.cells #[v] 25)).alloc (.cells #[.slice none 0 0] 25) := ⟨_, rfl⟩
  have b0 : Below w.heap.size w W := by
    rw [hW]
    repeat (first | exact Below.refl _ _ | refine Below.alloc ?_ (by simp <;> omega) _)
  have hsz : W.heap.size = w.heap.size + 2 := by rw [hW]; simp
  have c0 : W.cell? ⟨w.heap.size, 0, none⟩ = some v := by rw [hW, Fk.cellOld _ _ _ _ (by simp), Fk.cellTop _ _ _ _ _ rfl]; rfl
  have c1 : W.cell? ⟨w.heap.size + 1, 0, none⟩ = some (.slice none 0 0) := by rw [hW, Fk.cellTop _ _ _ _ _ (by simp)]; rfl
  have cf : ∀ j, W.frozen? ⟨w.heap.size + 1, j, none⟩ = false := fun j => by rw [hW, Fk.frozTop _ _ _ _ _ (by simp)]
  have HV0 := Fk.hide hv
  have HT0 := Fk.hide ht
  have HVW := Fk.hide (hv.below b0)
  obtain ⟨av, cav, rfl, hs⟩ := hv
  obtain ⟨ta, tcap, rfl, hts⟩ := ht
  have HW := Fk.hide hW
  have HB0 := Fk.hide b0
  clear hW b0
  by_cases hbig : (400 : Int) < (T.length : Int)
  · have HE : Hid (Ik.crash L T = []) := by show _ = _; unfold Ik.crash; rw [if_pos (by omega)]
    go_enter Tryz.func19, Tryz.ntmps19
    go_wp2_with fail
    exact bodyPost_ret (v := .agg #[.slice none 0 0]) (by simp [results, Tryz.results19, go_sem] <;> rfl) rfl ⟨⟨_, rfl, by rw [HE.out]; exact Fk.own_nil _ _ _⟩, by repeat (first | exact Below.refl _ _ | refine Below.alloc ?_ (by simp <;> omega) _)⟩
  have HE : Hid (Ik.crash L T = Ik.crs L T L.length) := by show _ = _; unfold Ik.crash; rw [if_neg (by omega)]
  go_enter Tryz.func19, Tryz.ntmps19
  go_wp2_with fail
  rw [← HW.out]
  refine (l02Copy_any _ L _ HVW.out hsh hl).mono ?_
  rintro e w1 ⟨⟨u, rfl, ou⟩, b1⟩
  obtain ⟨W2, hW2⟩ : ∃ W2, W2 = w1.alloc (.cells #[u] 25) := ⟨_, rfl⟩
  have b2 : Below w1.heap.size w1 W2 := by rw [hW2]; exact (Below.refl _ _).alloc (Nat.le_refl _) _
  have e2 : W2.cell? ⟨w1.heap.size, 0, none⟩ = some u := by rw [hW2, Fk.cellTop _ _ _ _ _ rfl]; rfl
  have hz2 : w1.heap.size < W2.heap.size := by rw [hW2]; simp
  have hz1 : w.heap.size + 2 ≤ w1.heap.size := by rw [← hsz]; exact b1.size
  have BW2 := Fk.hide (b1.trans (b2.mono b1.size))
  have OU := Fk.hide ((ou.below b2).mono (base' := w.heap.size + 2) (by omega))
  have HLT := Fk.hide (fun k hk => (World.ownsRow.lt ou k hk).2)
  obtain ⟨ua, uc, rfl⟩ := ou.slice
  obtain ⟨ul, hul⟩ : ∃ n, n = L.length := ⟨_, rfl⟩
  have HUL := Fk.hide hul
  rw [← hul] at OU HLT e2 hW2 ⊢
  have HW2 := Fk.hide hW2
  have hszl : w.heap.size + 2 ≤ W.heap.size := by omega
  clear hW2 b1 b2 ou hul hsz
  go_wp2_with fail
  rw [← HW2.out]
  have hll : ul = L.length := HUL.out
  have hll2 : ul ≤ L.length := by omega
  have hll3 : L.length ≤ ul := by omega
  clear hll
  go_loopw [6] (fun i wr => ∃ k : Nat, k ≤ L.length ∧ i = .int .i64 k ∧ Hid (wr.cell? ⟨w1.heap.size, 0, none⟩ = some (.slice ua ul uc)) ∧ Hid (Fk.Own wr (w.heap.size + 2) 75 (.slice ua ul uc) (Ik.half L T k)) ∧ Hid (Below (w.heap.size + 2) W wr) ∧ w1.heap.size < wr.heap.size) (fun i _ => L.length - (intOf i).toNat)
  case atStart => exact ⟨0, Nat.zero_le _, rfl, e2, by show Fk.Own _ _ _ _ _; rw [Ik.half_none]; exact OU.out, BW2.out.mono hszl, hz2⟩
  case round =>
    obtain ⟨k, hk, rfl, HC, HO, bel, hzr⟩ := hrel
    have q0 : wr.cell? ⟨w.heap.size, 0, none⟩ = some (.slice av L.length cav) := (bel.out.cell (by show w.heap.size < _; omega)).trans c0
    have BW := Fk.hide (HB0.out.trans (bel.out.mono (by omega : w.heap.size ≤ w.heap.size + 2)))
    by_cases hlt : k < L.length
    · have k1 : (k : Int) < (L.length : Int) := by omega
      go_wp2_with fail
      refine (fsRight_spec _ L _ (HV0.out.below BW.out) hL (by unfold maxLen; omega)).mono ?_
      rintro e w3 ⟨rfl, b3⟩
      have C3 : w3.cell? ⟨w1.heap.size, 0, none⟩ = some (.slice ua ul uc) := (b3.cell (by exact hzr)).trans HC.out
      have O3 := Fk.hide (HO.out.below b3)
      have B3 := Fk.hide (bel.out.trans (b3.mono (by omega)))
      have q3 := (b3.cell (p := ⟨w.heap.size, 0, none⟩) (by show w.heap.size < _; omega)).trans q0
      have hz3 : w1.heap.size < w3.heap.size := Nat.lt_of_lt_of_le hzr b3.size
      clear b3 q0 HC HO bel
      obtain ⟨rb, hrb⟩ : ∃ rb, rb = Fk.right L := ⟨_, rfl⟩
      have HR := Fk.hide hrb
      rw [← hrb]
      clear hrb
      cases rb with
      | false =>
        have HX : Hid (Ik.half L T k = Ik.crs L T L.length) := Ik.half_ill T HR.out.symm hk
        have g1 : w3.cell? ⟨w.heap.size + 1, 0, none⟩ = some (.slice none 0 0) := (B3.out.cell (by show w.heap.size + 1 < _; omega)).trans c1
        have gf : ∀ j, w3.frozen? ⟨w.heap.size + 1, j, none⟩ = false := fun j => (B3.out.frozen (by show w.heap.size + 1 < _; omega)).trans (cf j)
        have gc : w3.cell? ⟨w1.heap.size, 0, none⟩ = some (.slice ua ul uc) := C3
        have B9 := Fk.hide (HB0.out.trans (B3.out.mono (by omega : w.heap.size ≤ w.heap.size + 2)))
        clear hs hts c0 c1 cf
        set_option maxRecDepth 20000 in
        go_wp2_with fail
        refine bodyPost_ret (v := .agg #[.slice ua ul uc]) (by simp [results, Tryz.results19, go_sem, g1] <;> rfl) rfl ⟨⟨_, rfl, ?_⟩, ?_⟩
        · rw [HE.out]
          have o9 := O3.out
          rw [HX.out] at o9
          exact Fk.Own.mono (ownsRow_setCell_below o9 (by show w.heap.size + 1 < _; omega) _) (by omega)
        · exact B9.out.setCell (by show w.heap.size ≤ w.heap.size + 1; omega) _
      | true =>
        obtain ⟨gb, go_, rfl, hgb, hsee⟩ := hs (by omega)
        have BW3 := Fk.hide (HB0.out.trans (B3.out.mono (by omega : w.heap.size ≤ w.heap.size + 2)))
        have x0 := (hsee.below hgb BW3.out).c0 k hlt
        have x1 := (hsee.below hgb BW3.out).c1 k hlt
        have x2 := (hsee.below hgb BW3.out).c2 k hlt
        have hok := Fk.right_ok HR.out.symm hlt
        have HCR : Hid (Ik.cr L T k = (Fk.nm L k, (Fk.dt L k).extract 0 (Ik.kept (Fk.dt L k) (Fk.sy L k) (Ik.more T k)).toNat, Ik.kept (Fk.dt L k) (Fk.sy L k) (Ik.more T k))) := by show _ = _; unfold Ik.cr; rw [← HR.out]; rfl
        have HAT := Fk.hide (Ik.half_at L T hlt)
        have HNX := Fk.hide (Ik.half_next L T hlt)
        obtain ⟨a, ha⟩ : ∃ a, a = Fk.nm L k := ⟨_, rfl⟩
        obtain ⟨b, hb⟩ : ∃ b, b = Fk.dt L k := ⟨_, rfl⟩
        obtain ⟨s, hs'⟩ : ∃ s, s = Fk.sy L k := ⟨_, rfl⟩
        rw [← ha, ← hb, ← hs'] at HCR HAT
        rw [← ha] at x0
        rw [← hb] at x1 hok
        rw [← hs'] at x2 hok
        obtain ⟨hs0, hs1, hb3⟩ := hok
        clear ha hb hs' hs hsee
        obtain ⟨W4, hW4⟩ : ∃ W4, W4 = w3.alloc (.cells #[.string a, .string b, .int .i64 s] 75) := ⟨_, rfl⟩
        have b4 : Below w3.heap.size w3 W4 := by rw [hW4]; exact (Below.refl _ _).alloc (Nat.le_refl _) _
        have y0 : W4.cell? ⟨w3.heap.size, 0, none⟩ = some (.string a) := by rw [hW4, Fk.cellTop _ _ _ _ _ rfl]; rfl
        have y1 : W4.cell? ⟨w3.heap.size, 1, none⟩ = some (.string b) := by rw [hW4, Fk.cellTop _ _ _ _ _ rfl]; rfl
        have y2 : W4.cell? ⟨w3.heap.size, 2, none⟩ = some (.int .i64 s) := by rw [hW4, Fk.cellTop _ _ _ _ _ rfl]; rfl
        have C4 : W4.cell? ⟨w1.heap.size, 0, none⟩ = some (.slice ua ul uc) := (b4.cell (by exact hz3)).trans C3
        have O4 := Fk.hide (O3.out.below b4)
        have B4 := Fk.hide (B3.out.trans (b4.mono (by omega)))
        have hz4 : w3.heap.size < W4.heap.size := by rw [hW4]; simp
        have HW4 := Fk.hide hW4
        obtain ⟨g, rfl⟩ : ∃ g, ua = some ⟨g, 0, none⟩ := by
          rcases O4.out.form with ⟨h1, h2⟩ | ⟨g, c, h1, _⟩
          · have := Ik.half_length L T hk; rw [h2] at this; simp at this; omega
          · simp only [Value.slice.injEq] at h1; exact ⟨g, h1.1⟩
        have hgw : g < w1.heap.size := HLT.out g rfl
        have hgb2 : w.heap.size + 2 ≤ g := (World.ownsRow.lt O4.out g rfl).1
        obtain ⟨⟨z0, z1, z2⟩, f0, f1, f2⟩ := O4.out.at (k := k) (by rw [Ik.half_length L T hk]; exact hlt)
        rw [HAT.out.1] at z0
        rw [HAT.out.2.1] at z1
        rw [HAT.out.2.2] at z2
        clear hW4 b4 C3 O3 B3
        by_cases hkt : k < T.length
        · obtain ⟨tb, tq, rfl, htb, hts1⟩ := hts (by omega)
          have t0 : w3.cell? ⟨tb, tq + k, none⟩ = some (.int .i64 (Ik.at_ T k)) := (BW3.out.cell (by exact htb)).trans (hts1 k hkt)
          have t4l : (w3.alloc (.cells #[.string a, .string b, .int .i64 s] 75)).cell? ⟨tb, tq + k, none⟩ = some (.int .i64 (Ik.at_ T k)) := by rw [Fk.cellOld _ _ _ _ (World.block_lt_of_cell? w3 _ t0)]; exact t0
          have hm : Ik.more T k = max (Ik.at_ T k) 0 := by unfold Ik.more; rw [if_pos hkt]
          obtain ⟨tk, htk⟩ : ∃ x, x = Ik.at_ T k := ⟨_, rfl⟩
          rw [← htk] at t0 t4l hm
          have HM := Fk.hide hm
          have kt1 : (k : Int) < (T.length : Int) := by omega
          have kt0 : (0 : Int) ≤ (k : Int) := by omega
          clear htk hts hts1 hm t0
          by_cases hpos : 0 < tk
          · have t4 : W4.cell? ⟨tb, tq + k, none⟩ = some (.int .i64 tk) := by rw [HW4.out]; exact t4l
            have r1 := cell_regrown y1
            have r2 := cell_regrown t4
            have hw1 : IntKind.i64.wrap ((b.size : Int) - s) = (b.size : Int) - s := by rw [IntKind.wrap_i64]; omega
            have fm : ∀ w', Calls Tryz.prog 47 #[.int .i64 tk, .int .i64 ((b.size : Int) - s)] w' fun e w'' => e = .returned (.int .i64 (min ((b.size : Int) - s) tk)) ∧ Below w'.heap.size w' w'' := fun w' => l01Min_crash _ _ w'
            obtain ⟨mn, hmn⟩ : ∃ m, m = min ((b.size : Int) - s) tk := ⟨_, rfl⟩
            rw [← hmn] at fm
            have hmn0 : 0 ≤ mn := by omega
            have hmn1 : mn ≤ (b.size : Int) - s := by omega
            have hw2 : IntKind.i64.wrap (s + mn) = s + mn := by rw [IntKind.wrap_i64]; omega
            have HKE : Hid (Ik.kept b s (Ik.more T k) = s + mn) := by show _ = _; unfold Ik.kept; rw [HM.out]; omega
            clear hmn
            go_wp2_with fail
            rw [← HW4.out]
            clear t4l
            refine wp_region_quiet_below (by kernel_rfl) (by kernel_rfl) ?_
            repeat (go_big_quiet_step (first | (go_at_call 47; exact Calls.regrown_of (fm _))))
            refine wpQuiet_nil ?_
            intro w5 hw'
            obtain ⟨⟨dq, osq⟩, hw''⟩ := hw'
            have b5 : Below W4.heap.size W4 w5 := by rw [hw'']; exact below_regrown W4 dq osq
            clear hw'' r1 r2 fm hw1 hw2
            obtain ⟨n, hn⟩ : ∃ n, n = s + mn := ⟨_, rfl⟩
            have hn0 : 0 ≤ n := by omega
            have hn1 : n ≤ (b.size : Int) := by omega
            have HN : Hid (Ik.kept b s (Ik.more T k) = n) := by show _ = _; rw [HKE.out, hn]
            rw [← hn]
            clear hn hmn0 hmn1 HKE
            have v1 := (b5.cell (p := ⟨w3.heap.size, 1, none⟩) hz4).trans y1
            have C5 : w5.cell? ⟨w1.heap.size, 0, none⟩ = some (.slice (some ⟨g, 0, none⟩) ul uc) := (b5.cell (by show w1.heap.size < _; omega)).trans C4
            have z0' := (b5.cell (p := ⟨g, k * 3, none⟩) (by show g < _; omega)).trans z0
            have z1' := (b5.cell (p := ⟨g, k * 3 + 1, none⟩) (by show g < _; omega)).trans z1
            have z2' := (b5.cell (p := ⟨g, k * 3 + 2, none⟩) (by show g < _; omega)).trans z2
            have f1' := (b5.frozen (p := ⟨g, k * 3 + 1, none⟩) (by show g < _; omega)).trans f1
            have f2' := (b5.frozen (p := ⟨g, k * 3 + 2, none⟩) (by show g < _; omega)).trans f2
            have O5 := Fk.hide (O4.out.below b5)
            have B5 := Fk.hide (B4.out.trans (b5.mono (by omega)))
            have hz5 : w1.heap.size < w5.heap.size := by have := b5.size; omega
            clear b5 y0 y1 y2 C4 z0 z1 z2 f0 f1 f2 O4 B4 t4
            go_wp2_with fail
            have k9 : (k : Int) < (ul : Int) := by omega
            have k8 : (0 : Int) ≤ (k : Int) := by omega
            set_option maxRecDepth 20000 in
            go_region
            obtain ⟨d, hd⟩ : ∃ d, d = b.extract 0 n.toNat := ⟨_, rfl⟩
            rw [← hd]
            have HD : Hid (Ik.cr L T k = (a, d, n)) := by show _ = _; rw [HCR.out, HN.out, hd]
            clear hd
            obtain ⟨w6, h6⟩ : ∃ w6, w6 = (w5.setCell ⟨g, k * 3 + 1, none⟩ (.string d)).drew := ⟨_, rfl⟩
            have hlh : k < (Ik.half L T k).length := by rw [Ik.half_length L T hk]; exact hlt
            have O6 : Fk.Own w6 (w.heap.size + 2) 75 (.slice (some ⟨g, 0, none⟩) ul uc) ((Ik.half L T k).set k (a, d, s)) := by
              rw [h6]
              have := (O5.out.putData hlh d).below (Below.drew (Below.refl _ _))
              rw [HAT.out.1, HAT.out.2.2] at this
              exact this
            have C6 : w6.cell? ⟨w1.heap.size, 0, none⟩ = some (.slice (some ⟨g, 0, none⟩) ul uc) := by
              rw [h6]
              show (w5.setCell _ _).cell? _ = _
              rw [World.cell?_setCell_other _ _ _ _ (by simp <;> omega)]
              exact C5
            have z6 : w6.cell? ⟨g, k * 3 + 2, none⟩ = some (.int .i64 s) := by
              rw [h6]
              show (w5.setCell _ _).cell? _ = _
              rw [World.cell?_setCell_other _ _ _ _ (by simp)]
              exact z2'
            have f6 : w6.frozen? ⟨g, k * 3 + 2, none⟩ = false := by
              rw [h6]
              show (w5.setCell _ _).frozen? _ = _
              rw [World.frozen?_setCell]
              exact f2'
            have B6 : Below (w.heap.size + 2) W w6 := by rw [h6]; exact Below.drew (B5.out.setCell (by exact hgb2) _)
            have hz6 : w1.heap.size < w6.heap.size := by rw [h6]; show _ < (w5.setCell _ _).heap.size; simpa using hz5
            have HO7 : Hid (Fk.Own (w6.setCell ⟨g, k * 3 + 2, none⟩ (.int .i64 n)) (w.heap.size + 2) 75 (.slice (some ⟨g, 0, none⟩) ul uc) (Ik.half L T (k + 1))) := by
              show Fk.Own _ _ _ _ _
              have := O6.putSync (k := k) (by rw [List.length_set]; exact hlh) n
              have e1 : Fk.nm ((Ik.half L T k).set k (a, d, s)) k = a := by simp [Fk.nm, List.getD, hlh]
              have e2 : Fk.dt ((Ik.half L T k).set k (a, d, s)) k = d := by simp [Fk.dt, List.getD, hlh]
              rw [e1, e2, List.set_set] at this
              rw [← HNX.out, HD.out]
              exact this
            have HC7 : Hid ((w6.setCell ⟨g, k * 3 + 2, none⟩ (.int .i64 n)).cell? ⟨w1.heap.size, 0, none⟩ = some (.slice (some ⟨g, 0, none⟩) ul uc)) := by
              show _ = _
              rw [World.cell?_setCell_other _ _ _ _ (by simp <;> omega)]
              exact C6
            have HB7 : Hid (Below (w.heap.size + 2) W (w6.setCell ⟨g, k * 3 + 2, none⟩ (.int .i64 n))) := B6.setCell (by exact hgb2) _
            have HZ7 : Hid (w1.heap.size < (w6.setCell ⟨g, k * 3 + 2, none⟩ (.int .i64 n)).heap.size) := by show _ < _; simpa using hz6
            rw [← h6]
            clear h6 O6 B6 v1 C5 z0' z1' z2' f1' f2' O5 B5 hz6
            go_wp2_with fail
            go_roundw
            case rel => exact ⟨k + 1, by omega, by go_num, HC7.out, HO7.out, HB7.out, HZ7.out⟩
            case measure => simp [intOf]; omega
          · have HN : Hid (Ik.kept b s (Ik.more T k) = s) := by show _ = _; unfold Ik.kept; rw [HM.out]; omega
            obtain ⟨n, hn⟩ : ∃ n, n = s := ⟨_, rfl⟩
            have hn0 : 0 ≤ n := by omega
            have hn1 : n ≤ (b.size : Int) := by omega
            have HN1 := HN.out
            clear HN
            have HN : Hid (Ik.kept b s (Ik.more T k) = n) := by show _ = _; rw [HN1, hn]
            clear HN1
            set_option maxRecDepth 20000 in
            go_wp2_with fail
            rw [← HW4.out, ← hn]
            obtain ⟨w5, h5⟩ : ∃ w5, w5 = W4 := ⟨_, rfl⟩
            rw [← h5] at y1 C4 z0 z1 z2 f1 f2 O4 B4 hz4 ⊢
            have v1 := y1
            have C5 := C4
            have z0' := z0
            have z1' := z1
            have z2' := z2
            have f1' := f1
            have f2' := f2
            have O5 := O4
            have B5 := B4
            have hz5 : w1.heap.size < w5.heap.size := by omega
            clear h5 hn y0 y1 y2 C4 z0 z1 z2 f0 f1 f2 O4 B4
            have k9 : (k : Int) < (ul : Int) := by omega
            have k8 : (0 : Int) ≤ (k : Int) := by omega
            set_option maxRecDepth 20000 in
            go_region
            obtain ⟨d, hd⟩ : ∃ d, d = b.extract 0 n.toNat := ⟨_, rfl⟩
            rw [← hd]
            have HD : Hid (Ik.cr L T k = (a, d, n)) := by show _ = _; rw [HCR.out, HN.out, hd]
            clear hd
            obtain ⟨w6, h6⟩ : ∃ w6, w6 = (w5.setCell ⟨g, k * 3 + 1, none⟩ (.string d)).drew := ⟨_, rfl⟩
            have hlh : k < (Ik.half L T k).length := by rw [Ik.half_length L T hk]; exact hlt
            have O6 : Fk.Own w6 (w.heap.size + 2) 75 (.slice (some ⟨g, 0, none⟩) ul uc) ((Ik.half L T k).set k (a, d, s)) := by
              rw [h6]
              have := (O5.out.putData hlh d).below (Below.drew (Below.refl _ _))
              rw [HAT.out.1, HAT.out.2.2] at this
              exact this
            have C6 : w6.cell? ⟨w1.heap.size, 0, none⟩ = some (.slice (some ⟨g, 0, none⟩) ul uc) := by
              rw [h6]
              show (w5.setCell _ _).cell? _ = _
              rw [World.cell?_setCell_other _ _ _ _ (by simp <;> omega)]
              exact C5
            have z6 : w6.cell? ⟨g, k * 3 + 2, none⟩ = some (.int .i64 s) := by
              rw [h6]
              show (w5.setCell _ _).cell? _ = _
              rw [World.cell?_setCell_other _ _ _ _ (by simp)]
              exact z2'
            have f6 : w6.frozen? ⟨g, k * 3 + 2, none⟩ = false := by
              rw [h6]
              show (w5.setCell _ _).frozen? _ = _
              rw [World.frozen?_setCell]
              exact f2'
            have B6 : Below (w.heap.size + 2) W w6 := by rw [h6]; exact Below.drew (B5.out.setCell (by exact hgb2) _)
            have hz6 : w1.heap.size < w6.heap.size := by rw [h6]; show _ < (w5.setCell _ _).heap.size; simpa using hz5
            have HO7 : Hid (Fk.Own (w6.setCell ⟨g, k * 3 + 2, none⟩ (.int .i64 n)) (w.heap.size + 2) 75 (.slice (some ⟨g, 0, none⟩) ul uc) (Ik.half L T (k + 1))) := by
              show Fk.Own _ _ _ _ _
              have := O6.putSync (k := k) (by rw [List.length_set]; exact hlh) n
              have e1 : Fk.nm ((Ik.half L T k).set k (a, d, s)) k = a := by simp [Fk.nm, List.getD, hlh]
              have e2 : Fk.dt ((Ik.half L T k).set k (a, d, s)) k = d := by simp [Fk.dt, List.getD, hlh]
              rw [e1, e2, List.set_set] at this
              rw [← HNX.out, HD.out]
              exact this
            have HC7 : Hid ((w6.setCell ⟨g, k * 3 + 2, none⟩ (.int .i64 n)).cell? ⟨w1.heap.size, 0, none⟩ = some (.slice (some ⟨g, 0, none⟩) ul uc)) := by
              show _ = _
              rw [World.cell?_setCell_other _ _ _ _ (by simp <;> omega)]
              exact C6
            have HB7 : Hid (Below (w.heap.size + 2) W (w6.setCell ⟨g, k * 3 + 2, none⟩ (.int .i64 n))) := B6.setCell (by exact hgb2) _
            have HZ7 : Hid (w1.heap.size < (w6.setCell ⟨g, k * 3 + 2, none⟩ (.int .i64 n)).heap.size) := by show _ < _; simpa using hz6
            rw [← h6]
            clear h6 O6 B6 v1 C5 z0' z1' z2' f1' f2' O5 B5 hz6
            go_wp2_with fail
            go_roundw
            case rel => exact ⟨k + 1, by omega, by go_num, HC7.out, HO7.out, HB7.out, HZ7.out⟩
            case measure => simp [intOf]; omega
        · have HN : Hid (Ik.kept b s (Ik.more T k) = s) := by show _ = _; unfold Ik.kept Ik.more; rw [if_neg hkt]; omega
          have kt1 : ¬ (k : Int) < (T.length : Int) := by omega
          obtain ⟨n, hn⟩ : ∃ n, n = s := ⟨_, rfl⟩
          have hn0 : 0 ≤ n := by omega
          have hn1 : n ≤ (b.size : Int) := by omega
          have HN1 := HN.out
          clear HN
          have HN : Hid (Ik.kept b s (Ik.more T k) = n) := by show _ = _; rw [HN1, hn]
          clear HN1
          set_option maxRecDepth 20000 in
          go_wp2_with fail
          rw [← HW4.out, ← hn]
          obtain ⟨w5, h5⟩ : ∃ w5, w5 = W4 := ⟨_, rfl⟩
          rw [← h5] at y1 C4 z0 z1 z2 f1 f2 O4 B4 hz4 ⊢
          have v1 := y1
          have C5 := C4
          have z0' := z0
          have z1' := z1
          have z2' := z2
          have f1' := f1
          have f2' := f2
          have O5 := O4
          have B5 := B4
          have hz5 : w1.heap.size < w5.heap.size := by omega
          clear h5 hn y0 y1 y2 C4 z0 z1 z2 f0 f1 f2 O4 B4
          have k9 : (k : Int) < (ul : Int) := by omega
          have k8 : (0 : Int) ≤ (k : Int) := by omega
          set_option maxRecDepth 20000 in
          go_region
          obtain ⟨d, hd⟩ : ∃ d, d = b.extract 0 n.toNat := ⟨_, rfl⟩
          rw [← hd]
          have HD : Hid (Ik.cr L T k = (a, d, n)) := by show _ = _; rw [HCR.out, HN.out, hd]
          clear hd
          obtain ⟨w6, h6⟩ : ∃ w6, w6 = (w5.setCell ⟨g, k * 3 + 1, none⟩ (.string d)).drew := ⟨_, rfl⟩
          have hlh : k < (Ik.half L T k).length := by rw [Ik.half_length L T hk]; exact hlt
          have O6 : Fk.Own w6 (w.heap.size + 2) 75 (.slice (some ⟨g, 0, none⟩) ul uc) ((Ik.half L T k).set k (a, d, s)) := by
            rw [h6]
            have := (O5.out.putData hlh d).below (Below.drew (Below.refl _ _))
            rw [HAT.out.1, HAT.out.2.2] at this
            exact this
          have C6 : w6.cell? ⟨w1.heap.size, 0, none⟩ = some (.slice (some ⟨g, 0, none⟩) ul uc) := by
            rw [h6]
            show (w5.setCell _ _).cell? _ = _
            rw [World.cell?_setCell_other _ _ _ _ (by simp <;> omega)]
            exact C5
          have z6 : w6.cell? ⟨g, k * 3 + 2, none⟩ = some (.int .i64 s) := by
            rw [h6]
            show (w5.setCell _ _).cell? _ = _
            rw [World.cell?_setCell_other _ _ _ _ (by simp)]
            exact z2'
          have f6 : w6.frozen? ⟨g, k * 3 + 2, none⟩ = false := by
            rw [h6]
            show (w5.setCell _ _).frozen? _ = _
            rw [World.frozen?_setCell]
            exact f2'
          have B6 : Below (w.heap.size + 2) W w6 := by rw [h6]; exact Below.drew (B5.out.setCell (by exact hgb2) _)
          have hz6 : w1.heap.size < w6.heap.size := by rw [h6]; show _ < (w5.setCell _ _).heap.size; simpa using hz5
          have HO7 : Hid (Fk.Own (w6.setCell ⟨g, k * 3 + 2, none⟩ (.int .i64 n)) (w.heap.size + 2) 75 (.slice (some ⟨g, 0, none⟩) ul uc) (Ik.half L T (k + 1))) := by
            show Fk.Own _ _ _ _ _
            have := O6.putSync (k := k) (by rw [List.length_set]; exact hlh) n
            have e1 : Fk.nm ((Ik.half L T k).set k (a, d, s)) k = a := by simp [Fk.nm, List.getD, hlh]
            have e2 : Fk.dt ((Ik.half L T k).set k (a, d, s)) k = d := by simp [Fk.dt, List.getD, hlh]
            rw [e1, e2, List.set_set] at this
            rw [← HNX.out, HD.out]
            exact this
          have HC7 : Hid ((w6.setCell ⟨g, k * 3 + 2, none⟩ (.int .i64 n)).cell? ⟨w1.heap.size, 0, none⟩ = some (.slice (some ⟨g, 0, none⟩) ul uc)) := by
            show _ = _
            rw [World.cell?_setCell_other _ _ _ _ (by simp <;> omega)]
            exact C6
          have HB7 : Hid (Below (w.heap.size + 2) W (w6.setCell ⟨g, k * 3 + 2, none⟩ (.int .i64 n))) := B6.setCell (by exact hgb2) _
          have HZ7 : Hid (w1.heap.size < (w6.setCell ⟨g, k * 3 + 2, none⟩ (.int .i64 n)).heap.size) := by show _ < _; simpa using hz6
          rw [← h6]
          clear h6 O6 B6 v1 C5 z0' z1' z2' f1' f2' O5 B5 hz6
          go_wp2_with fail
          go_roundw
          case rel => exact ⟨k + 1, by omega, by go_num, HC7.out, HO7.out, HB7.out, HZ7.out⟩
          case measure => simp [intOf]; omega
    · have HX : Hid (Ik.half L T k = Ik.crs L T L.length) := by show _ = _; rw [show k = L.length by omega]; exact Ik.half_all L T
      have k1 : ¬ (k : Int) < (L.length : Int) := by omega
      have g1 : wr.cell? ⟨w.heap.size + 1, 0, none⟩ = some (.slice none 0 0) := (bel.out.cell (by show w.heap.size + 1 < _; omega)).trans c1
      have gf : ∀ j, wr.frozen? ⟨w.heap.size + 1, j, none⟩ = false := fun j => (bel.out.frozen (by show w.heap.size + 1 < _; omega)).trans (cf j)
      have gc : wr.cell? ⟨w1.heap.size, 0, none⟩ = some (.slice ua ul uc) := HC.out
      have B9 := Fk.hide (HB0.out.trans (bel.out.mono (by omega : w.heap.size ≤ w.heap.size + 2)))
      clear hs hts c0 c1 cf
      set_option maxRecDepth 20000 in
      go_wp2_with fail
      refine bodyPost_ret (v := .agg #[.slice ua ul uc]) (by simp [results, Tryz.results19, go_sem, g1] <;> rfl) rfl ⟨⟨_, rfl, ?_⟩, ?_⟩
      · rw [HE.out]
        have o9 := HO.out
        rw [HX.out] at o9
        exact Fk.Own.mono (ownsRow_setCell_below o9 (by show w.heap.size + 1 < _; omega) _) (by omega)
      · exact B9.out.setCell (by show w.heap.size ≤ w.heap.size + 1; omega) _
end Go.Proofs.YtojdfdlbdpdlkaaGreatDoor

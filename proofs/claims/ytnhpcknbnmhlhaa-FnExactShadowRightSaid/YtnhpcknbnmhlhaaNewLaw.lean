/- The walks of the law's own functions on newer books: sizes, copies, comparisons, marks. -/
import Derived.Test.YtnhpcknbnmhlhaaOrderLaw
import Derived.Test.YtnhpcknbnmhlhaaOrderMark
import Derived.Test.YtnhpcknbnmhlhaaNewMath
namespace Go.Proofs.Ytnhpcknbnmhlhaa
open Go.RowKit
set_option linter.unusedVariables false
set_option linter.unusedSimpArgs false
theorem infoLevel : (Try.prog.info? 76).map (fun i => (i.zero, i.size, i.bytes)) = some (some (.agg #[.int .i64 0, .slice none 0 0]), 2, 32) := by kernel_rfl

set_option maxHeartbeats 1000000 in
theorem szLevel_any (p : Int) (v : Value) (L : List Or.E) (left : Int) (w : World) (hv : Rk.View Or.S w v L) (hl : L.length ≤ maxLen) (hl0 : 0 ≤ left) (hl1 : left ≤ 1048576) :
    Calls Try.prog 39 #[.agg #[.int .i64 p, v], .int .i64 left] w fun e w' =>
      (∃ r, e = .returned (.int .i64 r) ∧ (r = -1 ∨ (0 ≤ r ∧ r = left - L.length))) ∧ Below w.heap.size w w' := by
  obtain ⟨W, hW⟩ : ∃ W, W = w.alloc (.cells #[.int .i64 p, v] 81) := ⟨_, rfl⟩
  have b0 : Below w.heap.size w W := by rw [hW]; exact (Below.refl _ _).alloc (Nat.le_refl _) _
  have h0' := hv.below b0
  have HW := Fk.hide hW
  clear hW
  obtain ⟨a0, cap0, rfl, _⟩ := hv
  go_enter Try.func39, Try.ntmps39
  go_wp2_with fail
  rw [← HW.out]
  refine (szOrderS_any _ _ _ _ h0' hl hl0 hl1).mono ?_
  rintro e w1 ⟨⟨r, rfl, hr⟩, k1⟩
  have bel1 : Below w.heap.size w w1 := b0.trans (k1.mono b0.size)
  clear k1 h0'
  rcases hr with rfl | ⟨hr0, hr⟩
  · go_wp2
    go_ret
    exact ⟨⟨_, rfl, .inl rfl⟩, bel1⟩
  have HR := Fk.hide hr
  clear hr
  go_wp2
  go_ret
  exact ⟨⟨_, rfl, .inr ⟨hr0, HR.out⟩⟩, bel1⟩

set_option maxHeartbeats 2000000 in
theorem szLevelS_any (v : Value) (L : List Lv.E) (left : Int) (w : World) (hv : Lv.View w v L) (hl : L.length ≤ maxLen) (hm : ∀ i, i < L.length → (Lv.at' L i).2.length ≤ maxLen) (h0 : 0 ≤ left) (h1 : left ≤ 1048576) :
    Calls Try.prog 27 #[v, .int .i64 left] w fun e w' =>
      (∃ r, e = .returned (.int .i64 r) ∧ (r = -1 ∨ (0 ≤ r ∧ r = left - L.length - (Nb.flat L).length))) ∧ Below w.heap.size w w' := by
  unfold maxLen at hl
  have HV := Fk.hide hv
  obtain ⟨a, cap, rfl⟩ := hv.slice
  clear hv
  by_cases c1 : left < L.length
  · go_enter Try.func27, Try.ntmps27
    go_wp2
    go_ret
    exact ⟨⟨_, rfl, .inl rfl⟩, Below.refl _ _⟩
  have HM := Fk.hide hm
  clear hm
  go_enter Try.func27, Try.ntmps27
  go_wp2_with fail
  go_loopw [1, 5] (fun l i wr => ∃ (k : Nat) (r : Int), k ≤ L.length ∧ i = .int .i64 k ∧ l = .int .i64 r ∧ 0 ≤ r ∧ r ≤ 1048576 ∧ Hid (r = left - L.length - (Nb.flat (L.take k)).length) ∧ Below w.heap.size w wr) (fun _ i _ => L.length - (intOf i).toNat)
  case atStart => exact ⟨0, left - L.length, Nat.zero_le _, rfl, by go_num, by omega, by omega, (by show _ = _; simp [Nb.flat]), Below.refl _ _⟩
  case round =>
    obtain ⟨k, r, hk, rfl, rfl, hr0, hr1, HR, bel⟩ := hrel
    by_cases hlt : k < L.length
    · obtain ⟨b, o, q, m, c, rfl, hb, p0, p1, rfl, hvi, _⟩ := (HV.out.below bel).at hlt
      have HVI := Fk.hide hvi
      clear hvi
      go_wp2_with fail
      refine (szLevel_any _ _ _ _ _ HVI.out (HM.out k hlt) hr0 hr1).mono ?_
      rintro e w1 ⟨⟨r2, rfl, hq⟩, k1⟩
      have bel1 : Below w.heap.size w w1 := bel.trans (k1.mono bel.size)
      clear k1 p0 p1 HVI
      rcases hq with rfl | ⟨hq0, hq⟩
      · go_wp2_with fail
        go_ret
        exact ⟨⟨_, rfl, .inl rfl⟩, bel1⟩
      have HQ : Hid (r2 = left - L.length - (Nb.flat (L.take (k + 1))).length) := by
        show _ = _
        rw [Nb.flat_step L k hlt, List.length_append, hq, HR.out]; omega
      have hr2 : r2 ≤ 1048576 := by omega
      clear hq HR
      go_wp2_with fail
      go_roundw
      case rel => exact ⟨k + 1, r2, by omega, by go_num, rfl, hq0, hr2, HQ, bel1⟩
      case measure => simp [intOf]; omega
    · have e : k = L.length := by omega
      subst e
      rw [Nb.flat_all] at HR
      go_wp2_with fail
      go_ret
      exact ⟨⟨_, rfl, .inr ⟨hr0, HR.out⟩⟩, bel⟩

set_option maxHeartbeats 1000000 in
theorem szNew_any (v0 v1 : Value) (n : Int) (B A : List Lv.E) (left : Int) (w : World) (h0 : Lv.View w v0 B) (h1 : Lv.View w v1 A) (l0 : B.length ≤ maxLen) (l1 : A.length ≤ maxLen) (m0 : ∀ i, i < B.length → (Lv.at' B i).2.length ≤ maxLen) (m1 : ∀ i, i < A.length → (Lv.at' A i).2.length ≤ maxLen) (hl0 : 0 ≤ left) (hl1 : left ≤ 1048576) :
    Calls Try.prog 16 #[.agg #[v0, v1, .int .i64 n], .int .i64 left] w fun e w' =>
      (∃ r, e = .returned (.int .i64 r) ∧ (r = -1 ∨ (0 ≤ r ∧ r = left - B.length - (Nb.flat B).length - A.length - (Nb.flat A).length))) ∧ Below w.heap.size w w' := by
  obtain ⟨W, hW⟩ : ∃ W, W = w.alloc (.cells #[v0, v1, .int .i64 n] 27) := ⟨_, rfl⟩
  have b0 : Below w.heap.size w W := by rw [hW]; exact (Below.refl _ _).alloc (Nat.le_refl _) _
  have HA := Fk.hide (h1.below b0)
  have HB := Fk.hide (h0.below b0)
  have c1 : W.cell? ⟨w.heap.size, 1, none⟩ = some v1 := by rw [hW, Fk.cellTop _ _ _ _ _ rfl]; rfl
  have hz : w.heap.size < W.heap.size := by rw [hW]; simp
  have HW := Fk.hide hW
  clear hW
  have M0 := Fk.hide m0
  have M1 := Fk.hide m1
  clear m0 m1
  obtain ⟨a0, cap0, rfl⟩ := h0.slice
  obtain ⟨a1, cap1, rfl⟩ := h1.slice
  clear h0 h1
  go_enter Try.func16, Try.ntmps16
  go_wp2_with fail
  rw [← HW.out]
  refine (szLevelS_any _ _ _ _ HB.out l0 M0.out hl0 hl1).mono ?_
  rintro e w1 ⟨⟨r, rfl, hr⟩, k1⟩
  have bel1 : Below w.heap.size w w1 := b0.trans (k1.mono b0.size)
  have d1 := (k1.cell (p := ⟨w.heap.size, 1, none⟩) (by show w.heap.size < _; omega)).trans c1
  have HA1 := Fk.hide (HA.out.below k1)
  clear k1 c1 HB
  rcases hr with rfl | ⟨hr0, hr⟩
  · go_wp2_with fail
    go_ret
    exact ⟨⟨_, rfl, .inl rfl⟩, bel1⟩
  have hr1 : r ≤ 1048576 := by omega
  have HR := Fk.hide hr
  clear hr
  go_wp2_with fail
  refine (szLevelS_any _ _ _ _ HA1.out l1 M1.out hr0 hr1).mono ?_
  rintro e w2 ⟨⟨r2, rfl, hq⟩, k2⟩
  have bel2 : Below w.heap.size w w2 := bel1.trans (k2.mono bel1.size)
  clear k2
  rcases hq with rfl | ⟨hq0, hq⟩
  · go_wp2_with fail
    go_ret
    exact ⟨⟨_, rfl, .inl rfl⟩, bel2⟩
  have HQ := Fk.hide hq
  clear hq
  go_wp2_with fail
  go_ret
  exact ⟨⟨_, rfl, .inr ⟨hq0, by rw [HQ.out, HR.out]⟩⟩, bel2⟩

set_option maxHeartbeats 2000000 in
theorem toLevel_any (p : Int) (v : Value) (L : List Or.E) (w : World) (hv : Rk.View Or.S w v L) (hl : L.length ≤ 1048576) :
    Calls Try.prog 44 #[.agg #[.int .i64 p, v]] w fun e w' =>
      (∃ u, e = .returned (.agg #[.int .i64 p, u]) ∧ Rk.Own Or.S w' w.heap.size 87 u L) ∧ Below w.heap.size w w' := by
  obtain ⟨W, hW⟩ : ∃ W, W = ((w.alloc (.cells #[.int .i64 p, v] 81)).alloc (.cells #[.int .i64 0, .slice none 0 0] 76)).alloc (.cells #[.int .i64 p, .slice none 0 0] 76) := ⟨_, rfl⟩
  have b0 : Below w.heap.size w W := by
    rw [hW]
    repeat (first | exact Below.refl _ _ | refine Below.setCell ?_ (by simp <;> omega) _ | refine Below.alloc ?_ (by simp <;> omega) _)
  have HV := Fk.hide (hv.below b0)
  have hsz : W.heap.size = w.heap.size + 3 := by rw [hW]; simp
  have e0 : W.cell? ⟨w.heap.size + 2, 0, none⟩ = some (.int .i64 p) := by rw [hW, Fk.cellTop _ _ _ _ _ (by simp)]; rfl
  have e1 : W.cell? ⟨w.heap.size + 2, 1, none⟩ = some (.slice none 0 0) := by rw [hW, Fk.cellTop _ _ _ _ _ (by simp)]; rfl
  have d0 : W.cell? ⟨w.heap.size + 1, 0, none⟩ = some (.int .i64 0) := by rw [hW, Fk.cellOld _ _ _ _ (by simp), Fk.cellTop _ _ _ _ _ (by simp)]; rfl
  have d1 : W.cell? ⟨w.heap.size + 1, 1, none⟩ = some (.slice none 0 0) := by rw [hW, Fk.cellOld _ _ _ _ (by simp), Fk.cellTop _ _ _ _ _ (by simp)]; rfl
  have ef : ∀ j, W.frozen? ⟨w.heap.size + 2, j, none⟩ = false := fun j => by rw [hW, Fk.frozTop _ _ _ _ _ (by simp)]
  have df : ∀ j, W.frozen? ⟨w.heap.size + 1, j, none⟩ = false := fun j => by rw [hW, Fk.frozOld _ _ _ _ (by simp), Fk.frozTop _ _ _ _ _ (by simp)]
  obtain ⟨a0, cap0, rfl, _⟩ := hv
  have HW := Fk.hide hW
  clear hW
  go_enter Try.func44, Try.ntmps44
  go_wp2_with fail
  rw [← HW.out]
  refine (toOrderS_any _ _ _ HV.out hl).mono ?_
  rintro e w1 ⟨⟨u, rfl, o0⟩, k1⟩
  have HB0 : Hid (Below w.heap.size w w1) := b0.trans (k1.mono b0.size)
  have hs1 : w.heap.size + 3 ≤ w1.heap.size := by rw [← hsz]; exact k1.size
  have g0 := (k1.cell (p := ⟨w.heap.size + 2, 0, none⟩) (by show w.heap.size + 2 < _; omega)).trans e0
  have g1 := (k1.cell (p := ⟨w.heap.size + 2, 1, none⟩) (by show w.heap.size + 2 < _; omega)).trans e1
  have j0 := (k1.cell (p := ⟨w.heap.size + 1, 0, none⟩) (by show w.heap.size + 1 < _; omega)).trans d0
  have j1 := (k1.cell (p := ⟨w.heap.size + 1, 1, none⟩) (by show w.heap.size + 1 < _; omega)).trans d1
  have gf : ∀ j, w1.frozen? ⟨w.heap.size + 2, j, none⟩ = false := fun j => (k1.frozen (by show w.heap.size + 2 < _; omega)).trans (ef j)
  have jf : ∀ j, w1.frozen? ⟨w.heap.size + 1, j, none⟩ = false := fun j => (k1.frozen (by show w.heap.size + 1 < _; omega)).trans (df j)
  obtain ⟨x0, m0, y0, rfl⟩ := o0.slice'
  have HP : Hid (Rk.Own Or.S w1 (w.heap.size + 3) 87 (.slice x0 m0 y0) L) := Rk.Own.mono o0 (by omega)
  clear o0 k1 e0 e1 d0 d1 ef df HV b0
  go_wp2_with fail
  refine bodyPost_ret (v := .agg #[.int .i64 p, .slice x0 m0 y0]) (by simp [results, Try.results44, go_sem, g0, g1, j0, j1] <;> rfl) rfl ⟨⟨_, rfl, ?_⟩, ?_⟩
  · have set : ∀ {W : World} {u : Value} {L : List Or.E} (b i : Nat) (x : Value), b < w.heap.size + 3 → Rk.Own Or.S W (w.heap.size + 3) 87 u L → Rk.Own Or.S (W.setCell ⟨b, i, none⟩ x) (w.heap.size + 3) 87 u L := fun b i x hb h => ownsRow_setCell_below h (by show b < _; exact hb) _
    refine Rk.Own.mono ?_ (Nat.le_add_right _ 3)
    repeat (refine set _ _ _ (by omega) ?_)
    exact HP.out
  · repeat (refine Below.setCell ?_ (by simp <;> omega) _)
    exact HB0.out
end Go.Proofs.Ytnhpcknbnmhlhaa

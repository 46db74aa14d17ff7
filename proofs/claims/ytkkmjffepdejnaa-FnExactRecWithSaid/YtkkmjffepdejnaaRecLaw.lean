/- The walks of the law's own functions on records, and on answers with a record: sizes, copies, comparisons, marks. -/
import Derived.Test.YtkkmjffepdejnaaFieldLaw
import Derived.Test.YtkkmjffepdejnaaFieldMark
namespace Go.Proofs.Ytkkmjffepdejnaa
open Go.RowKit
set_option linter.unusedVariables false
set_option linter.unusedSimpArgs false

set_option maxHeartbeats 1000000 in
theorem szRec_any (K : Int) (v : Value) (L : List Fd.E) (left : Int) (w : World) (hv : Rk.View Fd.S w v L) (hL : ∀ f ∈ L, Fd.Fit f) (hl : L.length ≤ maxLen) (h0 : 0 ≤ left) (h1 : left ≤ 1048576) :
    Calls Try.prog 17 #[.agg #[.int .i64 K, v], .int .i64 left] w fun e w' =>
      (∃ r, e = .returned (.int .i64 r) ∧ (r = -1 ∨ (0 ≤ r ∧ r = left - L.length - Fd.tot L L.length))) ∧ Below w.heap.size w w' := by
  have b0 : Below w.heap.size w (w.alloc (.cells #[.int .i64 K, v] 40)) := (Below.refl _ _).alloc (Nat.le_refl _) _
  have hv' := hv.below b0
  obtain ⟨a, cap, rfl, _⟩ := hv
  go_enter Try.func17, Try.ntmps17
  go_wp2_with fail
  refine (szFieldS_any _ _ _ _ hv' hL hl h0 h1).mono ?_
  rintro e w1 ⟨⟨r, rfl, hr⟩, bel1⟩
  have bel2 : Below w.heap.size w w1 := b0.trans (bel1.mono b0.size)
  clear bel1
  rcases hr with rfl | ⟨hr0, hr⟩
  · go_wp2
    go_ret
    exact ⟨⟨_, rfl, .inl rfl⟩, bel2⟩
  · have HR : Hid (r = left - L.length - Fd.tot L L.length) := hr
    clear hr
    go_wp2
    go_ret
    exact ⟨⟨_, rfl, .inr ⟨hr0, HR.out⟩⟩, bel2⟩

set_option maxHeartbeats 1000000 in
theorem toRec_any (K : Int) (v : Value) (L : List Fd.E) (w : World) (hv : Rk.View Fd.S w v L) (hl : L.length ≤ 1048576) :
    Calls Try.prog 19 #[.agg #[.int .i64 K, v]] w fun e w' =>
      (∃ u, e = .returned (.agg #[.int .i64 K, u]) ∧ Rk.Own Fd.S w' w.heap.size 76 u L) ∧ Below w.heap.size w w' := by
  obtain ⟨W, hW⟩ : ∃ W, W = ((w.alloc (.cells #[.int .i64 K, v] 40)).alloc (.cells #[.int .i64 0, .slice none 0 0] 45)).alloc (.cells #[.int .i64 K, .slice none 0 0] 45) := ⟨_, rfl⟩
  have b0 : Below w.heap.size w W := by
    rw [hW]
    repeat (first | exact Below.refl _ _ | refine Below.alloc ?_ (by simp <;> omega) _)
  have hv' := hv.below b0
  have hsz : W.heap.size = w.heap.size + 3 := by rw [hW]; simp
  obtain ⟨a, cap, rfl, _⟩ := hv
  have HW := Fk.hide hW
  have e0 : W.cell? ⟨w.heap.size + 2, 0, none⟩ = some (.int .i64 K) := by rw [hW, Fk.cellTop _ _ _ _ _ (by simp)]; rfl
  have e1 : W.cell? ⟨w.heap.size + 2, 1, none⟩ = some (.slice none 0 0) := by rw [hW, Fk.cellTop _ _ _ _ _ (by simp)]; rfl
  have d0 : W.cell? ⟨w.heap.size + 1, 0, none⟩ = some (.int .i64 0) := by rw [hW, Fk.cellOld _ _ _ _ (by simp), Fk.cellTop _ _ _ _ _ (by simp)]; rfl
  have d1 : W.cell? ⟨w.heap.size + 1, 1, none⟩ = some (.slice none 0 0) := by rw [hW, Fk.cellOld _ _ _ _ (by simp), Fk.cellTop _ _ _ _ _ (by simp)]; rfl
  have ef : ∀ j, W.frozen? ⟨w.heap.size + 2, j, none⟩ = false := fun j => by rw [hW, Fk.frozTop _ _ _ _ _ (by simp)]
  have df : ∀ j, W.frozen? ⟨w.heap.size + 1, j, none⟩ = false := fun j => by rw [hW, Fk.frozOld _ _ _ _ (by simp), Fk.frozTop _ _ _ _ _ (by simp)]
  clear hW
  go_enter Try.func19, Try.ntmps19
  go_wp2_with fail
  rw [← HW.out]
  refine (toFieldS_any _ _ _ hv' hl).mono ?_
  rintro e w1 ⟨⟨u, rfl, hown⟩, bel1⟩
  have HE : Hid (Below w.heap.size w w1) := b0.trans (bel1.mono b0.size)
  have g0 := (bel1.cell (p := ⟨w.heap.size + 2, 0, none⟩) (by show w.heap.size + 2 < _; omega)).trans e0
  have g1 := (bel1.cell (p := ⟨w.heap.size + 2, 1, none⟩) (by show w.heap.size + 2 < _; omega)).trans e1
  have k0 := (bel1.cell (p := ⟨w.heap.size + 1, 0, none⟩) (by show w.heap.size + 1 < _; omega)).trans d0
  have k1 := (bel1.cell (p := ⟨w.heap.size + 1, 1, none⟩) (by show w.heap.size + 1 < _; omega)).trans d1
  have gf : ∀ j, w1.frozen? ⟨w.heap.size + 2, j, none⟩ = false := fun j => (bel1.frozen (by show w.heap.size + 2 < _; omega)).trans (ef j)
  have kf : ∀ j, w1.frozen? ⟨w.heap.size + 1, j, none⟩ = false := fun j => (bel1.frozen (by show w.heap.size + 1 < _; omega)).trans (df j)
  have HO := Fk.hide hown
  obtain ⟨a', n', cap', rfl⟩ := hown.slice'
  clear hown bel1 e0 e1 d0 d1 ef df
  go_wp2_with fail
  refine bodyPost_ret (v := .agg #[.int .i64 K, .slice a' n' cap']) (by simp [results, Try.results19, go_sem, g0, g1, k0, k1] <;> rfl) rfl ⟨⟨_, rfl, ?_⟩, ?_⟩
  · refine Rk.Own.mono ?_ b0.size
    exact ownsRow_setCell_below (ownsRow_setCell_below (ownsRow_setCell_below HO.out (by show w.heap.size + 2 < _; omega) _) (by show w.heap.size + 1 < _; omega) _) (by show w.heap.size + 1 < _; omega) _
  · exact ((HE.out.setCell (by show w.heap.size ≤ w.heap.size + 2; omega) _).setCell (by show w.heap.size ≤ w.heap.size + 1; omega) _).setCell (by show w.heap.size ≤ w.heap.size + 1; omega) _

set_option maxHeartbeats 1000000 in
theorem eqRec_same (K : Int) (v1 v2 : Value) (L : List Fd.E) (w : World) (h1 : Rk.View Fd.S w v1 L) (h2 : Rk.View Fd.S w v2 L) (hl : L.length ≤ 1048576) :
    Calls Try.prog 21 #[.agg #[.int .i64 K, v1], .agg #[.int .i64 K, v2]] w fun e w' => e = .returned (.bool true) ∧ Below w.heap.size w w' := by
  have b0 : Below w.heap.size w ((w.alloc (.cells #[.int .i64 K, v1] 45)).alloc (.cells #[.int .i64 K, v2] 45)) := by
    repeat (first | exact Below.refl _ _ | refine Below.alloc ?_ (by simp <;> omega) _)
  have h1' := h1.below b0
  have h2' := h2.below b0
  obtain ⟨a, cap, rfl, _⟩ := h1
  obtain ⟨a2, cap2, rfl, _⟩ := h2
  go_enter Try.func21, Try.ntmps21
  go_wp2_with fail
  refine (eqFieldS_same _ _ _ _ h1' h2' hl).mono ?_
  rintro e w1 ⟨rfl, bel1⟩
  have bel2 : Below w.heap.size w w1 := b0.trans (bel1.mono b0.size)
  go_wp2
  go_ret
  exact ⟨rfl, bel2⟩

set_option maxHeartbeats 1000000 in
theorem eqRecOut_same (K t c : Int) (v1 v2 : Value) (L : List Fd.E) (w : World) (h1 : Rk.View Fd.S w v1 L) (h2 : Rk.View Fd.S w v2 L) (hl : L.length ≤ 1048576) :
    Calls Try.prog 24 #[.agg #[.int .i64 K, v1, .int .i64 t, .int .i64 c], .agg #[.int .i64 K, v2, .int .i64 t, .int .i64 c]] w fun e w' => e = .returned (.bool true) ∧ Below w.heap.size w w' := by
  obtain ⟨W, hW⟩ : ∃ W, W = (w.alloc (.cells #[.int .i64 K, v1, .int .i64 t, .int .i64 c] 50)).alloc (.cells #[.int .i64 K, v2, .int .i64 t, .int .i64 c] 50) := ⟨_, rfl⟩
  have b0 : Below w.heap.size w W := by
    rw [hW]
    repeat (first | exact Below.refl _ _ | refine Below.alloc ?_ (by simp <;> omega) _)
  have hsz : W.heap.size = w.heap.size + 2 := by rw [hW]; simp
  have q1 : W.cell? ⟨w.heap.size, 2, none⟩ = some (.int .i64 t) := by rw [hW, Fk.cellOld _ _ _ _ (by simp), Fk.cellTop _ _ _ _ _ (by simp)]; rfl
  have q2 : W.cell? ⟨w.heap.size + 1, 2, none⟩ = some (.int .i64 t) := by rw [hW, Fk.cellTop _ _ _ _ _ (by simp)]; rfl
  have q3 : W.cell? ⟨w.heap.size, 3, none⟩ = some (.int .i64 c) := by rw [hW, Fk.cellOld _ _ _ _ (by simp), Fk.cellTop _ _ _ _ _ (by simp)]; rfl
  have q4 : W.cell? ⟨w.heap.size + 1, 3, none⟩ = some (.int .i64 c) := by rw [hW, Fk.cellTop _ _ _ _ _ (by simp)]; rfl
  have h1' := h1.below b0
  have h2' := h2.below b0
  have HW := Fk.hide hW
  clear hW
  obtain ⟨a, cap, rfl, _⟩ := h1
  obtain ⟨a2, cap2, rfl, _⟩ := h2
  go_enter Try.func24, Try.ntmps24
  go_wp2_with fail
  rw [← HW.out]
  refine (eqRec_same _ _ _ _ _ h1' h2' hl).mono ?_
  rintro e w1 ⟨rfl, b1⟩
  have p1 : w1.cell? ⟨w.heap.size, 2, none⟩ = some (.int .i64 t) := (b1.cell (by show w.heap.size < _; omega)).trans q1
  have p2 : w1.cell? ⟨w.heap.size + 1, 2, none⟩ = some (.int .i64 t) := (b1.cell (by show w.heap.size + 1 < _; omega)).trans q2
  have p3 : w1.cell? ⟨w.heap.size, 3, none⟩ = some (.int .i64 c) := (b1.cell (by show w.heap.size < _; omega)).trans q3
  have p4 : w1.cell? ⟨w.heap.size + 1, 3, none⟩ = some (.int .i64 c) := (b1.cell (by show w.heap.size + 1 < _; omega)).trans q4
  have b2 : Below w.heap.size w w1 := b0.trans (b1.mono b0.size)
  clear b1 q1 q2 q3 q4
  go_wp2_with fail
  go_ret
  exact ⟨rfl, b2⟩

set_option maxHeartbeats 2000000 in
theorem markRec_any (K : Int) (v : Value) (L : List Fd.E) (k : Nat) (base : Nat) (w : World) (ho : Rk.Own Fd.S w base 76 v L) (hl : L.length ≤ 1048576) (hk0 : 0 < k) (hk : k ≤ 1000) :
    Calls Try.prog 25 #[.agg #[.int .i64 K, v], .int .i64 k] w fun e w' => (e = .returned (.int .i64 ((k + 2 * L.length : Nat) : Int)) ∧ Rk.Own Fd.S w' base 76 v (Fd.mks k L.length)) ∧ w.grownBy w' v.ownBlock := by
  have b0 : Below w.heap.size w (w.alloc (.cells #[.int .i64 K, v] 45)) := (Below.refl _ _).alloc (Nat.le_refl _) _
  have ho' := ho.below b0
  have G0 := Fk.hide (Fk.grownBy_below v.ownBlock b0)
  obtain ⟨a, cap, rfl⟩ := ho.slice
  clear ho b0
  go_enter Try.func25, Try.ntmps25
  go_wp2_with fail
  refine (markFieldS_any _ L k base _ ho' hl hk0 hk).mono ?_
  rintro e w1 ⟨⟨rfl, o1⟩, g1⟩
  have O1 := Fk.hide o1
  have G1 := Fk.hide (Fk.grownBy_trans G0.out g1)
  clear o1 g1 G0 ho'
  go_wp2_with fail
  go_ret
  exact ⟨⟨rfl, O1.out⟩, G1.out⟩

set_option maxHeartbeats 2000000 in
theorem heldRec_any (K : Int) (v : Value) (n k : Nat) (w : World) (hv : Rk.View Fd.S w v (Fd.mks k n)) (hl : n ≤ 1048576) (hk0 : 0 < k) (hk : k ≤ 1000) :
    Calls Try.prog 61 #[.agg #[.int .i64 K, v], .int .i64 k] w fun e w' => e = .returned (.int .i64 ((k + 2 * n : Nat) : Int)) ∧ Below w.heap.size w w' := by
  have b0 : Below w.heap.size w (w.alloc (.cells #[.int .i64 K, v] 45)) := (Below.refl _ _).alloc (Nat.le_refl _) _
  have hv' := hv.below b0
  have HB := Fk.hide b0
  obtain ⟨a, cap, rfl, _⟩ := hv
  clear b0
  have hn0 : (0 : Int) ≤ ((k + 2 * n : Nat) : Int) := by omega
  go_enter Try.func61, Try.ntmps61
  go_wp2_with fail
  refine (heldFieldS_any _ n k _ hv' hl hk0 hk).mono ?_
  rintro e w1 ⟨rfl, b1⟩
  have HB1 := Fk.hide (HB.out.trans (b1.mono HB.out.size))
  clear b1 hv'
  obtain ⟨q, hq⟩ : ∃ q : Int, q = ((k + 2 * n : Nat) : Int) := ⟨_, rfl⟩
  rw [← hq] at hn0 ⊢
  have HQ := Fk.hide hq
  clear hq
  go_wp2_with fail
  go_ret
  exact ⟨by rw [← HQ.out]; rfl, HB1.out⟩

set_option maxHeartbeats 1000000 in
theorem markRecOut_any (K t c : Int) (v : Value) (L : List Fd.E) (k : Nat) (base : Nat) (w : World) (ho : Rk.Own Fd.S w base 76 v L) (hl : L.length ≤ 1048576) (hk0 : 0 < k) (hk : k ≤ 1000) :
    Calls Try.prog 26 #[.agg #[.int .i64 K, v, .int .i64 t, .int .i64 c], .int .i64 k] w fun e w' => (e = .returned (.int .i64 ((k + 2 * L.length : Nat) : Int)) ∧ Rk.Own Fd.S w' base 76 v (Fd.mks k L.length)) ∧ w.grownBy w' v.ownBlock := by
  have b0 : Below w.heap.size w (w.alloc (.cells #[.int .i64 K, v, .int .i64 t, .int .i64 c] 50)) := (Below.refl _ _).alloc (Nat.le_refl _) _
  have ho' := ho.below b0
  have G0 := Fk.hide (Fk.grownBy_below v.ownBlock b0)
  obtain ⟨a, cap, rfl⟩ := ho.slice
  clear ho b0
  go_enter Try.func26, Try.ntmps26
  go_wp2_with fail
  refine (markRec_any K _ L k base _ ho' hl hk0 hk).mono ?_
  rintro e w1 ⟨⟨rfl, o1⟩, g1⟩
  have O1 := Fk.hide o1
  have G1 := Fk.hide (Fk.grownBy_trans G0.out g1)
  clear o1 g1 G0 ho'
  go_wp2_with fail
  go_ret
  exact ⟨⟨rfl, O1.out⟩, G1.out⟩

set_option maxHeartbeats 1000000 in
theorem heldRecOut_any (K t c : Int) (v : Value) (n k : Nat) (w : World) (hv : Rk.View Fd.S w v (Fd.mks k n)) (hl : n ≤ 1048576) (hk0 : 0 < k) (hk : k ≤ 1000) :
    Calls Try.prog 27 #[.agg #[.int .i64 K, v, .int .i64 t, .int .i64 c], .int .i64 k] w fun e w' => e = .returned (.int .i64 ((k + 2 * n : Nat) : Int)) ∧ Below w.heap.size w w' := by
  have b0 : Below w.heap.size w (w.alloc (.cells #[.int .i64 K, v, .int .i64 t, .int .i64 c] 50)) := (Below.refl _ _).alloc (Nat.le_refl _) _
  have hv' := hv.below b0
  have HB := Fk.hide b0
  obtain ⟨a, cap, rfl, _⟩ := hv
  clear b0
  have hn0 : (0 : Int) ≤ ((k + 2 * n : Nat) : Int) := by omega
  go_enter Try.func27, Try.ntmps27
  go_wp2_with fail
  refine (heldRec_any K _ n k _ hv' hl hk0 hk).mono ?_
  rintro e w1 ⟨rfl, b1⟩
  have HB1 := Fk.hide (HB.out.trans (b1.mono HB.out.size))
  clear b1 hv'
  obtain ⟨q, hq⟩ : ∃ q : Int, q = ((k + 2 * n : Nat) : Int) := ⟨_, rfl⟩
  rw [← hq] at hn0 ⊢
  have HQ := Fk.hide hq
  clear hq
  go_wp2_with fail
  go_ret
  exact ⟨by rw [← HQ.out]; rfl, HB1.out⟩
end Go.Proofs.Ytkkmjffepdejnaa

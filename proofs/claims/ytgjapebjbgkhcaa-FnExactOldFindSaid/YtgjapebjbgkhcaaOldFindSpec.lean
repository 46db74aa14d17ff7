/- The walk of the specification's OldFind. -/
import Derived.Test.YtgjapebjbgkhcaaOldSeat
namespace Go.Proofs.Ytgjapebjbgkhcaa
open Go.RowKit
set_option linter.unusedVariables false
set_option linter.unusedSimpArgs false

set_option maxRecDepth 100000 in
set_option maxHeartbeats 4000000 in
theorem oldFind_spec (u v : Value) (n : Int) (id : Int) (B A : List Or.E) (w : World) (hu : Rk.View Or.S w u B) (hv : Rk.View Or.S w v A) (su : Rk.Shut u) (sv : Rk.Shut v) (l0 : B.length ≤ 1048576) (l1 : A.length ≤ 1048576) :
    Calls Try.prog 22 #[.agg #[u, v, .int .i64 n], .int .i64 id] w fun e w' => e = .returned (.agg #[.int .i64 (Ob.find B A n id).1, .int .i64 (Ob.find B A n id).2.1, .int .i64 (Ob.find B A n id).2.2.1, .int .i64 (Ob.find B A n id).2.2.2.1, .bool (Ob.find B A n id).2.2.2.2.1, .int .i64 (Ob.find B A n id).2.2.2.2.2.1, .int .i64 (Ob.find B A n id).2.2.2.2.2.2.1, .bool (Ob.find B A n id).2.2.2.2.2.2.2]) ∧ Below w.heap.size w w' := by
  obtain ⟨W, hW⟩ : ∃ W, W = (w.alloc (.cells #[u, v, .int .i64 n] 25)).alloc (.cells #[.int .i64 0, .int .i64 0, .int .i64 0, .int .i64 0, .bool false, .int .i64 0, .int .i64 0, .bool false] 40) := ⟨_, rfl⟩
  have b0 : Below w.heap.size w W := by rw [hW]; exact ((Below.refl _ _).alloc (Nat.le_refl _) _).alloc (by simp) _
  have c0 : W.cell? ⟨w.heap.size, 0, none⟩ = some u := by rw [hW, Fk.cellOld _ _ _ _ (by simp), Fk.cellTop _ _ _ _ _ rfl]; rfl
  have c1 : W.cell? ⟨w.heap.size, 1, none⟩ = some v := by rw [hW, Fk.cellOld _ _ _ _ (by simp), Fk.cellTop _ _ _ _ _ rfl]; rfl
  have c2 : W.cell? ⟨w.heap.size, 2, none⟩ = some (.int .i64 n) := by rw [hW, Fk.cellOld _ _ _ _ (by simp), Fk.cellTop _ _ _ _ _ rfl]; rfl
  have HZ0 : Hid (W.cell? ⟨w.heap.size + 1, 0, none⟩ = some (.int .i64 0)) := by show _ = _; rw [hW, Fk.cellTop _ _ _ _ _ (by simp)]; rfl
  have HZ1 : Hid (W.cell? ⟨w.heap.size + 1, 1, none⟩ = some (.int .i64 0)) := by show _ = _; rw [hW, Fk.cellTop _ _ _ _ _ (by simp)]; rfl
  have HZ2 : Hid (W.cell? ⟨w.heap.size + 1, 2, none⟩ = some (.int .i64 0)) := by show _ = _; rw [hW, Fk.cellTop _ _ _ _ _ (by simp)]; rfl
  have HZ3 : Hid (W.cell? ⟨w.heap.size + 1, 3, none⟩ = some (.int .i64 0)) := by show _ = _; rw [hW, Fk.cellTop _ _ _ _ _ (by simp)]; rfl
  have HZ4 : Hid (W.cell? ⟨w.heap.size + 1, 4, none⟩ = some (.bool false)) := by show _ = _; rw [hW, Fk.cellTop _ _ _ _ _ (by simp)]; rfl
  have HZ5 : Hid (W.cell? ⟨w.heap.size + 1, 5, none⟩ = some (.int .i64 0)) := by show _ = _; rw [hW, Fk.cellTop _ _ _ _ _ (by simp)]; rfl
  have HZ6 : Hid (W.cell? ⟨w.heap.size + 1, 6, none⟩ = some (.int .i64 0)) := by show _ = _; rw [hW, Fk.cellTop _ _ _ _ _ (by simp)]; rfl
  have HZ7 : Hid (W.cell? ⟨w.heap.size + 1, 7, none⟩ = some (.bool false)) := by show _ = _; rw [hW, Fk.cellTop _ _ _ _ _ (by simp)]; rfl
  have HZF : Hid (∀ j, W.frozen? ⟨w.heap.size + 1, j, none⟩ = false) := fun j => by rw [hW, Fk.frozTop _ _ _ _ _ (by simp)]
  have hz : W.heap.size = w.heap.size + 2 := by rw [hW]; simp
  have HU := Fk.hide hu
  have HV := Fk.hide hv
  obtain ⟨a0, cap0, rfl, _⟩ := hu
  obtain ⟨a1, cap1, rfl, _⟩ := hv
  have HW := Fk.hide hW
  clear hW
  obtain ⟨x, hx⟩ : ∃ x, x = Ob.find B A n id := ⟨_, rfl⟩
  rw [← hx]
  have HX := Fk.hide hx
  clear hx
  go_enter Try.func22, Try.ntmps22
  go_wp2_with fail
  rw [← HW.out]
  refine (l06Open_any _ _ _ B A _ (HU.out.below b0) (HV.out.below b0) su sv l0 l1).mono ?_
  rintro e w1 ⟨⟨p, q, bb, rfl, T1, hb1, hb2, cp, cq, _, _⟩, k1⟩
  have B1 : Below w.heap.size w w1 := b0.trans (k1.mono b0.size)
  have bW1 : Below W.heap.size W w1 := k1
  have d0 := (k1.cell (p := ⟨w.heap.size, 0, none⟩) (by show w.heap.size < _; omega)).trans c0
  have d1 := (k1.cell (p := ⟨w.heap.size, 1, none⟩) (by show w.heap.size < _; omega)).trans c1
  have d2 := (k1.cell (p := ⟨w.heap.size, 2, none⟩) (by show w.heap.size < _; omega)).trans c2
  have hz1 : w.heap.size + 2 ≤ w1.heap.size := by rw [← hz]; exact k1.size
  clear k1 c0 c1 c2
  obtain ⟨p1, p2, p3, rfl⟩ := T1.b.slice'
  obtain ⟨q1, q2, q3, rfl⟩ := T1.a.slice'
  go_wp2_with fail
  refine (find_spec bb _ _ id B A _ hb2 cp cq T1.b.view T1.a.view l0 l1).mono ?_
  rintro e w2 ⟨⟨buy, k, rfl, hfound⟩, k2⟩
  have HB12 : Hid (Below w1.heap.size w1 w2) := k2
  have B2 : Below w.heap.size w w2 := B1.trans (k2.mono B1.size)
  have bW2 : Below W.heap.size W w2 := bW1.trans (k2.mono bW1.size)
  have hz2 : w.heap.size + 2 ≤ w2.heap.size := Nat.le_trans hz1 k2.size
  have f0 := (k2.cell (p := ⟨w.heap.size, 0, none⟩) (by show w.heap.size < _; omega)).trans d0
  have f1 := (k2.cell (p := ⟨w.heap.size, 1, none⟩) (by show w.heap.size < _; omega)).trans d1
  have f2 := (k2.cell (p := ⟨w.heap.size, 2, none⟩) (by show w.heap.size < _; omega)).trans d2
  clear k2 d0 d1 d2
  rcases hfound with ⟨rfl, j, rfl, hj⟩ | ⟨rfl, hB, ⟨j, rfl, hj⟩ | ⟨rfl, hA⟩⟩
  · skip
    have z4' : ¬ ((j : Int) < 0) := by omega
    have HH := Fk.hide hj
    have hlt : j < B.length := hj.1
    clear hj
    go_wp2_with fail
    refine (oldRight_spec _ _ _ B A _ (HU.out.below B2) (HV.out.below B2) su sv l0 l1).mono ?_
    rintro e w3 ⟨rfl, k3⟩
    have B3 : Below w.heap.size w w3 := B2.trans (k3.mono B2.size)
    have bW3 : Below W.heap.size W w3 := bW2.trans (k3.mono bW2.size)
    have hz3 : w.heap.size + 2 ≤ w3.heap.size := Nat.le_trans hz2 k3.size
    have B13 := HB12.out.trans (k3.mono HB12.out.size)
    have cp3 := (B13.cell (p := ⟨bb, 0, none⟩) hb2).trans cp
    have cq3 := (B13.cell (p := ⟨bb, 1, none⟩) hb2).trans cq
    have HB13 := Fk.hide B13
    clear k3 B13
    obtain ⟨r, hr⟩ : ∃ r, r = Ob.right B A n := ⟨_, rfl⟩
    rw [← hr]
    have HR := Fk.hide hr
    clear hr
    cases r with
    | false =>
      have hxz : x = Or.S.z := by rw [HX.out]; exact Ob.find_ill HR.out.symm
      subst hxz
      have z0 := (bW3.cell (p := ⟨w.heap.size + 1, 0, none⟩) (by show w.heap.size + 1 < _; omega)).trans HZ0.out
      have z1 := (bW3.cell (p := ⟨w.heap.size + 1, 1, none⟩) (by show w.heap.size + 1 < _; omega)).trans HZ1.out
      have z2 := (bW3.cell (p := ⟨w.heap.size + 1, 2, none⟩) (by show w.heap.size + 1 < _; omega)).trans HZ2.out
      have z3 := (bW3.cell (p := ⟨w.heap.size + 1, 3, none⟩) (by show w.heap.size + 1 < _; omega)).trans HZ3.out
      have z4 := (bW3.cell (p := ⟨w.heap.size + 1, 4, none⟩) (by show w.heap.size + 1 < _; omega)).trans HZ4.out
      have z5 := (bW3.cell (p := ⟨w.heap.size + 1, 5, none⟩) (by show w.heap.size + 1 < _; omega)).trans HZ5.out
      have z6 := (bW3.cell (p := ⟨w.heap.size + 1, 6, none⟩) (by show w.heap.size + 1 < _; omega)).trans HZ6.out
      have z7 := (bW3.cell (p := ⟨w.heap.size + 1, 7, none⟩) (by show w.heap.size + 1 < _; omega)).trans HZ7.out
      have zf : ∀ j, w3.frozen? ⟨w.heap.size + 1, j, none⟩ = false := fun j => (bW3.frozen (by show w.heap.size + 1 < _; omega)).trans (HZF.out j)
      go_wp2_with fail
      refine bodyPost_ret (v := .agg #[.int .i64 0, .int .i64 0, .int .i64 0, .int .i64 0, .bool false, .int .i64 0, .int .i64 0, .bool false]) (by simp [results, Try.results22, go_sem, z0, z1, z2, z3, z4, z5, z6, z7] <;> rfl) rfl ⟨rfl, ?_⟩
      repeat (refine Below.setCell ?_ (by simp <;> omega) _)
      exact B3
    | true =>
      have hxq : x = Rk.at_ Or.S B j := by rw [HX.out]; exact Ob.find_bid HR.out.symm HH.out
      obtain ⟨va, vc, ev, hs⟩ := T1.b.view
      obtain ⟨vb, vo, rfl, hvb, hs1⟩ := hs (by omega)
      have hs' := hs1.below hvb HB13.out
      simp only [Value.slice.injEq] at ev
      obtain ⟨e1, e2, e3⟩ := ev
      subst e1 e2 e3
      have q0 := Or.c0 hs' hlt
      have q1 := Or.c1 hs' hlt
      have q2 := Or.c2 hs' hlt
      have q3 := Or.c3 hs' hlt
      have q4 := Or.c4 hs' hlt
      have q5 := Or.c5 hs' hlt
      have q6 := Or.c6 hs' hlt
      have q7 := Or.c7 hs' hlt
      rw [← hxq] at q0 q1 q2 q3 q4 q5 q6 q7
      clear hs' hxq hs hs1
      have z0 := (bW3.cell (p := ⟨w.heap.size + 1, 0, none⟩) (by show w.heap.size + 1 < _; omega)).trans HZ0.out
      have z1 := (bW3.cell (p := ⟨w.heap.size + 1, 1, none⟩) (by show w.heap.size + 1 < _; omega)).trans HZ1.out
      have z2 := (bW3.cell (p := ⟨w.heap.size + 1, 2, none⟩) (by show w.heap.size + 1 < _; omega)).trans HZ2.out
      have z3 := (bW3.cell (p := ⟨w.heap.size + 1, 3, none⟩) (by show w.heap.size + 1 < _; omega)).trans HZ3.out
      have z4 := (bW3.cell (p := ⟨w.heap.size + 1, 4, none⟩) (by show w.heap.size + 1 < _; omega)).trans HZ4.out
      have z5 := (bW3.cell (p := ⟨w.heap.size + 1, 5, none⟩) (by show w.heap.size + 1 < _; omega)).trans HZ5.out
      have z6 := (bW3.cell (p := ⟨w.heap.size + 1, 6, none⟩) (by show w.heap.size + 1 < _; omega)).trans HZ6.out
      have z7 := (bW3.cell (p := ⟨w.heap.size + 1, 7, none⟩) (by show w.heap.size + 1 < _; omega)).trans HZ7.out
      have zf : ∀ j, w3.frozen? ⟨w.heap.size + 1, j, none⟩ = false := fun j => (bW3.frozen (by show w.heap.size + 1 < _; omega)).trans (HZF.out j)
      go_wp2_with (first | (go_at_call 66; refine (side_any bb _ _ true _ cp3 cq3 ⟨_, _, _, rfl⟩ ⟨_, _, _, rfl⟩).mono ?_; rintro e _ ⟨rfl, hh⟩; rw [hh]; clear hh; simp only [Ob.pick]))
      refine bodyPost_ret (v := .agg #[.int .i64 x.1, .int .i64 x.2.1, .int .i64 x.2.2.1, .int .i64 x.2.2.2.1, .bool x.2.2.2.2.1, .int .i64 x.2.2.2.2.2.1, .int .i64 x.2.2.2.2.2.2.1, .bool x.2.2.2.2.2.2.2]) (by simp [results, Try.results22, go_sem, z0, z1, z2, z3, z4, z5, z6, z7] <;> rfl) rfl ⟨rfl, ?_⟩
      repeat (refine Below.setCell ?_ (by simp <;> omega) _)
      exact B3
  · have HLB := Fk.hide hB
    clear hB
    have z4' : ¬ ((j : Int) < 0) := by omega
    have HH := Fk.hide hj
    have hlt : j < A.length := hj.1
    clear hj
    go_wp2_with fail
    refine (oldRight_spec _ _ _ B A _ (HU.out.below B2) (HV.out.below B2) su sv l0 l1).mono ?_
    rintro e w3 ⟨rfl, k3⟩
    have B3 : Below w.heap.size w w3 := B2.trans (k3.mono B2.size)
    have bW3 : Below W.heap.size W w3 := bW2.trans (k3.mono bW2.size)
    have hz3 : w.heap.size + 2 ≤ w3.heap.size := Nat.le_trans hz2 k3.size
    have B13 := HB12.out.trans (k3.mono HB12.out.size)
    have cp3 := (B13.cell (p := ⟨bb, 0, none⟩) hb2).trans cp
    have cq3 := (B13.cell (p := ⟨bb, 1, none⟩) hb2).trans cq
    have HB13 := Fk.hide B13
    clear k3 B13
    obtain ⟨r, hr⟩ : ∃ r, r = Ob.right B A n := ⟨_, rfl⟩
    rw [← hr]
    have HR := Fk.hide hr
    clear hr
    cases r with
    | false =>
      have hxz : x = Or.S.z := by rw [HX.out]; exact Ob.find_ill HR.out.symm
      subst hxz
      have z0 := (bW3.cell (p := ⟨w.heap.size + 1, 0, none⟩) (by show w.heap.size + 1 < _; omega)).trans HZ0.out
      have z1 := (bW3.cell (p := ⟨w.heap.size + 1, 1, none⟩) (by show w.heap.size + 1 < _; omega)).trans HZ1.out
      have z2 := (bW3.cell (p := ⟨w.heap.size + 1, 2, none⟩) (by show w.heap.size + 1 < _; omega)).trans HZ2.out
      have z3 := (bW3.cell (p := ⟨w.heap.size + 1, 3, none⟩) (by show w.heap.size + 1 < _; omega)).trans HZ3.out
      have z4 := (bW3.cell (p := ⟨w.heap.size + 1, 4, none⟩) (by show w.heap.size + 1 < _; omega)).trans HZ4.out
      have z5 := (bW3.cell (p := ⟨w.heap.size + 1, 5, none⟩) (by show w.heap.size + 1 < _; omega)).trans HZ5.out
      have z6 := (bW3.cell (p := ⟨w.heap.size + 1, 6, none⟩) (by show w.heap.size + 1 < _; omega)).trans HZ6.out
      have z7 := (bW3.cell (p := ⟨w.heap.size + 1, 7, none⟩) (by show w.heap.size + 1 < _; omega)).trans HZ7.out
      have zf : ∀ j, w3.frozen? ⟨w.heap.size + 1, j, none⟩ = false := fun j => (bW3.frozen (by show w.heap.size + 1 < _; omega)).trans (HZF.out j)
      go_wp2_with fail
      refine bodyPost_ret (v := .agg #[.int .i64 0, .int .i64 0, .int .i64 0, .int .i64 0, .bool false, .int .i64 0, .int .i64 0, .bool false]) (by simp [results, Try.results22, go_sem, z0, z1, z2, z3, z4, z5, z6, z7] <;> rfl) rfl ⟨rfl, ?_⟩
      repeat (refine Below.setCell ?_ (by simp <;> omega) _)
      exact B3
    | true =>
      have hxq : x = Rk.at_ Or.S A j := by rw [HX.out]; exact Ob.find_ask HR.out.symm HLB.out HH.out
      obtain ⟨va, vc, ev, hs⟩ := T1.a.view
      obtain ⟨vb, vo, rfl, hvb, hs1⟩ := hs (by omega)
      have hs' := hs1.below hvb HB13.out
      simp only [Value.slice.injEq] at ev
      obtain ⟨e1, e2, e3⟩ := ev
      subst e1 e2 e3
      have q0 := Or.c0 hs' hlt
      have q1 := Or.c1 hs' hlt
      have q2 := Or.c2 hs' hlt
      have q3 := Or.c3 hs' hlt
      have q4 := Or.c4 hs' hlt
      have q5 := Or.c5 hs' hlt
      have q6 := Or.c6 hs' hlt
      have q7 := Or.c7 hs' hlt
      rw [← hxq] at q0 q1 q2 q3 q4 q5 q6 q7
      clear hs' hxq hs hs1
      have z0 := (bW3.cell (p := ⟨w.heap.size + 1, 0, none⟩) (by show w.heap.size + 1 < _; omega)).trans HZ0.out
      have z1 := (bW3.cell (p := ⟨w.heap.size + 1, 1, none⟩) (by show w.heap.size + 1 < _; omega)).trans HZ1.out
      have z2 := (bW3.cell (p := ⟨w.heap.size + 1, 2, none⟩) (by show w.heap.size + 1 < _; omega)).trans HZ2.out
      have z3 := (bW3.cell (p := ⟨w.heap.size + 1, 3, none⟩) (by show w.heap.size + 1 < _; omega)).trans HZ3.out
      have z4 := (bW3.cell (p := ⟨w.heap.size + 1, 4, none⟩) (by show w.heap.size + 1 < _; omega)).trans HZ4.out
      have z5 := (bW3.cell (p := ⟨w.heap.size + 1, 5, none⟩) (by show w.heap.size + 1 < _; omega)).trans HZ5.out
      have z6 := (bW3.cell (p := ⟨w.heap.size + 1, 6, none⟩) (by show w.heap.size + 1 < _; omega)).trans HZ6.out
      have z7 := (bW3.cell (p := ⟨w.heap.size + 1, 7, none⟩) (by show w.heap.size + 1 < _; omega)).trans HZ7.out
      have zf : ∀ j, w3.frozen? ⟨w.heap.size + 1, j, none⟩ = false := fun j => (bW3.frozen (by show w.heap.size + 1 < _; omega)).trans (HZF.out j)
      go_wp2_with (first | (go_at_call 66; refine (side_any bb _ _ false _ cp3 cq3 ⟨_, _, _, rfl⟩ ⟨_, _, _, rfl⟩).mono ?_; rintro e _ ⟨rfl, hh⟩; rw [hh]; clear hh; simp only [Ob.pick]))
      refine bodyPost_ret (v := .agg #[.int .i64 x.1, .int .i64 x.2.1, .int .i64 x.2.2.1, .int .i64 x.2.2.2.1, .bool x.2.2.2.2.1, .int .i64 x.2.2.2.2.2.1, .int .i64 x.2.2.2.2.2.2.1, .bool x.2.2.2.2.2.2.2]) (by simp [results, Try.results22, go_sem, z0, z1, z2, z3, z4, z5, z6, z7] <;> rfl) rfl ⟨rfl, ?_⟩
      repeat (refine Below.setCell ?_ (by simp <;> omega) _)
      exact B3
  · have hxz : x = Or.S.z := by
      rw [HX.out]
      cases hr : Ob.right B A n with
      | false => exact Ob.find_ill hr
      | true => exact Ob.find_none hr hB hA
    subst hxz
    clear hB hA
    have z0 := (bW2.cell (p := ⟨w.heap.size + 1, 0, none⟩) (by show w.heap.size + 1 < _; omega)).trans HZ0.out
    have z1 := (bW2.cell (p := ⟨w.heap.size + 1, 1, none⟩) (by show w.heap.size + 1 < _; omega)).trans HZ1.out
    have z2 := (bW2.cell (p := ⟨w.heap.size + 1, 2, none⟩) (by show w.heap.size + 1 < _; omega)).trans HZ2.out
    have z3 := (bW2.cell (p := ⟨w.heap.size + 1, 3, none⟩) (by show w.heap.size + 1 < _; omega)).trans HZ3.out
    have z4 := (bW2.cell (p := ⟨w.heap.size + 1, 4, none⟩) (by show w.heap.size + 1 < _; omega)).trans HZ4.out
    have z5 := (bW2.cell (p := ⟨w.heap.size + 1, 5, none⟩) (by show w.heap.size + 1 < _; omega)).trans HZ5.out
    have z6 := (bW2.cell (p := ⟨w.heap.size + 1, 6, none⟩) (by show w.heap.size + 1 < _; omega)).trans HZ6.out
    have z7 := (bW2.cell (p := ⟨w.heap.size + 1, 7, none⟩) (by show w.heap.size + 1 < _; omega)).trans HZ7.out
    have zf : ∀ j, w2.frozen? ⟨w.heap.size + 1, j, none⟩ = false := fun j => (bW2.frozen (by show w.heap.size + 1 < _; omega)).trans (HZF.out j)
    go_wp2_with fail
    refine bodyPost_ret (v := .agg #[.int .i64 0, .int .i64 0, .int .i64 0, .int .i64 0, .bool false, .int .i64 0, .int .i64 0, .bool false]) (by simp [results, Try.results22, go_sem, z0, z1, z2, z3, z4, z5, z6, z7] <;> rfl) rfl ⟨rfl, ?_⟩
    repeat (refine Below.setCell ?_ (by simp <;> omega) _)
    exact B2
end Go.Proofs.Ytgjapebjbgkhcaa

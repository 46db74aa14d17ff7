/- The walks of the best order of a side: the program's and the specification's. -/
import Derived.Test.YtfagldipjpaceaaOldBook
import Derived.Test.YtfagldipjpaceaaOldRightSpec2
namespace Go.Proofs.Ytfagldipjpaceaa
open Go.RowKit
set_option linter.unusedVariables false
set_option linter.unusedSimpArgs false
/-- the best order of a side of a right book -/
def Ob.best (B A : List Or.E) (n : Int) (buy : Bool) : Or.E := if Ob.right B A n then Ob.at' (Ob.pick buy B A) 0 else Or.S.z
theorem Ob.view_pick {w : World} {u v : Value} {B A : List Or.E} (buy : Bool) (hu : Rk.View Or.S w u B) (hv : Rk.View Or.S w v A) : Rk.View Or.S w (Ob.pick buy u v) (Ob.pick buy B A) := by
  cases buy
  · exact hv
  · exact hu
theorem Ob.at_none (L : List Or.E) (h : L.length = 0) : Ob.at' L 0 = Or.S.z := by
  cases L with
  | nil => rfl
  | cons a r => simp at h

set_option maxRecDepth 100000 in
set_option maxHeartbeats 4000000 in
theorem oldBest_impl (u v : Value) (n : Int) (buy : Bool) (B A : List Or.E) (w : World) (hu : Rk.View Or.S w u B) (hv : Rk.View Or.S w v A) (su : Rk.Shut u) (sv : Rk.Shut v) (l0 : B.length ≤ 1048576) (l1 : A.length ≤ 1048576) :
    Calls Try.prog 12 #[.agg #[u, v, .int .i64 n], .bool buy] w fun e w' => e = .returned (.agg #[.int .i64 (Ob.best B A n buy).1, .int .i64 (Ob.best B A n buy).2.1, .int .i64 (Ob.best B A n buy).2.2.1, .int .i64 (Ob.best B A n buy).2.2.2.1, .bool (Ob.best B A n buy).2.2.2.2.1, .int .i64 (Ob.best B A n buy).2.2.2.2.2.1, .int .i64 (Ob.best B A n buy).2.2.2.2.2.2.1, .bool (Ob.best B A n buy).2.2.2.2.2.2.2]) ∧ Below w.heap.size w w' := by
  obtain ⟨W, hW⟩ : ∃ W, W = (w.alloc (.cells #[u, v, .int .i64 n] 25)).alloc (.cells #[.int .i64 0, .int .i64 0, .int .i64 0, .int .i64 0, .bool false, .int .i64 0, .int .i64 0, .bool false] 40) := ⟨_, rfl⟩
  have b0 : Below w.heap.size w W := by rw [hW]; exact ((Below.refl _ _).alloc (Nat.le_refl _) _).alloc (by simp) _
  have c0 : W.cell? ⟨w.heap.size, 0, none⟩ = some u := by rw [hW, Fk.cellOld _ _ _ _ (by simp), Fk.cellTop _ _ _ _ _ rfl]; rfl
  have c1 : W.cell? ⟨w.heap.size, 1, none⟩ = some v := by rw [hW, Fk.cellOld _ _ _ _ (by simp), Fk.cellTop _ _ _ _ _ rfl]; rfl
  have c2 : W.cell? ⟨w.heap.size, 2, none⟩ = some (.int .i64 n) := by rw [hW, Fk.cellOld _ _ _ _ (by simp), Fk.cellTop _ _ _ _ _ rfl]; rfl
  have HZ0 : Hid (W.cell? ⟨w.heap.size + 1, 0, none⟩ = some (.int .i64 0)) := by show _ = _; rw [hW, Fk.cellTop _ _ _ _ _ (by simp)]; rfl
  have HZ1 : Hid (W.cell? ⟨w.heap.size + 1, 1, none⟩ = some (.int .i64 0)) := by show _ = _; rw [hW, Fk.cellTop _ _ _ _ _ (by simp)]; rfl
  have HZ2 : Hid (W.cell? ⟨w.heap.size + 1, 2, none⟩ = some (.int .i64 0)) := by show _ = _; rw [hW, Fk.cellTop _ _ _ _ _ (by simp)]; rfl
  have HZ3 : Hid (W.cell? ⟨w.heap.size + 1, 3, none⟩ = some (.int .i64 0)) := by show _ = _; rw [hW, Fk.cellTop _ _ _ _ _ (by simp)]; rfl
  have HZ4 : Hid (W.cell? ⟨w.heap.size + 1, 4, none⟩ = some (.bool false)) := by show _ = _; rw [hW, Fk.cellTop _ _ _ _ _ (by simp)]; rfl
  have HZ5 : Hid (W.cell? ⟨w.heap.size + 1, 5, none⟩ = some (.int .i64 0)) := by show _ = _; rw [hW, Fk.cellTop _ _ _ _ _ (by simp)]; rfl
  have HZ6 : Hid (W.cell? ⟨w.heap.size + 1, 6, none⟩ = some (.int .i64 0)) := by show _ = _; rw [hW, Fk.cellTop _ _ _ _ _ (by simp)]; rfl
  have HZ7 : Hid (W.cell? ⟨w.heap.size + 1, 7, none⟩ = some (.bool false)) := by show _ = _; rw [hW, Fk.cellTop _ _ _ _ _ (by simp)]; rfl
  have HZF : Hid (∀ j, W.frozen? ⟨w.heap.size + 1, j, none⟩ = false) := fun j => by rw [hW, Fk.frozTop _ _ _ _ _ (by simp)]
  have hz : W.heap.size = w.heap.size + 2 := by rw [hW]; simp
  have HU := Fk.hide hu
  have HV := Fk.hide hv
  have HP := Fk.hide (Ob.view_pick buy hu hv)
  have hlp : (Ob.pick buy B A).length ≤ 1048576 := by cases buy <;> assumption
  obtain ⟨L, hL⟩ : ∃ L, L = Ob.pick buy B A := ⟨_, rfl⟩
  rw [← hL] at hlp HP
  have HL := Fk.hide hL
  clear hL
  obtain ⟨a0, cap0, rfl, _⟩ := hu
  obtain ⟨a1, cap1, rfl, _⟩ := hv
  have HW := Fk.hide hW
  clear hW
  obtain ⟨a, cap, ev, hs⟩ := HP.out
  obtain ⟨x, hx⟩ : ∃ x, x = Ob.best B A n buy := ⟨_, rfl⟩
  rw [← hx]
  have HX := Fk.hide hx
  clear hx
  go_enter Try.func12, Try.ntmps12
  go_wp2_with fail
  rw [← HW.out]
  refine (oldRight_impl _ _ _ B A _ (HU.out.below b0) (HV.out.below b0) su sv l0 l1).mono ?_
  rintro e w1 ⟨rfl, k1⟩
  have B1 : Below w.heap.size w w1 := b0.trans (k1.mono b0.size)
  have d0 := (k1.cell (p := ⟨w.heap.size, 0, none⟩) (by show w.heap.size < _; omega)).trans c0
  have d1 := (k1.cell (p := ⟨w.heap.size, 1, none⟩) (by show w.heap.size < _; omega)).trans c1
  have d2 := (k1.cell (p := ⟨w.heap.size, 2, none⟩) (by show w.heap.size < _; omega)).trans c2
  have hz1 : w.heap.size + 2 ≤ w1.heap.size := by rw [← hz]; exact k1.size
  have bW1 : Below W.heap.size W w1 := k1
  clear k1 c0 c1 c2
  obtain ⟨r, hr⟩ : ∃ r, r = Ob.right B A n := ⟨_, rfl⟩
  rw [← hr]
  have HR := Fk.hide hr
  clear hr
  cases r with
  | false =>
    have hxz : x = Or.S.z := by rw [HX.out]; unfold Ob.best; rw [← HR.out]; rfl
    subst hxz
    have z0 := (bW1.cell (p := ⟨w.heap.size + 1, 0, none⟩) (by show w.heap.size + 1 < _; omega)).trans HZ0.out
    have z1 := (bW1.cell (p := ⟨w.heap.size + 1, 1, none⟩) (by show w.heap.size + 1 < _; omega)).trans HZ1.out
    have z2 := (bW1.cell (p := ⟨w.heap.size + 1, 2, none⟩) (by show w.heap.size + 1 < _; omega)).trans HZ2.out
    have z3 := (bW1.cell (p := ⟨w.heap.size + 1, 3, none⟩) (by show w.heap.size + 1 < _; omega)).trans HZ3.out
    have z4 := (bW1.cell (p := ⟨w.heap.size + 1, 4, none⟩) (by show w.heap.size + 1 < _; omega)).trans HZ4.out
    have z5 := (bW1.cell (p := ⟨w.heap.size + 1, 5, none⟩) (by show w.heap.size + 1 < _; omega)).trans HZ5.out
    have z6 := (bW1.cell (p := ⟨w.heap.size + 1, 6, none⟩) (by show w.heap.size + 1 < _; omega)).trans HZ6.out
    have z7 := (bW1.cell (p := ⟨w.heap.size + 1, 7, none⟩) (by show w.heap.size + 1 < _; omega)).trans HZ7.out
    have zf : ∀ j, w1.frozen? ⟨w.heap.size + 1, j, none⟩ = false := fun j => (bW1.frozen (by show w.heap.size + 1 < _; omega)).trans (HZF.out j)
    go_wp2_with fail
    refine bodyPost_ret (v := .agg #[.int .i64 0, .int .i64 0, .int .i64 0, .int .i64 0, .bool false, .int .i64 0, .int .i64 0, .bool false]) (by simp [results, Try.results12, go_sem, z0, z1, z2, z3, z4, z5, z6, z7] <;> rfl) rfl ⟨rfl, ?_⟩
    repeat (refine Below.setCell ?_ (by simp <;> omega) _)
    exact B1
  | true =>
    have HA : Hid (x = Ob.at' L 0) := by show _ = _; rw [HX.out, HL.out]; unfold Ob.best; rw [← HR.out]; rfl
    go_wp2_with fail
    refine (sideOf_any _ _ _ _ _).mono ?_
    rw [ev]
    rintro e w2 ⟨rfl, k2⟩
    have B2 : Below w.heap.size w w2 := B1.trans (k2.mono B1.size)
    have e0 := (k2.cell (p := ⟨w.heap.size, 0, none⟩) (by show w.heap.size < _; omega)).trans d0
    have e1 := (k2.cell (p := ⟨w.heap.size, 1, none⟩) (by show w.heap.size < _; omega)).trans d1
    have e2 := (k2.cell (p := ⟨w.heap.size, 2, none⟩) (by show w.heap.size < _; omega)).trans d2
    have hz2 : w.heap.size + 2 ≤ w2.heap.size := Nat.le_trans hz1 k2.size
    have bW2 : Below W.heap.size W w2 := bW1.trans (k2.mono bW1.size)
    clear k2 d0 d1 d2
    by_cases hl0 : L.length = 0
    · have hxz : x = Or.S.z := by rw [HA.out]; exact Ob.at_none L hl0
      subst hxz
      rw [hl0]
      have z0 := (bW2.cell (p := ⟨w.heap.size + 1, 0, none⟩) (by show w.heap.size + 1 < _; omega)).trans HZ0.out
      have z1 := (bW2.cell (p := ⟨w.heap.size + 1, 1, none⟩) (by show w.heap.size + 1 < _; omega)).trans HZ1.out
      have z2 := (bW2.cell (p := ⟨w.heap.size + 1, 2, none⟩) (by show w.heap.size + 1 < _; omega)).trans HZ2.out
      have z3 := (bW2.cell (p := ⟨w.heap.size + 1, 3, none⟩) (by show w.heap.size + 1 < _; omega)).trans HZ3.out
      have z4 := (bW2.cell (p := ⟨w.heap.size + 1, 4, none⟩) (by show w.heap.size + 1 < _; omega)).trans HZ4.out
      have z5 := (bW2.cell (p := ⟨w.heap.size + 1, 5, none⟩) (by show w.heap.size + 1 < _; omega)).trans HZ5.out
      have z6 := (bW2.cell (p := ⟨w.heap.size + 1, 6, none⟩) (by show w.heap.size + 1 < _; omega)).trans HZ6.out
      have z7 := (bW2.cell (p := ⟨w.heap.size + 1, 7, none⟩) (by show w.heap.size + 1 < _; omega)).trans HZ7.out
      have zf : ∀ j, w2.frozen? ⟨w.heap.size + 1, j, none⟩ = false := fun j => (bW2.frozen (by show w.heap.size + 1 < _; omega)).trans (HZF.out j)
      go_wp2_with fail
      refine bodyPost_ret (v := .agg #[.int .i64 0, .int .i64 0, .int .i64 0, .int .i64 0, .bool false, .int .i64 0, .int .i64 0, .bool false]) (by simp [results, Try.results12, go_sem, z0, z1, z2, z3, z4, z5, z6, z7] <;> rfl) rfl ⟨rfl, ?_⟩
      repeat (refine Below.setCell ?_ (by simp <;> omega) _)
      exact B2
    · have z4 : (0 : Int) < (L.length : Int) := by omega
      have z6 : ¬ (L.length : Int) = 0 := by omega
      go_wp2_with fail
      refine (sideOf_any _ _ _ _ _).mono ?_
      rw [ev]
      rintro e w3 ⟨rfl, k3⟩
      have B3 : Below w.heap.size w w3 := B2.trans (k3.mono B2.size)
      have bW3 : Below W.heap.size W w3 := bW2.trans (k3.mono bW2.size)
      have hz3 : w.heap.size + 2 ≤ w3.heap.size := Nat.le_trans hz2 k3.size
      clear k3 e0 e1 e2
      obtain ⟨b, o, rfl, hb, hs1⟩ := hs (Nat.pos_of_ne_zero hl0)
      have hs' := hs1.below hb B3
      have q0 := Or.c0 hs' (k := 0) (Nat.pos_of_ne_zero hl0)
      have q1 := Or.c1 hs' (k := 0) (Nat.pos_of_ne_zero hl0)
      have q2 := Or.c2 hs' (k := 0) (Nat.pos_of_ne_zero hl0)
      have q3 := Or.c3 hs' (k := 0) (Nat.pos_of_ne_zero hl0)
      have q4 := Or.c4 hs' (k := 0) (Nat.pos_of_ne_zero hl0)
      have q5 := Or.c5 hs' (k := 0) (Nat.pos_of_ne_zero hl0)
      have q6 := Or.c6 hs' (k := 0) (Nat.pos_of_ne_zero hl0)
      have q7 := Or.c7 hs' (k := 0) (Nat.pos_of_ne_zero hl0)
      simp only [Nat.zero_mul, Nat.add_zero] at q0 q1 q2 q3 q4 q5 q6 q7
      have hxq : x = Rk.at_ Or.S L 0 := HA.out
      rw [← hxq] at q0 q1 q2 q3 q4 q5 q6 q7
      clear hs' hxq
      have z0 := (bW3.cell (p := ⟨w.heap.size + 1, 0, none⟩) (by show w.heap.size + 1 < _; omega)).trans HZ0.out
      have z1 := (bW3.cell (p := ⟨w.heap.size + 1, 1, none⟩) (by show w.heap.size + 1 < _; omega)).trans HZ1.out
      have z2 := (bW3.cell (p := ⟨w.heap.size + 1, 2, none⟩) (by show w.heap.size + 1 < _; omega)).trans HZ2.out
      have z3 := (bW3.cell (p := ⟨w.heap.size + 1, 3, none⟩) (by show w.heap.size + 1 < _; omega)).trans HZ3.out
      have z4 := (bW3.cell (p := ⟨w.heap.size + 1, 4, none⟩) (by show w.heap.size + 1 < _; omega)).trans HZ4.out
      have z5 := (bW3.cell (p := ⟨w.heap.size + 1, 5, none⟩) (by show w.heap.size + 1 < _; omega)).trans HZ5.out
      have z6 := (bW3.cell (p := ⟨w.heap.size + 1, 6, none⟩) (by show w.heap.size + 1 < _; omega)).trans HZ6.out
      have z7 := (bW3.cell (p := ⟨w.heap.size + 1, 7, none⟩) (by show w.heap.size + 1 < _; omega)).trans HZ7.out
      have zf : ∀ j, w3.frozen? ⟨w.heap.size + 1, j, none⟩ = false := fun j => (bW3.frozen (by show w.heap.size + 1 < _; omega)).trans (HZF.out j)
      go_wp2_with fail
      refine bodyPost_ret (v := .agg #[.int .i64 x.1, .int .i64 x.2.1, .int .i64 x.2.2.1, .int .i64 x.2.2.2.1, .bool x.2.2.2.2.1, .int .i64 x.2.2.2.2.2.1, .int .i64 x.2.2.2.2.2.2.1, .bool x.2.2.2.2.2.2.2]) (by simp [results, Try.results12, go_sem, z0, z1, z2, z3, z4, z5, z6, z7] <;> rfl) rfl ⟨rfl, ?_⟩
      repeat (refine Below.setCell ?_ (by simp <;> omega) _)
      exact B3

set_option maxRecDepth 100000 in
set_option maxHeartbeats 4000000 in
theorem oldBest_spec (u v : Value) (n : Int) (buy : Bool) (B A : List Or.E) (w : World) (hu : Rk.View Or.S w u B) (hv : Rk.View Or.S w v A) (su : Rk.Shut u) (sv : Rk.Shut v) (l0 : B.length ≤ 1048576) (l1 : A.length ≤ 1048576) :
    Calls Try.prog 13 #[.agg #[u, v, .int .i64 n], .bool buy] w fun e w' => e = .returned (.agg #[.int .i64 (Ob.best B A n buy).1, .int .i64 (Ob.best B A n buy).2.1, .int .i64 (Ob.best B A n buy).2.2.1, .int .i64 (Ob.best B A n buy).2.2.2.1, .bool (Ob.best B A n buy).2.2.2.2.1, .int .i64 (Ob.best B A n buy).2.2.2.2.2.1, .int .i64 (Ob.best B A n buy).2.2.2.2.2.2.1, .bool (Ob.best B A n buy).2.2.2.2.2.2.2]) ∧ Below w.heap.size w w' := by
  obtain ⟨W, hW⟩ : ∃ W, W = (w.alloc (.cells #[u, v, .int .i64 n] 25)).alloc (.cells #[.int .i64 0, .int .i64 0, .int .i64 0, .int .i64 0, .bool false, .int .i64 0, .int .i64 0, .bool false] 40) := ⟨_, rfl⟩
  have b0 : Below w.heap.size w W := by rw [hW]; exact ((Below.refl _ _).alloc (Nat.le_refl _) _).alloc (by simp) _
  have c0 : W.cell? ⟨w.heap.size, 0, none⟩ = some u := by rw [hW, Fk.cellOld _ _ _ _ (by simp), Fk.cellTop _ _ _ _ _ rfl]; rfl
  have c1 : W.cell? ⟨w.heap.size, 1, none⟩ = some v := by rw [hW, Fk.cellOld _ _ _ _ (by simp), Fk.cellTop _ _ _ _ _ rfl]; rfl
  have c2 : W.cell? ⟨w.heap.size, 2, none⟩ = some (.int .i64 n) := by rw [hW, Fk.cellOld _ _ _ _ (by simp), Fk.cellTop _ _ _ _ _ rfl]; rfl
  have HZ0 : Hid (W.cell? ⟨w.heap.size + 1, 0, none⟩ = some (.int .i64 0)) := by show _ = _; rw [hW, Fk.cellTop _ _ _ _ _ (by simp)]; rfl
  have HZ1 : Hid (W.cell? ⟨w.heap.size + 1, 1, none⟩ = some (.int .i64 0)) := by show _ = _; rw [hW, Fk.cellTop _ _ _ _ _ (by simp)]; rfl
  have HZ2 : Hid (W.cell? ⟨w.heap.size + 1, 2, none⟩ = some (.int .i64 0)) := by show _ = _; rw [hW, Fk.cellTop _ _ _ _ _ (by simp)]; rfl
  have HZ3 : Hid (W.cell? ⟨w.heap.size + 1, 3, none⟩ = some (.int .i64 0)) := by show _ = _; rw [hW, Fk.cellTop _ _ _ _ _ (by simp)]; rfl
  have HZ4 : Hid (W.cell? ⟨w.heap.size + 1, 4, none⟩ = some (.bool false)) := by show _ = _; rw [hW, Fk.cellTop _ _ _ _ _ (by simp)]; rfl
  have HZ5 : Hid (W.cell? ⟨w.heap.size + 1, 5, none⟩ = some (.int .i64 0)) := by show _ = _; rw [hW, Fk.cellTop _ _ _ _ _ (by simp)]; rfl
  have HZ6 : Hid (W.cell? ⟨w.heap.size + 1, 6, none⟩ = some (.int .i64 0)) := by show _ = _; rw [hW, Fk.cellTop _ _ _ _ _ (by simp)]; rfl
  have HZ7 : Hid (W.cell? ⟨w.heap.size + 1, 7, none⟩ = some (.bool false)) := by show _ = _; rw [hW, Fk.cellTop _ _ _ _ _ (by simp)]; rfl
  have HZF : Hid (∀ j, W.frozen? ⟨w.heap.size + 1, j, none⟩ = false) := fun j => by rw [hW, Fk.frozTop _ _ _ _ _ (by simp)]
  have hz : W.heap.size = w.heap.size + 2 := by rw [hW]; simp
  have HU := Fk.hide hu
  have HV := Fk.hide hv
  have HP := Fk.hide (Ob.view_pick buy hu hv)
  have hlp : (Ob.pick buy B A).length ≤ 1048576 := by cases buy <;> assumption
  obtain ⟨L, hL⟩ : ∃ L, L = Ob.pick buy B A := ⟨_, rfl⟩
  rw [← hL] at hlp HP
  have HL := Fk.hide hL
  clear hL
  obtain ⟨a0, cap0, rfl, _⟩ := hu
  obtain ⟨a1, cap1, rfl, _⟩ := hv
  have HW := Fk.hide hW
  clear hW
  obtain ⟨a, cap, ev, hs⟩ := HP.out
  obtain ⟨x, hx⟩ : ∃ x, x = Ob.best B A n buy := ⟨_, rfl⟩
  rw [← hx]
  have HX := Fk.hide hx
  clear hx
  clear ev hs
  go_enter Try.func13, Try.ntmps13
  go_wp2_with fail
  rw [← HW.out]
  refine (l06Open_any _ _ _ B A _ (HU.out.below b0) (HV.out.below b0) su sv l0 l1).mono ?_
  rintro e w1 ⟨⟨p, q, bb, rfl, T1, hb1, hb2, cp, cq, _, _⟩, k1⟩
  have B1 : Below w.heap.size w w1 := b0.trans (k1.mono b0.size)
  have bW1 : Below W.heap.size W w1 := k1
  have d0 := (k1.cell (p := ⟨w.heap.size, 0, none⟩) (by show w.heap.size < _; omega)).trans c0
  have d1 := (k1.cell (p := ⟨w.heap.size, 1, none⟩) (by show w.heap.size < _; omega)).trans c1
  have d2 := (k1.cell (p := ⟨w.heap.size, 2, none⟩) (by show w.heap.size < _; omega)).trans c2
  have hz1 : w.heap.size + 2 ≤ w1.heap.size := by rw [← hz]; exact k1.size
  clear k1 c0 c1 c2
  have HP1 : Hid (Rk.View Or.S w1 (Ob.pick buy p q) L) := by
    show Rk.View _ _ _ _
    rw [HL.out]; exact Ob.view_pick buy T1.b.view T1.a.view
  obtain ⟨a, cap, ev, hs⟩ := HP1.out
  have hp := T1.b.slice'
  have hq := T1.a.slice'
  obtain ⟨p1, p2, p3, rfl⟩ := hp
  obtain ⟨q1, q2, q3, rfl⟩ := hq
  go_wp2_with fail
  refine (side_any bb _ _ buy _ cp cq ⟨_, _, _, rfl⟩ ⟨_, _, _, rfl⟩).mono ?_
  rw [ev]
  rintro e _ ⟨rfl, hh⟩
  rw [hh]
  clear hh cp cq
  by_cases hl0 : L.length = 0
  · have hxz : x = Or.S.z := by
      rw [HX.out]
      unfold Ob.best
      split
      · rw [← HL.out]; exact Ob.at_none L hl0
      · rfl
    subst hxz
    rw [hl0]
    have z0 := (bW1.cell (p := ⟨w.heap.size + 1, 0, none⟩) (by show w.heap.size + 1 < _; omega)).trans HZ0.out
    have z1 := (bW1.cell (p := ⟨w.heap.size + 1, 1, none⟩) (by show w.heap.size + 1 < _; omega)).trans HZ1.out
    have z2 := (bW1.cell (p := ⟨w.heap.size + 1, 2, none⟩) (by show w.heap.size + 1 < _; omega)).trans HZ2.out
    have z3 := (bW1.cell (p := ⟨w.heap.size + 1, 3, none⟩) (by show w.heap.size + 1 < _; omega)).trans HZ3.out
    have z4 := (bW1.cell (p := ⟨w.heap.size + 1, 4, none⟩) (by show w.heap.size + 1 < _; omega)).trans HZ4.out
    have z5 := (bW1.cell (p := ⟨w.heap.size + 1, 5, none⟩) (by show w.heap.size + 1 < _; omega)).trans HZ5.out
    have z6 := (bW1.cell (p := ⟨w.heap.size + 1, 6, none⟩) (by show w.heap.size + 1 < _; omega)).trans HZ6.out
    have z7 := (bW1.cell (p := ⟨w.heap.size + 1, 7, none⟩) (by show w.heap.size + 1 < _; omega)).trans HZ7.out
    have zf : ∀ j, w1.frozen? ⟨w.heap.size + 1, j, none⟩ = false := fun j => (bW1.frozen (by show w.heap.size + 1 < _; omega)).trans (HZF.out j)
    go_wp2_with fail
    refine bodyPost_ret (v := .agg #[.int .i64 0, .int .i64 0, .int .i64 0, .int .i64 0, .bool false, .int .i64 0, .int .i64 0, .bool false]) (by simp [results, Try.results13, go_sem, z0, z1, z2, z3, z4, z5, z6, z7] <;> rfl) rfl ⟨rfl, ?_⟩
    repeat (refine Below.setCell ?_ (by simp <;> omega) _)
    exact B1
  · have z4' : (0 : Int) < (L.length : Int) := by omega
    have z6' : ¬ (L.length : Int) = 0 := by omega
    have z8' : ((L.length : Int) == 0) = false := by simpa using hl0
    go_wp2_with fail
    refine (oldRight_spec _ _ _ B A _ (HU.out.below B1) (HV.out.below B1) su sv l0 l1).mono ?_
    rintro e w2 ⟨rfl, k2⟩
    have B2 : Below w.heap.size w w2 := B1.trans (k2.mono B1.size)
    have bW2 : Below W.heap.size W w2 := bW1.trans (k2.mono bW1.size)
    have hz2 : w.heap.size + 2 ≤ w2.heap.size := Nat.le_trans hz1 k2.size
    have HK2 := Fk.hide k2
    clear k2 d0 d1 d2
    obtain ⟨r, hr⟩ : ∃ r, r = Ob.right B A n := ⟨_, rfl⟩
    rw [← hr]
    have HR := Fk.hide hr
    clear hr
    cases r with
    | false =>
      have hxz : x = Or.S.z := by rw [HX.out]; unfold Ob.best; rw [← HR.out]; rfl
      subst hxz
      have z0 := (bW2.cell (p := ⟨w.heap.size + 1, 0, none⟩) (by show w.heap.size + 1 < _; omega)).trans HZ0.out
      have z1 := (bW2.cell (p := ⟨w.heap.size + 1, 1, none⟩) (by show w.heap.size + 1 < _; omega)).trans HZ1.out
      have z2 := (bW2.cell (p := ⟨w.heap.size + 1, 2, none⟩) (by show w.heap.size + 1 < _; omega)).trans HZ2.out
      have z3 := (bW2.cell (p := ⟨w.heap.size + 1, 3, none⟩) (by show w.heap.size + 1 < _; omega)).trans HZ3.out
      have z4 := (bW2.cell (p := ⟨w.heap.size + 1, 4, none⟩) (by show w.heap.size + 1 < _; omega)).trans HZ4.out
      have z5 := (bW2.cell (p := ⟨w.heap.size + 1, 5, none⟩) (by show w.heap.size + 1 < _; omega)).trans HZ5.out
      have z6 := (bW2.cell (p := ⟨w.heap.size + 1, 6, none⟩) (by show w.heap.size + 1 < _; omega)).trans HZ6.out
      have z7 := (bW2.cell (p := ⟨w.heap.size + 1, 7, none⟩) (by show w.heap.size + 1 < _; omega)).trans HZ7.out
      have zf : ∀ j, w2.frozen? ⟨w.heap.size + 1, j, none⟩ = false := fun j => (bW2.frozen (by show w.heap.size + 1 < _; omega)).trans (HZF.out j)
      go_wp2_with fail
      refine bodyPost_ret (v := .agg #[.int .i64 0, .int .i64 0, .int .i64 0, .int .i64 0, .bool false, .int .i64 0, .int .i64 0, .bool false]) (by simp [results, Try.results13, go_sem, z0, z1, z2, z3, z4, z5, z6, z7] <;> rfl) rfl ⟨rfl, ?_⟩
      repeat (refine Below.setCell ?_ (by simp <;> omega) _)
      exact B2
    | true =>
      have HA : Hid (x = Ob.at' L 0) := by show _ = _; rw [HX.out, HL.out]; unfold Ob.best; rw [← HR.out]; rfl
      obtain ⟨b, o, rfl, hb, hs1⟩ := hs (Nat.pos_of_ne_zero hl0)
      have hs' := hs1.below hb HK2.out
      have q0 := Or.c0 hs' (k := 0) (Nat.pos_of_ne_zero hl0)
      have q1 := Or.c1 hs' (k := 0) (Nat.pos_of_ne_zero hl0)
      have q2 := Or.c2 hs' (k := 0) (Nat.pos_of_ne_zero hl0)
      have q3 := Or.c3 hs' (k := 0) (Nat.pos_of_ne_zero hl0)
      have q4 := Or.c4 hs' (k := 0) (Nat.pos_of_ne_zero hl0)
      have q5 := Or.c5 hs' (k := 0) (Nat.pos_of_ne_zero hl0)
      have q6 := Or.c6 hs' (k := 0) (Nat.pos_of_ne_zero hl0)
      have q7 := Or.c7 hs' (k := 0) (Nat.pos_of_ne_zero hl0)
      simp only [Nat.zero_mul, Nat.add_zero] at q0 q1 q2 q3 q4 q5 q6 q7
      have hxq : x = Rk.at_ Or.S L 0 := HA.out
      rw [← hxq] at q0 q1 q2 q3 q4 q5 q6 q7
      clear hs' hxq
      have z0 := (bW2.cell (p := ⟨w.heap.size + 1, 0, none⟩) (by show w.heap.size + 1 < _; omega)).trans HZ0.out
      have z1 := (bW2.cell (p := ⟨w.heap.size + 1, 1, none⟩) (by show w.heap.size + 1 < _; omega)).trans HZ1.out
      have z2 := (bW2.cell (p := ⟨w.heap.size + 1, 2, none⟩) (by show w.heap.size + 1 < _; omega)).trans HZ2.out
      have z3 := (bW2.cell (p := ⟨w.heap.size + 1, 3, none⟩) (by show w.heap.size + 1 < _; omega)).trans HZ3.out
      have z4 := (bW2.cell (p := ⟨w.heap.size + 1, 4, none⟩) (by show w.heap.size + 1 < _; omega)).trans HZ4.out
      have z5 := (bW2.cell (p := ⟨w.heap.size + 1, 5, none⟩) (by show w.heap.size + 1 < _; omega)).trans HZ5.out
      have z6 := (bW2.cell (p := ⟨w.heap.size + 1, 6, none⟩) (by show w.heap.size + 1 < _; omega)).trans HZ6.out
      have z7 := (bW2.cell (p := ⟨w.heap.size + 1, 7, none⟩) (by show w.heap.size + 1 < _; omega)).trans HZ7.out
      have zf : ∀ j, w2.frozen? ⟨w.heap.size + 1, j, none⟩ = false := fun j => (bW2.frozen (by show w.heap.size + 1 < _; omega)).trans (HZF.out j)
      go_wp2_with fail
      refine bodyPost_ret (v := .agg #[.int .i64 x.1, .int .i64 x.2.1, .int .i64 x.2.2.1, .int .i64 x.2.2.2.1, .bool x.2.2.2.2.1, .int .i64 x.2.2.2.2.2.1, .int .i64 x.2.2.2.2.2.2.1, .bool x.2.2.2.2.2.2.2]) (by simp [results, Try.results13, go_sem, z0, z1, z2, z3, z4, z5, z6, z7] <;> rfl) rfl ⟨rfl, ?_⟩
      repeat (refine Below.setCell ?_ (by simp <;> omega) _)
      exact B2
end Go.Proofs.Ytfagldipjpaceaa

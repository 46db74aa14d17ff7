/- The walk of the program's OldFind. -/
import Derived.Test.YtgjapebjbgkhcaaOldFindImpl
namespace Go.Proofs.Ytgjapebjbgkhcaa
open Go.RowKit
set_option linter.unusedVariables false
set_option linter.unusedSimpArgs false

set_option maxRecDepth 100000 in
set_option maxHeartbeats 4000000 in
theorem oldFind_impl (u v : Value) (n : Int) (id : Int) (B A : List Or.E) (w : World) (hu : Rk.View Or.S w u B) (hv : Rk.View Or.S w v A) (su : Rk.Shut u) (sv : Rk.Shut v) (l0 : B.length ≤ 1048576) (l1 : A.length ≤ 1048576) :
    Calls Try.prog 21 #[.agg #[u, v, .int .i64 n], .int .i64 id] w fun e w' => e = .returned (.agg #[.int .i64 (Ob.find B A n id).1, .int .i64 (Ob.find B A n id).2.1, .int .i64 (Ob.find B A n id).2.2.1, .int .i64 (Ob.find B A n id).2.2.2.1, .bool (Ob.find B A n id).2.2.2.2.1, .int .i64 (Ob.find B A n id).2.2.2.2.2.1, .int .i64 (Ob.find B A n id).2.2.2.2.2.2.1, .bool (Ob.find B A n id).2.2.2.2.2.2.2]) ∧ Below w.heap.size w w' := by
  obtain ⟨W, hW⟩ : ∃ W, W = (w.alloc (.cells #[u, v, .int .i64 n] 25)).alloc (.cells #[.int .i64 0, .int .i64 0, .int .i64 0, .int .i64 0, .bool false, .int .i64 0, .int .i64 0, .bool false] 40) := ⟨_, rfl⟩
  have b0 : Below w.heap.size w W := by rw [hW]; exact ((Below.refl _ _).alloc (Nat.le_refl _) _).alloc (by simp) _
  have c0 : W.cell? ⟨w.heap.size, 0, none⟩ = some u := by rw [hW, Fk.cellOld _ _ _ _ (by simp), Fk.cellTop _ _ _ _ _ rfl]; rfl
  have c1 : W.cell? ⟨w.heap.size, 1, none⟩ = some v := by rw [hW, Fk.cellOld _ _ _ _ (by simp), Fk.cellTop _ _ _ _ _ rfl]; rfl
  have c2 : W.cell? ⟨w.heap.size, 2, none⟩ = some (.int .i64 n) := by rw [hW, Fk.cellOld _ _ _ _ (by simp), Fk.cellTop _ _ _ _ _ rfl]; rfl
  have HZ0 : Hid (W.cell? ⟨w.heap.size + 1, 0, none⟩ = some (.int .i64 0)) := by show _ = _; rw [hW, Fk.cellTop _ _ _ _ _ (by simp)]; rfl
  have HZ1 : Hid (W.cell? ⟨w.heap.size + 1, 1, none⟩ = some (.int .i64 0)) := by show _ = _; rw [hW, Fk.cellTop _ _ _ _ _ (by simp)]; rfl
  have HZ2 : Hid (W.cell? ⟨w.heap.size + 1, 2, none⟩ = some (.int .i64 0)) := by show _ = _; rw [hW, Fk.cellTop _ _ _ _ _ (by simp)]; rfl
  have HZ3 : Hid (W.cell? ⟨w.heap.size + 1, 3, none⟩ = some (.int .i64 0)) := by show _ = _; rw [hW, Fk.cellTop _ _ _ _ _ (by simp)]; rfl
  have HZ4 : Hid (W.cell? ⟨w.heap.size + 1, 4, none⟩ = some (.bool false)) := by show _ = _; rw [hW, Fk.cellTop _ _ _ _ _ (by simp)]; rfl
  have HZ5 : Hid (W.cell? ⟨w.heap.size + 1, 5, none⟩ = some (.int .i64 0)) := by show _ = _; rw [hW, Fk.cellTop _ _ _ _ _ (by simp)]; rfl
  have HZ6 : Hid (W.cell? ⟨w.heap.size + 1, 6, none⟩ = some (.int .i64 0)) := by show _ = _; rw [hW, Fk.cellTop _ _ _ _ _ (by simp)]; rfl
  have HZ7 : Hid (W.cell? ⟨w.heap.size + 1, 7, none⟩ = some (.bool false)) := by show _ = _; rw [hW, Fk.cellTop _ _ _ _ _ (by simp)]; rfl
  have HZF : Hid (∀ j, W.frozen? ⟨w.heap.size + 1, j, none⟩ = false) := fun j => by rw [hW, Fk.frozTop _ _ _ _ _ (by simp)]
  have hz : W.heap.size = w.heap.size + 2 := by rw [hW]; simp
  have HU := Fk.hide hu
  have HV := Fk.hide hv
  obtain ⟨a0, cap0, rfl, _⟩ := hu
  obtain ⟨a1, cap1, rfl, _⟩ := hv
  have HW := Fk.hide hW
  clear hW
  obtain ⟨x, hx⟩ : ∃ x, x = Ob.find B A n id := ⟨_, rfl⟩
  rw [← hx]
  have HX := Fk.hide hx
  clear hx
  go_enter Try.func21, Try.ntmps21
  go_wp2_with fail
  rw [← HW.out]
  refine (oldRight_impl _ _ _ B A _ (HU.out.below b0) (HV.out.below b0) su sv l0 l1).mono ?_
  rintro e w1 ⟨rfl, k1⟩
  have B1 : Below w.heap.size w w1 := b0.trans (k1.mono b0.size)
  have bW1 : Below W.heap.size W w1 := k1
  have d0 := (k1.cell (p := ⟨w.heap.size, 0, none⟩) (by show w.heap.size < _; omega)).trans c0
  have d1 := (k1.cell (p := ⟨w.heap.size, 1, none⟩) (by show w.heap.size < _; omega)).trans c1
  have d2 := (k1.cell (p := ⟨w.heap.size, 2, none⟩) (by show w.heap.size < _; omega)).trans c2
  have hz1 : w.heap.size + 2 ≤ w1.heap.size := by rw [← hz]; exact k1.size
  clear k1 c0 c1 c2
  obtain ⟨r, hr⟩ : ∃ r, r = Ob.right B A n := ⟨_, rfl⟩
  rw [← hr]
  have HR := Fk.hide hr
  clear hr
  cases r with
  | false =>
    have hxz : x = Or.S.z := by rw [HX.out]; exact Ob.find_ill HR.out.symm
    subst hxz
    have z0 := (bW1.cell (p := ⟨w.heap.size + 1, 0, none⟩) (by show w.heap.size + 1 < _; omega)).trans HZ0.out
    have z1 := (bW1.cell (p := ⟨w.heap.size + 1, 1, none⟩) (by show w.heap.size + 1 < _; omega)).trans HZ1.out
    have z2 := (bW1.cell (p := ⟨w.heap.size + 1, 2, none⟩) (by show w.heap.size + 1 < _; omega)).trans HZ2.out
    have z3 := (bW1.cell (p := ⟨w.heap.size + 1, 3, none⟩) (by show w.heap.size + 1 < _; omega)).trans HZ3.out
    have z4 := (bW1.cell (p := ⟨w.heap.size + 1, 4, none⟩) (by show w.heap.size + 1 < _; omega)).trans HZ4.out
    have z5 := (bW1.cell (p := ⟨w.heap.size + 1, 5, none⟩) (by show w.heap.size + 1 < _; omega)).trans HZ5.out
    have z6 := (bW1.cell (p := ⟨w.heap.size + 1, 6, none⟩) (by show w.heap.size + 1 < _; omega)).trans HZ6.out
    have z7 := (bW1.cell (p := ⟨w.heap.size + 1, 7, none⟩) (by show w.heap.size + 1 < _; omega)).trans HZ7.out
    have zf : ∀ j, w1.frozen? ⟨w.heap.size + 1, j, none⟩ = false := fun j => (bW1.frozen (by show w.heap.size + 1 < _; omega)).trans (HZF.out j)
    go_wp2_with fail
    refine bodyPost_ret (v := .agg #[.int .i64 0, .int .i64 0, .int .i64 0, .int .i64 0, .bool false, .int .i64 0, .int .i64 0, .bool false]) (by simp [results, Try.results21, go_sem, z0, z1, z2, z3, z4, z5, z6, z7] <;> rfl) rfl ⟨rfl, ?_⟩
    repeat (refine Below.setCell ?_ (by simp <;> omega) _)
    exact B1
  | true =>
  go_wp2_with fail
  refine (seatOf_any _ _ _ id B A _ (HU.out.below B1) (HV.out.below B1) l0 l1).mono ?_
  rintro e w2 ⟨⟨buy, k, there, rfl, hfound⟩, k2⟩
  have B2 : Below w.heap.size w w2 := B1.trans (k2.mono B1.size)
  have bW2 : Below W.heap.size W w2 := bW1.trans (k2.mono bW1.size)
  have hz2 : w.heap.size + 2 ≤ w2.heap.size := Nat.le_trans hz1 k2.size
  have f0 := (k2.cell (p := ⟨w.heap.size, 0, none⟩) (by show w.heap.size < _; omega)).trans d0
  have f1 := (k2.cell (p := ⟨w.heap.size, 1, none⟩) (by show w.heap.size < _; omega)).trans d1
  have f2 := (k2.cell (p := ⟨w.heap.size, 2, none⟩) (by show w.heap.size < _; omega)).trans d2
  clear k2 d0 d1 d2
  rcases hfound with ⟨rfl, j, rfl, ⟨rfl, hj⟩ | ⟨rfl, hB, hj⟩⟩ | ⟨rfl, hB, hA⟩
  · skip
    have HH := Fk.hide hj
    have hlt : j < B.length := hj.1
    clear hj
    have hxq : x = Rk.at_ Or.S B j := by rw [HX.out]; exact Ob.find_bid HR.out.symm HH.out
    obtain ⟨S, hS⟩ : ∃ W, W = (w2.alloc (.cells #[.bool true, .int .i64 (j : Int)] 96)) := ⟨_, rfl⟩
    have bS : Below w2.heap.size w2 S := by rw [hS]; exact (Below.refl _ _).alloc (Nat.le_refl _) _
    have sb0 : S.cell? ⟨w2.heap.size, 0, none⟩ = some (.bool true) := by rw [hS, Fk.cellTop _ _ _ _ _ rfl]; rfl
    have sb1 : S.cell? ⟨w2.heap.size, 1, none⟩ = some (.int .i64 (j : Int)) := by rw [hS, Fk.cellTop _ _ _ _ _ rfl]; rfl
    have hzS : w2.heap.size < S.heap.size := by rw [hS]; simp
    have BS : Below w.heap.size w S := B2.trans (bS.mono B2.size)
    have bWS : Below W.heap.size W S := bW2.trans (bS.mono bW2.size)
    have g0 := (bS.cell (p := ⟨w.heap.size, 0, none⟩) (by show w.heap.size < _; omega)).trans f0
    have g1 := (bS.cell (p := ⟨w.heap.size, 1, none⟩) (by show w.heap.size < _; omega)).trans f1
    have g2 := (bS.cell (p := ⟨w.heap.size, 2, none⟩) (by show w.heap.size < _; omega)).trans f2
    have HS := Fk.hide hS
    clear bS hS
    obtain ⟨va, vc, ev, hs⟩ := HU.out
    obtain ⟨vb, vo, rfl, hvb, hs1⟩ := hs (by omega)
    simp only [Value.slice.injEq] at ev
    obtain ⟨e1, e2, e3⟩ := ev
    subst e1 e3
    have HN : Hid (∀ X : World, Below S.heap.size S.drew X → (X.cell? ⟨vb, vo + j * 8, none⟩ = some (.int .i64 x.1) ∧ X.cell? ⟨vb, vo + j * 8 + 1, none⟩ = some (.int .i64 x.2.1) ∧ X.cell? ⟨vb, vo + j * 8 + 2, none⟩ = some (.int .i64 x.2.2.1) ∧ X.cell? ⟨vb, vo + j * 8 + 3, none⟩ = some (.int .i64 x.2.2.2.1) ∧ X.cell? ⟨vb, vo + j * 8 + 4, none⟩ = some (.bool x.2.2.2.2.1) ∧ X.cell? ⟨vb, vo + j * 8 + 5, none⟩ = some (.int .i64 x.2.2.2.2.2.1) ∧ X.cell? ⟨vb, vo + j * 8 + 6, none⟩ = some (.int .i64 x.2.2.2.2.2.2.1) ∧ X.cell? ⟨vb, vo + j * 8 + 7, none⟩ = some (.bool x.2.2.2.2.2.2.2)) ∧ (X.cell? ⟨w.heap.size + 1, 0, none⟩ = some (.int .i64 0) ∧ X.cell? ⟨w.heap.size + 1, 1, none⟩ = some (.int .i64 0) ∧ X.cell? ⟨w.heap.size + 1, 2, none⟩ = some (.int .i64 0) ∧ X.cell? ⟨w.heap.size + 1, 3, none⟩ = some (.int .i64 0) ∧ X.cell? ⟨w.heap.size + 1, 4, none⟩ = some (.bool false) ∧ X.cell? ⟨w.heap.size + 1, 5, none⟩ = some (.int .i64 0) ∧ X.cell? ⟨w.heap.size + 1, 6, none⟩ = some (.int .i64 0) ∧ X.cell? ⟨w.heap.size + 1, 7, none⟩ = some (.bool false)) ∧ (∀ t, X.frozen? ⟨w.heap.size + 1, t, none⟩ = false) ∧ X.cell? ⟨w2.heap.size, 1, none⟩ = some (.int .i64 (j : Int)) ∧ Below w.heap.size w X) := by
      intro X m
      have m' : Below S.heap.size S X := (Below.drew (Below.refl S.heap.size S)).trans m
      have bWX : Below W.heap.size W X := bWS.trans (m'.mono bWS.size)
      have BX : Below w.heap.size w X := BS.trans (m'.mono BS.size)
      have hs' := hs1.below hvb BX
      have q0 := Or.c0 hs' hlt
      have q1 := Or.c1 hs' hlt
      have q2 := Or.c2 hs' hlt
      have q3 := Or.c3 hs' hlt
      have q4 := Or.c4 hs' hlt
      have q5 := Or.c5 hs' hlt
      have q6 := Or.c6 hs' hlt
      have q7 := Or.c7 hs' hlt
      rw [← hxq] at q0 q1 q2 q3 q4 q5 q6 q7
      have z0 := (bWX.cell (p := ⟨w.heap.size + 1, 0, none⟩) (by show w.heap.size + 1 < _; omega)).trans HZ0.out
      have z1 := (bWX.cell (p := ⟨w.heap.size + 1, 1, none⟩) (by show w.heap.size + 1 < _; omega)).trans HZ1.out
      have z2 := (bWX.cell (p := ⟨w.heap.size + 1, 2, none⟩) (by show w.heap.size + 1 < _; omega)).trans HZ2.out
      have z3 := (bWX.cell (p := ⟨w.heap.size + 1, 3, none⟩) (by show w.heap.size + 1 < _; omega)).trans HZ3.out
      have z4 := (bWX.cell (p := ⟨w.heap.size + 1, 4, none⟩) (by show w.heap.size + 1 < _; omega)).trans HZ4.out
      have z5 := (bWX.cell (p := ⟨w.heap.size + 1, 5, none⟩) (by show w.heap.size + 1 < _; omega)).trans HZ5.out
      have z6 := (bWX.cell (p := ⟨w.heap.size + 1, 6, none⟩) (by show w.heap.size + 1 < _; omega)).trans HZ6.out
      have z7 := (bWX.cell (p := ⟨w.heap.size + 1, 7, none⟩) (by show w.heap.size + 1 < _; omega)).trans HZ7.out
      have zf : ∀ j, X.frozen? ⟨w.heap.size + 1, j, none⟩ = false := fun j => (bWX.frozen (by show w.heap.size + 1 < _; omega)).trans (HZF.out j)
      exact ⟨⟨q0, q1, q2, q3, q4, q5, q6, q7⟩, ⟨z0, z1, z2, z3, z4, z5, z6, z7⟩, zf, (m'.cell (by show w2.heap.size < _; omega)).trans sb1, BX⟩
    have hjl : (j : Int) < (B.length : Int) := by omega
    rw [HS.out] at sb0 sb1 g0 g1 g2
    go_wp2_with fail
    rw [← HS.out]
    rw [← HS.out] at sb0 sb1 g0 g1 g2
    clear hs hs1 hxq
    go_region_with (first
      | (go_at_call 64; refine (sideOf_any _ _ _ true _).mono ?_; simp only [Ob.pick]; rintro e X1 ⟨rfl, m1⟩; obtain ⟨⟨q0, q1, q2, q3, q4, q5, q6, q7⟩, ⟨z0, z1, z2, z3, z4, z5, z6, z7⟩, zf, t1, BX⟩ := HN.out X1 m1))
    all_goals
      go_wp2_with fail
      refine bodyPost_ret (v := .agg #[.int .i64 x.1, .int .i64 x.2.1, .int .i64 x.2.2.1, .int .i64 x.2.2.2.1, .bool x.2.2.2.2.1, .int .i64 x.2.2.2.2.2.1, .int .i64 x.2.2.2.2.2.2.1, .bool x.2.2.2.2.2.2.2]) (by simp [results, Try.results21, go_sem, z0, z1, z2, z3, z4, z5, z6, z7] <;> rfl) rfl ⟨rfl, ?_⟩
      repeat (refine Below.setCell ?_ (by simp <;> omega) _)
      exact BX
  · have HLB := Fk.hide hB
    clear hB
    have HH := Fk.hide hj
    have hlt : j < A.length := hj.1
    clear hj
    have hxq : x = Rk.at_ Or.S A j := by rw [HX.out]; exact Ob.find_ask HR.out.symm HLB.out HH.out
    obtain ⟨S, hS⟩ : ∃ W, W = (w2.alloc (.cells #[.bool false, .int .i64 (j : Int)] 96)) := ⟨_, rfl⟩
    have bS : Below w2.heap.size w2 S := by rw [hS]; exact (Below.refl _ _).alloc (Nat.le_refl _) _
    have sb0 : S.cell? ⟨w2.heap.size, 0, none⟩ = some (.bool false) := by rw [hS, Fk.cellTop _ _ _ _ _ rfl]; rfl
    have sb1 : S.cell? ⟨w2.heap.size, 1, none⟩ = some (.int .i64 (j : Int)) := by rw [hS, Fk.cellTop _ _ _ _ _ rfl]; rfl
    have hzS : w2.heap.size < S.heap.size := by rw [hS]; simp
    have BS : Below w.heap.size w S := B2.trans (bS.mono B2.size)
    have bWS : Below W.heap.size W S := bW2.trans (bS.mono bW2.size)
    have g0 := (bS.cell (p := ⟨w.heap.size, 0, none⟩) (by show w.heap.size < _; omega)).trans f0
    have g1 := (bS.cell (p := ⟨w.heap.size, 1, none⟩) (by show w.heap.size < _; omega)).trans f1
    have g2 := (bS.cell (p := ⟨w.heap.size, 2, none⟩) (by show w.heap.size < _; omega)).trans f2
    have HS := Fk.hide hS
    clear bS hS
    obtain ⟨va, vc, ev, hs⟩ := HV.out
    obtain ⟨vb, vo, rfl, hvb, hs1⟩ := hs (by omega)
    simp only [Value.slice.injEq] at ev
    obtain ⟨e1, e2, e3⟩ := ev
    subst e1 e3
    have HN : Hid (∀ X : World, Below S.heap.size S.drew X → (X.cell? ⟨vb, vo + j * 8, none⟩ = some (.int .i64 x.1) ∧ X.cell? ⟨vb, vo + j * 8 + 1, none⟩ = some (.int .i64 x.2.1) ∧ X.cell? ⟨vb, vo + j * 8 + 2, none⟩ = some (.int .i64 x.2.2.1) ∧ X.cell? ⟨vb, vo + j * 8 + 3, none⟩ = some (.int .i64 x.2.2.2.1) ∧ X.cell? ⟨vb, vo + j * 8 + 4, none⟩ = some (.bool x.2.2.2.2.1) ∧ X.cell? ⟨vb, vo + j * 8 + 5, none⟩ = some (.int .i64 x.2.2.2.2.2.1) ∧ X.cell? ⟨vb, vo + j * 8 + 6, none⟩ = some (.int .i64 x.2.2.2.2.2.2.1) ∧ X.cell? ⟨vb, vo + j * 8 + 7, none⟩ = some (.bool x.2.2.2.2.2.2.2)) ∧ (X.cell? ⟨w.heap.size + 1, 0, none⟩ = some (.int .i64 0) ∧ X.cell? ⟨w.heap.size + 1, 1, none⟩ = some (.int .i64 0) ∧ X.cell? ⟨w.heap.size + 1, 2, none⟩ = some (.int .i64 0) ∧ X.cell? ⟨w.heap.size + 1, 3, none⟩ = some (.int .i64 0) ∧ X.cell? ⟨w.heap.size + 1, 4, none⟩ = some (.bool false) ∧ X.cell? ⟨w.heap.size + 1, 5, none⟩ = some (.int .i64 0) ∧ X.cell? ⟨w.heap.size + 1, 6, none⟩ = some (.int .i64 0) ∧ X.cell? ⟨w.heap.size + 1, 7, none⟩ = some (.bool false)) ∧ (∀ t, X.frozen? ⟨w.heap.size + 1, t, none⟩ = false) ∧ X.cell? ⟨w2.heap.size, 1, none⟩ = some (.int .i64 (j : Int)) ∧ Below w.heap.size w X) := by
      intro X m
      have m' : Below S.heap.size S X := (Below.drew (Below.refl S.heap.size S)).trans m
      have bWX : Below W.heap.size W X := bWS.trans (m'.mono bWS.size)
      have BX : Below w.heap.size w X := BS.trans (m'.mono BS.size)
      have hs' := hs1.below hvb BX
      have q0 := Or.c0 hs' hlt
      have q1 := Or.c1 hs' hlt
      have q2 := Or.c2 hs' hlt
      have q3 := Or.c3 hs' hlt
      have q4 := Or.c4 hs' hlt
      have q5 := Or.c5 hs' hlt
      have q6 := Or.c6 hs' hlt
      have q7 := Or.c7 hs' hlt
      rw [← hxq] at q0 q1 q2 q3 q4 q5 q6 q7
      have z0 := (bWX.cell (p := ⟨w.heap.size + 1, 0, none⟩) (by show w.heap.size + 1 < _; omega)).trans HZ0.out
      have z1 := (bWX.cell (p := ⟨w.heap.size + 1, 1, none⟩) (by show w.heap.size + 1 < _; omega)).trans HZ1.out
      have z2 := (bWX.cell (p := ⟨w.heap.size + 1, 2, none⟩) (by show w.heap.size + 1 < _; omega)).trans HZ2.out
      have z3 := (bWX.cell (p := ⟨w.heap.size + 1, 3, none⟩) (by show w.heap.size + 1 < _; omega)).trans HZ3.out
      have z4 := (bWX.cell (p := ⟨w.heap.size + 1, 4, none⟩) (by show w.heap.size + 1 < _; omega)).trans HZ4.out
      have z5 := (bWX.cell (p := ⟨w.heap.size + 1, 5, none⟩) (by show w.heap.size + 1 < _; omega)).trans HZ5.out
      have z6 := (bWX.cell (p := ⟨w.heap.size + 1, 6, none⟩) (by show w.heap.size + 1 < _; omega)).trans HZ6.out
      have z7 := (bWX.cell (p := ⟨w.heap.size + 1, 7, none⟩) (by show w.heap.size + 1 < _; omega)).trans HZ7.out
      have zf : ∀ j, X.frozen? ⟨w.heap.size + 1, j, none⟩ = false := fun j => (bWX.frozen (by show w.heap.size + 1 < _; omega)).trans (HZF.out j)
      exact ⟨⟨q0, q1, q2, q3, q4, q5, q6, q7⟩, ⟨z0, z1, z2, z3, z4, z5, z6, z7⟩, zf, (m'.cell (by show w2.heap.size < _; omega)).trans sb1, BX⟩
    have hjl : (j : Int) < (A.length : Int) := by omega
    rw [HS.out] at sb0 sb1 g0 g1 g2
    go_wp2_with fail
    rw [← HS.out]
    rw [← HS.out] at sb0 sb1 g0 g1 g2
    clear hs hs1 hxq
    go_region_with (first
      | (go_at_call 64; refine (sideOf_any _ _ _ false _).mono ?_; simp only [Ob.pick]; rintro e X1 ⟨rfl, m1⟩; obtain ⟨⟨q0, q1, q2, q3, q4, q5, q6, q7⟩, ⟨z0, z1, z2, z3, z4, z5, z6, z7⟩, zf, t1, BX⟩ := HN.out X1 m1))
    all_goals
      go_wp2_with fail
      refine bodyPost_ret (v := .agg #[.int .i64 x.1, .int .i64 x.2.1, .int .i64 x.2.2.1, .int .i64 x.2.2.2.1, .bool x.2.2.2.2.1, .int .i64 x.2.2.2.2.2.1, .int .i64 x.2.2.2.2.2.2.1, .bool x.2.2.2.2.2.2.2]) (by simp [results, Try.results21, go_sem, z0, z1, z2, z3, z4, z5, z6, z7] <;> rfl) rfl ⟨rfl, ?_⟩
      repeat (refine Below.setCell ?_ (by simp <;> omega) _)
      exact BX
  · have hxz : x = Or.S.z := by rw [HX.out]; exact Ob.find_none HR.out.symm hB hA
    subst hxz
    clear hB hA
    obtain ⟨S, hS⟩ : ∃ W, W = w2.alloc (.cells #[.bool buy, .int .i64 k] 96) := ⟨_, rfl⟩
    have bS : Below w2.heap.size w2 S := by rw [hS]; exact (Below.refl _ _).alloc (Nat.le_refl _) _
    have BS : Below w.heap.size w S := B2.trans (bS.mono B2.size)
    have bWS : Below W.heap.size W S := bW2.trans (bS.mono bW2.size)
    have HBS := Fk.hide BS
    have z0 := (bWS.cell (p := ⟨w.heap.size + 1, 0, none⟩) (by show w.heap.size + 1 < _; omega)).trans HZ0.out
    have z1 := (bWS.cell (p := ⟨w.heap.size + 1, 1, none⟩) (by show w.heap.size + 1 < _; omega)).trans HZ1.out
    have z2 := (bWS.cell (p := ⟨w.heap.size + 1, 2, none⟩) (by show w.heap.size + 1 < _; omega)).trans HZ2.out
    have z3 := (bWS.cell (p := ⟨w.heap.size + 1, 3, none⟩) (by show w.heap.size + 1 < _; omega)).trans HZ3.out
    have z4 := (bWS.cell (p := ⟨w.heap.size + 1, 4, none⟩) (by show w.heap.size + 1 < _; omega)).trans HZ4.out
    have z5 := (bWS.cell (p := ⟨w.heap.size + 1, 5, none⟩) (by show w.heap.size + 1 < _; omega)).trans HZ5.out
    have z6 := (bWS.cell (p := ⟨w.heap.size + 1, 6, none⟩) (by show w.heap.size + 1 < _; omega)).trans HZ6.out
    have z7 := (bWS.cell (p := ⟨w.heap.size + 1, 7, none⟩) (by show w.heap.size + 1 < _; omega)).trans HZ7.out
    have zf : ∀ j, S.frozen? ⟨w.heap.size + 1, j, none⟩ = false := fun j => (bWS.frozen (by show w.heap.size + 1 < _; omega)).trans (HZF.out j)
    rw [hS] at z0 z1 z2 z3 z4 z5 z6 z7 zf HBS
    clear hS bS BS bWS
    go_wp2_with fail
    refine bodyPost_ret (v := .agg #[.int .i64 0, .int .i64 0, .int .i64 0, .int .i64 0, .bool false, .int .i64 0, .int .i64 0, .bool false]) (by simp [results, Try.results21, go_sem, z0, z1, z2, z3, z4, z5, z6, z7] <;> rfl) rfl ⟨rfl, ?_⟩
    repeat (refine Below.setCell ?_ (by simp <;> omega) _)
    exact HBS.out
end Go.Proofs.Ytgjapebjbgkhcaa

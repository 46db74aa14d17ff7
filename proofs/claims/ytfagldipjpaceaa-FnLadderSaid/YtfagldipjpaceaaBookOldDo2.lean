/- The walk of the specification's OldDo. -/
import Derived.Test.YtfagldipjpaceaaBookOldDo
namespace Go.Proofs.Ytfagldipjpaceaa
open Go.RowKit
set_option linter.unusedVariables false
set_option linter.unusedSimpArgs false
theorem Cm.old_post {c : Cm.C} (h : Cm.old c = true) : c.post = false := by
  simp only [Cm.old, Bool.and_eq_true] at h
  simpa using h.2.1
set_option maxRecDepth 100000 in
set_option maxHeartbeats 8000000 in
theorem oldDo_spec (u v : Value) (n : Int) (B A : List Or.E) (c : Cm.C) (w : World) (hu : Rk.View Or.S w u B) (hv : Rk.View Or.S w v A) (su : Rk.Shut u) (sv : Rk.Shut v) (l0 : B.length ≤ 1048576) (l1 : A.length ≤ 1048576) :
    Calls Try.prog 11 #[.agg #[u, v, .int .i64 n], .agg #[.int .i64 c.kind, .int .i64 c.owner, .int .i64 c.id, .bool c.buy, .int .i64 c.price, .int .i64 c.amount, .int .i64 c.life, .bool c.post, .int .i64 c.peak, .bool c.guard]] w fun e w' => (∃ x y z, e = .returned (.agg #[x, y, .int .i64 (Dm.oldDo c B A n).2.n, z, .int .i64 (Dm.oldDo c B A n).1]) ∧ Ob.Two w' w.heap.size 40 x y (Dm.oldDo c B A n).2.b (Dm.oldDo c B A n).2.a ∧ Rk.Own Vt.S w' w.heap.size 48 z (Dm.oldDo c B A n).2.ev) ∧ Below w.heap.size w w' := by
  obtain ⟨W, hW⟩ : ∃ W, W = ((w.alloc (.cells #[u, v, .int .i64 n] 25)).alloc (.cells #[.int .i64 c.kind, .int .i64 c.owner, .int .i64 c.id, .bool c.buy, .int .i64 c.price, .int .i64 c.amount, .int .i64 c.life, .bool c.post, .int .i64 c.peak, .bool c.guard] 27)).alloc (.cells #[.slice none 0 0, .slice none 0 0, .int .i64 0, .slice none 0 0, .int .i64 0] 32) := ⟨_, rfl⟩
  have bW : Below w.heap.size w W := by rw [hW]; exact (((Below.refl _ _).alloc (Nat.le_refl _) _).alloc (by simp) _).alloc (by simp; omega) _
  have hz : W.heap.size = w.heap.size + 3 := by rw [hW]; simp
  have o0 : W.cell? ⟨w.heap.size, 0, none⟩ = some u := by rw [hW, Fk.cellOld _ _ _ _ (by simp; omega), Fk.cellOld _ _ _ _ (by simp), Fk.cellTop _ _ _ _ _ rfl]; rfl
  have o1 : W.cell? ⟨w.heap.size, 1, none⟩ = some v := by rw [hW, Fk.cellOld _ _ _ _ (by simp; omega), Fk.cellOld _ _ _ _ (by simp), Fk.cellTop _ _ _ _ _ rfl]; rfl
  have o2 : W.cell? ⟨w.heap.size, 2, none⟩ = some (.int .i64 n) := by rw [hW, Fk.cellOld _ _ _ _ (by simp; omega), Fk.cellOld _ _ _ _ (by simp), Fk.cellTop _ _ _ _ _ rfl]; rfl
  have m0 : W.cell? ⟨w.heap.size + 1, 0, none⟩ = some (.int .i64 c.kind) := by rw [hW, Fk.cellOld _ _ _ _ (by simp), Fk.cellTop _ _ _ _ _ (by simp)]; rfl
  have m1 : W.cell? ⟨w.heap.size + 1, 1, none⟩ = some (.int .i64 c.owner) := by rw [hW, Fk.cellOld _ _ _ _ (by simp), Fk.cellTop _ _ _ _ _ (by simp)]; rfl
  have m2 : W.cell? ⟨w.heap.size + 1, 2, none⟩ = some (.int .i64 c.id) := by rw [hW, Fk.cellOld _ _ _ _ (by simp), Fk.cellTop _ _ _ _ _ (by simp)]; rfl
  have m3 : W.cell? ⟨w.heap.size + 1, 3, none⟩ = some (.bool c.buy) := by rw [hW, Fk.cellOld _ _ _ _ (by simp), Fk.cellTop _ _ _ _ _ (by simp)]; rfl
  have m4 : W.cell? ⟨w.heap.size + 1, 4, none⟩ = some (.int .i64 c.price) := by rw [hW, Fk.cellOld _ _ _ _ (by simp), Fk.cellTop _ _ _ _ _ (by simp)]; rfl
  have m5 : W.cell? ⟨w.heap.size + 1, 5, none⟩ = some (.int .i64 c.amount) := by rw [hW, Fk.cellOld _ _ _ _ (by simp), Fk.cellTop _ _ _ _ _ (by simp)]; rfl
  have m6 : W.cell? ⟨w.heap.size + 1, 6, none⟩ = some (.int .i64 c.life) := by rw [hW, Fk.cellOld _ _ _ _ (by simp), Fk.cellTop _ _ _ _ _ (by simp)]; rfl
  have m7 : W.cell? ⟨w.heap.size + 1, 7, none⟩ = some (.bool c.post) := by rw [hW, Fk.cellOld _ _ _ _ (by simp), Fk.cellTop _ _ _ _ _ (by simp)]; rfl
  have m8 : W.cell? ⟨w.heap.size + 1, 8, none⟩ = some (.int .i64 c.peak) := by rw [hW, Fk.cellOld _ _ _ _ (by simp), Fk.cellTop _ _ _ _ _ (by simp)]; rfl
  have m9 : W.cell? ⟨w.heap.size + 1, 9, none⟩ = some (.bool c.guard) := by rw [hW, Fk.cellOld _ _ _ _ (by simp), Fk.cellTop _ _ _ _ _ (by simp)]; rfl
  have HZ0 : Hid (W.cell? ⟨w.heap.size + 2, 0, none⟩ = some (.slice none 0 0)) := by show _ = _; rw [hW, Fk.cellTop _ _ _ _ _ (by simp)]; rfl
  have HZ1 : Hid (W.cell? ⟨w.heap.size + 2, 1, none⟩ = some (.slice none 0 0)) := by show _ = _; rw [hW, Fk.cellTop _ _ _ _ _ (by simp)]; rfl
  have HZ2 : Hid (W.cell? ⟨w.heap.size + 2, 2, none⟩ = some (.int .i64 0)) := by show _ = _; rw [hW, Fk.cellTop _ _ _ _ _ (by simp)]; rfl
  have HZ3 : Hid (W.cell? ⟨w.heap.size + 2, 3, none⟩ = some (.slice none 0 0)) := by show _ = _; rw [hW, Fk.cellTop _ _ _ _ _ (by simp)]; rfl
  have HZ4 : Hid (W.cell? ⟨w.heap.size + 2, 4, none⟩ = some (.int .i64 0)) := by show _ = _; rw [hW, Fk.cellTop _ _ _ _ _ (by simp)]; rfl
  have HZF : Hid (∀ j, W.frozen? ⟨w.heap.size + 2, j, none⟩ = false) := fun j => by rw [hW, Fk.frozTop _ _ _ _ _ (by simp)]
  have HU := Fk.hide (hu.below bW)
  have HV := Fk.hide (hv.below bW)
  have HW := Fk.hide hW
  have HBW := Fk.hide bW
  obtain ⟨ua, uc, rfl, _⟩ := hu
  obtain ⟨va, vc, rfl, _⟩ := hv
  clear hW
  obtain ⟨r, hrr⟩ : ∃ r, r = Dm.oldDo c B A n := ⟨_, rfl⟩
  rw [← hrr]
  have HR := Fk.hide hrr
  clear hrr bW
  go_enter Try.func11, Try.ntmps11
  go_wp2_with fail
  rw [← HW.out]
  refine (oldRight_spec _ _ n B A W HU.out HV.out su sv l0 l1).mono ?_
  rintro e w1 ⟨rfl, k1⟩
  have c0_1 := (k1.cell (p := ⟨w.heap.size + 1, 0, none⟩) (by show w.heap.size + 1 < _; omega)).trans m0
  have c1_1 := (k1.cell (p := ⟨w.heap.size + 1, 1, none⟩) (by show w.heap.size + 1 < _; omega)).trans m1
  have c2_1 := (k1.cell (p := ⟨w.heap.size + 1, 2, none⟩) (by show w.heap.size + 1 < _; omega)).trans m2
  have c3_1 := (k1.cell (p := ⟨w.heap.size + 1, 3, none⟩) (by show w.heap.size + 1 < _; omega)).trans m3
  have c4_1 := (k1.cell (p := ⟨w.heap.size + 1, 4, none⟩) (by show w.heap.size + 1 < _; omega)).trans m4
  have c5_1 := (k1.cell (p := ⟨w.heap.size + 1, 5, none⟩) (by show w.heap.size + 1 < _; omega)).trans m5
  have c6_1 := (k1.cell (p := ⟨w.heap.size + 1, 6, none⟩) (by show w.heap.size + 1 < _; omega)).trans m6
  have c7_1 := (k1.cell (p := ⟨w.heap.size + 1, 7, none⟩) (by show w.heap.size + 1 < _; omega)).trans m7
  have c8_1 := (k1.cell (p := ⟨w.heap.size + 1, 8, none⟩) (by show w.heap.size + 1 < _; omega)).trans m8
  have c9_1 := (k1.cell (p := ⟨w.heap.size + 1, 9, none⟩) (by show w.heap.size + 1 < _; omega)).trans m9
  have o0_1 := (k1.cell (p := ⟨w.heap.size, 0, none⟩) (by show w.heap.size < _; omega)).trans o0
  have o1_1 := (k1.cell (p := ⟨w.heap.size, 1, none⟩) (by show w.heap.size < _; omega)).trans o1
  have o2_1 := (k1.cell (p := ⟨w.heap.size, 2, none⟩) (by show w.heap.size < _; omega)).trans o2
  clear m0 m1 m2 m3 m4 m5 m6 m7 m8 m9 o0 o1 o2
  have HB1 := Fk.hide (HBW.out.trans (k1.mono HBW.out.size))
  have HK1 := Fk.hide k1
  clear k1
  have hz1 : w.heap.size + 3 ≤ w1.heap.size := by rw [← hz]; exact HK1.out.size
  obtain ⟨q, hq⟩ : ∃ q, q = Ob.right B A n := ⟨_, rfl⟩
  rw [← hq]
  have HQ := Fk.hide hq
  clear hq
  cases q with
  | false =>
    have hra : r = (1, Dm.zero) := by rw [HR.out, Dm.oldDo, ← HQ.out]; rfl
    subst hra
    have z0 := (HK1.out.cell (p := ⟨w.heap.size + 2, 0, none⟩) (by show w.heap.size + 2 < _; omega)).trans HZ0.out
    have z1 := (HK1.out.cell (p := ⟨w.heap.size + 2, 1, none⟩) (by show w.heap.size + 2 < _; omega)).trans HZ1.out
    have z2 := (HK1.out.cell (p := ⟨w.heap.size + 2, 2, none⟩) (by show w.heap.size + 2 < _; omega)).trans HZ2.out
    have z3 := (HK1.out.cell (p := ⟨w.heap.size + 2, 3, none⟩) (by show w.heap.size + 2 < _; omega)).trans HZ3.out
    have z4 := (HK1.out.cell (p := ⟨w.heap.size + 2, 4, none⟩) (by show w.heap.size + 2 < _; omega)).trans HZ4.out
    have zf : ∀ j, w1.frozen? ⟨w.heap.size + 2, j, none⟩ = false := fun j => (HK1.out.frozen (by show w.heap.size + 2 < _; omega)).trans (HZF.out j)
    go_wp2_with fail
    refine bodyPost_ret (v := .agg #[.slice none 0 0, .slice none 0 0, .int .i64 0, .slice none 0 0, .int .i64 1]) (by simp [results, Try.results11, go_sem, z0, z1, z2, z3, z4] <;> rfl) rfl ⟨⟨_, _, _, rfl, ⟨Rk.own_nil _ _ _, Rk.own_nil _ _ _, fun k hk => by cases hk⟩, Rk.own_nil _ _ _⟩, ?_⟩
    repeat (refine Below.setCell ?_ (by simp <;> omega) _)
    exact HB1.out
  | true =>
  go_wp2_with fail
  refine (cmdRight_spec c w1).mono ?_
  rintro e w2 ⟨rfl, k2⟩
  have c0_2 := (k2.cell (p := ⟨w.heap.size + 1, 0, none⟩) (by show w.heap.size + 1 < _; omega)).trans c0_1
  have c1_2 := (k2.cell (p := ⟨w.heap.size + 1, 1, none⟩) (by show w.heap.size + 1 < _; omega)).trans c1_1
  have c2_2 := (k2.cell (p := ⟨w.heap.size + 1, 2, none⟩) (by show w.heap.size + 1 < _; omega)).trans c2_1
  have c3_2 := (k2.cell (p := ⟨w.heap.size + 1, 3, none⟩) (by show w.heap.size + 1 < _; omega)).trans c3_1
  have c4_2 := (k2.cell (p := ⟨w.heap.size + 1, 4, none⟩) (by show w.heap.size + 1 < _; omega)).trans c4_1
  have c5_2 := (k2.cell (p := ⟨w.heap.size + 1, 5, none⟩) (by show w.heap.size + 1 < _; omega)).trans c5_1
  have c6_2 := (k2.cell (p := ⟨w.heap.size + 1, 6, none⟩) (by show w.heap.size + 1 < _; omega)).trans c6_1
  have c7_2 := (k2.cell (p := ⟨w.heap.size + 1, 7, none⟩) (by show w.heap.size + 1 < _; omega)).trans c7_1
  have c8_2 := (k2.cell (p := ⟨w.heap.size + 1, 8, none⟩) (by show w.heap.size + 1 < _; omega)).trans c8_1
  have c9_2 := (k2.cell (p := ⟨w.heap.size + 1, 9, none⟩) (by show w.heap.size + 1 < _; omega)).trans c9_1
  have o0_2 := (k2.cell (p := ⟨w.heap.size, 0, none⟩) (by show w.heap.size < _; omega)).trans o0_1
  have o1_2 := (k2.cell (p := ⟨w.heap.size, 1, none⟩) (by show w.heap.size < _; omega)).trans o1_1
  have o2_2 := (k2.cell (p := ⟨w.heap.size, 2, none⟩) (by show w.heap.size < _; omega)).trans o2_1
  clear c0_1 c1_1 c2_1 c3_1 c4_1 c5_1 c6_1 c7_1 c8_1 c9_1 o0_1 o1_1 o2_1
  have HB2 := Fk.hide (HB1.out.trans (k2.mono HB1.out.size))
  have HK2 := Fk.hide (HK1.out.trans (k2.mono HK1.out.size))
  clear k2 HB1 HK1
  have hz2 : w.heap.size + 3 ≤ w2.heap.size := by rw [← hz]; exact HK2.out.size
  obtain ⟨q2, hq2⟩ : ∃ q, q = Cm.right c := ⟨_, rfl⟩
  rw [← hq2]
  have HQ2 := Fk.hide hq2
  clear hq2
  cases q2 with
  | false =>
    have hra : r = (1, Dm.zero) := by rw [HR.out, Dm.oldDo, ← HQ.out, ← HQ2.out]; rfl
    subst hra
    have z0 := (HK2.out.cell (p := ⟨w.heap.size + 2, 0, none⟩) (by show w.heap.size + 2 < _; omega)).trans HZ0.out
    have z1 := (HK2.out.cell (p := ⟨w.heap.size + 2, 1, none⟩) (by show w.heap.size + 2 < _; omega)).trans HZ1.out
    have z2 := (HK2.out.cell (p := ⟨w.heap.size + 2, 2, none⟩) (by show w.heap.size + 2 < _; omega)).trans HZ2.out
    have z3 := (HK2.out.cell (p := ⟨w.heap.size + 2, 3, none⟩) (by show w.heap.size + 2 < _; omega)).trans HZ3.out
    have z4 := (HK2.out.cell (p := ⟨w.heap.size + 2, 4, none⟩) (by show w.heap.size + 2 < _; omega)).trans HZ4.out
    have zf : ∀ j, w2.frozen? ⟨w.heap.size + 2, j, none⟩ = false := fun j => (HK2.out.frozen (by show w.heap.size + 2 < _; omega)).trans (HZF.out j)
    go_wp2_with fail
    refine bodyPost_ret (v := .agg #[.slice none 0 0, .slice none 0 0, .int .i64 0, .slice none 0 0, .int .i64 1]) (by simp [results, Try.results11, go_sem, z0, z1, z2, z3, z4] <;> rfl) rfl ⟨⟨_, _, _, rfl, ⟨Rk.own_nil _ _ _, Rk.own_nil _ _ _, fun k hk => by cases hk⟩, Rk.own_nil _ _ _⟩, ?_⟩
    repeat (refine Below.setCell ?_ (by simp <;> omega) _)
    exact HB2.out
  | true =>
  go_wp2_with fail
  refine (cmdOld_spec c w2).mono ?_
  rintro e w3 ⟨rfl, k3⟩
  have c0_3 := (k3.cell (p := ⟨w.heap.size + 1, 0, none⟩) (by show w.heap.size + 1 < _; omega)).trans c0_2
  have c1_3 := (k3.cell (p := ⟨w.heap.size + 1, 1, none⟩) (by show w.heap.size + 1 < _; omega)).trans c1_2
  have c2_3 := (k3.cell (p := ⟨w.heap.size + 1, 2, none⟩) (by show w.heap.size + 1 < _; omega)).trans c2_2
  have c3_3 := (k3.cell (p := ⟨w.heap.size + 1, 3, none⟩) (by show w.heap.size + 1 < _; omega)).trans c3_2
  have c4_3 := (k3.cell (p := ⟨w.heap.size + 1, 4, none⟩) (by show w.heap.size + 1 < _; omega)).trans c4_2
  have c5_3 := (k3.cell (p := ⟨w.heap.size + 1, 5, none⟩) (by show w.heap.size + 1 < _; omega)).trans c5_2
  have c6_3 := (k3.cell (p := ⟨w.heap.size + 1, 6, none⟩) (by show w.heap.size + 1 < _; omega)).trans c6_2
  have c7_3 := (k3.cell (p := ⟨w.heap.size + 1, 7, none⟩) (by show w.heap.size + 1 < _; omega)).trans c7_2
  have c8_3 := (k3.cell (p := ⟨w.heap.size + 1, 8, none⟩) (by show w.heap.size + 1 < _; omega)).trans c8_2
  have c9_3 := (k3.cell (p := ⟨w.heap.size + 1, 9, none⟩) (by show w.heap.size + 1 < _; omega)).trans c9_2
  have o0_3 := (k3.cell (p := ⟨w.heap.size, 0, none⟩) (by show w.heap.size < _; omega)).trans o0_2
  have o1_3 := (k3.cell (p := ⟨w.heap.size, 1, none⟩) (by show w.heap.size < _; omega)).trans o1_2
  have o2_3 := (k3.cell (p := ⟨w.heap.size, 2, none⟩) (by show w.heap.size < _; omega)).trans o2_2
  clear c0_2 c1_2 c2_2 c3_2 c4_2 c5_2 c6_2 c7_2 c8_2 c9_2 o0_2 o1_2 o2_2
  have HB3 := Fk.hide (HB2.out.trans (k3.mono HB2.out.size))
  have HK3 := Fk.hide (HK2.out.trans (k3.mono HK2.out.size))
  clear k3 HB2 HK2
  have hz3 : w.heap.size + 3 ≤ w3.heap.size := by rw [← hz]; exact HK3.out.size
  obtain ⟨q3, hq3⟩ : ∃ q, q = Cm.old c := ⟨_, rfl⟩
  rw [← hq3]
  have HQ3 := Fk.hide hq3
  clear hq3
  cases q3 with
  | false =>
    have hra : r = (12, Dm.zero) := by rw [HR.out, Dm.oldDo, ← HQ.out, ← HQ2.out, ← HQ3.out]; rfl
    subst hra
    have z0 := (HK3.out.cell (p := ⟨w.heap.size + 2, 0, none⟩) (by show w.heap.size + 2 < _; omega)).trans HZ0.out
    have z1 := (HK3.out.cell (p := ⟨w.heap.size + 2, 1, none⟩) (by show w.heap.size + 2 < _; omega)).trans HZ1.out
    have z2 := (HK3.out.cell (p := ⟨w.heap.size + 2, 2, none⟩) (by show w.heap.size + 2 < _; omega)).trans HZ2.out
    have z3 := (HK3.out.cell (p := ⟨w.heap.size + 2, 3, none⟩) (by show w.heap.size + 2 < _; omega)).trans HZ3.out
    have z4 := (HK3.out.cell (p := ⟨w.heap.size + 2, 4, none⟩) (by show w.heap.size + 2 < _; omega)).trans HZ4.out
    have zf : ∀ j, w3.frozen? ⟨w.heap.size + 2, j, none⟩ = false := fun j => (HK3.out.frozen (by show w.heap.size + 2 < _; omega)).trans (HZF.out j)
    go_wp2_with fail
    refine bodyPost_ret (v := .agg #[.slice none 0 0, .slice none 0 0, .int .i64 0, .slice none 0 0, .int .i64 12]) (by simp [results, Try.results11, go_sem, z0, z1, z2, z3, z4] <;> rfl) rfl ⟨⟨_, _, _, rfl, ⟨Rk.own_nil _ _ _, Rk.own_nil _ _ _, fun k hk => by cases hk⟩, Rk.own_nil _ _ _⟩, ?_⟩
    repeat (refine Below.setCell ?_ (by simp <;> omega) _)
    exact HB3.out
  | true =>
  have hra : r = Dm.ans c ⟨B, A, n, []⟩ := by rw [HR.out, Dm.oldDo, ← HQ.out, ← HQ2.out, ← HQ3.out]; rfl
  have HC := Fk.hide (l06Do_any _ _ n B A c w3 (HU.out.below HK3.out) (HV.out.below HK3.out) su sv HQ.out.symm HQ2.out.symm (Cm.old_post HQ3.out.symm))
  rw [← hra] at HC
  clear hra
  obtain ⟨rc, rb⟩ := r
  go_wp2_with fail
  refine HC.out.mono ?_
  rintro e w4 ⟨⟨x, y, z, rfl, T4, E4⟩, k4⟩
  have HB4 := Fk.hide (HB3.out.trans (k4.mono HB3.out.size))
  have HK4 := Fk.hide (HK3.out.trans (k4.mono HK3.out.size))
  have hz4 : w.heap.size + 3 ≤ w4.heap.size := by rw [← hz]; exact HK4.out.size
  have HT4 := Fk.hide T4
  have HE4 := Fk.hide E4
  clear k4 T4 E4 c0_3 c1_3 c2_3 c3_3 c4_3 c5_3 c6_3 c7_3 c8_3 c9_3 o0_3 o1_3 o2_3
  obtain ⟨xa, xn, xc, rfl⟩ := HT4.out.b.slice'
  obtain ⟨ya, yn, yc, rfl⟩ := HT4.out.a.slice'
  obtain ⟨za, zn, zc, rfl⟩ := HE4.out.slice'
  have z0 := (HK4.out.cell (p := ⟨w.heap.size + 2, 0, none⟩) (by show w.heap.size + 2 < _; omega)).trans HZ0.out
  have z1 := (HK4.out.cell (p := ⟨w.heap.size + 2, 1, none⟩) (by show w.heap.size + 2 < _; omega)).trans HZ1.out
  have z2 := (HK4.out.cell (p := ⟨w.heap.size + 2, 2, none⟩) (by show w.heap.size + 2 < _; omega)).trans HZ2.out
  have z3 := (HK4.out.cell (p := ⟨w.heap.size + 2, 3, none⟩) (by show w.heap.size + 2 < _; omega)).trans HZ3.out
  have z4 := (HK4.out.cell (p := ⟨w.heap.size + 2, 4, none⟩) (by show w.heap.size + 2 < _; omega)).trans HZ4.out
  have zf : ∀ j, w4.frozen? ⟨w.heap.size + 2, j, none⟩ = false := fun j => (HK4.out.frozen (by show w.heap.size + 2 < _; omega)).trans (HZF.out j)
  have hb2 : w.heap.size + 2 < w3.heap.size := by omega
  have HQ4 := Fk.hide ((((((HT4.out.b.setLow hb2 0 (.slice xa xn xc)).setLow hb2 1 (.slice ya yn yc)).setLow hb2 2 (.int .i64 rb.n)).setLow hb2 3 (.slice za zn zc)).setLow hb2 4 (.int .i64 rc)).mono (base' := w.heap.size) (by omega))
  have HQ5 := Fk.hide ((((((HT4.out.a.setLow hb2 0 (.slice xa xn xc)).setLow hb2 1 (.slice ya yn yc)).setLow hb2 2 (.int .i64 rb.n)).setLow hb2 3 (.slice za zn zc)).setLow hb2 4 (.int .i64 rc)).mono (base' := w.heap.size) (by omega))
  have HQ6 := Fk.hide ((((((HE4.out.setLow hb2 0 (.slice xa xn xc)).setLow hb2 1 (.slice ya yn yc)).setLow hb2 2 (.int .i64 rb.n)).setLow hb2 3 (.slice za zn zc)).setLow hb2 4 (.int .i64 rc)).mono (base' := w.heap.size) (by omega))
  have HQ7 : Hid (Below w.heap.size w (((((w4.setCell ⟨w.heap.size + 2, 0, none⟩ (.slice xa xn xc)).setCell ⟨w.heap.size + 2, 1, none⟩ (.slice ya yn yc)).setCell ⟨w.heap.size + 2, 2, none⟩ (.int .i64 rb.n)).setCell ⟨w.heap.size + 2, 3, none⟩ (.slice za zn zc)).setCell ⟨w.heap.size + 2, 4, none⟩ (.int .i64 rc))) := by
    show Below _ _ _
    repeat (refine Below.setCell ?_ (by simp <;> omega) _)
    exact HB4.out
  go_wp2_with fail
  refine bodyPost_ret (v := .agg #[.slice xa xn xc, .slice ya yn yc, .int .i64 rb.n, .slice za zn zc, .int .i64 rc]) (by simp [results, Try.results11, go_sem, z0, z1, z2, z3, z4] <;> rfl) rfl ⟨⟨_, _, _, rfl, ⟨HQ4.out, HQ5.out, HT4.out.ne⟩, HQ6.out⟩, HQ7.out⟩
end Go.Proofs.Ytfagldipjpaceaa

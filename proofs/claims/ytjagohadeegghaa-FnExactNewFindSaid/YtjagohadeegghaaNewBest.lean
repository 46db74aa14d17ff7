/- The walks of NewBest, of the program and of the specification. -/
import Derived.Test.YtjagohadeegghaaNewRightImpl2
import Derived.Test.YtjagohadeegghaaNewOpenSpec2
import Derived.Test.YtjagohadeegghaaOldBest
namespace Go.Proofs.Ytjagohadeegghaa
open Go.RowKit
set_option linter.unusedVariables false
set_option linter.unusedSimpArgs false
set_option maxHeartbeats 400000 in
theorem levelsOf_yes (u v : Value) (n : Int) (w : World) :
    Calls Try.prog 88 #[.agg #[u, v, .int .i64 n], .bool true] w fun e w' => e = .returned u ∧ Below w.heap.size w w' := by
  go_enter Try.func88, Try.ntmps88
  go_wp2_with fail
  go_ret
  exact ⟨rfl, (Below.refl _ _).alloc (Nat.le_refl _) _⟩
set_option maxHeartbeats 400000 in
theorem levelsOf_no (u v : Value) (n : Int) (w : World) :
    Calls Try.prog 88 #[.agg #[u, v, .int .i64 n], .bool false] w fun e w' => e = .returned v ∧ Below w.heap.size w w' := by
  go_enter Try.func88, Try.ntmps88
  go_wp2_with fail
  go_ret
  exact ⟨rfl, (Below.refl _ _).alloc (Nat.le_refl _) _⟩
theorem levelsOf_any (u v : Value) (n : Int) (buy : Bool) (w : World) :
    Calls Try.prog 88 #[.agg #[u, v, .int .i64 n], .bool buy] w fun e w' => e = .returned (Ob.pick buy u v) ∧ Below w.heap.size w w' := by
  cases buy
  · exact levelsOf_no u v n w
  · exact levelsOf_yes u v n w
namespace Nb
theorem view_pick {w : World} {u v : Value} {B A : List Lv.E} (buy : Bool) (hu : Lv.View w u B) (hv : Lv.View w v A) : Lv.View w (Ob.pick buy u v) (Ob.pick buy B A) := by
  cases buy
  · exact hv
  · exact hu
theorem flat_pick (buy : Bool) (B A : List Lv.E) : flat (Ob.pick buy B A) = Ob.pick buy (flat B) (flat A) := by cases buy <;> rfl
/-- the best order of a side of a right book -/
def best (B A : List Lv.E) (n : Int) (buy : Bool) : Or.E := if right B A n then Ob.at' (flat (Ob.pick buy B A)) 0 else Or.S.z
theorem right_pick {B A : List Lv.E} {n : Int} (h : right B A n = true) (buy : Bool) : lvls (Ob.pick buy B A) = true := by
  cases buy
  · exact (right_inv h).2.1
  · exact (right_inv h).1
theorem lvls_pos {L : List Lv.E} (h : lvls L = true) (i : Nat) (hi : i < L.length) : 0 < (Lv.at' L i).2.length := by
  have := Ob.upTo_inv h i hi
  simp only [lvl, head, Bool.and_eq_true] at this
  have h1 := this.1.1
  simp at h1
  exact List.length_pos_iff.2 h1
theorem flat_first {L : List Lv.E} (h : lvls L = true) (hl : 0 < L.length) : Ob.at' (flat L) 0 = Ob.at' (Lv.at' L 0).2 0 := by
  have hp := lvls_pos h 0 hl
  have hm := flat_step L 0 hl
  have e : flat L = flat (L.take 1) ++ flat (L.drop 1) := by rw [← flat_append, List.take_append_drop]
  rw [e, hm]
  simp only [List.take_zero, flat_none, List.nil_append]
  exact Ob.at_left _ _ 0 hp
theorem flat_empty {L : List Lv.E} (hl : L.length = 0) : flat L = [] := by
  obtain rfl : L = [] := List.length_eq_zero_iff.1 hl
  rfl
end Nb
set_option maxRecDepth 100000 in
set_option maxHeartbeats 4000000 in
theorem newBest_impl (u v : Value) (n : Int) (buy : Bool) (B A : List Lv.E) (w : World) (hu : Lv.View w u B) (hv : Lv.View w v A) (l0 : B.length ≤ 1048576) (l1 : A.length ≤ 1048576) (m0 : (Nb.flat B).length ≤ 1048576) (m1 : (Nb.flat A).length ≤ 1048576) :
    Calls Try.prog 40 #[.agg #[u, v, .int .i64 n], .bool buy] w fun e w' => e = .returned (.agg #[.int .i64 (Nb.best B A n buy).1, .int .i64 (Nb.best B A n buy).2.1, .int .i64 (Nb.best B A n buy).2.2.1, .int .i64 (Nb.best B A n buy).2.2.2.1, .bool (Nb.best B A n buy).2.2.2.2.1, .int .i64 (Nb.best B A n buy).2.2.2.2.2.1, .int .i64 (Nb.best B A n buy).2.2.2.2.2.2.1, .bool (Nb.best B A n buy).2.2.2.2.2.2.2]) ∧ Below w.heap.size w w' := by
  obtain ⟨W, hW⟩ : ∃ W, W = (w.alloc (.cells #[u, v, .int .i64 n] 28)).alloc (.cells #[.int .i64 0, .int .i64 0, .int .i64 0, .int .i64 0, .bool false, .int .i64 0, .int .i64 0, .bool false] 55) := ⟨_, rfl⟩
  have b0 : Below w.heap.size w W := by rw [hW]; exact ((Below.refl _ _).alloc (Nat.le_refl _) _).alloc (by simp) _
  have c0 : W.cell? ⟨w.heap.size, 0, none⟩ = some u := by rw [hW, Fk.cellOld _ _ _ _ (by simp), Fk.cellTop _ _ _ _ _ rfl]; rfl
  have c1 : W.cell? ⟨w.heap.size, 1, none⟩ = some v := by rw [hW, Fk.cellOld _ _ _ _ (by simp), Fk.cellTop _ _ _ _ _ rfl]; rfl
  have c2 : W.cell? ⟨w.heap.size, 2, none⟩ = some (.int .i64 n) := by rw [hW, Fk.cellOld _ _ _ _ (by simp), Fk.cellTop _ _ _ _ _ rfl]; rfl
  have HZ0 : Hid (W.cell? ⟨w.heap.size + 1, 0, none⟩ = some (.int .i64 0)) := by show _ = _; rw [hW, Fk.cellTop _ _ _ _ _ (by simp)]; rfl
  have HZ1 : Hid (W.cell? ⟨w.heap.size + 1, 1, none⟩ = some (.int .i64 0)) := by show _ = _; rw [hW, Fk.cellTop _ _ _ _ _ (by simp)]; rfl
  have HZ2 : Hid (W.cell? ⟨w.heap.size + 1, 2, none⟩ = some (.int .i64 0)) := by show _ = _; rw [hW, Fk.cellTop _ _ _ _ _ (by simp)]; rfl
  have HZ3 : Hid (W.cell? ⟨w.heap.size + 1, 3, none⟩ = some (.int .i64 0)) := by show _ = _; rw [hW, Fk.cellTop _ _ _ _ _ (by simp)]; rfl
  have HZ4 : Hid (W.cell? ⟨w.heap.size + 1, 4, none⟩ = some (.bool false)) := by show _ = _; rw [hW, Fk.cellTop _ _ _ _ _ (by simp)]; rfl
  have HZ5 : Hid (W.cell? ⟨w.heap.size + 1, 5, none⟩ = some (.int .i64 0)) := by show _ = _; rw [hW, Fk.cellTop _ _ _ _ _ (by simp)]; rfl
  have HZ6 : Hid (W.cell? ⟨w.heap.size + 1, 6, none⟩ = some (.int .i64 0)) := by show _ = _; rw [hW, Fk.cellTop _ _ _ _ _ (by simp)]; rfl
  have HZ7 : Hid (W.cell? ⟨w.heap.size + 1, 7, none⟩ = some (.bool false)) := by show _ = _; rw [hW, Fk.cellTop _ _ _ _ _ (by simp)]; rfl
  have HZF : Hid (∀ j, W.frozen? ⟨w.heap.size + 1, j, none⟩ = false) := fun j => by rw [hW, Fk.frozTop _ _ _ _ _ (by simp)]
  have hz : W.heap.size = w.heap.size + 2 := by rw [hW]; simp
  have HU := Fk.hide hu
  have HV := Fk.hide hv
  have HP := Fk.hide (Nb.view_pick buy hu hv)
  obtain ⟨L, hL⟩ : ∃ L, L = Ob.pick buy B A := ⟨_, rfl⟩
  have hlp : (Ob.pick buy B A).length ≤ 1048576 := by cases buy <;> assumption
  rw [← hL] at hlp HP
  have HL := Fk.hide hL
  clear hL
  obtain ⟨a0, cap0, rfl⟩ := hu.slice
  obtain ⟨a1, cap1, rfl⟩ := hv.slice
  have HW := Fk.hide hW
  clear hW hu hv
  obtain ⟨x, hx⟩ : ∃ x, x = Nb.best B A n buy := ⟨_, rfl⟩
  rw [← hx]
  have HX := Fk.hide hx
  clear hx
  obtain ⟨a, cap, ev⟩ := HP.out.slice
  go_enter Try.func40, Try.ntmps40
  go_wp2_with fail
  rw [← HW.out]
  refine (levelsOf_any _ _ _ _ _).mono ?_
  rw [ev]
  rintro e w1 ⟨rfl, k1⟩
  have B1 : Below w.heap.size w w1 := b0.trans (k1.mono b0.size)
  have bW1 : Below W.heap.size W w1 := k1
  have d0 := (k1.cell (p := ⟨w.heap.size, 0, none⟩) (by show w.heap.size < _; omega)).trans c0
  have d1 := (k1.cell (p := ⟨w.heap.size, 1, none⟩) (by show w.heap.size < _; omega)).trans c1
  have d2 := (k1.cell (p := ⟨w.heap.size, 2, none⟩) (by show w.heap.size < _; omega)).trans c2
  have hz1 : w.heap.size + 2 ≤ w1.heap.size := by rw [← hz]; exact k1.size
  clear k1 c0 c1 c2
  go_wp2_with fail
  refine (newRight_impl _ _ _ B A _ (HU.out.below B1) (HV.out.below B1) l0 l1 m0 m1).mono ?_
  rintro e w2 ⟨rfl, k2⟩
  have B2 : Below w.heap.size w w2 := B1.trans (k2.mono B1.size)
  have bW2 : Below W.heap.size W w2 := bW1.trans (k2.mono bW1.size)
  have hz2 : w.heap.size + 2 ≤ w2.heap.size := Nat.le_trans hz1 k2.size
  clear k2 d0 d1 d2
  obtain ⟨r, hr⟩ : ∃ r, r = Nb.right B A n := ⟨_, rfl⟩
  rw [← hr]
  have HR := Fk.hide hr
  clear hr
  cases r with
  | false =>
    have hxz : x = Or.S.z := by rw [HX.out]; unfold Nb.best; rw [← HR.out]; rfl
    subst hxz
    have z0 := (bW2.cell (p := ⟨w.heap.size + 1, 0, none⟩) (by show w.heap.size + 1 < _; omega)).trans HZ0.out
    have z1 := (bW2.cell (p := ⟨w.heap.size + 1, 1, none⟩) (by show w.heap.size + 1 < _; omega)).trans HZ1.out
    have z2 := (bW2.cell (p := ⟨w.heap.size + 1, 2, none⟩) (by show w.heap.size + 1 < _; omega)).trans HZ2.out
    have z3 := (bW2.cell (p := ⟨w.heap.size + 1, 3, none⟩) (by show w.heap.size + 1 < _; omega)).trans HZ3.out
    have z4 := (bW2.cell (p := ⟨w.heap.size + 1, 4, none⟩) (by show w.heap.size + 1 < _; omega)).trans HZ4.out
    have z5 := (bW2.cell (p := ⟨w.heap.size + 1, 5, none⟩) (by show w.heap.size + 1 < _; omega)).trans HZ5.out
    have z6 := (bW2.cell (p := ⟨w.heap.size + 1, 6, none⟩) (by show w.heap.size + 1 < _; omega)).trans HZ6.out
    have z7 := (bW2.cell (p := ⟨w.heap.size + 1, 7, none⟩) (by show w.heap.size + 1 < _; omega)).trans HZ7.out
    have zf : ∀ j, w2.frozen? ⟨w.heap.size + 1, j, none⟩ = false := fun j => (bW2.frozen (by show w.heap.size + 1 < _; omega)).trans (HZF.out j)
    go_wp2_with fail
    refine bodyPost_ret (v := .agg #[.int .i64 0, .int .i64 0, .int .i64 0, .int .i64 0, .bool false, .int .i64 0, .int .i64 0, .bool false]) (by simp [results, Try.results40, go_sem, z0, z1, z2, z3, z4, z5, z6, z7] <;> rfl) rfl ⟨rfl, ?_⟩
    repeat (refine Below.setCell ?_ (by simp <;> omega) _)
    exact B2
  | true =>
    have HLV : Hid (Nb.lvls L = true) := by show _ = _; rw [HL.out]; exact Nb.right_pick HR.out.symm buy
    have HA : Hid (x = Ob.at' (Nb.flat L) 0) := by show _ = _; rw [HX.out, HL.out]; unfold Nb.best; rw [← HR.out]; rfl
    by_cases hl0 : L.length = 0
    · have hxz : x = Or.S.z := by rw [HA.out, Nb.flat_empty hl0]; rfl
      subst hxz
      rw [hl0]
      have z0 := (bW2.cell (p := ⟨w.heap.size + 1, 0, none⟩) (by show w.heap.size + 1 < _; omega)).trans HZ0.out
      have z1 := (bW2.cell (p := ⟨w.heap.size + 1, 1, none⟩) (by show w.heap.size + 1 < _; omega)).trans HZ1.out
      have z2 := (bW2.cell (p := ⟨w.heap.size + 1, 2, none⟩) (by show w.heap.size + 1 < _; omega)).trans HZ2.out
      have z3 := (bW2.cell (p := ⟨w.heap.size + 1, 3, none⟩) (by show w.heap.size + 1 < _; omega)).trans HZ3.out
      have z4 := (bW2.cell (p := ⟨w.heap.size + 1, 4, none⟩) (by show w.heap.size + 1 < _; omega)).trans HZ4.out
      have z5 := (bW2.cell (p := ⟨w.heap.size + 1, 5, none⟩) (by show w.heap.size + 1 < _; omega)).trans HZ5.out
      have z6 := (bW2.cell (p := ⟨w.heap.size + 1, 6, none⟩) (by show w.heap.size + 1 < _; omega)).trans HZ6.out
      have z7 := (bW2.cell (p := ⟨w.heap.size + 1, 7, none⟩) (by show w.heap.size + 1 < _; omega)).trans HZ7.out
      have zf : ∀ j, w2.frozen? ⟨w.heap.size + 1, j, none⟩ = false := fun j => (bW2.frozen (by show w.heap.size + 1 < _; omega)).trans (HZF.out j)
      go_wp2_with fail
      refine bodyPost_ret (v := .agg #[.int .i64 0, .int .i64 0, .int .i64 0, .int .i64 0, .bool false, .int .i64 0, .int .i64 0, .bool false]) (by simp [results, Try.results40, go_sem, z0, z1, z2, z3, z4, z5, z6, z7] <;> rfl) rfl ⟨rfl, ?_⟩
      repeat (refine Below.setCell ?_ (by simp <;> omega) _)
      exact B2
    · have y4 : (0 : Int) < (L.length : Int) := by omega
      have y6 : ¬ (L.length : Int) = 0 := by omega
      have hpos : 0 < L.length := Nat.pos_of_ne_zero hl0
      have HPV := HP.out.below B2
      rw [ev] at HPV
      obtain ⟨b, o, q, m, c, rfl, hb, _, p1, hmm, hvi, _⟩ := HPV.at hpos
      have hm0 : 0 < (Lv.at' L 0).2.length := Nb.lvls_pos HLV.out 0 hpos
      obtain ⟨M, hM⟩ : ∃ M, M = (Lv.at' L 0).2 := ⟨_, rfl⟩
      have hxq : x = Rk.at_ Or.S M 0 := by rw [HA.out, Nb.flat_first HLV.out hpos, hM]
      rw [← hM] at hmm hvi hm0
      clear hM
      subst hmm
      obtain ⟨a2, cap2, ea, hs⟩ := hvi
      obtain ⟨b2, o2, e2, hb2, hs2⟩ := hs hm0
      simp only [Value.slice.injEq] at ea
      obtain rfl : q = some ⟨b2, o2, none⟩ := by rw [ea.1, e2]
      have y7 : (0 : Int) < (M.length : Int) := by omega
      simp only [Nat.zero_mul, Nat.add_zero] at p1
      have q0 := Or.c0 hs2 hm0
      have q1 := Or.c1 hs2 hm0
      have q2 := Or.c2 hs2 hm0
      have q3 := Or.c3 hs2 hm0
      have q4 := Or.c4 hs2 hm0
      have q5 := Or.c5 hs2 hm0
      have q6 := Or.c6 hs2 hm0
      have q7 := Or.c7 hs2 hm0
      simp only [Nat.zero_mul, Nat.add_zero] at q0 q1 q2 q3 q4 q5 q6 q7
      rw [← hxq] at q0 q1 q2 q3 q4 q5 q6 q7
      clear hxq hs hs2 ea e2 HPV
      have z0 := (bW2.cell (p := ⟨w.heap.size + 1, 0, none⟩) (by show w.heap.size + 1 < _; omega)).trans HZ0.out
      have z1 := (bW2.cell (p := ⟨w.heap.size + 1, 1, none⟩) (by show w.heap.size + 1 < _; omega)).trans HZ1.out
      have z2 := (bW2.cell (p := ⟨w.heap.size + 1, 2, none⟩) (by show w.heap.size + 1 < _; omega)).trans HZ2.out
      have z3 := (bW2.cell (p := ⟨w.heap.size + 1, 3, none⟩) (by show w.heap.size + 1 < _; omega)).trans HZ3.out
      have z4 := (bW2.cell (p := ⟨w.heap.size + 1, 4, none⟩) (by show w.heap.size + 1 < _; omega)).trans HZ4.out
      have z5 := (bW2.cell (p := ⟨w.heap.size + 1, 5, none⟩) (by show w.heap.size + 1 < _; omega)).trans HZ5.out
      have z6 := (bW2.cell (p := ⟨w.heap.size + 1, 6, none⟩) (by show w.heap.size + 1 < _; omega)).trans HZ6.out
      have z7 := (bW2.cell (p := ⟨w.heap.size + 1, 7, none⟩) (by show w.heap.size + 1 < _; omega)).trans HZ7.out
      have zf : ∀ j, w2.frozen? ⟨w.heap.size + 1, j, none⟩ = false := fun j => (bW2.frozen (by show w.heap.size + 1 < _; omega)).trans (HZF.out j)
      go_wp2_with fail
      refine bodyPost_ret (v := .agg #[.int .i64 x.1, .int .i64 x.2.1, .int .i64 x.2.2.1, .int .i64 x.2.2.2.1, .bool x.2.2.2.2.1, .int .i64 x.2.2.2.2.2.1, .int .i64 x.2.2.2.2.2.2.1, .bool x.2.2.2.2.2.2.2]) (by simp [results, Try.results40, go_sem, z0, z1, z2, z3, z4, z5, z6, z7] <;> rfl) rfl ⟨rfl, ?_⟩
      repeat (refine Below.setCell ?_ (by simp <;> omega) _)
      exact B2

set_option maxRecDepth 100000 in
set_option maxHeartbeats 4000000 in
theorem newBest_spec (u v : Value) (n : Int) (buy : Bool) (B A : List Lv.E) (w : World) (hu : Lv.View w u B) (hv : Lv.View w v A) (l0 : B.length ≤ 1048576) (l1 : A.length ≤ 1048576) (m0 : (Nb.flat B).length ≤ 1048576) (m1 : (Nb.flat A).length ≤ 1048576) :
    Calls Try.prog 39 #[.agg #[u, v, .int .i64 n], .bool buy] w fun e w' => e = .returned (.agg #[.int .i64 (Nb.best B A n buy).1, .int .i64 (Nb.best B A n buy).2.1, .int .i64 (Nb.best B A n buy).2.2.1, .int .i64 (Nb.best B A n buy).2.2.2.1, .bool (Nb.best B A n buy).2.2.2.2.1, .int .i64 (Nb.best B A n buy).2.2.2.2.2.1, .int .i64 (Nb.best B A n buy).2.2.2.2.2.2.1, .bool (Nb.best B A n buy).2.2.2.2.2.2.2]) ∧ Below w.heap.size w w' := by
  obtain ⟨W, hW⟩ : ∃ W, W = (w.alloc (.cells #[u, v, .int .i64 n] 28)).alloc (.cells #[.int .i64 0, .int .i64 0, .int .i64 0, .int .i64 0, .bool false, .int .i64 0, .int .i64 0, .bool false] 55) := ⟨_, rfl⟩
  have b0 : Below w.heap.size w W := by rw [hW]; exact ((Below.refl _ _).alloc (Nat.le_refl _) _).alloc (by simp) _
  have c0 : W.cell? ⟨w.heap.size, 0, none⟩ = some u := by rw [hW, Fk.cellOld _ _ _ _ (by simp), Fk.cellTop _ _ _ _ _ rfl]; rfl
  have c1 : W.cell? ⟨w.heap.size, 1, none⟩ = some v := by rw [hW, Fk.cellOld _ _ _ _ (by simp), Fk.cellTop _ _ _ _ _ rfl]; rfl
  have c2 : W.cell? ⟨w.heap.size, 2, none⟩ = some (.int .i64 n) := by rw [hW, Fk.cellOld _ _ _ _ (by simp), Fk.cellTop _ _ _ _ _ rfl]; rfl
  have HZ0 : Hid (W.cell? ⟨w.heap.size + 1, 0, none⟩ = some (.int .i64 0)) := by show _ = _; rw [hW, Fk.cellTop _ _ _ _ _ (by simp)]; rfl
  have HZ1 : Hid (W.cell? ⟨w.heap.size + 1, 1, none⟩ = some (.int .i64 0)) := by show _ = _; rw [hW, Fk.cellTop _ _ _ _ _ (by simp)]; rfl
  have HZ2 : Hid (W.cell? ⟨w.heap.size + 1, 2, none⟩ = some (.int .i64 0)) := by show _ = _; rw [hW, Fk.cellTop _ _ _ _ _ (by simp)]; rfl
  have HZ3 : Hid (W.cell? ⟨w.heap.size + 1, 3, none⟩ = some (.int .i64 0)) := by show _ = _; rw [hW, Fk.cellTop _ _ _ _ _ (by simp)]; rfl
  have HZ4 : Hid (W.cell? ⟨w.heap.size + 1, 4, none⟩ = some (.bool false)) := by show _ = _; rw [hW, Fk.cellTop _ _ _ _ _ (by simp)]; rfl
  have HZ5 : Hid (W.cell? ⟨w.heap.size + 1, 5, none⟩ = some (.int .i64 0)) := by show _ = _; rw [hW, Fk.cellTop _ _ _ _ _ (by simp)]; rfl
  have HZ6 : Hid (W.cell? ⟨w.heap.size + 1, 6, none⟩ = some (.int .i64 0)) := by show _ = _; rw [hW, Fk.cellTop _ _ _ _ _ (by simp)]; rfl
  have HZ7 : Hid (W.cell? ⟨w.heap.size + 1, 7, none⟩ = some (.bool false)) := by show _ = _; rw [hW, Fk.cellTop _ _ _ _ _ (by simp)]; rfl
  have HZF : Hid (∀ j, W.frozen? ⟨w.heap.size + 1, j, none⟩ = false) := fun j => by rw [hW, Fk.frozTop _ _ _ _ _ (by simp)]
  have hz : W.heap.size = w.heap.size + 2 := by rw [hW]; simp
  have HU := Fk.hide hu
  have HV := Fk.hide hv
  have HP := Fk.hide (Nb.view_pick buy hu hv)
  obtain ⟨L, hL⟩ : ∃ L, L = Ob.pick buy B A := ⟨_, rfl⟩
  have hlp : (Ob.pick buy B A).length ≤ 1048576 := by cases buy <;> assumption
  rw [← hL] at hlp HP
  have HL := Fk.hide hL
  clear hL
  obtain ⟨a0, cap0, rfl⟩ := hu.slice
  obtain ⟨a1, cap1, rfl⟩ := hv.slice
  have HW := Fk.hide hW
  clear hW hu hv
  obtain ⟨x, hx⟩ : ∃ x, x = Nb.best B A n buy := ⟨_, rfl⟩
  rw [← hx]
  have HX := Fk.hide hx
  clear hx
  go_enter Try.func39, Try.ntmps39
  go_wp2_with fail
  rw [← HW.out]
  refine (l07Open_any _ _ _ B A _ (HU.out.below b0) (HV.out.below b0) l0 l1 m0 m1).mono ?_
  rintro e w1 ⟨⟨p, q, bb, FB, FA, rfl, ⟨T1, hb1, hb2, ⟨cp, cq, _, _⟩, eF, lB, lA⟩⟩, k1⟩
  have B1 : Below w.heap.size w w1 := b0.trans (k1.mono b0.size)
  have bW1 : Below W.heap.size W w1 := k1
  have hz1 : w.heap.size + 2 ≤ w1.heap.size := by rw [← hz]; exact k1.size
  obtain ⟨r, hr⟩ : ∃ r, r = Nb.right B A n := ⟨_, rfl⟩
  rw [← hr] at eF ⊢
  have HR := Fk.hide hr
  have EF := Fk.hide eF
  clear k1 c0 c1 c2 hr eF
  obtain ⟨F, hF⟩ : ∃ F, F = Ob.pick buy FB FA := ⟨_, rfl⟩
  have HP1 : Hid (Rk.View Or.S w1 (Ob.pick buy p q) F) := by
    show Rk.View _ _ _ _
    rw [hF]; exact Ob.view_pick buy T1.b.view T1.a.view
  have hlF : F.length ≤ 1048576 := by rw [hF]; cases buy <;> assumption
  have HFF := Fk.hide hF
  clear hF
  obtain ⟨a, cap, ev, hs⟩ := HP1.out
  obtain ⟨p1, p2, p3, rfl⟩ := T1.b.slice'
  obtain ⟨q1, q2, q3, rfl⟩ := T1.a.slice'
  go_wp2_with fail
  refine (side_any bb _ _ buy _ cp cq ⟨_, _, _, rfl⟩ ⟨_, _, _, rfl⟩).mono ?_
  rw [ev]
  rintro e _ ⟨rfl, hh⟩
  rw [hh]
  clear hh cp cq T1
  cases r with
  | false =>
    have hxz : x = Or.S.z := by rw [HX.out]; unfold Nb.best; rw [← HR.out]; rfl
    subst hxz
    have z0 := (bW1.cell (p := ⟨w.heap.size + 1, 0, none⟩) (by show w.heap.size + 1 < _; omega)).trans HZ0.out
    have z1 := (bW1.cell (p := ⟨w.heap.size + 1, 1, none⟩) (by show w.heap.size + 1 < _; omega)).trans HZ1.out
    have z2 := (bW1.cell (p := ⟨w.heap.size + 1, 2, none⟩) (by show w.heap.size + 1 < _; omega)).trans HZ2.out
    have z3 := (bW1.cell (p := ⟨w.heap.size + 1, 3, none⟩) (by show w.heap.size + 1 < _; omega)).trans HZ3.out
    have z4 := (bW1.cell (p := ⟨w.heap.size + 1, 4, none⟩) (by show w.heap.size + 1 < _; omega)).trans HZ4.out
    have z5 := (bW1.cell (p := ⟨w.heap.size + 1, 5, none⟩) (by show w.heap.size + 1 < _; omega)).trans HZ5.out
    have z6 := (bW1.cell (p := ⟨w.heap.size + 1, 6, none⟩) (by show w.heap.size + 1 < _; omega)).trans HZ6.out
    have z7 := (bW1.cell (p := ⟨w.heap.size + 1, 7, none⟩) (by show w.heap.size + 1 < _; omega)).trans HZ7.out
    have zf : ∀ j, w1.frozen? ⟨w.heap.size + 1, j, none⟩ = false := fun j => (bW1.frozen (by show w.heap.size + 1 < _; omega)).trans (HZF.out j)
    go_wp2_with fail
    refine bodyPost_ret (v := .agg #[.int .i64 0, .int .i64 0, .int .i64 0, .int .i64 0, .bool false, .int .i64 0, .int .i64 0, .bool false]) (by simp [results, Try.results39, go_sem, z0, z1, z2, z3, z4, z5, z6, z7] <;> rfl) rfl ⟨rfl, ?_⟩
    repeat (refine Below.setCell ?_ (by simp <;> omega) _)
    exact B1
  | true =>
    have HA : Hid (x = Ob.at' F 0) := by show _ = _; rw [HX.out, HFF.out, (EF.out rfl).1, (EF.out rfl).2, ← Nb.flat_pick]; unfold Nb.best; rw [← HR.out]; rfl
    by_cases hl0 : F.length = 0
    · have hxz : x = Or.S.z := by rw [HA.out]; exact Ob.at_none F hl0
      subst hxz
      rw [hl0]
      have z0 := (bW1.cell (p := ⟨w.heap.size + 1, 0, none⟩) (by show w.heap.size + 1 < _; omega)).trans HZ0.out
      have z1 := (bW1.cell (p := ⟨w.heap.size + 1, 1, none⟩) (by show w.heap.size + 1 < _; omega)).trans HZ1.out
      have z2 := (bW1.cell (p := ⟨w.heap.size + 1, 2, none⟩) (by show w.heap.size + 1 < _; omega)).trans HZ2.out
      have z3 := (bW1.cell (p := ⟨w.heap.size + 1, 3, none⟩) (by show w.heap.size + 1 < _; omega)).trans HZ3.out
      have z4 := (bW1.cell (p := ⟨w.heap.size + 1, 4, none⟩) (by show w.heap.size + 1 < _; omega)).trans HZ4.out
      have z5 := (bW1.cell (p := ⟨w.heap.size + 1, 5, none⟩) (by show w.heap.size + 1 < _; omega)).trans HZ5.out
      have z6 := (bW1.cell (p := ⟨w.heap.size + 1, 6, none⟩) (by show w.heap.size + 1 < _; omega)).trans HZ6.out
      have z7 := (bW1.cell (p := ⟨w.heap.size + 1, 7, none⟩) (by show w.heap.size + 1 < _; omega)).trans HZ7.out
      have zf : ∀ j, w1.frozen? ⟨w.heap.size + 1, j, none⟩ = false := fun j => (bW1.frozen (by show w.heap.size + 1 < _; omega)).trans (HZF.out j)
      go_wp2_with fail
      refine bodyPost_ret (v := .agg #[.int .i64 0, .int .i64 0, .int .i64 0, .int .i64 0, .bool false, .int .i64 0, .int .i64 0, .bool false]) (by simp [results, Try.results39, go_sem, z0, z1, z2, z3, z4, z5, z6, z7] <;> rfl) rfl ⟨rfl, ?_⟩
      repeat (refine Below.setCell ?_ (by simp <;> omega) _)
      exact B1
    · have y4 : (0 : Int) < (F.length : Int) := by omega
      have y6 : ¬ (F.length : Int) = 0 := by omega
      have hpos : 0 < F.length := Nat.pos_of_ne_zero hl0
      obtain ⟨b, o, rfl, hb, hs1⟩ := hs hpos
      have g0 := Or.c0 hs1 hpos
      have g1 := Or.c1 hs1 hpos
      have g2 := Or.c2 hs1 hpos
      have g3 := Or.c3 hs1 hpos
      have g4 := Or.c4 hs1 hpos
      have g5 := Or.c5 hs1 hpos
      have g6 := Or.c6 hs1 hpos
      have g7 := Or.c7 hs1 hpos
      simp only [Nat.zero_mul, Nat.add_zero] at g0 g1 g2 g3 g4 g5 g6 g7
      have hxq : x = Rk.at_ Or.S F 0 := HA.out
      rw [← hxq] at g0 g1 g2 g3 g4 g5 g6 g7
      clear hxq hs hs1
      have z0 := (bW1.cell (p := ⟨w.heap.size + 1, 0, none⟩) (by show w.heap.size + 1 < _; omega)).trans HZ0.out
      have z1 := (bW1.cell (p := ⟨w.heap.size + 1, 1, none⟩) (by show w.heap.size + 1 < _; omega)).trans HZ1.out
      have z2 := (bW1.cell (p := ⟨w.heap.size + 1, 2, none⟩) (by show w.heap.size + 1 < _; omega)).trans HZ2.out
      have z3 := (bW1.cell (p := ⟨w.heap.size + 1, 3, none⟩) (by show w.heap.size + 1 < _; omega)).trans HZ3.out
      have z4 := (bW1.cell (p := ⟨w.heap.size + 1, 4, none⟩) (by show w.heap.size + 1 < _; omega)).trans HZ4.out
      have z5 := (bW1.cell (p := ⟨w.heap.size + 1, 5, none⟩) (by show w.heap.size + 1 < _; omega)).trans HZ5.out
      have z6 := (bW1.cell (p := ⟨w.heap.size + 1, 6, none⟩) (by show w.heap.size + 1 < _; omega)).trans HZ6.out
      have z7 := (bW1.cell (p := ⟨w.heap.size + 1, 7, none⟩) (by show w.heap.size + 1 < _; omega)).trans HZ7.out
      have zf : ∀ j, w1.frozen? ⟨w.heap.size + 1, j, none⟩ = false := fun j => (bW1.frozen (by show w.heap.size + 1 < _; omega)).trans (HZF.out j)
      go_wp2_with fail
      refine bodyPost_ret (v := .agg #[.int .i64 x.1, .int .i64 x.2.1, .int .i64 x.2.2.1, .int .i64 x.2.2.2.1, .bool x.2.2.2.2.1, .int .i64 x.2.2.2.2.2.1, .int .i64 x.2.2.2.2.2.2.1, .bool x.2.2.2.2.2.2.2]) (by simp [results, Try.results39, go_sem, z0, z1, z2, z3, z4, z5, z6, z7] <;> rfl) rfl ⟨rfl, ?_⟩
      repeat (refine Below.setCell ?_ (by simp <;> omega) _)
      exact B1
end Go.Proofs.Ytjagohadeegghaa

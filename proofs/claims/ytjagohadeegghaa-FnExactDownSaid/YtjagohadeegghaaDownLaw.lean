/- The walks of the law's own comparison, marks and look at what Down tells. -/
import Derived.Test.YtjagohadeegghaaAnsKit
namespace Go.Proofs.Ytjagohadeegghaa
open Go.RowKit
set_option linter.unusedVariables false
set_option linter.unusedSimpArgs false
set_option maxHeartbeats 2000000 in
theorem eqDownOut_same (v0 v1 u0 u1 : Value) (n id c : Int) (B A : List Or.E) (w : World) (h0 : Rk.View Or.S w v0 B) (h1 : Rk.View Or.S w v1 A) (k0 : Rk.View Or.S w u0 B) (k1 : Rk.View Or.S w u1 A) (l0 : B.length ≤ 1048576) (l1 : A.length ≤ 1048576) :
    Calls Try.prog 28 #[.agg #[v0, v1, .int .i64 n, .int .i64 id, .int .i64 c], .agg #[u0, u1, .int .i64 n, .int .i64 id, .int .i64 c]] w fun e w' => e = .returned (.bool true) ∧ Below w.heap.size w w' := by
  obtain ⟨W, hW⟩ : ∃ W, W = (w.alloc (.cells #[v0, v1, .int .i64 n, .int .i64 id, .int .i64 c] 44)).alloc (.cells #[u0, u1, .int .i64 n, .int .i64 id, .int .i64 c] 44) := ⟨_, rfl⟩
  have b0 : Below w.heap.size w W := by
    rw [hW]
    repeat (first | exact Below.refl _ _ | refine Below.alloc ?_ (by simp <;> omega) _)
  have hz : W.heap.size = w.heap.size + 2 := by rw [hW]; simp
  have c3 : W.cell? ⟨w.heap.size, 3, none⟩ = some (.int .i64 id) := by rw [hW, Fk.cellOld _ _ _ _ (by simp), Fk.cellTop _ _ _ _ _ rfl]; rfl
  have c4 : W.cell? ⟨w.heap.size, 4, none⟩ = some (.int .i64 c) := by rw [hW, Fk.cellOld _ _ _ _ (by simp), Fk.cellTop _ _ _ _ _ rfl]; rfl
  have d3 : W.cell? ⟨w.heap.size + 1, 3, none⟩ = some (.int .i64 id) := by rw [hW, Fk.cellTop _ _ _ _ _ (by simp)]; rfl
  have d4 : W.cell? ⟨w.heap.size + 1, 4, none⟩ = some (.int .i64 c) := by rw [hW, Fk.cellTop _ _ _ _ _ (by simp)]; rfl
  have H0 := Fk.hide (h0.below b0)
  have H1 := Fk.hide (h1.below b0)
  have K0 := Fk.hide (k0.below b0)
  have K1 := Fk.hide (k1.below b0)
  have HW := Fk.hide hW
  have HB0 := Fk.hide b0
  obtain ⟨_, _, rfl, _⟩ := h0
  obtain ⟨_, _, rfl, _⟩ := h1
  obtain ⟨_, _, rfl, _⟩ := k0
  obtain ⟨_, _, rfl, _⟩ := k1
  clear hW b0
  go_enter Try.func28, Try.ntmps28
  go_wp2_with fail
  rw [← HW.out]
  refine (eqOld_same _ _ _ _ n B A _ H0.out H1.out K0.out K1.out l0 l1).mono ?_
  rintro e w1 ⟨rfl, m1⟩
  have f3 := (m1.cell (p := ⟨w.heap.size, 3, none⟩) (by show w.heap.size < _; omega)).trans c3
  have f4 := (m1.cell (p := ⟨w.heap.size, 4, none⟩) (by show w.heap.size < _; omega)).trans c4
  have g3 := (m1.cell (p := ⟨w.heap.size + 1, 3, none⟩) (by show w.heap.size + 1 < _; omega)).trans d3
  have g4 := (m1.cell (p := ⟨w.heap.size + 1, 4, none⟩) (by show w.heap.size + 1 < _; omega)).trans d4
  have HB1 : Hid (Below w.heap.size w w1) := HB0.out.trans (m1.mono HB0.out.size)
  clear m1 c3 c4 d3 d4 H0 H1 K0 K1
  go_wp2_with fail
  go_ret
  exact ⟨rfl, HB1.out⟩
set_option maxHeartbeats 2000000 in
theorem markDownOut_any (v0 v1 : Value) (n id c : Int) (B A : List Or.E) (a b : Nat) (w : World) (ho : Aw.Ord w 55 a b v0 v1 B A) (hbw : b ≤ w.heap.size) (l0 : B.length ≤ 1048576) (l1 : A.length ≤ 1048576) :
    Calls Try.prog 29 #[.agg #[v0, v1, .int .i64 n, .int .i64 id, .int .i64 c], .int .i64 1] w fun e w' => (e = .returned (.int .i64 ((1 + 8 * B.length + 8 * A.length : Nat) : Int)) ∧ Rk.View Or.S w' v0 (Or.mks 1 B.length) ∧ Rk.View Or.S w' v1 (Or.mks (1 + 8 * B.length) A.length)) ∧ Lv.Only a b w w' := by
  obtain ⟨W, hW⟩ : ∃ W, W = w.alloc (.cells #[v0, v1, .int .i64 n, .int .i64 id, .int .i64 c] 44) := ⟨_, rfl⟩
  have b0 : Below w.heap.size w W := by rw [hW]; exact (Below.refl _ _).alloc (Nat.le_refl _) _
  have HO := Fk.hide (ho.below b0)
  have HW := Fk.hide hW
  have G0 : Hid (Lv.Only a b w W) := Lv.Only.of_below b0
  obtain ⟨x0, y0, z0, x1, y1, z1, rfl, rfl⟩ := ho.slices
  clear hW b0 ho
  go_enter Try.func29, Try.ntmps29
  go_wp2_with fail
  rw [← HW.out]
  refine (markOld_any _ _ n B A 1 a _ HO.out.1 l0 l1 (by decide) (by decide)).mono ?_
  rintro e w2 ⟨⟨rfl, o2⟩, w1, g1, g2⟩
  obtain ⟨k2, hk2⟩ : ∃ x : Nat, x = 1 + 8 * B.length + 8 * A.length := ⟨_, rfl⟩
  rw [← hk2]
  have HK2 := Fk.hide hk2
  have VB := Fk.hide o2.b.view
  have VA := Fk.hide o2.a.view
  have G2 : Hid (Lv.Only a b w w2) := (G0.out.trans (Aw.only_row g1 (fun k hk => ⟨(HO.out.1.b.lt k hk).1, HO.out.2.1 k hk⟩))).trans (Aw.only_row g2 (fun k hk => ⟨(HO.out.1.a.lt k hk).1, HO.out.2.2 k hk⟩))
  clear g1 g2 o2 hk2
  go_wp2_with fail
  go_ret
  exact ⟨⟨by rw [← HK2.out]; rfl, VB.out, VA.out⟩, G2.out⟩
set_option maxHeartbeats 2000000 in
theorem heldDownOut_any (v0 v1 : Value) (n id c : Int) (nB nA : Nat) (w : World) (h0 : Rk.View Or.S w v0 (Or.mks 1 nB)) (h1 : Rk.View Or.S w v1 (Or.mks (1 + 8 * nB) nA)) (l0 : nB ≤ 1048576) (l1 : nA ≤ 1048576) :
    Calls Try.prog 30 #[.agg #[v0, v1, .int .i64 n, .int .i64 id, .int .i64 c], .int .i64 1] w fun e w' => e = .returned (.int .i64 ((1 + 8 * nB + 8 * nA : Nat) : Int)) ∧ Below w.heap.size w w' := by
  obtain ⟨W, hW⟩ : ∃ W, W = w.alloc (.cells #[v0, v1, .int .i64 n, .int .i64 id, .int .i64 c] 44) := ⟨_, rfl⟩
  have b0 : Below w.heap.size w W := by rw [hW]; exact (Below.refl _ _).alloc (Nat.le_refl _) _
  have H0 := Fk.hide (h0.below b0)
  have H1 := Fk.hide (h1.below b0)
  have HW := Fk.hide hW
  have HB0 := Fk.hide b0
  obtain ⟨_, _, rfl, _⟩ := h0
  obtain ⟨_, _, rfl, _⟩ := h1
  clear hW b0
  go_enter Try.func30, Try.ntmps30
  go_wp2_with fail
  rw [← HW.out]
  refine (heldOld_any _ _ n nB nA 1 _ H0.out H1.out l0 l1 (by decide) (by decide)).mono ?_
  rintro e w2 ⟨rfl, m2⟩
  obtain ⟨k2, hk2⟩ : ∃ x : Nat, x = 1 + 8 * nB + 8 * nA := ⟨_, rfl⟩
  rw [← hk2]
  have HK2 := Fk.hide hk2
  have HB2 : Hid (Below w.heap.size w w2) := HB0.out.trans (m2.mono HB0.out.size)
  clear m2 hk2
  go_wp2_with fail
  go_ret
  exact ⟨by rw [← HK2.out]; rfl, HB2.out⟩
end Go.Proofs.Ytjagohadeegghaa

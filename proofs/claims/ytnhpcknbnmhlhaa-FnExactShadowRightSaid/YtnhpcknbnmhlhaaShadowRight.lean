/- The walks of ShadowRight, of the specification and of the program. -/
import Derived.Test.YtnhpcknbnmhlhaaAlikeSpec
import Derived.Test.YtnhpcknbnmhlhaaAlikeImpl
namespace Go.Proofs.Ytnhpcknbnmhlhaa
open Go.RowKit
set_option linter.unusedVariables false
set_option linter.unusedSimpArgs false
set_option maxHeartbeats 1000000 in
theorem shadowRight_spec (v0 v1 v2 v3 : Value) (n m : Int) (B A : List Or.E) (C D : List Lv.E) (w : World) (h0 : Rk.View Or.S w v0 B) (h1 : Rk.View Or.S w v1 A) (h2 : Lv.View w v2 C) (h3 : Lv.View w v3 D) (su : Rk.Shut v0) (sv : Rk.Shut v1) (l0 : B.length ≤ 1048576) (l1 : A.length ≤ 1048576) (l2 : C.length ≤ 1048576) (l3 : D.length ≤ 1048576) (m0 : (Nb.flat C).length ≤ 1048576) (m1 : (Nb.flat D).length ≤ 1048576) :
    Calls Try.prog 6 #[.agg #[v0, v1, .int .i64 n, v2, v3, .int .i64 m]] w fun e w' => e = .returned (.bool (Nb.alike B A n C D m)) ∧ Below w.heap.size w w' := by
  obtain ⟨W, hW⟩ : ∃ W, W = w.alloc (.cells #[v0, v1, .int .i64 n, v2, v3, .int .i64 m] 39) := ⟨_, rfl⟩
  have b0 : Below w.heap.size w W := by rw [hW]; exact (Below.refl _ _).alloc (Nat.le_refl _) _
  have HW := Fk.hide hW
  have H0 := h0.below b0
  have H1 := h1.below b0
  have H2 := h2.below b0
  have H3 := h3.below b0
  obtain ⟨a0, cap0, rfl, _⟩ := h0
  obtain ⟨a1, cap1, rfl, _⟩ := h1
  obtain ⟨a2, cap2, rfl⟩ := h2.slice
  obtain ⟨a3, cap3, rfl⟩ := h3.slice
  have c0 : W.cell? ⟨w.heap.size, 0, none⟩ = some (.slice a0 B.length cap0) := by rw [hW, Fk.cellTop _ _ _ _ _ rfl]; rfl
  have c1 : W.cell? ⟨w.heap.size, 1, none⟩ = some (.slice a1 A.length cap1) := by rw [hW, Fk.cellTop _ _ _ _ _ rfl]; rfl
  have c2 : W.cell? ⟨w.heap.size, 2, none⟩ = some (.int .i64 n) := by rw [hW, Fk.cellTop _ _ _ _ _ rfl]; rfl
  have c3 : W.cell? ⟨w.heap.size, 3, none⟩ = some (.slice a2 C.length cap2) := by rw [hW, Fk.cellTop _ _ _ _ _ rfl]; rfl
  have c4 : W.cell? ⟨w.heap.size, 4, none⟩ = some (.slice a3 D.length cap3) := by rw [hW, Fk.cellTop _ _ _ _ _ rfl]; rfl
  have c5 : W.cell? ⟨w.heap.size, 5, none⟩ = some (.int .i64 m) := by rw [hW, Fk.cellTop _ _ _ _ _ rfl]; rfl
  clear hW
  go_enter Try.func6, Try.ntmps6
  go_wp2_with fail
  rw [← HW.out]
  refine (alike_spec' _ _ _ _ _ _ B A C D _ H0 H1 su sv H2 H3 l0 l1 l2 l3 m0 m1).mono ?_
  rintro e w1 ⟨rfl, k1⟩
  go_wp2_with fail
  go_ret
  exact ⟨rfl, b0.trans (k1.mono b0.size)⟩
set_option maxHeartbeats 1000000 in
theorem shadowRight_impl (v0 v1 v2 v3 : Value) (n m : Int) (B A : List Or.E) (C D : List Lv.E) (w : World) (h0 : Rk.View Or.S w v0 B) (h1 : Rk.View Or.S w v1 A) (h2 : Lv.View w v2 C) (h3 : Lv.View w v3 D) (su : Rk.Shut v0) (sv : Rk.Shut v1) (fu : Rk.Fit v0) (fv : Rk.Fit v1) (l0 : B.length ≤ 1048576) (l1 : A.length ≤ 1048576) (l2 : C.length ≤ 1048576) (l3 : D.length ≤ 1048576) (m0 : (Nb.flat C).length ≤ 1048576) (m1 : (Nb.flat D).length ≤ 1048576) :
    Calls Try.prog 8 #[.agg #[v0, v1, .int .i64 n, v2, v3, .int .i64 m]] w fun e w' => e = .returned (.bool (Nb.alike B A n C D m)) ∧ Below w.heap.size w w' := by
  obtain ⟨W, hW⟩ : ∃ W, W = w.alloc (.cells #[v0, v1, .int .i64 n, v2, v3, .int .i64 m] 39) := ⟨_, rfl⟩
  have b0 : Below w.heap.size w W := by rw [hW]; exact (Below.refl _ _).alloc (Nat.le_refl _) _
  have HW := Fk.hide hW
  have H0 := h0.below b0
  have H1 := h1.below b0
  have H2 := h2.below b0
  have H3 := h3.below b0
  obtain ⟨a0, cap0, rfl, _⟩ := h0
  obtain ⟨a1, cap1, rfl, _⟩ := h1
  obtain ⟨a2, cap2, rfl⟩ := h2.slice
  obtain ⟨a3, cap3, rfl⟩ := h3.slice
  have c0 : W.cell? ⟨w.heap.size, 0, none⟩ = some (.slice a0 B.length cap0) := by rw [hW, Fk.cellTop _ _ _ _ _ rfl]; rfl
  have c1 : W.cell? ⟨w.heap.size, 1, none⟩ = some (.slice a1 A.length cap1) := by rw [hW, Fk.cellTop _ _ _ _ _ rfl]; rfl
  have c2 : W.cell? ⟨w.heap.size, 2, none⟩ = some (.int .i64 n) := by rw [hW, Fk.cellTop _ _ _ _ _ rfl]; rfl
  have c3 : W.cell? ⟨w.heap.size, 3, none⟩ = some (.slice a2 C.length cap2) := by rw [hW, Fk.cellTop _ _ _ _ _ rfl]; rfl
  have c4 : W.cell? ⟨w.heap.size, 4, none⟩ = some (.slice a3 D.length cap3) := by rw [hW, Fk.cellTop _ _ _ _ _ rfl]; rfl
  have c5 : W.cell? ⟨w.heap.size, 5, none⟩ = some (.int .i64 m) := by rw [hW, Fk.cellTop _ _ _ _ _ rfl]; rfl
  clear hW
  go_enter Try.func8, Try.ntmps8
  go_wp2_with fail
  rw [← HW.out]
  refine (alike_impl' _ _ _ _ _ _ B A C D _ H0 H1 su sv fu fv H2 H3 l0 l1 l2 l3 m0 m1).mono ?_
  rintro e w1 ⟨rfl, k1⟩
  go_wp2_with fail
  go_ret
  exact ⟨rfl, b0.trans (k1.mono b0.size)⟩
end Go.Proofs.Ytnhpcknbnmhlhaa

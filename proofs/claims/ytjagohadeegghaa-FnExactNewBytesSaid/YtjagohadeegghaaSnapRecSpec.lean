/- The walks of the specification's OldBytes: the record of a book, and its bytes. -/
import Derived.Test.YtjagohadeegghaaSnapSpec
import Derived.Test.YtjagohadeegghaaJoined7
import Derived.Test.YtjagohadeegghaaQuietTail
namespace Go.Proofs.Ytjagohadeegghaa
open Go.RowKit
set_option linter.unusedVariables false
set_option linter.unusedSimpArgs false
set_option maxHeartbeats 4000000 in
set_option maxRecDepth 100000 in
theorem l08Rec_any (kind s n : Int) (hk : kind = 1 ∨ kind = 2) (bb : Nat) (x y : Value) (B A : List Or.E) (w : World) (hb : bb < w.heap.size) (c0 : w.cell? ⟨bb, 0, none⟩ = some x) (c1 : w.cell? ⟨bb, 1, none⟩ = some y) (c2 : w.cell? ⟨bb, 2, none⟩ = some (.int .i64 n))
    (hx : Rk.View Or.S w x B) (hy : Rk.View Or.S w y A) (l0 : B.length ≤ 1048576) (l1 : A.length ≤ 1048576) (f0 : ∀ k, k < B.length → Or.Fit (Ob.at' B k)) (f1 : ∀ k, k < A.length → Or.Fit (Ob.at' A k)) (n0 : -9223372036854775808 ≤ n ∧ n ≤ 9223372036854775807) (s0 : -9223372036854775808 ≤ s ∧ s ≤ 9223372036854775807) :
    Calls Try.prog 96 #[.int .i64 kind, .pointer (some ⟨bb, 0, none⟩), .int .i64 s] w fun e w' => (∃ u, e = .returned (.agg #[.int .i64 kind, u]) ∧ Rk.View Fd.S w' u (Sp.fields (decide (kind = 2)) B A n s)) ∧ Below w.heap.size w w' := by
  have HX := Fk.hide hx
  have HY := Fk.hide hy
  obtain ⟨a0, cap0, rfl, _⟩ := hx
  obtain ⟨a1, cap1, rfl, _⟩ := hy
  obtain ⟨wide, hw⟩ : ∃ b, (kind == 2) = b := ⟨_, rfl⟩
  have HWD : Hid (decide (kind = 2) = wide) := by show _ = _; rw [← hw]; rcases hk with rfl | rfl <;> rfl
  go_enter Try.func96, Try.ntmps96
  go_wp2_with fail
  obtain ⟨W1, hW1⟩ : ∃ W, W = w.alloc (.cells #[.int .i64 0, .slice none 0 0] 131) := ⟨_, rfl⟩
  have b1 : Below w.heap.size w W1 := by rw [hW1]; exact (Below.refl _ _).alloc (Nat.le_refl _) _
  have hz1 : w.heap.size < W1.heap.size := by rw [hW1]; simp
  have hb1 : bb < W1.heap.size := by omega
  have d0 : W1.cell? ⟨bb, 0, none⟩ = some (.slice a0 B.length cap0) := (b1.cell (by exact hb)).trans c0
  have d1 : W1.cell? ⟨bb, 1, none⟩ = some (.slice a1 A.length cap1) := (b1.cell (by exact hb)).trans c1
  have d2 : W1.cell? ⟨bb, 2, none⟩ = some (.int .i64 n) := (b1.cell (by exact hb)).trans c2
  have BX : Hid (W1.cell? ⟨w.heap.size, 0, none⟩ = some (.int .i64 0) ∧ W1.cell? ⟨w.heap.size, 1, none⟩ = some (.slice none 0 0) ∧ ∀ j, W1.frozen? ⟨w.heap.size, j, none⟩ = false) := ⟨by rw [hW1, Fk.cellTop _ _ _ _ _ rfl]; rfl, by rw [hW1, Fk.cellTop _ _ _ _ _ rfl]; rfl, fun j => by rw [hW1, Fk.frozTop _ _ _ _ _ rfl]⟩
  rw [← hW1]
  have HB1 := Fk.hide b1
  have HX1 := Fk.hide (HX.out.below b1)
  have HY1 := Fk.hide (HY.out.below b1)
  clear hW1 b1 c0 c1 c2 HX HY
  have HNE : Hid (∀ i j : Nat, (⟨w.heap.size, i, none⟩ : Addr) ≠ ⟨bb, j, none⟩) := fun i j e => by have := congrArg Addr.block e; simp at this; omega
  have HB : Hid (Below W1.heap.size W1 W1.drew) := Below.drew (Below.refl _ _)
  obtain ⟨p0, hp0⟩ : ∃ s, s = Pn.putNum n := ⟨_, rfl⟩
  obtain ⟨p3, hp3⟩ : ∃ t, t = Pn.putNum s := ⟨_, rfl⟩
  obtain ⟨rB, hrB⟩ : ∃ t, t = Sp.row wide B B.length := ⟨_, rfl⟩
  obtain ⟨rA, hrA⟩ : ∃ t, t = Sp.row wide A A.length := ⟨_, rfl⟩
  have g0 : Hid (∀ w', Calls Try.prog 129 #[.int .i64 n] w' fun e w'' => e = .returned (.string p0) ∧ Below w'.heap.size w' w'') := fun w' => by rw [hp0]; exact specPut_any n w' n0.1 n0.2
  have g3 : Hid (∀ w', Calls Try.prog 129 #[.int .i64 s] w' fun e w'' => e = .returned (.string p3) ∧ Below w'.heap.size w' w'') := fun w' => by rw [hp3]; exact specPut_any s w' s0.1 s0.2
  have g1 : Hid (∀ w', Below W1.heap.size W1 w' → Calls Try.prog 130 #[.slice a0 B.length cap0, .bool wide] w' fun e w'' => e = .returned (.string rB) ∧ Below w'.heap.size w' w'') := fun w' h' => by rw [hrB]; exact l08Orders_any _ B wide w' (HX1.out.below h') l0 f0
  have g2 : Hid (∀ w', Below W1.heap.size W1 w' → Calls Try.prog 130 #[.slice a1 A.length cap1, .bool wide] w' fun e w'' => e = .returned (.string rA) ∧ Below w'.heap.size w' w'') := fun w' h' => by rw [hrA]; exact l08Orders_any _ A wide w' (HY1.out.below h') l1 f1
  have HE : Hid (Sp.fields (decide (kind = 2)) B A n s = [(1, p0), (2, rB), (3, rA), (4, p3)]) := by show _ = _; rw [HWD.out, hp0, hp3, hrB, hrA]; rfl
  clear hp0 hp3 hrB hrA hw HWD n0 s0 hk
  go_region_held3 (fun w' => w'.cell? ⟨bb, 0, none⟩ = some (.slice a0 B.length cap0) ∧ w'.cell? ⟨bb, 1, none⟩ = some (.slice a1 A.length cap1) ∧ w'.cell? ⟨bb, 2, none⟩ = some (.int .i64 n))
    (first | go_keep | (go_split_ands; exact ⟨by assumption, by assumption, by assumption⟩) | (exact ⟨(World.cell?_setCell_other _ _ _ _ (HNE.out _ _)).trans ((World.cell?_setCell_other _ _ _ _ (HNE.out _ _)).trans ((Fk.cellOld _ _ _ _ HZB.out).trans vq0)), (World.cell?_setCell_other _ _ _ _ (HNE.out _ _)).trans ((World.cell?_setCell_other _ _ _ _ (HNE.out _ _)).trans ((Fk.cellOld _ _ _ _ HZB.out).trans vq1)), (World.cell?_setCell_other _ _ _ _ (HNE.out _ _)).trans ((World.cell?_setCell_other _ _ _ _ (HNE.out _ _)).trans ((Fk.cellOld _ _ _ _ HZB.out).trans vq2))⟩))
    (first
      | (have hchk := HB4.out; clear hchk; go_at_call 129; refine (g3.out _).mono ?_; rintro e w5 ⟨rfl, b5⟩; have B5 : Below W1.heap.size W1 w5 := HB4.out.trans (b5.mono HB4.out.size); have vq0 := (B5.cell (p := ⟨bb, 0, none⟩) hb1).trans d0; have vq1 := (B5.cell (p := ⟨bb, 1, none⟩) hb1).trans d1; have vq2 := (B5.cell (p := ⟨bb, 2, none⟩) hb1).trans d2; have HB5 := Fk.hide B5; clear B5 b5; have HZB : Hid (bb < w5.heap.size) := Nat.lt_of_lt_of_le hb1 HB5.out.size; have HZ5 : Hid (w.heap.size < w5.heap.size) := Nat.lt_of_lt_of_le hz1 HB5.out.size; have x0 := (Fk.cellOld w5 (.cells #[.int .i64 1, .string p0, .int .i64 2, .string rB, .int .i64 3, .string rA, .int .i64 4, .string p3] 167) w.heap.size 0 HZ5.out).trans ((HB5.out.cell (p := ⟨w.heap.size, 0, none⟩) (by exact hz1)).trans BX.out.1); have x1 := (Fk.cellOld w5 (.cells #[.int .i64 1, .string p0, .int .i64 2, .string rB, .int .i64 3, .string rA, .int .i64 4, .string p3] 167) w.heap.size 1 HZ5.out).trans ((HB5.out.cell (p := ⟨w.heap.size, 1, none⟩) (by exact hz1)).trans BX.out.2.1); have xf0 := (Fk.frozOld w5 (.cells #[.int .i64 1, .string p0, .int .i64 2, .string rB, .int .i64 3, .string rA, .int .i64 4, .string p3] 167) w.heap.size 0 HZ5.out).trans ((HB5.out.frozen (p := ⟨w.heap.size, 0, none⟩) (by exact hz1)).trans (BX.out.2.2 0)); have xf1 := (Fk.frozOld w5 (.cells #[.int .i64 1, .string p0, .int .i64 2, .string rB, .int .i64 3, .string rA, .int .i64 4, .string p3] 167) w.heap.size 1 HZ5.out).trans ((HB5.out.frozen (p := ⟨w.heap.size, 1, none⟩) (by exact hz1)).trans (BX.out.2.2 1)))
      | (have hchk := HB3.out; clear hchk; go_at_call 130; refine (g2.out _ HB3.out).mono ?_; rintro e w4 ⟨rfl, b4⟩; have B4 : Below W1.heap.size W1 w4 := HB3.out.trans (b4.mono HB3.out.size); have uq0 := (B4.cell (p := ⟨bb, 0, none⟩) hb1).trans d0; have uq1 := (B4.cell (p := ⟨bb, 1, none⟩) hb1).trans d1; have uq2 := (B4.cell (p := ⟨bb, 2, none⟩) hb1).trans d2; have HB4 := Fk.hide B4; clear B4 b4)
      | (have hchk := HB2.out; clear hchk; go_at_call 130; refine (g1.out _ HB2.out).mono ?_; rintro e w3 ⟨rfl, b3⟩; have B3 : Below W1.heap.size W1 w3 := HB2.out.trans (b3.mono HB2.out.size); have tq0 := (B3.cell (p := ⟨bb, 0, none⟩) hb1).trans d0; have tq1 := (B3.cell (p := ⟨bb, 1, none⟩) hb1).trans d1; have tq2 := (B3.cell (p := ⟨bb, 2, none⟩) hb1).trans d2; have HB3 := Fk.hide B3; clear B3 b3)
      | (go_at_call 129; refine (g0.out _).mono ?_; rintro e w2 ⟨rfl, b2⟩; have B2 : Below W1.heap.size W1 w2 := HB.out.trans b2; have sq0 := (B2.cell (p := ⟨bb, 0, none⟩) hb1).trans d0; have sq1 := (B2.cell (p := ⟨bb, 1, none⟩) hb1).trans d1; have sq2 := (B2.cell (p := ⟨bb, 2, none⟩) hb1).trans d2; have HB2 := Fk.hide B2; clear B2 b2))
  have O5 : Hid (Rk.Own Fd.S (w5.alloc (.cells #[.int .i64 1, .string p0, .int .i64 2, .string rB, .int .i64 3, .string rA, .int .i64 4, .string p3] 167)) w5.heap.size 167 (.slice (some ⟨w5.heap.size, 0, none⟩) 4 4) [(1, p0), (2, rB), (3, rA), (4, p3)]) := World.ownsRow_lit w5 #[.int .i64 1, .string p0, .int .i64 2, .string rB, .int .i64 3, .string rA, .int .i64 4, .string p3] 4 (Nat.le_refl _) (by unfold maxLen; omega) rfl
  have B9 : Hid (Below w.heap.size w (w5.alloc (.cells #[.int .i64 1, .string p0, .int .i64 2, .string rB, .int .i64 3, .string rA, .int .i64 4, .string p3] 167))) := (HB1.out.trans (HB5.out.mono HB1.out.size)).alloc (by have := HZ5.out; omega) _
  clear hb1 hz1 hb sq0 sq1 sq2 tq0 tq1 tq2 uq0 uq1 uq2 vq0 vq1 vq2
  go_wp2_with fail
  refine bodyPost_ret (v := .agg #[.int .i64 kind, .slice (some ⟨w5.heap.size, 0, none⟩) 4 4]) (by simp [results, Try.results96, go_sem, x0, x1, xf0, xf1] <;> rfl) rfl ⟨⟨_, rfl, ?_⟩, ?_⟩
  · rw [HE.out]
    exact (show Rk.Own Fd.S _ w5.heap.size 167 _ _ from ownsRow_setCell_below (ownsRow_setCell_below O5.out (by exact HZ5.out) _) (by exact HZ5.out) _).view
  · exact (B9.out.setCell (Nat.le_refl _) _).setCell (Nat.le_refl _) _
end Go.Proofs.Ytjagohadeegghaa

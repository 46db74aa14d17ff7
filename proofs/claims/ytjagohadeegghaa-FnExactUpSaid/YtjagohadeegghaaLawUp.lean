/- Proved: for every argument the exact law of Up returns true: impl.Up answers as the specification's Up, writes into no argument and keeps nothing of one, its answer owns its memory, and the argument reads as before. No condition. -/
import Derived.Test.YtjagohadeegghaaRows
import Derived.Test.YtjagohadeegghaaAnsKit
import Derived.Test.YtjagohadeegghaaOldOpen
import Derived.Test.YtjagohadeegghaaOldLaw
import Derived.Test.YtjagohadeegghaaUpSpec
import Derived.Test.YtjagohadeegghaaUpImpl
import Derived.Test.YtjagohadeegghaaUpLaw
import Derived.Test.YtjagohadeegghaaNewEq
import Derived.Test.YtjagohadeegghaaNewMark2
import Derived.WalkKit
import Derived.ProofKit
import Derived.OpenShut
import Derived.ShutString
import Derived.Below
import Derived.ChangeSame
namespace Go.Proofs.Ytjagohadeegghaa.fnExactUp
open Go.ChangeShapes Go.WideShapes Go.ChangeAt Go.RowKit
open Go.ChangeMaps (open_string shut_string)
set_option linter.unusedVariables false

theorem own : ownKnob Try.prog.godebug = none := by kernel_rfl
theorem laidOut : laidOutB Try.prog = true := by kernel_rfl

set_option maxHeartbeats 16000000 in
theorem walk (a0 b0 : Value) (K0 : Int) (B0 A0 : List Or.E) (w0 : (Lit.int .i64 K0).wf = true) (x0 : (∀ f ∈ B0, Or.Fit f) ∧ (∀ f ∈ A0, Or.Fit f)) (n0 : B0.length ≤ maxLen ∧ A0.length ≤ maxLen) (s0 : Rk.Shut a0 ∧ Rk.Shut b0) (w : World) (g0 : Rk.View Or.S w a0 B0 ∧ Rk.View Or.S w b0 A0) :
    Calls Try.prog 3 #[.agg #[a0, b0, .int .i64 K0]] w fun e w' => e = .returned (.bool true) ∧ Below w.heap.size w w' := by
  have HG0 := Fk.hide g0.1
  have HG1 := Fk.hide g0.2
  obtain ⟨sa, sc, rfl, _⟩ := g0.1
  obtain ⟨ta, tc, rfl, _⟩ := g0.2
  obtain ⟨W0, hW⟩ : ∃ W, W = w.alloc (.cells #[.slice sa B0.length sc, .slice ta A0.length tc, .int .i64 K0] 24) := ⟨_, rfl⟩
  have B_0 : Below w.heap.size w W0 := by rw [hW]; exact (Below.refl _ _).alloc (Nat.le_refl _) _
  have hz0 : w.heap.size < W0.heap.size := by rw [hW]; simp
  have cAa_0 : W0.cell? ⟨w.heap.size, 0, none⟩ = some (.slice sa B0.length sc) := by rw [hW, Fk.cellTop _ _ _ _ _ rfl]; rfl
  have cAb_0 : W0.cell? ⟨w.heap.size, 1, none⟩ = some (.slice ta A0.length tc) := by rw [hW, Fk.cellTop _ _ _ _ _ rfl]; rfl
  have cAc_0 : W0.cell? ⟨w.heap.size, 2, none⟩ = some (.int .i64 K0) := by rw [hW, Fk.cellTop _ _ _ _ _ rfl]; rfl
  have HW := Fk.hide hW
  have HB0 := Fk.hide B_0
  clear hW B_0 g0
  go_enter Try.func3, Try.ntmps3
  go_wp2_with fail
  rw [← HW.out]
  refine (szOld_any _ _ _ _ _ _ _ (HG0.out.below HB0.out) (HG1.out.below HB0.out) n0.1 n0.2 (by decide) (by decide)).mono ?_
  rintro e W1 ⟨⟨r, rfl, hr⟩, k1⟩
  have HB1 : Hid (Below w.heap.size w W1) := HB0.out.trans (k1.mono HB0.out.size)
  have hz1 : W0.heap.size ≤ W1.heap.size := k1.size
  have cAa_1 : W1.cell? ⟨w.heap.size, 0, none⟩ = some (.slice sa B0.length sc) := (k1.cell (by show w.heap.size < _; omega)).trans cAa_0
  have cAb_1 : W1.cell? ⟨w.heap.size, 1, none⟩ = some (.slice ta A0.length tc) := (k1.cell (by show w.heap.size < _; omega)).trans cAb_0
  have cAc_1 : W1.cell? ⟨w.heap.size, 2, none⟩ = some (.int .i64 K0) := (k1.cell (by show w.heap.size < _; omega)).trans cAc_0
  clear k1 cAa_0 cAb_0 cAc_0
  rcases hr with rfl | ⟨hr0, hr⟩
  · go_wp2_with fail
    go_ret
    exact ⟨rfl, HB1.out⟩
  have hl0 : B0.length ≤ 1048576 := by omega
  have hl1 : A0.length ≤ 1048576 := by omega
  clear hr
  obtain ⟨D, hD⟩ : ∃ x, x = Nb.up B0 A0 K0 := ⟨_, rfl⟩
  have FS : Hid (∀ w' a b u v, Aw.Ord w' 55 a b u v B0 A0 → Calls Try.prog 16 #[.agg #[u, v, .int .i64 K0]] w' fun e w'' => (∃ x y, e = .returned (.agg #[x, y, .int .i64 D.2.2]) ∧ Aw.Lev w'' 103 55 w'.heap.size w''.heap.size x y D.1 D.2.1) ∧ Below w'.heap.size w' w'') := fun w' a b u v h => by rw [hD]; exact up_spec u v K0 B0 A0 w' h.1.b.view h.1.a.view h.1.b.shut h.1.a.shut h.1.b.fit h.1.a.fit hl0 hl1
  have FI : Hid (∀ w' a b u v, Aw.Ord w' 55 a b u v B0 A0 → Calls Try.prog 18 #[.agg #[u, v, .int .i64 K0]] w' fun e w'' => (∃ x y, e = .returned (.agg #[x, y, .int .i64 D.2.2]) ∧ Aw.Lev w'' 103 55 w'.heap.size w''.heap.size x y D.1 D.2.1) ∧ Below w'.heap.size w' w'') := fun w' a b u v h => by rw [hD]; exact up_impl u v K0 B0 A0 w' h.1.b.view h.1.a.view h.1.b.shut h.1.a.shut h.1.b.fit h.1.a.fit hl0 hl1
  have hlF : (D.1.length ≤ 1048576 ∧ D.2.1.length ≤ 1048576) ∧ (Nb.flat D.1).length ≤ 1048576 ∧ (Nb.flat D.2.1).length ≤ 1048576 := by rw [hD]; exact Nb.up_length B0 A0 K0 hl0 hl1
  clear hD
  obtain ⟨P, Q, nx⟩ := D
  simp only at FS FI hlF
  have HP0 : Hid (∀ i, i < P.length → (Lv.at' P i).2.length ≤ 1048576) := fun i hi => Nat.le_trans (Nb.each_le P i hi) hlF.2.1
  have HQ0 : Hid (∀ i, i < Q.length → (Lv.at' Q i).2.length ≤ 1048576) := fun i hi => Nat.le_trans (Nb.each_le Q i hi) hlF.2.2
  go_wp2_with fail
  refine (toOld_any _ _ _ B0 A0 _ (HG0.out.below HB1.out) (HG1.out.below HB1.out) hl0 hl1).mono ?_
  rintro e W2 ⟨⟨up, vp, rfl, tp⟩, k2⟩
  obtain ⟨ap, cp, rfl⟩ := tp.b.slice
  obtain ⟨bp, dp, rfl⟩ := tp.a.slice
  have p_2 : Hid (Aw.Ord W2 55 W1.heap.size W2.heap.size (.slice ap B0.length cp) (.slice bp A0.length dp) B0 A0) := Aw.Ord.top tp
  clear tp
  have HB2 : Hid (Below w.heap.size w W2) := HB1.out.trans (k2.mono HB1.out.size)
  have hz2 : W1.heap.size ≤ W2.heap.size := k2.size
  have cAa_2 : W2.cell? ⟨w.heap.size, 0, none⟩ = some (.slice sa B0.length sc) := (k2.cell (by show w.heap.size < _; omega)).trans cAa_1
  have cAb_2 : W2.cell? ⟨w.heap.size, 1, none⟩ = some (.slice ta A0.length tc) := (k2.cell (by show w.heap.size < _; omega)).trans cAb_1
  have cAc_2 : W2.cell? ⟨w.heap.size, 2, none⟩ = some (.int .i64 K0) := (k2.cell (by show w.heap.size < _; omega)).trans cAc_1
  clear k2 cAa_1 cAb_1 cAc_1
  go_wp2_with fail
  refine (FS.out _ _ _ _ _ p_2.out).mono ?_
  rintro e W3 ⟨⟨uow, vow, rfl, tow⟩, k3⟩
  obtain ⟨xow, xnow, xcow, yow, ynow, ycow, rfl, rfl⟩ := tow.slices
  have ow_3 : Hid (Aw.Lev W3 103 55 W2.heap.size W3.heap.size (.slice xow xnow xcow) (.slice yow ynow ycow) P Q) := tow
  clear tow
  have HB3 : Hid (Below w.heap.size w W3) := HB2.out.trans (k3.mono HB2.out.size)
  have hz3 : W2.heap.size ≤ W3.heap.size := k3.size
  have cAa_3 : W3.cell? ⟨w.heap.size, 0, none⟩ = some (.slice sa B0.length sc) := (k3.cell (by show w.heap.size < _; omega)).trans cAa_2
  have cAb_3 : W3.cell? ⟨w.heap.size, 1, none⟩ = some (.slice ta A0.length tc) := (k3.cell (by show w.heap.size < _; omega)).trans cAb_2
  have cAc_3 : W3.cell? ⟨w.heap.size, 2, none⟩ = some (.int .i64 K0) := (k3.cell (by show w.heap.size < _; omega)).trans cAc_2
  have p_3 := Fk.hide (p_2.out.below k3)
  clear k3 cAa_2 cAb_2 cAc_2 p_2
  clear p_3
  have lcAa_ : (W3.alloc (.cells #[.slice xow xnow xcow, .slice yow ynow ycow, .int .i64 nx] 28)).cell? ⟨w.heap.size, 0, none⟩ = some (.slice sa B0.length sc) := by rw [Fk.cellOld _ _ _ _ (by omega)]; exact cAa_3
  have lcAb_ : (W3.alloc (.cells #[.slice xow xnow xcow, .slice yow ynow ycow, .int .i64 nx] 28)).cell? ⟨w.heap.size, 1, none⟩ = some (.slice ta A0.length tc) := by rw [Fk.cellOld _ _ _ _ (by omega)]; exact cAb_3
  have lcAc_ : (W3.alloc (.cells #[.slice xow xnow xcow, .slice yow ynow ycow, .int .i64 nx] 28)).cell? ⟨w.heap.size, 2, none⟩ = some (.int .i64 K0) := by rw [Fk.cellOld _ _ _ _ (by omega)]; exact cAc_3
  go_wp2_with fail
  clear lcAa_ lcAb_ lcAc_
  obtain ⟨W4, hW4⟩ : ∃ W, W = (W3.alloc (.cells #[.slice xow xnow xcow, .slice yow ynow ycow, .int .i64 nx] 28)) := ⟨_, rfl⟩
  have k4 : Below W3.heap.size W3 W4 := by rw [hW4]; exact (Below.refl _ _).alloc (Nat.le_refl _) _
  have hy4 : W3.heap.size < W4.heap.size := by rw [hW4]; simp
  have swa_4 : W4.cell? ⟨W3.heap.size, 0, none⟩ = some (.slice xow xnow xcow) := by rw [hW4, Fk.cellTop _ _ _ _ _ rfl]; rfl
  have swb_4 : W4.cell? ⟨W3.heap.size, 1, none⟩ = some (.slice yow ynow ycow) := by rw [hW4, Fk.cellTop _ _ _ _ _ rfl]; rfl
  have swc_4 : W4.cell? ⟨W3.heap.size, 2, none⟩ = some (.int .i64 nx) := by rw [hW4, Fk.cellTop _ _ _ _ _ rfl]; rfl
  have HW4 := Fk.hide hW4
  clear hW4
  have HB4 : Hid (Below w.heap.size w W4) := HB3.out.trans (k4.mono HB3.out.size)
  have hz4 : W3.heap.size ≤ W4.heap.size := k4.size
  have cAa_4 : W4.cell? ⟨w.heap.size, 0, none⟩ = some (.slice sa B0.length sc) := (k4.cell (by show w.heap.size < _; omega)).trans cAa_3
  have cAb_4 : W4.cell? ⟨w.heap.size, 1, none⟩ = some (.slice ta A0.length tc) := (k4.cell (by show w.heap.size < _; omega)).trans cAb_3
  have cAc_4 : W4.cell? ⟨w.heap.size, 2, none⟩ = some (.int .i64 K0) := (k4.cell (by show w.heap.size < _; omega)).trans cAc_3
  have ow_4 := Fk.hide (ow_3.out.below k4)
  clear k4 cAa_3 cAb_3 cAc_3 ow_3
  rw [← HW4.out]
  refine (toOld_any _ _ _ B0 A0 _ (HG0.out.below HB4.out) (HG1.out.below HB4.out) hl0 hl1).mono ?_
  rintro e W5 ⟨⟨ux, vx, rfl, tx⟩, k5⟩
  obtain ⟨ax, cx, rfl⟩ := tx.b.slice
  obtain ⟨bx, dx, rfl⟩ := tx.a.slice
  have x_5 : Hid (Aw.Ord W5 55 W4.heap.size W5.heap.size (.slice ax B0.length cx) (.slice bx A0.length dx) B0 A0) := Aw.Ord.top tx
  clear tx
  have HB5 : Hid (Below w.heap.size w W5) := HB4.out.trans (k5.mono HB4.out.size)
  have hz5 : W4.heap.size ≤ W5.heap.size := k5.size
  have cAa_5 : W5.cell? ⟨w.heap.size, 0, none⟩ = some (.slice sa B0.length sc) := (k5.cell (by show w.heap.size < _; omega)).trans cAa_4
  have cAb_5 : W5.cell? ⟨w.heap.size, 1, none⟩ = some (.slice ta A0.length tc) := (k5.cell (by show w.heap.size < _; omega)).trans cAb_4
  have cAc_5 : W5.cell? ⟨w.heap.size, 2, none⟩ = some (.int .i64 K0) := (k5.cell (by show w.heap.size < _; omega)).trans cAc_4
  have swa_5 : W5.cell? ⟨W3.heap.size, 0, none⟩ = some (.slice xow xnow xcow) := (k5.cell (by show W3.heap.size < _; omega)).trans swa_4
  have swb_5 : W5.cell? ⟨W3.heap.size, 1, none⟩ = some (.slice yow ynow ycow) := (k5.cell (by show W3.heap.size < _; omega)).trans swb_4
  have swc_5 : W5.cell? ⟨W3.heap.size, 2, none⟩ = some (.int .i64 nx) := (k5.cell (by show W3.heap.size < _; omega)).trans swc_4
  have ow_5 := Fk.hide (ow_4.out.below k5)
  clear k5 cAa_4 cAb_4 cAc_4 swa_4 swb_4 swc_4 ow_4
  have lcAa_ : (W5.alloc (.cells #[.slice ax B0.length cx, .slice bx A0.length dx, .int .i64 K0] 32)).cell? ⟨w.heap.size, 0, none⟩ = some (.slice sa B0.length sc) := by rw [Fk.cellOld _ _ _ _ (by omega)]; exact cAa_5
  have lcAb_ : (W5.alloc (.cells #[.slice ax B0.length cx, .slice bx A0.length dx, .int .i64 K0] 32)).cell? ⟨w.heap.size, 1, none⟩ = some (.slice ta A0.length tc) := by rw [Fk.cellOld _ _ _ _ (by omega)]; exact cAb_5
  have lcAc_ : (W5.alloc (.cells #[.slice ax B0.length cx, .slice bx A0.length dx, .int .i64 K0] 32)).cell? ⟨w.heap.size, 2, none⟩ = some (.int .i64 K0) := by rw [Fk.cellOld _ _ _ _ (by omega)]; exact cAc_5
  have lswa_ : (W5.alloc (.cells #[.slice ax B0.length cx, .slice bx A0.length dx, .int .i64 K0] 32)).cell? ⟨W3.heap.size, 0, none⟩ = some (.slice xow xnow xcow) := by rw [Fk.cellOld _ _ _ _ (by omega)]; exact swa_5
  have lswb_ : (W5.alloc (.cells #[.slice ax B0.length cx, .slice bx A0.length dx, .int .i64 K0] 32)).cell? ⟨W3.heap.size, 1, none⟩ = some (.slice yow ynow ycow) := by rw [Fk.cellOld _ _ _ _ (by omega)]; exact swb_5
  have lswc_ : (W5.alloc (.cells #[.slice ax B0.length cx, .slice bx A0.length dx, .int .i64 K0] 32)).cell? ⟨W3.heap.size, 2, none⟩ = some (.int .i64 nx) := by rw [Fk.cellOld _ _ _ _ (by omega)]; exact swc_5
  go_wp2_with fail
  clear lcAa_ lcAb_ lcAc_ lswa_ lswb_ lswc_
  obtain ⟨W6, hW6⟩ : ∃ W, W = (W5.alloc (.cells #[.slice ax B0.length cx, .slice bx A0.length dx, .int .i64 K0] 32)) := ⟨_, rfl⟩
  have k6 : Below W5.heap.size W5 W6 := by rw [hW6]; exact (Below.refl _ _).alloc (Nat.le_refl _) _
  have hy6 : W5.heap.size < W6.heap.size := by rw [hW6]; simp
  have sxa_6 : W6.cell? ⟨W5.heap.size, 0, none⟩ = some (.slice ax B0.length cx) := by rw [hW6, Fk.cellTop _ _ _ _ _ rfl]; rfl
  have sxb_6 : W6.cell? ⟨W5.heap.size, 1, none⟩ = some (.slice bx A0.length dx) := by rw [hW6, Fk.cellTop _ _ _ _ _ rfl]; rfl
  have sxc_6 : W6.cell? ⟨W5.heap.size, 2, none⟩ = some (.int .i64 K0) := by rw [hW6, Fk.cellTop _ _ _ _ _ rfl]; rfl
  have HW6 := Fk.hide hW6
  clear hW6
  have HB6 : Hid (Below w.heap.size w W6) := HB5.out.trans (k6.mono HB5.out.size)
  have hz6 : W5.heap.size ≤ W6.heap.size := k6.size
  have cAa_6 : W6.cell? ⟨w.heap.size, 0, none⟩ = some (.slice sa B0.length sc) := (k6.cell (by show w.heap.size < _; omega)).trans cAa_5
  have cAb_6 : W6.cell? ⟨w.heap.size, 1, none⟩ = some (.slice ta A0.length tc) := (k6.cell (by show w.heap.size < _; omega)).trans cAb_5
  have cAc_6 : W6.cell? ⟨w.heap.size, 2, none⟩ = some (.int .i64 K0) := (k6.cell (by show w.heap.size < _; omega)).trans cAc_5
  have swa_6 : W6.cell? ⟨W3.heap.size, 0, none⟩ = some (.slice xow xnow xcow) := (k6.cell (by show W3.heap.size < _; omega)).trans swa_5
  have swb_6 : W6.cell? ⟨W3.heap.size, 1, none⟩ = some (.slice yow ynow ycow) := (k6.cell (by show W3.heap.size < _; omega)).trans swb_5
  have swc_6 : W6.cell? ⟨W3.heap.size, 2, none⟩ = some (.int .i64 nx) := (k6.cell (by show W3.heap.size < _; omega)).trans swc_5
  have ow_6 := Fk.hide (ow_5.out.below k6)
  have x_6 := Fk.hide (x_5.out.below k6)
  clear k6 cAa_5 cAb_5 cAc_5 swa_5 swb_5 swc_5 ow_5 x_5
  rw [← HW6.out]
  refine (FI.out _ _ _ _ _ x_6.out).mono ?_
  rintro e W7 ⟨⟨uog, vog, rfl, tog⟩, k7⟩
  obtain ⟨xog, xnog, xcog, yog, ynog, ycog, rfl, rfl⟩ := tog.slices
  have og_7 : Hid (Aw.Lev W7 103 55 W6.heap.size W7.heap.size (.slice xog xnog xcog) (.slice yog ynog ycog) P Q) := tog
  clear tog
  have HB7 : Hid (Below w.heap.size w W7) := HB6.out.trans (k7.mono HB6.out.size)
  have hz7 : W6.heap.size ≤ W7.heap.size := k7.size
  have cAa_7 : W7.cell? ⟨w.heap.size, 0, none⟩ = some (.slice sa B0.length sc) := (k7.cell (by show w.heap.size < _; omega)).trans cAa_6
  have cAb_7 : W7.cell? ⟨w.heap.size, 1, none⟩ = some (.slice ta A0.length tc) := (k7.cell (by show w.heap.size < _; omega)).trans cAb_6
  have cAc_7 : W7.cell? ⟨w.heap.size, 2, none⟩ = some (.int .i64 K0) := (k7.cell (by show w.heap.size < _; omega)).trans cAc_6
  have swa_7 : W7.cell? ⟨W3.heap.size, 0, none⟩ = some (.slice xow xnow xcow) := (k7.cell (by show W3.heap.size < _; omega)).trans swa_6
  have swb_7 : W7.cell? ⟨W3.heap.size, 1, none⟩ = some (.slice yow ynow ycow) := (k7.cell (by show W3.heap.size < _; omega)).trans swb_6
  have swc_7 : W7.cell? ⟨W3.heap.size, 2, none⟩ = some (.int .i64 nx) := (k7.cell (by show W3.heap.size < _; omega)).trans swc_6
  have sxa_7 : W7.cell? ⟨W5.heap.size, 0, none⟩ = some (.slice ax B0.length cx) := (k7.cell (by show W5.heap.size < _; omega)).trans sxa_6
  have sxb_7 : W7.cell? ⟨W5.heap.size, 1, none⟩ = some (.slice bx A0.length dx) := (k7.cell (by show W5.heap.size < _; omega)).trans sxb_6
  have sxc_7 : W7.cell? ⟨W5.heap.size, 2, none⟩ = some (.int .i64 K0) := (k7.cell (by show W5.heap.size < _; omega)).trans sxc_6
  have ow_7 := Fk.hide (ow_6.out.below k7)
  have x_7 := Fk.hide (x_6.out.below k7)
  clear k7 cAa_6 cAb_6 cAc_6 swa_6 swb_6 swc_6 sxa_6 sxb_6 sxc_6 ow_6 x_6
  have lcAa_ : (W7.alloc (.cells #[.slice xog xnog xcog, .slice yog ynog ycog, .int .i64 nx] 28)).cell? ⟨w.heap.size, 0, none⟩ = some (.slice sa B0.length sc) := by rw [Fk.cellOld _ _ _ _ (by omega)]; exact cAa_7
  have lcAb_ : (W7.alloc (.cells #[.slice xog xnog xcog, .slice yog ynog ycog, .int .i64 nx] 28)).cell? ⟨w.heap.size, 1, none⟩ = some (.slice ta A0.length tc) := by rw [Fk.cellOld _ _ _ _ (by omega)]; exact cAb_7
  have lcAc_ : (W7.alloc (.cells #[.slice xog xnog xcog, .slice yog ynog ycog, .int .i64 nx] 28)).cell? ⟨w.heap.size, 2, none⟩ = some (.int .i64 K0) := by rw [Fk.cellOld _ _ _ _ (by omega)]; exact cAc_7
  have lswa_ : (W7.alloc (.cells #[.slice xog xnog xcog, .slice yog ynog ycog, .int .i64 nx] 28)).cell? ⟨W3.heap.size, 0, none⟩ = some (.slice xow xnow xcow) := by rw [Fk.cellOld _ _ _ _ (by omega)]; exact swa_7
  have lswb_ : (W7.alloc (.cells #[.slice xog xnog xcog, .slice yog ynog ycog, .int .i64 nx] 28)).cell? ⟨W3.heap.size, 1, none⟩ = some (.slice yow ynow ycow) := by rw [Fk.cellOld _ _ _ _ (by omega)]; exact swb_7
  have lswc_ : (W7.alloc (.cells #[.slice xog xnog xcog, .slice yog ynog ycog, .int .i64 nx] 28)).cell? ⟨W3.heap.size, 2, none⟩ = some (.int .i64 nx) := by rw [Fk.cellOld _ _ _ _ (by omega)]; exact swc_7
  have lsxa_ : (W7.alloc (.cells #[.slice xog xnog xcog, .slice yog ynog ycog, .int .i64 nx] 28)).cell? ⟨W5.heap.size, 0, none⟩ = some (.slice ax B0.length cx) := by rw [Fk.cellOld _ _ _ _ (by omega)]; exact sxa_7
  have lsxb_ : (W7.alloc (.cells #[.slice xog xnog xcog, .slice yog ynog ycog, .int .i64 nx] 28)).cell? ⟨W5.heap.size, 1, none⟩ = some (.slice bx A0.length dx) := by rw [Fk.cellOld _ _ _ _ (by omega)]; exact sxb_7
  have lsxc_ : (W7.alloc (.cells #[.slice xog xnog xcog, .slice yog ynog ycog, .int .i64 nx] 28)).cell? ⟨W5.heap.size, 2, none⟩ = some (.int .i64 K0) := by rw [Fk.cellOld _ _ _ _ (by omega)]; exact sxc_7
  go_wp2_with fail
  clear lcAa_ lcAb_ lcAc_ lswa_ lswb_ lswc_ lsxa_ lsxb_ lsxc_
  obtain ⟨W8, hW8⟩ : ∃ W, W = (W7.alloc (.cells #[.slice xog xnog xcog, .slice yog ynog ycog, .int .i64 nx] 28)) := ⟨_, rfl⟩
  have k8 : Below W7.heap.size W7 W8 := by rw [hW8]; exact (Below.refl _ _).alloc (Nat.le_refl _) _
  have hy8 : W7.heap.size < W8.heap.size := by rw [hW8]; simp
  have sga_8 : W8.cell? ⟨W7.heap.size, 0, none⟩ = some (.slice xog xnog xcog) := by rw [hW8, Fk.cellTop _ _ _ _ _ rfl]; rfl
  have sgb_8 : W8.cell? ⟨W7.heap.size, 1, none⟩ = some (.slice yog ynog ycog) := by rw [hW8, Fk.cellTop _ _ _ _ _ rfl]; rfl
  have sgc_8 : W8.cell? ⟨W7.heap.size, 2, none⟩ = some (.int .i64 nx) := by rw [hW8, Fk.cellTop _ _ _ _ _ rfl]; rfl
  have HW8 := Fk.hide hW8
  clear hW8
  have HB8 : Hid (Below w.heap.size w W8) := HB7.out.trans (k8.mono HB7.out.size)
  have hz8 : W7.heap.size ≤ W8.heap.size := k8.size
  have cAa_8 : W8.cell? ⟨w.heap.size, 0, none⟩ = some (.slice sa B0.length sc) := (k8.cell (by show w.heap.size < _; omega)).trans cAa_7
  have cAb_8 : W8.cell? ⟨w.heap.size, 1, none⟩ = some (.slice ta A0.length tc) := (k8.cell (by show w.heap.size < _; omega)).trans cAb_7
  have cAc_8 : W8.cell? ⟨w.heap.size, 2, none⟩ = some (.int .i64 K0) := (k8.cell (by show w.heap.size < _; omega)).trans cAc_7
  have swa_8 : W8.cell? ⟨W3.heap.size, 0, none⟩ = some (.slice xow xnow xcow) := (k8.cell (by show W3.heap.size < _; omega)).trans swa_7
  have swb_8 : W8.cell? ⟨W3.heap.size, 1, none⟩ = some (.slice yow ynow ycow) := (k8.cell (by show W3.heap.size < _; omega)).trans swb_7
  have swc_8 : W8.cell? ⟨W3.heap.size, 2, none⟩ = some (.int .i64 nx) := (k8.cell (by show W3.heap.size < _; omega)).trans swc_7
  have sxa_8 : W8.cell? ⟨W5.heap.size, 0, none⟩ = some (.slice ax B0.length cx) := (k8.cell (by show W5.heap.size < _; omega)).trans sxa_7
  have sxb_8 : W8.cell? ⟨W5.heap.size, 1, none⟩ = some (.slice bx A0.length dx) := (k8.cell (by show W5.heap.size < _; omega)).trans sxb_7
  have sxc_8 : W8.cell? ⟨W5.heap.size, 2, none⟩ = some (.int .i64 K0) := (k8.cell (by show W5.heap.size < _; omega)).trans sxc_7
  have ow_8 := Fk.hide (ow_7.out.below k8)
  have x_8 := Fk.hide (x_7.out.below k8)
  have og_8 := Fk.hide (og_7.out.below k8)
  clear k8 cAa_7 cAb_7 cAc_7 swa_7 swb_7 swc_7 sxa_7 sxb_7 sxc_7 ow_7 x_7 og_7
  rw [← HW8.out]
  refine (eqNew_same _ _ _ _ nx P Q _ og_8.out.views.1 og_8.out.views.2 ow_8.out.views.1 ow_8.out.views.2 hlF.1.1 hlF.1.2 HP0.out HQ0.out).mono ?_
  rintro e W9 ⟨rfl, k9⟩
  have HB9 : Hid (Below w.heap.size w W9) := HB8.out.trans (k9.mono HB8.out.size)
  have hz9 : W8.heap.size ≤ W9.heap.size := k9.size
  have cAa_9 : W9.cell? ⟨w.heap.size, 0, none⟩ = some (.slice sa B0.length sc) := (k9.cell (by show w.heap.size < _; omega)).trans cAa_8
  have cAb_9 : W9.cell? ⟨w.heap.size, 1, none⟩ = some (.slice ta A0.length tc) := (k9.cell (by show w.heap.size < _; omega)).trans cAb_8
  have cAc_9 : W9.cell? ⟨w.heap.size, 2, none⟩ = some (.int .i64 K0) := (k9.cell (by show w.heap.size < _; omega)).trans cAc_8
  have swa_9 : W9.cell? ⟨W3.heap.size, 0, none⟩ = some (.slice xow xnow xcow) := (k9.cell (by show W3.heap.size < _; omega)).trans swa_8
  have swb_9 : W9.cell? ⟨W3.heap.size, 1, none⟩ = some (.slice yow ynow ycow) := (k9.cell (by show W3.heap.size < _; omega)).trans swb_8
  have swc_9 : W9.cell? ⟨W3.heap.size, 2, none⟩ = some (.int .i64 nx) := (k9.cell (by show W3.heap.size < _; omega)).trans swc_8
  have sxa_9 : W9.cell? ⟨W5.heap.size, 0, none⟩ = some (.slice ax B0.length cx) := (k9.cell (by show W5.heap.size < _; omega)).trans sxa_8
  have sxb_9 : W9.cell? ⟨W5.heap.size, 1, none⟩ = some (.slice bx A0.length dx) := (k9.cell (by show W5.heap.size < _; omega)).trans sxb_8
  have sxc_9 : W9.cell? ⟨W5.heap.size, 2, none⟩ = some (.int .i64 K0) := (k9.cell (by show W5.heap.size < _; omega)).trans sxc_8
  have sga_9 : W9.cell? ⟨W7.heap.size, 0, none⟩ = some (.slice xog xnog xcog) := (k9.cell (by show W7.heap.size < _; omega)).trans sga_8
  have sgb_9 : W9.cell? ⟨W7.heap.size, 1, none⟩ = some (.slice yog ynog ycog) := (k9.cell (by show W7.heap.size < _; omega)).trans sgb_8
  have sgc_9 : W9.cell? ⟨W7.heap.size, 2, none⟩ = some (.int .i64 nx) := (k9.cell (by show W7.heap.size < _; omega)).trans sgc_8
  have ow_9 := Fk.hide (ow_8.out.below k9)
  have x_9 := Fk.hide (x_8.out.below k9)
  have og_9 := Fk.hide (og_8.out.below k9)
  clear k9 cAa_8 cAb_8 cAc_8 swa_8 swb_8 swc_8 sxa_8 sxb_8 sxc_8 sga_8 sgb_8 sgc_8 ow_8 x_8 og_8
  go_wp2_with fail
  have vd0 := Fk.hide ((HG0.out.below HB9.out).below (Below.drew (Below.refl W9.heap.size W9)))
  have vd1 := Fk.hide ((HG1.out.below HB9.out).below (Below.drew (Below.refl W9.heap.size W9)))
  have ox := Fk.hide (x_9.out.below (Below.drew (Below.refl W9.heap.size W9)))
  go_region_with (first
    | (go_at_call 17; refine (toOld_any _ _ _ B0 A0 _ vd0.out vd1.out hl0 hl1).mono ?_; rintro e X1 ⟨⟨uq, vq, rfl, oxx⟩, m1⟩; obtain ⟨aq, jq, rfl⟩ := oxx.b.slice; obtain ⟨ar, jr, rfl⟩ := oxx.a.slice; have PQ := Fk.hide oxx.b.view; have QQ := Fk.hide oxx.a.view; clear oxx; have dxa : X1.cell? ⟨W5.heap.size, 0, none⟩ = some (.slice ax B0.length cx) := (m1.cell (by show W5.heap.size < W9.heap.size; omega)).trans sxa_9; have dxb : X1.cell? ⟨W5.heap.size, 1, none⟩ = some (.slice bx A0.length dx) := (m1.cell (by show W5.heap.size < W9.heap.size; omega)).trans sxb_9; have dxc : X1.cell? ⟨W5.heap.size, 2, none⟩ = some (.int .i64 K0) := (m1.cell (by show W5.heap.size < W9.heap.size; omega)).trans sxc_9)
    | (go_at_call 20; refine (eqOld_same _ _ _ _ _ B0 A0 _ (ox.out.below m1).1.b.view (ox.out.below m1).1.a.view PQ.out QQ.out hl0 hl1).mono ?_; rintro e W10 ⟨rfl, m2⟩))
  all_goals
    have k10 : Below W9.heap.size W9 W10 := (Below.trans (Below.drew (Below.refl _ _)) m1).trans (m2.mono m1.size)
    clear m1 m2 vd0 vd1 ox PQ QQ dxa dxb dxc
    have HB10 : Hid (Below w.heap.size w W10) := HB9.out.trans (k10.mono HB9.out.size)
    have hz10 : W9.heap.size ≤ W10.heap.size := k10.size
    have cAa_10 : W10.cell? ⟨w.heap.size, 0, none⟩ = some (.slice sa B0.length sc) := (k10.cell (by show w.heap.size < _; omega)).trans cAa_9
    have cAb_10 : W10.cell? ⟨w.heap.size, 1, none⟩ = some (.slice ta A0.length tc) := (k10.cell (by show w.heap.size < _; omega)).trans cAb_9
    have cAc_10 : W10.cell? ⟨w.heap.size, 2, none⟩ = some (.int .i64 K0) := (k10.cell (by show w.heap.size < _; omega)).trans cAc_9
    have swa_10 : W10.cell? ⟨W3.heap.size, 0, none⟩ = some (.slice xow xnow xcow) := (k10.cell (by show W3.heap.size < _; omega)).trans swa_9
    have swb_10 : W10.cell? ⟨W3.heap.size, 1, none⟩ = some (.slice yow ynow ycow) := (k10.cell (by show W3.heap.size < _; omega)).trans swb_9
    have swc_10 : W10.cell? ⟨W3.heap.size, 2, none⟩ = some (.int .i64 nx) := (k10.cell (by show W3.heap.size < _; omega)).trans swc_9
    have sxa_10 : W10.cell? ⟨W5.heap.size, 0, none⟩ = some (.slice ax B0.length cx) := (k10.cell (by show W5.heap.size < _; omega)).trans sxa_9
    have sxb_10 : W10.cell? ⟨W5.heap.size, 1, none⟩ = some (.slice bx A0.length dx) := (k10.cell (by show W5.heap.size < _; omega)).trans sxb_9
    have sxc_10 : W10.cell? ⟨W5.heap.size, 2, none⟩ = some (.int .i64 K0) := (k10.cell (by show W5.heap.size < _; omega)).trans sxc_9
    have sga_10 : W10.cell? ⟨W7.heap.size, 0, none⟩ = some (.slice xog xnog xcog) := (k10.cell (by show W7.heap.size < _; omega)).trans sga_9
    have sgb_10 : W10.cell? ⟨W7.heap.size, 1, none⟩ = some (.slice yog ynog ycog) := (k10.cell (by show W7.heap.size < _; omega)).trans sgb_9
    have sgc_10 : W10.cell? ⟨W7.heap.size, 2, none⟩ = some (.int .i64 nx) := (k10.cell (by show W7.heap.size < _; omega)).trans sgc_9
    have ow_10 := Fk.hide (ow_9.out.below k10)
    have x_10 := Fk.hide (x_9.out.below k10)
    have og_10 := Fk.hide (og_9.out.below k10)
    clear k10 cAa_9 cAb_9 cAc_9 swa_9 swb_9 swc_9 sxa_9 sxb_9 sxc_9 sga_9 sgb_9 sgc_9 ow_9 x_9 og_9
    go_wp2_with fail
    refine (markOld_any _ _ _ B0 A0 1 _ _ x_10.out.1 hl0 hl1 (by decide) (by decide)).mono ?_
    rintro e W11 ⟨⟨rfl, _⟩, wm, gm1, gm2⟩
    have gm : Lv.Only W4.heap.size W5.heap.size W10 W11 := (Aw.only_row gm1 (fun k hk => ⟨(x_10.out.1.b.lt k hk).1, x_10.out.2.1 k hk⟩)).trans (Aw.only_row gm2 (fun k hk => ⟨(x_10.out.1.a.lt k hk).1, x_10.out.2.2 k hk⟩))
    clear gm1 gm2
    obtain ⟨mk, hmk⟩ : ∃ q : Nat, q = 1 + 8 * B0.length + 8 * A0.length := ⟨_, rfl⟩
    rw [← hmk]
    clear hmk
    have HB11 : Hid (Below w.heap.size w W11) := gm.below HB10.out HB10.out.size (by have := HB0.out.size; omega)
    have hz11 : W10.heap.size ≤ W11.heap.size := gm.size
    have cAa_11 : W11.cell? ⟨w.heap.size, 0, none⟩ = some (.slice sa B0.length sc) := gm.cell cAa_10 (by show w.heap.size < _ ∨ _ ≤ w.heap.size; omega)
    have cAb_11 : W11.cell? ⟨w.heap.size, 1, none⟩ = some (.slice ta A0.length tc) := gm.cell cAb_10 (by show w.heap.size < _ ∨ _ ≤ w.heap.size; omega)
    have cAc_11 : W11.cell? ⟨w.heap.size, 2, none⟩ = some (.int .i64 K0) := gm.cell cAc_10 (by show w.heap.size < _ ∨ _ ≤ w.heap.size; omega)
    have swa_11 : W11.cell? ⟨W3.heap.size, 0, none⟩ = some (.slice xow xnow xcow) := gm.cell swa_10 (by show W3.heap.size < _ ∨ _ ≤ W3.heap.size; omega)
    have swb_11 : W11.cell? ⟨W3.heap.size, 1, none⟩ = some (.slice yow ynow ycow) := gm.cell swb_10 (by show W3.heap.size < _ ∨ _ ≤ W3.heap.size; omega)
    have swc_11 : W11.cell? ⟨W3.heap.size, 2, none⟩ = some (.int .i64 nx) := gm.cell swc_10 (by show W3.heap.size < _ ∨ _ ≤ W3.heap.size; omega)
    have sxa_11 : W11.cell? ⟨W5.heap.size, 0, none⟩ = some (.slice ax B0.length cx) := gm.cell sxa_10 (by show W5.heap.size < _ ∨ _ ≤ W5.heap.size; omega)
    have sxb_11 : W11.cell? ⟨W5.heap.size, 1, none⟩ = some (.slice bx A0.length dx) := gm.cell sxb_10 (by show W5.heap.size < _ ∨ _ ≤ W5.heap.size; omega)
    have sxc_11 : W11.cell? ⟨W5.heap.size, 2, none⟩ = some (.int .i64 K0) := gm.cell sxc_10 (by show W5.heap.size < _ ∨ _ ≤ W5.heap.size; omega)
    have sga_11 : W11.cell? ⟨W7.heap.size, 0, none⟩ = some (.slice xog xnog xcog) := gm.cell sga_10 (by show W7.heap.size < _ ∨ _ ≤ W7.heap.size; omega)
    have sgb_11 : W11.cell? ⟨W7.heap.size, 1, none⟩ = some (.slice yog ynog ycog) := gm.cell sgb_10 (by show W7.heap.size < _ ∨ _ ≤ W7.heap.size; omega)
    have sgc_11 : W11.cell? ⟨W7.heap.size, 2, none⟩ = some (.int .i64 nx) := gm.cell sgc_10 (by show W7.heap.size < _ ∨ _ ≤ W7.heap.size; omega)
    have ow_11 := Fk.hide (ow_10.out.keep gm (by omega))
    have og_11 := Fk.hide (og_10.out.keep gm (by omega))
    clear gm cAa_10 cAb_10 cAc_10 swa_10 swb_10 swc_10 sxa_10 sxb_10 sxc_10 sga_10 sgb_10 sgc_10 ow_10 og_10
    clear x_10
    have hq10 : (0 : Int) ≤ (mk : Int) := by omega
    go_wp2_with fail
    refine (eqNew_same _ _ _ _ nx P Q _ og_11.out.views.1 og_11.out.views.2 ow_11.out.views.1 ow_11.out.views.2 hlF.1.1 hlF.1.2 HP0.out HQ0.out).mono ?_
    rintro e W12 ⟨rfl, k12⟩
    have HB12 : Hid (Below w.heap.size w W12) := HB11.out.trans (k12.mono HB11.out.size)
    have hz12 : W11.heap.size ≤ W12.heap.size := k12.size
    have cAa_12 : W12.cell? ⟨w.heap.size, 0, none⟩ = some (.slice sa B0.length sc) := (k12.cell (by show w.heap.size < _; omega)).trans cAa_11
    have cAb_12 : W12.cell? ⟨w.heap.size, 1, none⟩ = some (.slice ta A0.length tc) := (k12.cell (by show w.heap.size < _; omega)).trans cAb_11
    have cAc_12 : W12.cell? ⟨w.heap.size, 2, none⟩ = some (.int .i64 K0) := (k12.cell (by show w.heap.size < _; omega)).trans cAc_11
    have swa_12 : W12.cell? ⟨W3.heap.size, 0, none⟩ = some (.slice xow xnow xcow) := (k12.cell (by show W3.heap.size < _; omega)).trans swa_11
    have swb_12 : W12.cell? ⟨W3.heap.size, 1, none⟩ = some (.slice yow ynow ycow) := (k12.cell (by show W3.heap.size < _; omega)).trans swb_11
    have swc_12 : W12.cell? ⟨W3.heap.size, 2, none⟩ = some (.int .i64 nx) := (k12.cell (by show W3.heap.size < _; omega)).trans swc_11
    have sxa_12 : W12.cell? ⟨W5.heap.size, 0, none⟩ = some (.slice ax B0.length cx) := (k12.cell (by show W5.heap.size < _; omega)).trans sxa_11
    have sxb_12 : W12.cell? ⟨W5.heap.size, 1, none⟩ = some (.slice bx A0.length dx) := (k12.cell (by show W5.heap.size < _; omega)).trans sxb_11
    have sxc_12 : W12.cell? ⟨W5.heap.size, 2, none⟩ = some (.int .i64 K0) := (k12.cell (by show W5.heap.size < _; omega)).trans sxc_11
    have sga_12 : W12.cell? ⟨W7.heap.size, 0, none⟩ = some (.slice xog xnog xcog) := (k12.cell (by show W7.heap.size < _; omega)).trans sga_11
    have sgb_12 : W12.cell? ⟨W7.heap.size, 1, none⟩ = some (.slice yog ynog ycog) := (k12.cell (by show W7.heap.size < _; omega)).trans sgb_11
    have sgc_12 : W12.cell? ⟨W7.heap.size, 2, none⟩ = some (.int .i64 nx) := (k12.cell (by show W7.heap.size < _; omega)).trans sgc_11
    have ow_12 := Fk.hide (ow_11.out.below k12)
    have og_12 := Fk.hide (og_11.out.below k12)
    clear k12 cAa_11 cAb_11 cAc_11 swa_11 swb_11 swc_11 sxa_11 sxb_11 sxc_11 sga_11 sgb_11 sgc_11 ow_11 og_11
    go_wp2_with fail
    refine (markUp_any _ _ nx P Q _ _ _ og_12.out hlF.1.1 hlF.1.2 hlF.2.1 hlF.2.2).mono ?_
    rintro e W13 ⟨⟨rfl, sB, sA⟩, gm⟩
    have oB_13 := Fk.hide (sB)
    have oA_13 := Fk.hide (sA)
    clear sB sA
    have HB13 : Hid (Below w.heap.size w W13) := gm.below HB12.out HB12.out.size (by have := HB0.out.size; omega)
    have hz13 : W12.heap.size ≤ W13.heap.size := gm.size
    have cAa_13 : W13.cell? ⟨w.heap.size, 0, none⟩ = some (.slice sa B0.length sc) := gm.cell cAa_12 (by show w.heap.size < _ ∨ _ ≤ w.heap.size; omega)
    have cAb_13 : W13.cell? ⟨w.heap.size, 1, none⟩ = some (.slice ta A0.length tc) := gm.cell cAb_12 (by show w.heap.size < _ ∨ _ ≤ w.heap.size; omega)
    have cAc_13 : W13.cell? ⟨w.heap.size, 2, none⟩ = some (.int .i64 K0) := gm.cell cAc_12 (by show w.heap.size < _ ∨ _ ≤ w.heap.size; omega)
    have swa_13 : W13.cell? ⟨W3.heap.size, 0, none⟩ = some (.slice xow xnow xcow) := gm.cell swa_12 (by show W3.heap.size < _ ∨ _ ≤ W3.heap.size; omega)
    have swb_13 : W13.cell? ⟨W3.heap.size, 1, none⟩ = some (.slice yow ynow ycow) := gm.cell swb_12 (by show W3.heap.size < _ ∨ _ ≤ W3.heap.size; omega)
    have swc_13 : W13.cell? ⟨W3.heap.size, 2, none⟩ = some (.int .i64 nx) := gm.cell swc_12 (by show W3.heap.size < _ ∨ _ ≤ W3.heap.size; omega)
    have sxa_13 : W13.cell? ⟨W5.heap.size, 0, none⟩ = some (.slice ax B0.length cx) := gm.cell sxa_12 (by show W5.heap.size < _ ∨ _ ≤ W5.heap.size; omega)
    have sxb_13 : W13.cell? ⟨W5.heap.size, 1, none⟩ = some (.slice bx A0.length dx) := gm.cell sxb_12 (by show W5.heap.size < _ ∨ _ ≤ W5.heap.size; omega)
    have sxc_13 : W13.cell? ⟨W5.heap.size, 2, none⟩ = some (.int .i64 K0) := gm.cell sxc_12 (by show W5.heap.size < _ ∨ _ ≤ W5.heap.size; omega)
    have sga_13 : W13.cell? ⟨W7.heap.size, 0, none⟩ = some (.slice xog xnog xcog) := gm.cell sga_12 (by show W7.heap.size < _ ∨ _ ≤ W7.heap.size; omega)
    have sgb_13 : W13.cell? ⟨W7.heap.size, 1, none⟩ = some (.slice yog ynog ycog) := gm.cell sgb_12 (by show W7.heap.size < _ ∨ _ ≤ W7.heap.size; omega)
    have sgc_13 : W13.cell? ⟨W7.heap.size, 2, none⟩ = some (.int .i64 nx) := gm.cell sgc_12 (by show W7.heap.size < _ ∨ _ ≤ W7.heap.size; omega)
    have ow_13 := Fk.hide (ow_12.out.keep gm (by omega))
    clear gm cAa_12 cAb_12 cAc_12 swa_12 swb_12 swc_12 sxa_12 sxb_12 sxc_12 sga_12 sgb_12 sgc_12 ow_12
    clear og_12
    obtain ⟨q2, hq2⟩ : ∃ q : Int, q = ((Lv.pos (Lv.pos 1 P P.length) Q Q.length : Nat) : Int) := ⟨_, rfl⟩
    have hq20 : 0 ≤ q2 := by omega
    rw [← hq2]
    have HQ2 := Fk.hide hq2
    clear hq2
    go_wp2_with fail
    refine (heldNew_any _ _ nx P Q 1 _ _ oB_13.out oA_13.out rfl hlF.1.1 hlF.1.2 hlF.2.1 hlF.2.2 (by decide) (by decide)).mono ?_
    rintro e W14 ⟨rfl, k14⟩
    rw [← HQ2.out]
    have HB14 : Hid (Below w.heap.size w W14) := HB13.out.trans (k14.mono HB13.out.size)
    have hz14 : W13.heap.size ≤ W14.heap.size := k14.size
    have cAa_14 : W14.cell? ⟨w.heap.size, 0, none⟩ = some (.slice sa B0.length sc) := (k14.cell (by show w.heap.size < _; omega)).trans cAa_13
    have cAb_14 : W14.cell? ⟨w.heap.size, 1, none⟩ = some (.slice ta A0.length tc) := (k14.cell (by show w.heap.size < _; omega)).trans cAb_13
    have cAc_14 : W14.cell? ⟨w.heap.size, 2, none⟩ = some (.int .i64 K0) := (k14.cell (by show w.heap.size < _; omega)).trans cAc_13
    have swa_14 : W14.cell? ⟨W3.heap.size, 0, none⟩ = some (.slice xow xnow xcow) := (k14.cell (by show W3.heap.size < _; omega)).trans swa_13
    have swb_14 : W14.cell? ⟨W3.heap.size, 1, none⟩ = some (.slice yow ynow ycow) := (k14.cell (by show W3.heap.size < _; omega)).trans swb_13
    have swc_14 : W14.cell? ⟨W3.heap.size, 2, none⟩ = some (.int .i64 nx) := (k14.cell (by show W3.heap.size < _; omega)).trans swc_13
    have sxa_14 : W14.cell? ⟨W5.heap.size, 0, none⟩ = some (.slice ax B0.length cx) := (k14.cell (by show W5.heap.size < _; omega)).trans sxa_13
    have sxb_14 : W14.cell? ⟨W5.heap.size, 1, none⟩ = some (.slice bx A0.length dx) := (k14.cell (by show W5.heap.size < _; omega)).trans sxb_13
    have sxc_14 : W14.cell? ⟨W5.heap.size, 2, none⟩ = some (.int .i64 K0) := (k14.cell (by show W5.heap.size < _; omega)).trans sxc_13
    have sga_14 : W14.cell? ⟨W7.heap.size, 0, none⟩ = some (.slice xog xnog xcog) := (k14.cell (by show W7.heap.size < _; omega)).trans sga_13
    have sgb_14 : W14.cell? ⟨W7.heap.size, 1, none⟩ = some (.slice yog ynog ycog) := (k14.cell (by show W7.heap.size < _; omega)).trans sgb_13
    have sgc_14 : W14.cell? ⟨W7.heap.size, 2, none⟩ = some (.int .i64 nx) := (k14.cell (by show W7.heap.size < _; omega)).trans sgc_13
    have ow_14 := Fk.hide (ow_13.out.below k14)
    have oB_14 := Fk.hide (oB_13.out.below k14)
    have oA_14 := Fk.hide (oA_13.out.below k14)
    clear k14 cAa_13 cAb_13 cAc_13 swa_13 swb_13 swc_13 sxa_13 sxb_13 sxc_13 sga_13 sgb_13 sgc_13 ow_13 oB_13 oA_13
    go_wp2_with fail
    refine (toOld_any _ _ _ B0 A0 _ (HG0.out.below HB14.out) (HG1.out.below HB14.out) hl0 hl1).mono ?_
    rintro e W15 ⟨⟨utt, vtt, rfl, ttt⟩, k15⟩
    obtain ⟨att, ctt, rfl⟩ := ttt.b.slice
    obtain ⟨btt, dtt, rfl⟩ := ttt.a.slice
    have tt_15 : Hid (Aw.Ord W15 55 W14.heap.size W15.heap.size (.slice att B0.length ctt) (.slice btt A0.length dtt) B0 A0) := Aw.Ord.top ttt
    clear ttt
    have HB15 : Hid (Below w.heap.size w W15) := HB14.out.trans (k15.mono HB14.out.size)
    have hz15 : W14.heap.size ≤ W15.heap.size := k15.size
    have cAa_15 : W15.cell? ⟨w.heap.size, 0, none⟩ = some (.slice sa B0.length sc) := (k15.cell (by show w.heap.size < _; omega)).trans cAa_14
    have cAb_15 : W15.cell? ⟨w.heap.size, 1, none⟩ = some (.slice ta A0.length tc) := (k15.cell (by show w.heap.size < _; omega)).trans cAb_14
    have cAc_15 : W15.cell? ⟨w.heap.size, 2, none⟩ = some (.int .i64 K0) := (k15.cell (by show w.heap.size < _; omega)).trans cAc_14
    have swa_15 : W15.cell? ⟨W3.heap.size, 0, none⟩ = some (.slice xow xnow xcow) := (k15.cell (by show W3.heap.size < _; omega)).trans swa_14
    have swb_15 : W15.cell? ⟨W3.heap.size, 1, none⟩ = some (.slice yow ynow ycow) := (k15.cell (by show W3.heap.size < _; omega)).trans swb_14
    have swc_15 : W15.cell? ⟨W3.heap.size, 2, none⟩ = some (.int .i64 nx) := (k15.cell (by show W3.heap.size < _; omega)).trans swc_14
    have sxa_15 : W15.cell? ⟨W5.heap.size, 0, none⟩ = some (.slice ax B0.length cx) := (k15.cell (by show W5.heap.size < _; omega)).trans sxa_14
    have sxb_15 : W15.cell? ⟨W5.heap.size, 1, none⟩ = some (.slice bx A0.length dx) := (k15.cell (by show W5.heap.size < _; omega)).trans sxb_14
    have sxc_15 : W15.cell? ⟨W5.heap.size, 2, none⟩ = some (.int .i64 K0) := (k15.cell (by show W5.heap.size < _; omega)).trans sxc_14
    have sga_15 : W15.cell? ⟨W7.heap.size, 0, none⟩ = some (.slice xog xnog xcog) := (k15.cell (by show W7.heap.size < _; omega)).trans sga_14
    have sgb_15 : W15.cell? ⟨W7.heap.size, 1, none⟩ = some (.slice yog ynog ycog) := (k15.cell (by show W7.heap.size < _; omega)).trans sgb_14
    have sgc_15 : W15.cell? ⟨W7.heap.size, 2, none⟩ = some (.int .i64 nx) := (k15.cell (by show W7.heap.size < _; omega)).trans sgc_14
    have ow_15 := Fk.hide (ow_14.out.below k15)
    have oB_15 := Fk.hide (oB_14.out.below k15)
    have oA_15 := Fk.hide (oA_14.out.below k15)
    clear k15 cAa_14 cAb_14 cAc_14 swa_14 swb_14 swc_14 sxa_14 sxb_14 sxc_14 sga_14 sgb_14 sgc_14 ow_14 oB_14 oA_14
    go_wp2_with fail
    refine (FI.out _ _ _ _ _ tt_15.out).mono ?_
    rintro e W16 ⟨⟨uoh, voh, rfl, toh⟩, k16⟩
    obtain ⟨xoh, xnoh, xcoh, yoh, ynoh, ycoh, rfl, rfl⟩ := toh.slices
    have oh_16 : Hid (Aw.Lev W16 103 55 W15.heap.size W16.heap.size (.slice xoh xnoh xcoh) (.slice yoh ynoh ycoh) P Q) := toh
    clear toh
    have HB16 : Hid (Below w.heap.size w W16) := HB15.out.trans (k16.mono HB15.out.size)
    have hz16 : W15.heap.size ≤ W16.heap.size := k16.size
    have cAa_16 : W16.cell? ⟨w.heap.size, 0, none⟩ = some (.slice sa B0.length sc) := (k16.cell (by show w.heap.size < _; omega)).trans cAa_15
    have cAb_16 : W16.cell? ⟨w.heap.size, 1, none⟩ = some (.slice ta A0.length tc) := (k16.cell (by show w.heap.size < _; omega)).trans cAb_15
    have cAc_16 : W16.cell? ⟨w.heap.size, 2, none⟩ = some (.int .i64 K0) := (k16.cell (by show w.heap.size < _; omega)).trans cAc_15
    have swa_16 : W16.cell? ⟨W3.heap.size, 0, none⟩ = some (.slice xow xnow xcow) := (k16.cell (by show W3.heap.size < _; omega)).trans swa_15
    have swb_16 : W16.cell? ⟨W3.heap.size, 1, none⟩ = some (.slice yow ynow ycow) := (k16.cell (by show W3.heap.size < _; omega)).trans swb_15
    have swc_16 : W16.cell? ⟨W3.heap.size, 2, none⟩ = some (.int .i64 nx) := (k16.cell (by show W3.heap.size < _; omega)).trans swc_15
    have sxa_16 : W16.cell? ⟨W5.heap.size, 0, none⟩ = some (.slice ax B0.length cx) := (k16.cell (by show W5.heap.size < _; omega)).trans sxa_15
    have sxb_16 : W16.cell? ⟨W5.heap.size, 1, none⟩ = some (.slice bx A0.length dx) := (k16.cell (by show W5.heap.size < _; omega)).trans sxb_15
    have sxc_16 : W16.cell? ⟨W5.heap.size, 2, none⟩ = some (.int .i64 K0) := (k16.cell (by show W5.heap.size < _; omega)).trans sxc_15
    have sga_16 : W16.cell? ⟨W7.heap.size, 0, none⟩ = some (.slice xog xnog xcog) := (k16.cell (by show W7.heap.size < _; omega)).trans sga_15
    have sgb_16 : W16.cell? ⟨W7.heap.size, 1, none⟩ = some (.slice yog ynog ycog) := (k16.cell (by show W7.heap.size < _; omega)).trans sgb_15
    have sgc_16 : W16.cell? ⟨W7.heap.size, 2, none⟩ = some (.int .i64 nx) := (k16.cell (by show W7.heap.size < _; omega)).trans sgc_15
    have ow_16 := Fk.hide (ow_15.out.below k16)
    have oB_16 := Fk.hide (oB_15.out.below k16)
    have oA_16 := Fk.hide (oA_15.out.below k16)
    have tt_16 := Fk.hide (tt_15.out.below k16)
    clear k16 cAa_15 cAb_15 cAc_15 swa_15 swb_15 swc_15 sxa_15 sxb_15 sxc_15 sga_15 sgb_15 sgc_15 ow_15 oB_15 oA_15 tt_15
    clear tt_16
    have lcAa_ : (W16.alloc (.cells #[.slice xoh xnoh xcoh, .slice yoh ynoh ycoh, .int .i64 nx] 28)).cell? ⟨w.heap.size, 0, none⟩ = some (.slice sa B0.length sc) := by rw [Fk.cellOld _ _ _ _ (by omega)]; exact cAa_16
    have lcAb_ : (W16.alloc (.cells #[.slice xoh xnoh xcoh, .slice yoh ynoh ycoh, .int .i64 nx] 28)).cell? ⟨w.heap.size, 1, none⟩ = some (.slice ta A0.length tc) := by rw [Fk.cellOld _ _ _ _ (by omega)]; exact cAb_16
    have lcAc_ : (W16.alloc (.cells #[.slice xoh xnoh xcoh, .slice yoh ynoh ycoh, .int .i64 nx] 28)).cell? ⟨w.heap.size, 2, none⟩ = some (.int .i64 K0) := by rw [Fk.cellOld _ _ _ _ (by omega)]; exact cAc_16
    have lswa_ : (W16.alloc (.cells #[.slice xoh xnoh xcoh, .slice yoh ynoh ycoh, .int .i64 nx] 28)).cell? ⟨W3.heap.size, 0, none⟩ = some (.slice xow xnow xcow) := by rw [Fk.cellOld _ _ _ _ (by omega)]; exact swa_16
    have lswb_ : (W16.alloc (.cells #[.slice xoh xnoh xcoh, .slice yoh ynoh ycoh, .int .i64 nx] 28)).cell? ⟨W3.heap.size, 1, none⟩ = some (.slice yow ynow ycow) := by rw [Fk.cellOld _ _ _ _ (by omega)]; exact swb_16
    have lswc_ : (W16.alloc (.cells #[.slice xoh xnoh xcoh, .slice yoh ynoh ycoh, .int .i64 nx] 28)).cell? ⟨W3.heap.size, 2, none⟩ = some (.int .i64 nx) := by rw [Fk.cellOld _ _ _ _ (by omega)]; exact swc_16
    have lsxa_ : (W16.alloc (.cells #[.slice xoh xnoh xcoh, .slice yoh ynoh ycoh, .int .i64 nx] 28)).cell? ⟨W5.heap.size, 0, none⟩ = some (.slice ax B0.length cx) := by rw [Fk.cellOld _ _ _ _ (by omega)]; exact sxa_16
    have lsxb_ : (W16.alloc (.cells #[.slice xoh xnoh xcoh, .slice yoh ynoh ycoh, .int .i64 nx] 28)).cell? ⟨W5.heap.size, 1, none⟩ = some (.slice bx A0.length dx) := by rw [Fk.cellOld _ _ _ _ (by omega)]; exact sxb_16
    have lsxc_ : (W16.alloc (.cells #[.slice xoh xnoh xcoh, .slice yoh ynoh ycoh, .int .i64 nx] 28)).cell? ⟨W5.heap.size, 2, none⟩ = some (.int .i64 K0) := by rw [Fk.cellOld _ _ _ _ (by omega)]; exact sxc_16
    have lsga_ : (W16.alloc (.cells #[.slice xoh xnoh xcoh, .slice yoh ynoh ycoh, .int .i64 nx] 28)).cell? ⟨W7.heap.size, 0, none⟩ = some (.slice xog xnog xcog) := by rw [Fk.cellOld _ _ _ _ (by omega)]; exact sga_16
    have lsgb_ : (W16.alloc (.cells #[.slice xoh xnoh xcoh, .slice yoh ynoh ycoh, .int .i64 nx] 28)).cell? ⟨W7.heap.size, 1, none⟩ = some (.slice yog ynog ycog) := by rw [Fk.cellOld _ _ _ _ (by omega)]; exact sgb_16
    have lsgc_ : (W16.alloc (.cells #[.slice xoh xnoh xcoh, .slice yoh ynoh ycoh, .int .i64 nx] 28)).cell? ⟨W7.heap.size, 2, none⟩ = some (.int .i64 nx) := by rw [Fk.cellOld _ _ _ _ (by omega)]; exact sgc_16
    go_wp2_with fail
    clear lcAa_ lcAb_ lcAc_ lswa_ lswb_ lswc_ lsxa_ lsxb_ lsxc_ lsga_ lsgb_ lsgc_
    obtain ⟨W17, hW17⟩ : ∃ W, W = (W16.alloc (.cells #[.slice xoh xnoh xcoh, .slice yoh ynoh ycoh, .int .i64 nx] 28)) := ⟨_, rfl⟩
    have k17 : Below W16.heap.size W16 W17 := by rw [hW17]; exact (Below.refl _ _).alloc (Nat.le_refl _) _
    have hy17 : W16.heap.size < W17.heap.size := by rw [hW17]; simp
    have sha_17 : W17.cell? ⟨W16.heap.size, 0, none⟩ = some (.slice xoh xnoh xcoh) := by rw [hW17, Fk.cellTop _ _ _ _ _ rfl]; rfl
    have shb_17 : W17.cell? ⟨W16.heap.size, 1, none⟩ = some (.slice yoh ynoh ycoh) := by rw [hW17, Fk.cellTop _ _ _ _ _ rfl]; rfl
    have shc_17 : W17.cell? ⟨W16.heap.size, 2, none⟩ = some (.int .i64 nx) := by rw [hW17, Fk.cellTop _ _ _ _ _ rfl]; rfl
    have HW17 := Fk.hide hW17
    clear hW17
    have HB17 : Hid (Below w.heap.size w W17) := HB16.out.trans (k17.mono HB16.out.size)
    have hz17 : W16.heap.size ≤ W17.heap.size := k17.size
    have cAa_17 : W17.cell? ⟨w.heap.size, 0, none⟩ = some (.slice sa B0.length sc) := (k17.cell (by show w.heap.size < _; omega)).trans cAa_16
    have cAb_17 : W17.cell? ⟨w.heap.size, 1, none⟩ = some (.slice ta A0.length tc) := (k17.cell (by show w.heap.size < _; omega)).trans cAb_16
    have cAc_17 : W17.cell? ⟨w.heap.size, 2, none⟩ = some (.int .i64 K0) := (k17.cell (by show w.heap.size < _; omega)).trans cAc_16
    have swa_17 : W17.cell? ⟨W3.heap.size, 0, none⟩ = some (.slice xow xnow xcow) := (k17.cell (by show W3.heap.size < _; omega)).trans swa_16
    have swb_17 : W17.cell? ⟨W3.heap.size, 1, none⟩ = some (.slice yow ynow ycow) := (k17.cell (by show W3.heap.size < _; omega)).trans swb_16
    have swc_17 : W17.cell? ⟨W3.heap.size, 2, none⟩ = some (.int .i64 nx) := (k17.cell (by show W3.heap.size < _; omega)).trans swc_16
    have sxa_17 : W17.cell? ⟨W5.heap.size, 0, none⟩ = some (.slice ax B0.length cx) := (k17.cell (by show W5.heap.size < _; omega)).trans sxa_16
    have sxb_17 : W17.cell? ⟨W5.heap.size, 1, none⟩ = some (.slice bx A0.length dx) := (k17.cell (by show W5.heap.size < _; omega)).trans sxb_16
    have sxc_17 : W17.cell? ⟨W5.heap.size, 2, none⟩ = some (.int .i64 K0) := (k17.cell (by show W5.heap.size < _; omega)).trans sxc_16
    have sga_17 : W17.cell? ⟨W7.heap.size, 0, none⟩ = some (.slice xog xnog xcog) := (k17.cell (by show W7.heap.size < _; omega)).trans sga_16
    have sgb_17 : W17.cell? ⟨W7.heap.size, 1, none⟩ = some (.slice yog ynog ycog) := (k17.cell (by show W7.heap.size < _; omega)).trans sgb_16
    have sgc_17 : W17.cell? ⟨W7.heap.size, 2, none⟩ = some (.int .i64 nx) := (k17.cell (by show W7.heap.size < _; omega)).trans sgc_16
    have ow_17 := Fk.hide (ow_16.out.below k17)
    have oB_17 := Fk.hide (oB_16.out.below k17)
    have oA_17 := Fk.hide (oA_16.out.below k17)
    have oh_17 := Fk.hide (oh_16.out.below k17)
    clear k17 cAa_16 cAb_16 cAc_16 swa_16 swb_16 swc_16 sxa_16 sxb_16 sxc_16 sga_16 sgb_16 sgc_16 ow_16 oB_16 oA_16 oh_16
    rw [← HW17.out]
    refine (eqNew_same _ _ _ _ nx P Q _ oh_17.out.views.1 oh_17.out.views.2 ow_17.out.views.1 ow_17.out.views.2 hlF.1.1 hlF.1.2 HP0.out HQ0.out).mono ?_
    rintro e W18 ⟨rfl, k18⟩
    have HB18 : Hid (Below w.heap.size w W18) := HB17.out.trans (k18.mono HB17.out.size)
    have hz18 : W17.heap.size ≤ W18.heap.size := k18.size
    have cAa_18 : W18.cell? ⟨w.heap.size, 0, none⟩ = some (.slice sa B0.length sc) := (k18.cell (by show w.heap.size < _; omega)).trans cAa_17
    have cAb_18 : W18.cell? ⟨w.heap.size, 1, none⟩ = some (.slice ta A0.length tc) := (k18.cell (by show w.heap.size < _; omega)).trans cAb_17
    have cAc_18 : W18.cell? ⟨w.heap.size, 2, none⟩ = some (.int .i64 K0) := (k18.cell (by show w.heap.size < _; omega)).trans cAc_17
    have swa_18 : W18.cell? ⟨W3.heap.size, 0, none⟩ = some (.slice xow xnow xcow) := (k18.cell (by show W3.heap.size < _; omega)).trans swa_17
    have swb_18 : W18.cell? ⟨W3.heap.size, 1, none⟩ = some (.slice yow ynow ycow) := (k18.cell (by show W3.heap.size < _; omega)).trans swb_17
    have swc_18 : W18.cell? ⟨W3.heap.size, 2, none⟩ = some (.int .i64 nx) := (k18.cell (by show W3.heap.size < _; omega)).trans swc_17
    have sxa_18 : W18.cell? ⟨W5.heap.size, 0, none⟩ = some (.slice ax B0.length cx) := (k18.cell (by show W5.heap.size < _; omega)).trans sxa_17
    have sxb_18 : W18.cell? ⟨W5.heap.size, 1, none⟩ = some (.slice bx A0.length dx) := (k18.cell (by show W5.heap.size < _; omega)).trans sxb_17
    have sxc_18 : W18.cell? ⟨W5.heap.size, 2, none⟩ = some (.int .i64 K0) := (k18.cell (by show W5.heap.size < _; omega)).trans sxc_17
    have sga_18 : W18.cell? ⟨W7.heap.size, 0, none⟩ = some (.slice xog xnog xcog) := (k18.cell (by show W7.heap.size < _; omega)).trans sga_17
    have sgb_18 : W18.cell? ⟨W7.heap.size, 1, none⟩ = some (.slice yog ynog ycog) := (k18.cell (by show W7.heap.size < _; omega)).trans sgb_17
    have sgc_18 : W18.cell? ⟨W7.heap.size, 2, none⟩ = some (.int .i64 nx) := (k18.cell (by show W7.heap.size < _; omega)).trans sgc_17
    have sha_18 : W18.cell? ⟨W16.heap.size, 0, none⟩ = some (.slice xoh xnoh xcoh) := (k18.cell (by show W16.heap.size < _; omega)).trans sha_17
    have shb_18 : W18.cell? ⟨W16.heap.size, 1, none⟩ = some (.slice yoh ynoh ycoh) := (k18.cell (by show W16.heap.size < _; omega)).trans shb_17
    have shc_18 : W18.cell? ⟨W16.heap.size, 2, none⟩ = some (.int .i64 nx) := (k18.cell (by show W16.heap.size < _; omega)).trans shc_17
    have ow_18 := Fk.hide (ow_17.out.below k18)
    have oB_18 := Fk.hide (oB_17.out.below k18)
    have oA_18 := Fk.hide (oA_17.out.below k18)
    have oh_18 := Fk.hide (oh_17.out.below k18)
    clear k18 cAa_17 cAb_17 cAc_17 swa_17 swb_17 swc_17 sxa_17 sxb_17 sxc_17 sga_17 sgb_17 sgc_17 sha_17 shb_17 shc_17 ow_17 oB_17 oA_17 oh_17
    go_wp2_with fail
    refine (heldNew_any _ _ nx P Q 1 _ _ oB_18.out oA_18.out rfl hlF.1.1 hlF.1.2 hlF.2.1 hlF.2.2 (by decide) (by decide)).mono ?_
    rintro e W19 ⟨rfl, k19⟩
    rw [← HQ2.out]
    have HB19 : Hid (Below w.heap.size w W19) := HB18.out.trans (k19.mono HB18.out.size)
    have hz19 : W18.heap.size ≤ W19.heap.size := k19.size
    have cAa_19 : W19.cell? ⟨w.heap.size, 0, none⟩ = some (.slice sa B0.length sc) := (k19.cell (by show w.heap.size < _; omega)).trans cAa_18
    have cAb_19 : W19.cell? ⟨w.heap.size, 1, none⟩ = some (.slice ta A0.length tc) := (k19.cell (by show w.heap.size < _; omega)).trans cAb_18
    have cAc_19 : W19.cell? ⟨w.heap.size, 2, none⟩ = some (.int .i64 K0) := (k19.cell (by show w.heap.size < _; omega)).trans cAc_18
    have swa_19 : W19.cell? ⟨W3.heap.size, 0, none⟩ = some (.slice xow xnow xcow) := (k19.cell (by show W3.heap.size < _; omega)).trans swa_18
    have swb_19 : W19.cell? ⟨W3.heap.size, 1, none⟩ = some (.slice yow ynow ycow) := (k19.cell (by show W3.heap.size < _; omega)).trans swb_18
    have swc_19 : W19.cell? ⟨W3.heap.size, 2, none⟩ = some (.int .i64 nx) := (k19.cell (by show W3.heap.size < _; omega)).trans swc_18
    have sxa_19 : W19.cell? ⟨W5.heap.size, 0, none⟩ = some (.slice ax B0.length cx) := (k19.cell (by show W5.heap.size < _; omega)).trans sxa_18
    have sxb_19 : W19.cell? ⟨W5.heap.size, 1, none⟩ = some (.slice bx A0.length dx) := (k19.cell (by show W5.heap.size < _; omega)).trans sxb_18
    have sxc_19 : W19.cell? ⟨W5.heap.size, 2, none⟩ = some (.int .i64 K0) := (k19.cell (by show W5.heap.size < _; omega)).trans sxc_18
    have sga_19 : W19.cell? ⟨W7.heap.size, 0, none⟩ = some (.slice xog xnog xcog) := (k19.cell (by show W7.heap.size < _; omega)).trans sga_18
    have sgb_19 : W19.cell? ⟨W7.heap.size, 1, none⟩ = some (.slice yog ynog ycog) := (k19.cell (by show W7.heap.size < _; omega)).trans sgb_18
    have sgc_19 : W19.cell? ⟨W7.heap.size, 2, none⟩ = some (.int .i64 nx) := (k19.cell (by show W7.heap.size < _; omega)).trans sgc_18
    have sha_19 : W19.cell? ⟨W16.heap.size, 0, none⟩ = some (.slice xoh xnoh xcoh) := (k19.cell (by show W16.heap.size < _; omega)).trans sha_18
    have shb_19 : W19.cell? ⟨W16.heap.size, 1, none⟩ = some (.slice yoh ynoh ycoh) := (k19.cell (by show W16.heap.size < _; omega)).trans shb_18
    have shc_19 : W19.cell? ⟨W16.heap.size, 2, none⟩ = some (.int .i64 nx) := (k19.cell (by show W16.heap.size < _; omega)).trans shc_18
    have ow_19 := Fk.hide (ow_18.out.below k19)
    have oB_19 := Fk.hide (oB_18.out.below k19)
    have oA_19 := Fk.hide (oA_18.out.below k19)
    have oh_19 := Fk.hide (oh_18.out.below k19)
    clear k19 cAa_18 cAb_18 cAc_18 swa_18 swb_18 swc_18 sxa_18 sxb_18 sxc_18 sga_18 sgb_18 sgc_18 sha_18 shb_18 shc_18 ow_18 oB_18 oA_18 oh_18
    go_wp2_with fail
    go_ret
    exact ⟨rfl, HB19.out⟩

set_option maxRecDepth 100000 in
theorem lifted (os : Os) (started : os.Started) (H : Type) (enc : TypeId × Value → H) :
    ReturnsInHanded {} Try.checked os 3 .any (Rows.fnExactUpSpec.pre6 enc Try.prog Try.f3 Rows.fnExactUpRow.domain false) (Rows.fnExactUpSpec.post enc Try.prog Try.f3 false true false false) := by
  refine returnsInHanded_of_change (C := Try.checked) own started (by kernel_rfl) Try.func3
    (ChangeSpec.witness6 (enc := enc) (C := Try.checked) false ⟨#[], #[.agg #[.slice none 0 0, .slice none 0 0, .int .i64 0]], []⟩ 8 (by kernel_rfl) (by kernel_rfl) (by kernel_rfl) (by kernel_rfl)) ?_
  intro W base args ds gs before hval0 hW hcnd _
  have hval : ∀ (j : Nat) t v, Try.f3.params[j]? = some t → args[j]? = some v → Value.okWide Try.prog W .any base t v := hval0
  have hW' := hW
  obtain ⟨p, q, hA0, hV, rfl, hfz, hnd⟩ := hW
  have hA : DataW.TrodAll enc Try.prog W 0 (fun _ => true) true Try.f3.params.toList args.toList ds p := hA0
  rw [Try.params3] at hA hval
  obtain ⟨v0, vs0, d0, ds0, p0, q0, hargs, rfl, rfl, h0, r0⟩ := trodAll_cons hA
  obtain ⟨rfl, rfl, rfl⟩ := trodAll_nil r0
  obtain rfl : args = #[v0] := by cases args; simp_all
  obtain ⟨rfl, rfl⟩ := trodVars_none hV
  have hlt : ∀ x ∈ p0 ++ ([]), x.block < W.heap.size := fun x hx => hW'.lt x (by simpa using hx)
  have k0 := h0
  obtain ⟨a0, b0, K0, B0, A0, rfl, w0, x0, n0, s0, g0⟩ := Ob.open_old (hval 0 24 v0 rfl rfl) h0
  clear hA0 hval0
  have e1 : Rows.fnExactUpSpec.fn H ([d0] ++ []) = { results := [.lit (.bool true)], args := [d0] } := by simp [Rows.fnExactUpSpec]
  refine (walk a0 b0 K0 B0 A0 w0 x0 n0 s0 W g0).mono fun e W' ⟨he, bel⟩ => ?_
  subst he
  refine ⟨_, rfl, _, _, _, [], p0 ++ ([]), [], hW', ?_, ?_, ?_, bel.frame _, fun h => by cases h⟩
  · rw [e1]; exact trodAll_mk1 (shut_bool Try.underlying4 true)
  · rw [e1]; exact (trodAll_cons_mk (Below.trod laidOut (by kernel_rfl) (of_decide_eq_true (by kernel_rfl)) k0 bel (fun x hx => hlt x (by simp [hx]))) trodAll_mk0)
  · rw [e1]; rfl

theorem over : Rows.fnExactUpRow.holds Try.pinned (OpenSpec.ofChange Rows.fnExactUpSpec) :=
  OpenClaim.holds_of_wide 3 Try.f3 rfl rfl rfl rfl rfl rfl rfl ⟨rfl, rfl, rfl, rfl, rfl⟩ rfl rfl rfl rfl rfl (by kernel_rfl) Try.func3 (by kernel_rfl)
    (of_decide_eq_true (by kernel_rfl)) (by unfold Func.isWrapper; rw [if_neg (of_decide_eq_false (by kernel_rfl))]; exact ⟨rfl, rfl⟩)
    (fun os started H enc _ => lifted os started H enc)

/-- the statement -/
theorem proved : Rows.FnExactUpSaid :=
  over
#print axioms proved
end Go.Proofs.Ytjagohadeegghaa.fnExactUp

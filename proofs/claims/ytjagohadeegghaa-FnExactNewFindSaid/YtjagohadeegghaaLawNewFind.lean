/- Proved: for every argument the exact law of NewFind returns true: impl.NewFind answers as the specification's NewFind, writes into no argument, and the argument reads as before. No condition. -/
import Derived.Test.YtjagohadeegghaaRows
import Derived.Test.YtjagohadeegghaaNewOpen
import Derived.Test.YtjagohadeegghaaNewTo
import Derived.Test.YtjagohadeegghaaNewEq
import Derived.Test.YtjagohadeegghaaNewFindImpl
import Derived.Test.YtjagohadeegghaaNewFindSpec
import Derived.Test.YtjagohadeegghaaOrderLaw
import Derived.WalkKit
import Derived.ProofKit
import Derived.OpenShut
import Derived.ShutString
import Derived.Below
import Derived.ChangeSame
namespace Go.Proofs.Ytjagohadeegghaa.fnExactNewFind
open Go.ChangeShapes Go.WideShapes Go.ChangeAt Go.RowKit
open Go.ChangeMaps (open_string shut_string)
set_option linter.unusedVariables false

theorem own : ownKnob Try.prog.godebug = none := by kernel_rfl
theorem laidOut : laidOutB Try.prog = true := by kernel_rfl

set_option maxHeartbeats 8000000 in
theorem walk (a0 b0 : Value) (K0 : Int) (B0 A0 : List Lv.E) (w0 : (Lit.int .i64 K0).wf = true) (n0 : B0.length ≤ maxLen ∧ A0.length ≤ maxLen) (x0 : (∀ i, i < B0.length → (Lv.at' B0 i).2.length ≤ maxLen) ∧ (∀ i, i < A0.length → (Lv.at' A0 i).2.length ≤ maxLen)) (a1 : Int) (w1 : (Lit.int .i64 a1).wf = true) (w : World) (g0 : Lv.View w a0 B0 ∧ Lv.View w b0 A0) :
    Calls Try.prog 12 #[.agg #[a0, b0, .int .i64 K0], .int .i64 a1] w fun e w' => e = .returned (.bool true) ∧ Below w.heap.size w w' := by
  have HG0 := Fk.hide g0.1
  have HG1 := Fk.hide g0.2
  have HX0 := Fk.hide x0
  obtain ⟨sa, sc, rfl⟩ := g0.1.slice
  obtain ⟨ta, tc, rfl⟩ := g0.2.slice
  clear x0
  obtain ⟨W0, hW⟩ : ∃ W, W = w.alloc (.cells #[.slice sa B0.length sc, .slice ta A0.length tc, .int .i64 K0] 41) := ⟨_, rfl⟩
  have B_0 : Below w.heap.size w W0 := by rw [hW]; exact (Below.refl _ _).alloc (Nat.le_refl _) _
  have hz0 : w.heap.size < W0.heap.size := by rw [hW]; simp
  have cAa_0 : W0.cell? ⟨w.heap.size, 0, none⟩ = some (.slice sa B0.length sc) := by rw [hW, Fk.cellTop _ _ _ _ _ rfl]; rfl
  have cAb_0 : W0.cell? ⟨w.heap.size, 1, none⟩ = some (.slice ta A0.length tc) := by rw [hW, Fk.cellTop _ _ _ _ _ rfl]; rfl
  have cAc_0 : W0.cell? ⟨w.heap.size, 2, none⟩ = some (.int .i64 K0) := by rw [hW, Fk.cellTop _ _ _ _ _ rfl]; rfl
  have HW := Fk.hide hW
  have HB0 := Fk.hide B_0
  clear hW B_0 g0
  go_enter Try.func12, Try.ntmps12
  go_wp2_with fail
  rw [← HW.out]
  refine (szNew_any _ _ _ _ _ _ _ (HG0.out.below HB0.out) (HG1.out.below HB0.out) n0.1 n0.2 HX0.out.1 HX0.out.2 (by decide) (by decide)).mono ?_
  rintro e W1 ⟨⟨r, rfl, hr⟩, k1⟩
  have HB1 : Hid (Below w.heap.size w W1) := HB0.out.trans (k1.mono HB0.out.size)
  have hz1 : W0.heap.size ≤ W1.heap.size := k1.size
  have cAa_1 : W1.cell? ⟨w.heap.size, 0, none⟩ = some (.slice sa B0.length sc) := (k1.cell (by show w.heap.size < _; omega)).trans cAa_0
  have cAb_1 : W1.cell? ⟨w.heap.size, 1, none⟩ = some (.slice ta A0.length tc) := (k1.cell (by show w.heap.size < _; omega)).trans cAb_0
  have cAc_1 : W1.cell? ⟨w.heap.size, 2, none⟩ = some (.int .i64 K0) := (k1.cell (by show w.heap.size < _; omega)).trans cAc_0
  clear k1 cAa_0 cAb_0 cAc_0
  rcases hr with rfl | ⟨hr0, hr⟩
  · go_wp2_with fail
    go_ret
    exact ⟨rfl, HB1.out⟩
  have hl0 : B0.length ≤ 1048576 := by omega
  have hl1 : A0.length ≤ 1048576 := by omega
  have HM0 : Hid ((Nb.flat B0).length ≤ 1048576) := by show _ ≤ _; omega
  have HM1 : Hid ((Nb.flat A0).length ≤ 1048576) := by show _ ≤ _; omega
  clear hr
  have HE0 : Hid (∀ i, i < B0.length → (Lv.at' B0 i).2.length ≤ 1048576) := fun i hi => Nat.le_trans (Nb.each_le B0 i hi) HM0.out
  have HE1 : Hid (∀ i, i < A0.length → (Lv.at' A0 i).2.length ≤ 1048576) := fun i hi => Nat.le_trans (Nb.each_le A0 i hi) HM1.out
  obtain ⟨X, hX⟩ : ∃ x, x = Nb.find B0 A0 K0 a1 := ⟨_, rfl⟩
  have FS : Hid (∀ w' u v, Lv.View w' u B0 → Lv.View w' v A0 → Calls Try.prog 52 #[.agg #[u, v, .int .i64 K0], .int .i64 a1] w' fun e w'' => e = .returned (.agg #[.int .i64 X.1, .int .i64 X.2.1, .int .i64 X.2.2.1, .int .i64 X.2.2.2.1, .bool X.2.2.2.2.1, .int .i64 X.2.2.2.2.2.1, .int .i64 X.2.2.2.2.2.2.1, .bool X.2.2.2.2.2.2.2]) ∧ Below w'.heap.size w' w'') := fun w' u v h1 h2 => by rw [hX]; exact newFind_spec u v K0 a1 B0 A0 w' h1 h2 hl0 hl1 HM0.out HM1.out
  have FI : Hid (∀ w' u v, Lv.View w' u B0 → Lv.View w' v A0 → Calls Try.prog 53 #[.agg #[u, v, .int .i64 K0], .int .i64 a1] w' fun e w'' => e = .returned (.agg #[.int .i64 X.1, .int .i64 X.2.1, .int .i64 X.2.2.1, .int .i64 X.2.2.2.1, .bool X.2.2.2.2.1, .int .i64 X.2.2.2.2.2.1, .int .i64 X.2.2.2.2.2.2.1, .bool X.2.2.2.2.2.2.2]) ∧ Below w'.heap.size w' w'') := fun w' u v h1 h2 => by rw [hX]; exact newFind_impl u v K0 a1 w1 B0 A0 w' h1 h2 hl0 hl1 HM0.out HM1.out
  clear hX
  go_wp2_with fail
  refine (toNew_any _ _ _ B0 A0 _ (HG0.out.below HB1.out) (HG1.out.below HB1.out) hl0 hl1 HE0.out HE1.out).mono ?_
  rintro e W2 ⟨⟨up, vp, hbp, hap, midp, rfl, pp, qp, unp, hip, hjp⟩, k2⟩
  obtain ⟨ap, cp, rfl⟩ := pp.slice
  obtain ⟨bp, dp, rfl⟩ := qp.slice
  have pb_2 := Fk.hide pp.view
  have pa_2 := Fk.hide qp.view
  clear pp qp unp hip hjp
  have HB2 : Hid (Below w.heap.size w W2) := HB1.out.trans (k2.mono HB1.out.size)
  have hz2 : W1.heap.size ≤ W2.heap.size := k2.size
  have cAa_2 : W2.cell? ⟨w.heap.size, 0, none⟩ = some (.slice sa B0.length sc) := (k2.cell (by show w.heap.size < _; omega)).trans cAa_1
  have cAb_2 : W2.cell? ⟨w.heap.size, 1, none⟩ = some (.slice ta A0.length tc) := (k2.cell (by show w.heap.size < _; omega)).trans cAb_1
  have cAc_2 : W2.cell? ⟨w.heap.size, 2, none⟩ = some (.int .i64 K0) := (k2.cell (by show w.heap.size < _; omega)).trans cAc_1
  clear k2 cAa_1 cAb_1 cAc_1
  go_wp2_with fail
  refine (FS.out _ _ _ (pb_2.out) (pa_2.out)).mono ?_
  rintro e W3 ⟨rfl, k3⟩
  have HB3 : Hid (Below w.heap.size w W3) := HB2.out.trans (k3.mono HB2.out.size)
  have hz3 : W2.heap.size ≤ W3.heap.size := k3.size
  have cAa_3 : W3.cell? ⟨w.heap.size, 0, none⟩ = some (.slice sa B0.length sc) := (k3.cell (by show w.heap.size < _; omega)).trans cAa_2
  have cAb_3 : W3.cell? ⟨w.heap.size, 1, none⟩ = some (.slice ta A0.length tc) := (k3.cell (by show w.heap.size < _; omega)).trans cAb_2
  have cAc_3 : W3.cell? ⟨w.heap.size, 2, none⟩ = some (.int .i64 K0) := (k3.cell (by show w.heap.size < _; omega)).trans cAc_2
  have pb_3 := Fk.hide (pb_2.out.below k3)
  have pa_3 := Fk.hide (pa_2.out.below k3)
  clear k3 cAa_2 cAb_2 cAc_2 pb_2 pa_2
  clear pb_3
  clear pa_3
  have lcAa_ : (W3.alloc (.cells #[.int .i64 X.1, .int .i64 X.2.1, .int .i64 X.2.2.1, .int .i64 X.2.2.2.1, .bool X.2.2.2.2.1, .int .i64 X.2.2.2.2.2.1, .int .i64 X.2.2.2.2.2.2.1, .bool X.2.2.2.2.2.2.2] 55)).cell? ⟨w.heap.size, 0, none⟩ = some (.slice sa B0.length sc) := by rw [Fk.cellOld _ _ _ _ (by omega)]; exact cAa_3
  have lcAb_ : (W3.alloc (.cells #[.int .i64 X.1, .int .i64 X.2.1, .int .i64 X.2.2.1, .int .i64 X.2.2.2.1, .bool X.2.2.2.2.1, .int .i64 X.2.2.2.2.2.1, .int .i64 X.2.2.2.2.2.2.1, .bool X.2.2.2.2.2.2.2] 55)).cell? ⟨w.heap.size, 1, none⟩ = some (.slice ta A0.length tc) := by rw [Fk.cellOld _ _ _ _ (by omega)]; exact cAb_3
  have lcAc_ : (W3.alloc (.cells #[.int .i64 X.1, .int .i64 X.2.1, .int .i64 X.2.2.1, .int .i64 X.2.2.2.1, .bool X.2.2.2.2.1, .int .i64 X.2.2.2.2.2.1, .int .i64 X.2.2.2.2.2.2.1, .bool X.2.2.2.2.2.2.2] 55)).cell? ⟨w.heap.size, 2, none⟩ = some (.int .i64 K0) := by rw [Fk.cellOld _ _ _ _ (by omega)]; exact cAc_3
  go_wp2_with fail
  clear lcAa_ lcAb_ lcAc_
  obtain ⟨W4, hW4⟩ : ∃ W, W = (W3.alloc (.cells #[.int .i64 X.1, .int .i64 X.2.1, .int .i64 X.2.2.1, .int .i64 X.2.2.2.1, .bool X.2.2.2.2.1, .int .i64 X.2.2.2.2.2.1, .int .i64 X.2.2.2.2.2.2.1, .bool X.2.2.2.2.2.2.2] 55)) := ⟨_, rfl⟩
  have k4 : Below W3.heap.size W3 W4 := by rw [hW4]; exact (Below.refl _ _).alloc (Nat.le_refl _) _
  have hy4 : W3.heap.size < W4.heap.size := by rw [hW4]; simp
  have swa_4 : W4.cell? ⟨W3.heap.size, 0, none⟩ = some (.int .i64 X.1) := by rw [hW4, Fk.cellTop _ _ _ _ _ rfl]; rfl
  have swb_4 : W4.cell? ⟨W3.heap.size, 1, none⟩ = some (.int .i64 X.2.1) := by rw [hW4, Fk.cellTop _ _ _ _ _ rfl]; rfl
  have swc_4 : W4.cell? ⟨W3.heap.size, 2, none⟩ = some (.int .i64 X.2.2.1) := by rw [hW4, Fk.cellTop _ _ _ _ _ rfl]; rfl
  have swd_4 : W4.cell? ⟨W3.heap.size, 3, none⟩ = some (.int .i64 X.2.2.2.1) := by rw [hW4, Fk.cellTop _ _ _ _ _ rfl]; rfl
  have swe_4 : W4.cell? ⟨W3.heap.size, 4, none⟩ = some (.bool X.2.2.2.2.1) := by rw [hW4, Fk.cellTop _ _ _ _ _ rfl]; rfl
  have swf_4 : W4.cell? ⟨W3.heap.size, 5, none⟩ = some (.int .i64 X.2.2.2.2.2.1) := by rw [hW4, Fk.cellTop _ _ _ _ _ rfl]; rfl
  have swg_4 : W4.cell? ⟨W3.heap.size, 6, none⟩ = some (.int .i64 X.2.2.2.2.2.2.1) := by rw [hW4, Fk.cellTop _ _ _ _ _ rfl]; rfl
  have swh_4 : W4.cell? ⟨W3.heap.size, 7, none⟩ = some (.bool X.2.2.2.2.2.2.2) := by rw [hW4, Fk.cellTop _ _ _ _ _ rfl]; rfl
  have HW4 := Fk.hide hW4
  clear hW4
  have HB4 : Hid (Below w.heap.size w W4) := HB3.out.trans (k4.mono HB3.out.size)
  have hz4 : W3.heap.size ≤ W4.heap.size := k4.size
  have cAa_4 : W4.cell? ⟨w.heap.size, 0, none⟩ = some (.slice sa B0.length sc) := (k4.cell (by show w.heap.size < _; omega)).trans cAa_3
  have cAb_4 : W4.cell? ⟨w.heap.size, 1, none⟩ = some (.slice ta A0.length tc) := (k4.cell (by show w.heap.size < _; omega)).trans cAb_3
  have cAc_4 : W4.cell? ⟨w.heap.size, 2, none⟩ = some (.int .i64 K0) := (k4.cell (by show w.heap.size < _; omega)).trans cAc_3
  clear k4 cAa_3 cAb_3 cAc_3
  rw [← HW4.out]
  refine (toNew_any _ _ _ B0 A0 _ (HG0.out.below HB4.out) (HG1.out.below HB4.out) hl0 hl1 HE0.out HE1.out).mono ?_
  rintro e W5 ⟨⟨ux, vx, hbx, hax, midx, rfl, px, qx, unx, hix, hjx⟩, k5⟩
  obtain ⟨ax, cx, rfl⟩ := px.slice
  obtain ⟨bx, dx, rfl⟩ := qx.slice
  have xb_5 := Fk.hide px.view
  have xa_5 := Fk.hide qx.view
  clear px qx unx hix hjx
  have HB5 : Hid (Below w.heap.size w W5) := HB4.out.trans (k5.mono HB4.out.size)
  have hz5 : W4.heap.size ≤ W5.heap.size := k5.size
  have cAa_5 : W5.cell? ⟨w.heap.size, 0, none⟩ = some (.slice sa B0.length sc) := (k5.cell (by show w.heap.size < _; omega)).trans cAa_4
  have cAb_5 : W5.cell? ⟨w.heap.size, 1, none⟩ = some (.slice ta A0.length tc) := (k5.cell (by show w.heap.size < _; omega)).trans cAb_4
  have cAc_5 : W5.cell? ⟨w.heap.size, 2, none⟩ = some (.int .i64 K0) := (k5.cell (by show w.heap.size < _; omega)).trans cAc_4
  have swa_5 : W5.cell? ⟨W3.heap.size, 0, none⟩ = some (.int .i64 X.1) := (k5.cell (by show W3.heap.size < _; omega)).trans swa_4
  have swb_5 : W5.cell? ⟨W3.heap.size, 1, none⟩ = some (.int .i64 X.2.1) := (k5.cell (by show W3.heap.size < _; omega)).trans swb_4
  have swc_5 : W5.cell? ⟨W3.heap.size, 2, none⟩ = some (.int .i64 X.2.2.1) := (k5.cell (by show W3.heap.size < _; omega)).trans swc_4
  have swd_5 : W5.cell? ⟨W3.heap.size, 3, none⟩ = some (.int .i64 X.2.2.2.1) := (k5.cell (by show W3.heap.size < _; omega)).trans swd_4
  have swe_5 : W5.cell? ⟨W3.heap.size, 4, none⟩ = some (.bool X.2.2.2.2.1) := (k5.cell (by show W3.heap.size < _; omega)).trans swe_4
  have swf_5 : W5.cell? ⟨W3.heap.size, 5, none⟩ = some (.int .i64 X.2.2.2.2.2.1) := (k5.cell (by show W3.heap.size < _; omega)).trans swf_4
  have swg_5 : W5.cell? ⟨W3.heap.size, 6, none⟩ = some (.int .i64 X.2.2.2.2.2.2.1) := (k5.cell (by show W3.heap.size < _; omega)).trans swg_4
  have swh_5 : W5.cell? ⟨W3.heap.size, 7, none⟩ = some (.bool X.2.2.2.2.2.2.2) := (k5.cell (by show W3.heap.size < _; omega)).trans swh_4
  clear k5 cAa_4 cAb_4 cAc_4 swa_4 swb_4 swc_4 swd_4 swe_4 swf_4 swg_4 swh_4
  have lcAa_ : (W5.alloc (.cells #[.slice ax B0.length cx, .slice bx A0.length dx, .int .i64 K0] 28)).cell? ⟨w.heap.size, 0, none⟩ = some (.slice sa B0.length sc) := by rw [Fk.cellOld _ _ _ _ (by omega)]; exact cAa_5
  have lcAb_ : (W5.alloc (.cells #[.slice ax B0.length cx, .slice bx A0.length dx, .int .i64 K0] 28)).cell? ⟨w.heap.size, 1, none⟩ = some (.slice ta A0.length tc) := by rw [Fk.cellOld _ _ _ _ (by omega)]; exact cAb_5
  have lcAc_ : (W5.alloc (.cells #[.slice ax B0.length cx, .slice bx A0.length dx, .int .i64 K0] 28)).cell? ⟨w.heap.size, 2, none⟩ = some (.int .i64 K0) := by rw [Fk.cellOld _ _ _ _ (by omega)]; exact cAc_5
  have lswa_ : (W5.alloc (.cells #[.slice ax B0.length cx, .slice bx A0.length dx, .int .i64 K0] 28)).cell? ⟨W3.heap.size, 0, none⟩ = some (.int .i64 X.1) := by rw [Fk.cellOld _ _ _ _ (by omega)]; exact swa_5
  have lswb_ : (W5.alloc (.cells #[.slice ax B0.length cx, .slice bx A0.length dx, .int .i64 K0] 28)).cell? ⟨W3.heap.size, 1, none⟩ = some (.int .i64 X.2.1) := by rw [Fk.cellOld _ _ _ _ (by omega)]; exact swb_5
  have lswc_ : (W5.alloc (.cells #[.slice ax B0.length cx, .slice bx A0.length dx, .int .i64 K0] 28)).cell? ⟨W3.heap.size, 2, none⟩ = some (.int .i64 X.2.2.1) := by rw [Fk.cellOld _ _ _ _ (by omega)]; exact swc_5
  have lswd_ : (W5.alloc (.cells #[.slice ax B0.length cx, .slice bx A0.length dx, .int .i64 K0] 28)).cell? ⟨W3.heap.size, 3, none⟩ = some (.int .i64 X.2.2.2.1) := by rw [Fk.cellOld _ _ _ _ (by omega)]; exact swd_5
  have lswe_ : (W5.alloc (.cells #[.slice ax B0.length cx, .slice bx A0.length dx, .int .i64 K0] 28)).cell? ⟨W3.heap.size, 4, none⟩ = some (.bool X.2.2.2.2.1) := by rw [Fk.cellOld _ _ _ _ (by omega)]; exact swe_5
  have lswf_ : (W5.alloc (.cells #[.slice ax B0.length cx, .slice bx A0.length dx, .int .i64 K0] 28)).cell? ⟨W3.heap.size, 5, none⟩ = some (.int .i64 X.2.2.2.2.2.1) := by rw [Fk.cellOld _ _ _ _ (by omega)]; exact swf_5
  have lswg_ : (W5.alloc (.cells #[.slice ax B0.length cx, .slice bx A0.length dx, .int .i64 K0] 28)).cell? ⟨W3.heap.size, 6, none⟩ = some (.int .i64 X.2.2.2.2.2.2.1) := by rw [Fk.cellOld _ _ _ _ (by omega)]; exact swg_5
  have lswh_ : (W5.alloc (.cells #[.slice ax B0.length cx, .slice bx A0.length dx, .int .i64 K0] 28)).cell? ⟨W3.heap.size, 7, none⟩ = some (.bool X.2.2.2.2.2.2.2) := by rw [Fk.cellOld _ _ _ _ (by omega)]; exact swh_5
  go_wp2_with fail
  clear lcAa_ lcAb_ lcAc_ lswa_ lswb_ lswc_ lswd_ lswe_ lswf_ lswg_ lswh_
  obtain ⟨W6, hW6⟩ : ∃ W, W = (W5.alloc (.cells #[.slice ax B0.length cx, .slice bx A0.length dx, .int .i64 K0] 28)) := ⟨_, rfl⟩
  have k6 : Below W5.heap.size W5 W6 := by rw [hW6]; exact (Below.refl _ _).alloc (Nat.le_refl _) _
  have hy6 : W5.heap.size < W6.heap.size := by rw [hW6]; simp
  have sxa_6 : W6.cell? ⟨W5.heap.size, 0, none⟩ = some (.slice ax B0.length cx) := by rw [hW6, Fk.cellTop _ _ _ _ _ rfl]; rfl
  have sxb_6 : W6.cell? ⟨W5.heap.size, 1, none⟩ = some (.slice bx A0.length dx) := by rw [hW6, Fk.cellTop _ _ _ _ _ rfl]; rfl
  have sxc_6 : W6.cell? ⟨W5.heap.size, 2, none⟩ = some (.int .i64 K0) := by rw [hW6, Fk.cellTop _ _ _ _ _ rfl]; rfl
  have HW6 := Fk.hide hW6
  clear hW6
  have HB6 : Hid (Below w.heap.size w W6) := HB5.out.trans (k6.mono HB5.out.size)
  have hz6 : W5.heap.size ≤ W6.heap.size := k6.size
  have cAa_6 : W6.cell? ⟨w.heap.size, 0, none⟩ = some (.slice sa B0.length sc) := (k6.cell (by show w.heap.size < _; omega)).trans cAa_5
  have cAb_6 : W6.cell? ⟨w.heap.size, 1, none⟩ = some (.slice ta A0.length tc) := (k6.cell (by show w.heap.size < _; omega)).trans cAb_5
  have cAc_6 : W6.cell? ⟨w.heap.size, 2, none⟩ = some (.int .i64 K0) := (k6.cell (by show w.heap.size < _; omega)).trans cAc_5
  have swa_6 : W6.cell? ⟨W3.heap.size, 0, none⟩ = some (.int .i64 X.1) := (k6.cell (by show W3.heap.size < _; omega)).trans swa_5
  have swb_6 : W6.cell? ⟨W3.heap.size, 1, none⟩ = some (.int .i64 X.2.1) := (k6.cell (by show W3.heap.size < _; omega)).trans swb_5
  have swc_6 : W6.cell? ⟨W3.heap.size, 2, none⟩ = some (.int .i64 X.2.2.1) := (k6.cell (by show W3.heap.size < _; omega)).trans swc_5
  have swd_6 : W6.cell? ⟨W3.heap.size, 3, none⟩ = some (.int .i64 X.2.2.2.1) := (k6.cell (by show W3.heap.size < _; omega)).trans swd_5
  have swe_6 : W6.cell? ⟨W3.heap.size, 4, none⟩ = some (.bool X.2.2.2.2.1) := (k6.cell (by show W3.heap.size < _; omega)).trans swe_5
  have swf_6 : W6.cell? ⟨W3.heap.size, 5, none⟩ = some (.int .i64 X.2.2.2.2.2.1) := (k6.cell (by show W3.heap.size < _; omega)).trans swf_5
  have swg_6 : W6.cell? ⟨W3.heap.size, 6, none⟩ = some (.int .i64 X.2.2.2.2.2.2.1) := (k6.cell (by show W3.heap.size < _; omega)).trans swg_5
  have swh_6 : W6.cell? ⟨W3.heap.size, 7, none⟩ = some (.bool X.2.2.2.2.2.2.2) := (k6.cell (by show W3.heap.size < _; omega)).trans swh_5
  have xb_6 := Fk.hide (xb_5.out.below k6)
  have xa_6 := Fk.hide (xa_5.out.below k6)
  clear k6 cAa_5 cAb_5 cAc_5 swa_5 swb_5 swc_5 swd_5 swe_5 swf_5 swg_5 swh_5 xb_5 xa_5
  rw [← HW6.out]
  refine (FI.out _ _ _ (xb_6.out) (xa_6.out)).mono ?_
  rintro e W7 ⟨rfl, k7⟩
  have HB7 : Hid (Below w.heap.size w W7) := HB6.out.trans (k7.mono HB6.out.size)
  have hz7 : W6.heap.size ≤ W7.heap.size := k7.size
  have cAa_7 : W7.cell? ⟨w.heap.size, 0, none⟩ = some (.slice sa B0.length sc) := (k7.cell (by show w.heap.size < _; omega)).trans cAa_6
  have cAb_7 : W7.cell? ⟨w.heap.size, 1, none⟩ = some (.slice ta A0.length tc) := (k7.cell (by show w.heap.size < _; omega)).trans cAb_6
  have cAc_7 : W7.cell? ⟨w.heap.size, 2, none⟩ = some (.int .i64 K0) := (k7.cell (by show w.heap.size < _; omega)).trans cAc_6
  have swa_7 : W7.cell? ⟨W3.heap.size, 0, none⟩ = some (.int .i64 X.1) := (k7.cell (by show W3.heap.size < _; omega)).trans swa_6
  have swb_7 : W7.cell? ⟨W3.heap.size, 1, none⟩ = some (.int .i64 X.2.1) := (k7.cell (by show W3.heap.size < _; omega)).trans swb_6
  have swc_7 : W7.cell? ⟨W3.heap.size, 2, none⟩ = some (.int .i64 X.2.2.1) := (k7.cell (by show W3.heap.size < _; omega)).trans swc_6
  have swd_7 : W7.cell? ⟨W3.heap.size, 3, none⟩ = some (.int .i64 X.2.2.2.1) := (k7.cell (by show W3.heap.size < _; omega)).trans swd_6
  have swe_7 : W7.cell? ⟨W3.heap.size, 4, none⟩ = some (.bool X.2.2.2.2.1) := (k7.cell (by show W3.heap.size < _; omega)).trans swe_6
  have swf_7 : W7.cell? ⟨W3.heap.size, 5, none⟩ = some (.int .i64 X.2.2.2.2.2.1) := (k7.cell (by show W3.heap.size < _; omega)).trans swf_6
  have swg_7 : W7.cell? ⟨W3.heap.size, 6, none⟩ = some (.int .i64 X.2.2.2.2.2.2.1) := (k7.cell (by show W3.heap.size < _; omega)).trans swg_6
  have swh_7 : W7.cell? ⟨W3.heap.size, 7, none⟩ = some (.bool X.2.2.2.2.2.2.2) := (k7.cell (by show W3.heap.size < _; omega)).trans swh_6
  have sxa_7 : W7.cell? ⟨W5.heap.size, 0, none⟩ = some (.slice ax B0.length cx) := (k7.cell (by show W5.heap.size < _; omega)).trans sxa_6
  have sxb_7 : W7.cell? ⟨W5.heap.size, 1, none⟩ = some (.slice bx A0.length dx) := (k7.cell (by show W5.heap.size < _; omega)).trans sxb_6
  have sxc_7 : W7.cell? ⟨W5.heap.size, 2, none⟩ = some (.int .i64 K0) := (k7.cell (by show W5.heap.size < _; omega)).trans sxc_6
  have xb_7 := Fk.hide (xb_6.out.below k7)
  have xa_7 := Fk.hide (xa_6.out.below k7)
  clear k7 cAa_6 cAb_6 cAc_6 swa_6 swb_6 swc_6 swd_6 swe_6 swf_6 swg_6 swh_6 sxa_6 sxb_6 sxc_6 xb_6 xa_6
  have lcAa_ : (W7.alloc (.cells #[.int .i64 X.1, .int .i64 X.2.1, .int .i64 X.2.2.1, .int .i64 X.2.2.2.1, .bool X.2.2.2.2.1, .int .i64 X.2.2.2.2.2.1, .int .i64 X.2.2.2.2.2.2.1, .bool X.2.2.2.2.2.2.2] 55)).cell? ⟨w.heap.size, 0, none⟩ = some (.slice sa B0.length sc) := by rw [Fk.cellOld _ _ _ _ (by omega)]; exact cAa_7
  have lcAb_ : (W7.alloc (.cells #[.int .i64 X.1, .int .i64 X.2.1, .int .i64 X.2.2.1, .int .i64 X.2.2.2.1, .bool X.2.2.2.2.1, .int .i64 X.2.2.2.2.2.1, .int .i64 X.2.2.2.2.2.2.1, .bool X.2.2.2.2.2.2.2] 55)).cell? ⟨w.heap.size, 1, none⟩ = some (.slice ta A0.length tc) := by rw [Fk.cellOld _ _ _ _ (by omega)]; exact cAb_7
  have lcAc_ : (W7.alloc (.cells #[.int .i64 X.1, .int .i64 X.2.1, .int .i64 X.2.2.1, .int .i64 X.2.2.2.1, .bool X.2.2.2.2.1, .int .i64 X.2.2.2.2.2.1, .int .i64 X.2.2.2.2.2.2.1, .bool X.2.2.2.2.2.2.2] 55)).cell? ⟨w.heap.size, 2, none⟩ = some (.int .i64 K0) := by rw [Fk.cellOld _ _ _ _ (by omega)]; exact cAc_7
  have lswa_ : (W7.alloc (.cells #[.int .i64 X.1, .int .i64 X.2.1, .int .i64 X.2.2.1, .int .i64 X.2.2.2.1, .bool X.2.2.2.2.1, .int .i64 X.2.2.2.2.2.1, .int .i64 X.2.2.2.2.2.2.1, .bool X.2.2.2.2.2.2.2] 55)).cell? ⟨W3.heap.size, 0, none⟩ = some (.int .i64 X.1) := by rw [Fk.cellOld _ _ _ _ (by omega)]; exact swa_7
  have lswb_ : (W7.alloc (.cells #[.int .i64 X.1, .int .i64 X.2.1, .int .i64 X.2.2.1, .int .i64 X.2.2.2.1, .bool X.2.2.2.2.1, .int .i64 X.2.2.2.2.2.1, .int .i64 X.2.2.2.2.2.2.1, .bool X.2.2.2.2.2.2.2] 55)).cell? ⟨W3.heap.size, 1, none⟩ = some (.int .i64 X.2.1) := by rw [Fk.cellOld _ _ _ _ (by omega)]; exact swb_7
  have lswc_ : (W7.alloc (.cells #[.int .i64 X.1, .int .i64 X.2.1, .int .i64 X.2.2.1, .int .i64 X.2.2.2.1, .bool X.2.2.2.2.1, .int .i64 X.2.2.2.2.2.1, .int .i64 X.2.2.2.2.2.2.1, .bool X.2.2.2.2.2.2.2] 55)).cell? ⟨W3.heap.size, 2, none⟩ = some (.int .i64 X.2.2.1) := by rw [Fk.cellOld _ _ _ _ (by omega)]; exact swc_7
  have lswd_ : (W7.alloc (.cells #[.int .i64 X.1, .int .i64 X.2.1, .int .i64 X.2.2.1, .int .i64 X.2.2.2.1, .bool X.2.2.2.2.1, .int .i64 X.2.2.2.2.2.1, .int .i64 X.2.2.2.2.2.2.1, .bool X.2.2.2.2.2.2.2] 55)).cell? ⟨W3.heap.size, 3, none⟩ = some (.int .i64 X.2.2.2.1) := by rw [Fk.cellOld _ _ _ _ (by omega)]; exact swd_7
  have lswe_ : (W7.alloc (.cells #[.int .i64 X.1, .int .i64 X.2.1, .int .i64 X.2.2.1, .int .i64 X.2.2.2.1, .bool X.2.2.2.2.1, .int .i64 X.2.2.2.2.2.1, .int .i64 X.2.2.2.2.2.2.1, .bool X.2.2.2.2.2.2.2] 55)).cell? ⟨W3.heap.size, 4, none⟩ = some (.bool X.2.2.2.2.1) := by rw [Fk.cellOld _ _ _ _ (by omega)]; exact swe_7
  have lswf_ : (W7.alloc (.cells #[.int .i64 X.1, .int .i64 X.2.1, .int .i64 X.2.2.1, .int .i64 X.2.2.2.1, .bool X.2.2.2.2.1, .int .i64 X.2.2.2.2.2.1, .int .i64 X.2.2.2.2.2.2.1, .bool X.2.2.2.2.2.2.2] 55)).cell? ⟨W3.heap.size, 5, none⟩ = some (.int .i64 X.2.2.2.2.2.1) := by rw [Fk.cellOld _ _ _ _ (by omega)]; exact swf_7
  have lswg_ : (W7.alloc (.cells #[.int .i64 X.1, .int .i64 X.2.1, .int .i64 X.2.2.1, .int .i64 X.2.2.2.1, .bool X.2.2.2.2.1, .int .i64 X.2.2.2.2.2.1, .int .i64 X.2.2.2.2.2.2.1, .bool X.2.2.2.2.2.2.2] 55)).cell? ⟨W3.heap.size, 6, none⟩ = some (.int .i64 X.2.2.2.2.2.2.1) := by rw [Fk.cellOld _ _ _ _ (by omega)]; exact swg_7
  have lswh_ : (W7.alloc (.cells #[.int .i64 X.1, .int .i64 X.2.1, .int .i64 X.2.2.1, .int .i64 X.2.2.2.1, .bool X.2.2.2.2.1, .int .i64 X.2.2.2.2.2.1, .int .i64 X.2.2.2.2.2.2.1, .bool X.2.2.2.2.2.2.2] 55)).cell? ⟨W3.heap.size, 7, none⟩ = some (.bool X.2.2.2.2.2.2.2) := by rw [Fk.cellOld _ _ _ _ (by omega)]; exact swh_7
  have lsxa_ : (W7.alloc (.cells #[.int .i64 X.1, .int .i64 X.2.1, .int .i64 X.2.2.1, .int .i64 X.2.2.2.1, .bool X.2.2.2.2.1, .int .i64 X.2.2.2.2.2.1, .int .i64 X.2.2.2.2.2.2.1, .bool X.2.2.2.2.2.2.2] 55)).cell? ⟨W5.heap.size, 0, none⟩ = some (.slice ax B0.length cx) := by rw [Fk.cellOld _ _ _ _ (by omega)]; exact sxa_7
  have lsxb_ : (W7.alloc (.cells #[.int .i64 X.1, .int .i64 X.2.1, .int .i64 X.2.2.1, .int .i64 X.2.2.2.1, .bool X.2.2.2.2.1, .int .i64 X.2.2.2.2.2.1, .int .i64 X.2.2.2.2.2.2.1, .bool X.2.2.2.2.2.2.2] 55)).cell? ⟨W5.heap.size, 1, none⟩ = some (.slice bx A0.length dx) := by rw [Fk.cellOld _ _ _ _ (by omega)]; exact sxb_7
  have lsxc_ : (W7.alloc (.cells #[.int .i64 X.1, .int .i64 X.2.1, .int .i64 X.2.2.1, .int .i64 X.2.2.2.1, .bool X.2.2.2.2.1, .int .i64 X.2.2.2.2.2.1, .int .i64 X.2.2.2.2.2.2.1, .bool X.2.2.2.2.2.2.2] 55)).cell? ⟨W5.heap.size, 2, none⟩ = some (.int .i64 K0) := by rw [Fk.cellOld _ _ _ _ (by omega)]; exact sxc_7
  go_wp2_with fail
  clear lcAa_ lcAb_ lcAc_ lswa_ lswb_ lswc_ lswd_ lswe_ lswf_ lswg_ lswh_ lsxa_ lsxb_ lsxc_
  obtain ⟨W8, hW8⟩ : ∃ W, W = (W7.alloc (.cells #[.int .i64 X.1, .int .i64 X.2.1, .int .i64 X.2.2.1, .int .i64 X.2.2.2.1, .bool X.2.2.2.2.1, .int .i64 X.2.2.2.2.2.1, .int .i64 X.2.2.2.2.2.2.1, .bool X.2.2.2.2.2.2.2] 55)) := ⟨_, rfl⟩
  have k8 : Below W7.heap.size W7 W8 := by rw [hW8]; exact (Below.refl _ _).alloc (Nat.le_refl _) _
  have hy8 : W7.heap.size < W8.heap.size := by rw [hW8]; simp
  have sga_8 : W8.cell? ⟨W7.heap.size, 0, none⟩ = some (.int .i64 X.1) := by rw [hW8, Fk.cellTop _ _ _ _ _ rfl]; rfl
  have sgb_8 : W8.cell? ⟨W7.heap.size, 1, none⟩ = some (.int .i64 X.2.1) := by rw [hW8, Fk.cellTop _ _ _ _ _ rfl]; rfl
  have sgc_8 : W8.cell? ⟨W7.heap.size, 2, none⟩ = some (.int .i64 X.2.2.1) := by rw [hW8, Fk.cellTop _ _ _ _ _ rfl]; rfl
  have sgd_8 : W8.cell? ⟨W7.heap.size, 3, none⟩ = some (.int .i64 X.2.2.2.1) := by rw [hW8, Fk.cellTop _ _ _ _ _ rfl]; rfl
  have sge_8 : W8.cell? ⟨W7.heap.size, 4, none⟩ = some (.bool X.2.2.2.2.1) := by rw [hW8, Fk.cellTop _ _ _ _ _ rfl]; rfl
  have sgf_8 : W8.cell? ⟨W7.heap.size, 5, none⟩ = some (.int .i64 X.2.2.2.2.2.1) := by rw [hW8, Fk.cellTop _ _ _ _ _ rfl]; rfl
  have sgg_8 : W8.cell? ⟨W7.heap.size, 6, none⟩ = some (.int .i64 X.2.2.2.2.2.2.1) := by rw [hW8, Fk.cellTop _ _ _ _ _ rfl]; rfl
  have sgh_8 : W8.cell? ⟨W7.heap.size, 7, none⟩ = some (.bool X.2.2.2.2.2.2.2) := by rw [hW8, Fk.cellTop _ _ _ _ _ rfl]; rfl
  have HW8 := Fk.hide hW8
  clear hW8
  have HB8 : Hid (Below w.heap.size w W8) := HB7.out.trans (k8.mono HB7.out.size)
  have hz8 : W7.heap.size ≤ W8.heap.size := k8.size
  have cAa_8 : W8.cell? ⟨w.heap.size, 0, none⟩ = some (.slice sa B0.length sc) := (k8.cell (by show w.heap.size < _; omega)).trans cAa_7
  have cAb_8 : W8.cell? ⟨w.heap.size, 1, none⟩ = some (.slice ta A0.length tc) := (k8.cell (by show w.heap.size < _; omega)).trans cAb_7
  have cAc_8 : W8.cell? ⟨w.heap.size, 2, none⟩ = some (.int .i64 K0) := (k8.cell (by show w.heap.size < _; omega)).trans cAc_7
  have swa_8 : W8.cell? ⟨W3.heap.size, 0, none⟩ = some (.int .i64 X.1) := (k8.cell (by show W3.heap.size < _; omega)).trans swa_7
  have swb_8 : W8.cell? ⟨W3.heap.size, 1, none⟩ = some (.int .i64 X.2.1) := (k8.cell (by show W3.heap.size < _; omega)).trans swb_7
  have swc_8 : W8.cell? ⟨W3.heap.size, 2, none⟩ = some (.int .i64 X.2.2.1) := (k8.cell (by show W3.heap.size < _; omega)).trans swc_7
  have swd_8 : W8.cell? ⟨W3.heap.size, 3, none⟩ = some (.int .i64 X.2.2.2.1) := (k8.cell (by show W3.heap.size < _; omega)).trans swd_7
  have swe_8 : W8.cell? ⟨W3.heap.size, 4, none⟩ = some (.bool X.2.2.2.2.1) := (k8.cell (by show W3.heap.size < _; omega)).trans swe_7
  have swf_8 : W8.cell? ⟨W3.heap.size, 5, none⟩ = some (.int .i64 X.2.2.2.2.2.1) := (k8.cell (by show W3.heap.size < _; omega)).trans swf_7
  have swg_8 : W8.cell? ⟨W3.heap.size, 6, none⟩ = some (.int .i64 X.2.2.2.2.2.2.1) := (k8.cell (by show W3.heap.size < _; omega)).trans swg_7
  have swh_8 : W8.cell? ⟨W3.heap.size, 7, none⟩ = some (.bool X.2.2.2.2.2.2.2) := (k8.cell (by show W3.heap.size < _; omega)).trans swh_7
  have sxa_8 : W8.cell? ⟨W5.heap.size, 0, none⟩ = some (.slice ax B0.length cx) := (k8.cell (by show W5.heap.size < _; omega)).trans sxa_7
  have sxb_8 : W8.cell? ⟨W5.heap.size, 1, none⟩ = some (.slice bx A0.length dx) := (k8.cell (by show W5.heap.size < _; omega)).trans sxb_7
  have sxc_8 : W8.cell? ⟨W5.heap.size, 2, none⟩ = some (.int .i64 K0) := (k8.cell (by show W5.heap.size < _; omega)).trans sxc_7
  have xb_8 := Fk.hide (xb_7.out.below k8)
  have xa_8 := Fk.hide (xa_7.out.below k8)
  clear k8 cAa_7 cAb_7 cAc_7 swa_7 swb_7 swc_7 swd_7 swe_7 swf_7 swg_7 swh_7 sxa_7 sxb_7 sxc_7 xb_7 xa_7
  rw [← HW8.out]
  refine (eqOrder_same X.1 X.2.1 X.2.2.1 X.2.2.2.1 X.2.2.2.2.1 X.2.2.2.2.2.1 X.2.2.2.2.2.2.1 X.2.2.2.2.2.2.2 _).mono ?_
  rintro e W9 ⟨rfl, k9⟩
  have HB9 : Hid (Below w.heap.size w W9) := HB8.out.trans (k9.mono HB8.out.size)
  have hz9 : W8.heap.size ≤ W9.heap.size := k9.size
  have cAa_9 : W9.cell? ⟨w.heap.size, 0, none⟩ = some (.slice sa B0.length sc) := (k9.cell (by show w.heap.size < _; omega)).trans cAa_8
  have cAb_9 : W9.cell? ⟨w.heap.size, 1, none⟩ = some (.slice ta A0.length tc) := (k9.cell (by show w.heap.size < _; omega)).trans cAb_8
  have cAc_9 : W9.cell? ⟨w.heap.size, 2, none⟩ = some (.int .i64 K0) := (k9.cell (by show w.heap.size < _; omega)).trans cAc_8
  have swa_9 : W9.cell? ⟨W3.heap.size, 0, none⟩ = some (.int .i64 X.1) := (k9.cell (by show W3.heap.size < _; omega)).trans swa_8
  have swb_9 : W9.cell? ⟨W3.heap.size, 1, none⟩ = some (.int .i64 X.2.1) := (k9.cell (by show W3.heap.size < _; omega)).trans swb_8
  have swc_9 : W9.cell? ⟨W3.heap.size, 2, none⟩ = some (.int .i64 X.2.2.1) := (k9.cell (by show W3.heap.size < _; omega)).trans swc_8
  have swd_9 : W9.cell? ⟨W3.heap.size, 3, none⟩ = some (.int .i64 X.2.2.2.1) := (k9.cell (by show W3.heap.size < _; omega)).trans swd_8
  have swe_9 : W9.cell? ⟨W3.heap.size, 4, none⟩ = some (.bool X.2.2.2.2.1) := (k9.cell (by show W3.heap.size < _; omega)).trans swe_8
  have swf_9 : W9.cell? ⟨W3.heap.size, 5, none⟩ = some (.int .i64 X.2.2.2.2.2.1) := (k9.cell (by show W3.heap.size < _; omega)).trans swf_8
  have swg_9 : W9.cell? ⟨W3.heap.size, 6, none⟩ = some (.int .i64 X.2.2.2.2.2.2.1) := (k9.cell (by show W3.heap.size < _; omega)).trans swg_8
  have swh_9 : W9.cell? ⟨W3.heap.size, 7, none⟩ = some (.bool X.2.2.2.2.2.2.2) := (k9.cell (by show W3.heap.size < _; omega)).trans swh_8
  have sxa_9 : W9.cell? ⟨W5.heap.size, 0, none⟩ = some (.slice ax B0.length cx) := (k9.cell (by show W5.heap.size < _; omega)).trans sxa_8
  have sxb_9 : W9.cell? ⟨W5.heap.size, 1, none⟩ = some (.slice bx A0.length dx) := (k9.cell (by show W5.heap.size < _; omega)).trans sxb_8
  have sxc_9 : W9.cell? ⟨W5.heap.size, 2, none⟩ = some (.int .i64 K0) := (k9.cell (by show W5.heap.size < _; omega)).trans sxc_8
  have sga_9 : W9.cell? ⟨W7.heap.size, 0, none⟩ = some (.int .i64 X.1) := (k9.cell (by show W7.heap.size < _; omega)).trans sga_8
  have sgb_9 : W9.cell? ⟨W7.heap.size, 1, none⟩ = some (.int .i64 X.2.1) := (k9.cell (by show W7.heap.size < _; omega)).trans sgb_8
  have sgc_9 : W9.cell? ⟨W7.heap.size, 2, none⟩ = some (.int .i64 X.2.2.1) := (k9.cell (by show W7.heap.size < _; omega)).trans sgc_8
  have sgd_9 : W9.cell? ⟨W7.heap.size, 3, none⟩ = some (.int .i64 X.2.2.2.1) := (k9.cell (by show W7.heap.size < _; omega)).trans sgd_8
  have sge_9 : W9.cell? ⟨W7.heap.size, 4, none⟩ = some (.bool X.2.2.2.2.1) := (k9.cell (by show W7.heap.size < _; omega)).trans sge_8
  have sgf_9 : W9.cell? ⟨W7.heap.size, 5, none⟩ = some (.int .i64 X.2.2.2.2.2.1) := (k9.cell (by show W7.heap.size < _; omega)).trans sgf_8
  have sgg_9 : W9.cell? ⟨W7.heap.size, 6, none⟩ = some (.int .i64 X.2.2.2.2.2.2.1) := (k9.cell (by show W7.heap.size < _; omega)).trans sgg_8
  have sgh_9 : W9.cell? ⟨W7.heap.size, 7, none⟩ = some (.bool X.2.2.2.2.2.2.2) := (k9.cell (by show W7.heap.size < _; omega)).trans sgh_8
  have xb_9 := Fk.hide (xb_8.out.below k9)
  have xa_9 := Fk.hide (xa_8.out.below k9)
  clear k9 cAa_8 cAb_8 cAc_8 swa_8 swb_8 swc_8 swd_8 swe_8 swf_8 swg_8 swh_8 sxa_8 sxb_8 sxc_8 sga_8 sgb_8 sgc_8 sgd_8 sge_8 sgf_8 sgg_8 sgh_8 xb_8 xa_8
  go_wp2_with fail
  have vd0 := Fk.hide ((HG0.out.below HB9.out).below (Below.drew (Below.refl W9.heap.size W9)))
  have vd1 := Fk.hide ((HG1.out.below HB9.out).below (Below.drew (Below.refl W9.heap.size W9)))
  have ob := Fk.hide (xb_9.out.below (Below.drew (Below.refl W9.heap.size W9)))
  have oa := Fk.hide (xa_9.out.below (Below.drew (Below.refl W9.heap.size W9)))
  go_region_with (first
    | (go_at_call 26; refine (toNew_any _ _ _ B0 A0 _ vd0.out vd1.out hl0 hl1 HE0.out HE1.out).mono ?_; rintro e X1 ⟨⟨uq, vq, hbq, haq, midq, rfl, pq, qq, _, _, _⟩, m1⟩; obtain ⟨aq, jq, rfl⟩ := pq.slice; obtain ⟨ar, jr, rfl⟩ := qq.slice; have PQ := Fk.hide pq.view; have QQ := Fk.hide qq.view; clear pq qq; have dxa : X1.cell? ⟨W5.heap.size, 0, none⟩ = some (.slice ax B0.length cx) := (m1.cell (by show W5.heap.size < W9.heap.size; omega)).trans sxa_9; have dxb : X1.cell? ⟨W5.heap.size, 1, none⟩ = some (.slice bx A0.length dx) := (m1.cell (by show W5.heap.size < W9.heap.size; omega)).trans sxb_9; have dxc : X1.cell? ⟨W5.heap.size, 2, none⟩ = some (.int .i64 K0) := (m1.cell (by show W5.heap.size < W9.heap.size; omega)).trans sxc_9)
    | (go_at_call 19; refine (eqNew_same _ _ _ _ _ B0 A0 _ (ob.out.below m1) (oa.out.below m1) PQ.out QQ.out hl0 hl1 HE0.out HE1.out).mono ?_; rintro e W10 ⟨rfl, m2⟩))
  all_goals
    have k10 : Below W9.heap.size W9 W10 := (Below.trans (Below.drew (Below.refl _ _)) m1).trans (m2.mono m1.size)
    clear m1 m2 vd0 vd1 ob oa PQ QQ dxa dxb dxc
    have HB10 : Hid (Below w.heap.size w W10) := HB9.out.trans (k10.mono HB9.out.size)
    have hz10 : W9.heap.size ≤ W10.heap.size := k10.size
    have cAa_10 : W10.cell? ⟨w.heap.size, 0, none⟩ = some (.slice sa B0.length sc) := (k10.cell (by show w.heap.size < _; omega)).trans cAa_9
    have cAb_10 : W10.cell? ⟨w.heap.size, 1, none⟩ = some (.slice ta A0.length tc) := (k10.cell (by show w.heap.size < _; omega)).trans cAb_9
    have cAc_10 : W10.cell? ⟨w.heap.size, 2, none⟩ = some (.int .i64 K0) := (k10.cell (by show w.heap.size < _; omega)).trans cAc_9
    have swa_10 : W10.cell? ⟨W3.heap.size, 0, none⟩ = some (.int .i64 X.1) := (k10.cell (by show W3.heap.size < _; omega)).trans swa_9
    have swb_10 : W10.cell? ⟨W3.heap.size, 1, none⟩ = some (.int .i64 X.2.1) := (k10.cell (by show W3.heap.size < _; omega)).trans swb_9
    have swc_10 : W10.cell? ⟨W3.heap.size, 2, none⟩ = some (.int .i64 X.2.2.1) := (k10.cell (by show W3.heap.size < _; omega)).trans swc_9
    have swd_10 : W10.cell? ⟨W3.heap.size, 3, none⟩ = some (.int .i64 X.2.2.2.1) := (k10.cell (by show W3.heap.size < _; omega)).trans swd_9
    have swe_10 : W10.cell? ⟨W3.heap.size, 4, none⟩ = some (.bool X.2.2.2.2.1) := (k10.cell (by show W3.heap.size < _; omega)).trans swe_9
    have swf_10 : W10.cell? ⟨W3.heap.size, 5, none⟩ = some (.int .i64 X.2.2.2.2.2.1) := (k10.cell (by show W3.heap.size < _; omega)).trans swf_9
    have swg_10 : W10.cell? ⟨W3.heap.size, 6, none⟩ = some (.int .i64 X.2.2.2.2.2.2.1) := (k10.cell (by show W3.heap.size < _; omega)).trans swg_9
    have swh_10 : W10.cell? ⟨W3.heap.size, 7, none⟩ = some (.bool X.2.2.2.2.2.2.2) := (k10.cell (by show W3.heap.size < _; omega)).trans swh_9
    have sxa_10 : W10.cell? ⟨W5.heap.size, 0, none⟩ = some (.slice ax B0.length cx) := (k10.cell (by show W5.heap.size < _; omega)).trans sxa_9
    have sxb_10 : W10.cell? ⟨W5.heap.size, 1, none⟩ = some (.slice bx A0.length dx) := (k10.cell (by show W5.heap.size < _; omega)).trans sxb_9
    have sxc_10 : W10.cell? ⟨W5.heap.size, 2, none⟩ = some (.int .i64 K0) := (k10.cell (by show W5.heap.size < _; omega)).trans sxc_9
    have sga_10 : W10.cell? ⟨W7.heap.size, 0, none⟩ = some (.int .i64 X.1) := (k10.cell (by show W7.heap.size < _; omega)).trans sga_9
    have sgb_10 : W10.cell? ⟨W7.heap.size, 1, none⟩ = some (.int .i64 X.2.1) := (k10.cell (by show W7.heap.size < _; omega)).trans sgb_9
    have sgc_10 : W10.cell? ⟨W7.heap.size, 2, none⟩ = some (.int .i64 X.2.2.1) := (k10.cell (by show W7.heap.size < _; omega)).trans sgc_9
    have sgd_10 : W10.cell? ⟨W7.heap.size, 3, none⟩ = some (.int .i64 X.2.2.2.1) := (k10.cell (by show W7.heap.size < _; omega)).trans sgd_9
    have sge_10 : W10.cell? ⟨W7.heap.size, 4, none⟩ = some (.bool X.2.2.2.2.1) := (k10.cell (by show W7.heap.size < _; omega)).trans sge_9
    have sgf_10 : W10.cell? ⟨W7.heap.size, 5, none⟩ = some (.int .i64 X.2.2.2.2.2.1) := (k10.cell (by show W7.heap.size < _; omega)).trans sgf_9
    have sgg_10 : W10.cell? ⟨W7.heap.size, 6, none⟩ = some (.int .i64 X.2.2.2.2.2.2.1) := (k10.cell (by show W7.heap.size < _; omega)).trans sgg_9
    have sgh_10 : W10.cell? ⟨W7.heap.size, 7, none⟩ = some (.bool X.2.2.2.2.2.2.2) := (k10.cell (by show W7.heap.size < _; omega)).trans sgh_9
    have xb_10 := Fk.hide (xb_9.out.below k10)
    have xa_10 := Fk.hide (xa_9.out.below k10)
    clear k10 cAa_9 cAb_9 cAc_9 swa_9 swb_9 swc_9 swd_9 swe_9 swf_9 swg_9 swh_9 sxa_9 sxb_9 sxc_9 sga_9 sgb_9 sgc_9 sgd_9 sge_9 sgf_9 sgg_9 sgh_9 xb_9 xa_9
    go_wp2_with fail
    go_ret
    exact ⟨rfl, HB10.out⟩

set_option maxRecDepth 100000 in
theorem lifted (os : Os) (started : os.Started) (H : Type) (enc : TypeId × Value → H) :
    ReturnsInHanded {} Try.checked os 12 .any (Rows.fnExactNewFindSpec.pre6 enc Try.prog Try.f12 Rows.fnExactNewFindRow.domain false) (Rows.fnExactNewFindSpec.post enc Try.prog Try.f12 false true false false) := by
  refine returnsInHanded_of_change (C := Try.checked) own started (by kernel_rfl) Try.func12
    (ChangeSpec.witness6 (enc := enc) (C := Try.checked) false ⟨#[], #[.agg #[.slice none 0 0, .slice none 0 0, .int .i64 0], .int .i64 0], []⟩ 8 (by kernel_rfl) (by kernel_rfl) (by kernel_rfl) (by kernel_rfl)) ?_
  intro W base args ds gs before hval0 hW hcnd _
  have hval : ∀ (j : Nat) t v, Try.f12.params[j]? = some t → args[j]? = some v → Value.okWide Try.prog W .any base t v := hval0
  have hW' := hW
  obtain ⟨p, q, hA0, hV, rfl, hfz, hnd⟩ := hW
  have hA : DataW.TrodAll enc Try.prog W 0 (fun _ => true) true Try.f12.params.toList args.toList ds p := hA0
  rw [Try.params12] at hA hval
  obtain ⟨v0, vs0, d0, ds0, p0, q0, hargs, rfl, rfl, h0, r0⟩ := trodAll_cons hA
  obtain ⟨v1, vs1, d1, ds1, p1, q1, rfl, rfl, rfl, h1, r1⟩ := trodAll_cons r0
  obtain ⟨rfl, rfl, rfl⟩ := trodAll_nil r1
  obtain rfl : args = #[v0, v1] := by cases args; simp_all
  obtain ⟨rfl, rfl⟩ := trodVars_none hV
  have hlt : ∀ x ∈ p0 ++ (p1 ++ ([])), x.block < W.heap.size := fun x hx => hW'.lt x (by simpa using hx)
  have k0 := h0
  obtain ⟨a0, b0, K0, B0, A0, rfl, w0, n0, x0, g0⟩ := Nb.open_new (hval 0 41 v0 rfl rfl) h0
  have k1 := h1
  obtain ⟨a1, rfl, rfl, rfl, w1⟩ := open_int Try.underlying2 (hval 1 2 v1 rfl rfl) h1
  clear hA0 hval0
  have e1 : Rows.fnExactNewFindSpec.fn H ([d0, .lit (.int .i64 a1)] ++ []) = { results := [.lit (.bool true)], args := [d0, .lit (.int .i64 a1)] } := by simp [Rows.fnExactNewFindSpec]
  refine (walk a0 b0 K0 B0 A0 w0 n0 x0 a1 w1 W g0).mono fun e W' ⟨he, bel⟩ => ?_
  subst he
  refine ⟨_, rfl, _, _, _, [], p0 ++ ([] ++ ([])), [], hW', ?_, ?_, ?_, bel.frame _, fun h => by cases h⟩
  · rw [e1]; exact trodAll_mk1 (shut_bool Try.underlying4 true)
  · rw [e1]; exact (trodAll_cons_mk (Below.trod laidOut (by kernel_rfl) (of_decide_eq_true (by kernel_rfl)) k0 bel (fun x hx => hlt x (by simp [hx]))) (trodAll_cons_mk (shut_int Try.underlying2 w1) trodAll_mk0))
  · rw [e1]; rfl

theorem over : Rows.fnExactNewFindRow.holds Try.pinned (OpenSpec.ofChange Rows.fnExactNewFindSpec) :=
  OpenClaim.holds_of_wide 12 Try.f12 rfl rfl rfl rfl rfl rfl rfl ⟨rfl, rfl, rfl, rfl, rfl⟩ rfl rfl rfl rfl rfl (by kernel_rfl) Try.func12 (by kernel_rfl)
    (of_decide_eq_true (by kernel_rfl)) (by unfold Func.isWrapper; rw [if_neg (of_decide_eq_false (by kernel_rfl))]; exact ⟨rfl, rfl⟩)
    (fun os started H enc _ => lifted os started H enc)

/-- the statement -/
theorem proved : Rows.FnExactNewFindSaid :=
  over
#print axioms proved
end Go.Proofs.Ytjagohadeegghaa.fnExactNewFind

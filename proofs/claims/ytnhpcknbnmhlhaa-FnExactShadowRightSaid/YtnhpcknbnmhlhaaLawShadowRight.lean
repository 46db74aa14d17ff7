/- Proved: for every argument the exact law of ShadowRight returns true: impl.ShadowRight answers as the specification's ShadowRight, writes into no argument, and the argument reads as before. No condition. -/
import Derived.Test.YtnhpcknbnmhlhaaRows
import Derived.Test.YtnhpcknbnmhlhaaShadowOpen
import Derived.Test.YtnhpcknbnmhlhaaShadowLaw
import Derived.Test.YtnhpcknbnmhlhaaShadowRight
import Derived.WalkKit
import Derived.ProofKit
import Derived.OpenShut
import Derived.ShutString
import Derived.Below
import Derived.ChangeSame
namespace Go.Proofs.Ytnhpcknbnmhlhaa.fnExactShadowRight
open Go.ChangeShapes Go.WideShapes Go.ChangeAt Go.RowKit
open Go.ChangeMaps (open_string shut_string)
set_option linter.unusedVariables false

theorem own : ownKnob Try.prog.godebug = none := by kernel_rfl
theorem laidOut : laidOutB Try.prog = true := by kernel_rfl

set_option maxHeartbeats 16000000 in
theorem walk (a0 b0 : Value) (K0 : Int) (B0 A0 : List Or.E) (c0 d0 : Value) (M0 : Int) (C0 D0 : List Lv.E) (w0 : (Lit.int .i64 K0).wf = true) (x0 : (∀ f ∈ B0, Or.Fit f) ∧ (∀ f ∈ A0, Or.Fit f)) (n0 : B0.length ≤ maxLen ∧ A0.length ≤ maxLen) (s0 : Rk.Shut a0 ∧ Rk.Shut b0) (u0 : (Lit.int .i64 M0).wf = true) (p0_ : C0.length ≤ maxLen ∧ D0.length ≤ maxLen) (q0_ : (∀ i, i < C0.length → (Lv.at' C0 i).2.length ≤ maxLen) ∧ (∀ i, i < D0.length → (Lv.at' D0 i).2.length ≤ maxLen)) (w : World) (g0 : (Rk.View Or.S w a0 B0 ∧ Rk.View Or.S w b0 A0) ∧ (Lv.View w c0 C0 ∧ Lv.View w d0 D0)) :
    Calls Try.prog 3 #[.agg #[a0, b0, .int .i64 K0, c0, d0, .int .i64 M0]] w fun e w' => e = .returned (.bool true) ∧ Below w.heap.size w w' := by
  have HG0 := Fk.hide g0.1.1
  have HG1 := Fk.hide g0.1.2
  have HG2 := Fk.hide g0.2.1
  have HG3 := Fk.hide g0.2.2
  have HX1 := Fk.hide q0_
  obtain ⟨sa, sc, rfl, _⟩ := g0.1.1
  obtain ⟨ta, tc, rfl, _⟩ := g0.1.2
  obtain ⟨ua, uc, rfl⟩ := g0.2.1.slice
  obtain ⟨va, vc, rfl⟩ := g0.2.2.slice
  clear q0_ s0 x0
  obtain ⟨W0, hW⟩ : ∃ W, W = w.alloc (.cells #[.slice sa B0.length sc, .slice ta A0.length tc, .int .i64 K0, .slice ua C0.length uc, .slice va D0.length vc, .int .i64 M0] 29) := ⟨_, rfl⟩
  have B_0 : Below w.heap.size w W0 := by rw [hW]; exact (Below.refl _ _).alloc (Nat.le_refl _) _
  have hz0 : w.heap.size < W0.heap.size := by rw [hW]; simp
  have cAa_0 : W0.cell? ⟨w.heap.size, 0, none⟩ = some (.slice sa B0.length sc) := by rw [hW, Fk.cellTop _ _ _ _ _ rfl]; rfl
  have cAb_0 : W0.cell? ⟨w.heap.size, 1, none⟩ = some (.slice ta A0.length tc) := by rw [hW, Fk.cellTop _ _ _ _ _ rfl]; rfl
  have cAc_0 : W0.cell? ⟨w.heap.size, 2, none⟩ = some (.int .i64 K0) := by rw [hW, Fk.cellTop _ _ _ _ _ rfl]; rfl
  have cAd_0 : W0.cell? ⟨w.heap.size, 3, none⟩ = some (.slice ua C0.length uc) := by rw [hW, Fk.cellTop _ _ _ _ _ rfl]; rfl
  have cAe_0 : W0.cell? ⟨w.heap.size, 4, none⟩ = some (.slice va D0.length vc) := by rw [hW, Fk.cellTop _ _ _ _ _ rfl]; rfl
  have cAf_0 : W0.cell? ⟨w.heap.size, 5, none⟩ = some (.int .i64 M0) := by rw [hW, Fk.cellTop _ _ _ _ _ rfl]; rfl
  have HW := Fk.hide hW
  have HB0 := Fk.hide B_0
  clear hW B_0 g0
  go_enter Try.func3, Try.ntmps3
  go_wp2_with fail
  rw [← HW.out]
  refine (szShadow_any _ _ _ _ _ _ _ _ _ _ _ _ (HG0.out.below HB0.out) (HG1.out.below HB0.out) (HG2.out.below HB0.out) (HG3.out.below HB0.out) n0.1 n0.2 p0_.1 p0_.2 HX1.out.1 HX1.out.2 (by decide) (by decide)).mono ?_
  rintro e W1 ⟨⟨r, rfl, hr⟩, k1⟩
  have HB1 : Hid (Below w.heap.size w W1) := HB0.out.trans (k1.mono HB0.out.size)
  have hz1 : W0.heap.size ≤ W1.heap.size := k1.size
  have cAa_1 : W1.cell? ⟨w.heap.size, 0, none⟩ = some (.slice sa B0.length sc) := (k1.cell (by show w.heap.size < _; omega)).trans cAa_0
  have cAb_1 : W1.cell? ⟨w.heap.size, 1, none⟩ = some (.slice ta A0.length tc) := (k1.cell (by show w.heap.size < _; omega)).trans cAb_0
  have cAc_1 : W1.cell? ⟨w.heap.size, 2, none⟩ = some (.int .i64 K0) := (k1.cell (by show w.heap.size < _; omega)).trans cAc_0
  have cAd_1 : W1.cell? ⟨w.heap.size, 3, none⟩ = some (.slice ua C0.length uc) := (k1.cell (by show w.heap.size < _; omega)).trans cAd_0
  have cAe_1 : W1.cell? ⟨w.heap.size, 4, none⟩ = some (.slice va D0.length vc) := (k1.cell (by show w.heap.size < _; omega)).trans cAe_0
  have cAf_1 : W1.cell? ⟨w.heap.size, 5, none⟩ = some (.int .i64 M0) := (k1.cell (by show w.heap.size < _; omega)).trans cAf_0
  clear k1 cAa_0 cAb_0 cAc_0 cAd_0 cAe_0 cAf_0
  rcases hr with rfl | ⟨hr0, hr⟩
  · go_wp2_with fail
    go_ret
    exact ⟨rfl, HB1.out⟩
  have hl0 : B0.length ≤ 1048576 := by omega
  have hl1 : A0.length ≤ 1048576 := by omega
  have hl2 : C0.length ≤ 1048576 := by omega
  have hl3 : D0.length ≤ 1048576 := by omega
  have HM0 : Hid ((Nb.flat C0).length ≤ 1048576) := by show _ ≤ _; omega
  have HM1 : Hid ((Nb.flat D0).length ≤ 1048576) := by show _ ≤ _; omega
  clear hr
  have HE0 : Hid (∀ i, i < C0.length → (Lv.at' C0 i).2.length ≤ 1048576) := fun i hi => Nat.le_trans (Nb.each_le C0 i hi) HM0.out
  have HE1 : Hid (∀ i, i < D0.length → (Lv.at' D0 i).2.length ≤ 1048576) := fun i hi => Nat.le_trans (Nb.each_le D0 i hi) HM1.out
  obtain ⟨al, hal⟩ : ∃ z, z = Nb.alike B0 A0 K0 C0 D0 M0 := ⟨_, rfl⟩
  have FS : Hid (∀ w' a b a' b' u v x y, Aw.Ord w' 87 a b u v B0 A0 → Aw.Lev w' 76 87 a' b' x y C0 D0 → Calls Try.prog 6 #[.agg #[u, v, .int .i64 K0, x, y, .int .i64 M0]] w' fun e w'' => e = .returned (.bool al) ∧ Below w'.heap.size w' w'') := fun w' a b a' b' u v x y h1 h2 => by rw [hal]; exact shadowRight_spec u v x y K0 M0 B0 A0 C0 D0 w' h1.1.b.view h1.1.a.view h2.views.1 h2.views.2 h1.1.b.shut h1.1.a.shut hl0 hl1 hl2 hl3 HM0.out HM1.out
  have FI : Hid (∀ w' a b a' b' u v x y, Aw.Ord w' 87 a b u v B0 A0 → Aw.Lev w' 76 87 a' b' x y C0 D0 → Calls Try.prog 8 #[.agg #[u, v, .int .i64 K0, x, y, .int .i64 M0]] w' fun e w'' => e = .returned (.bool al) ∧ Below w'.heap.size w' w'') := fun w' a b a' b' u v x y h1 h2 => by rw [hal]; exact shadowRight_impl u v x y K0 M0 B0 A0 C0 D0 w' h1.1.b.view h1.1.a.view h2.views.1 h2.views.2 h1.1.b.shut h1.1.a.shut h1.1.b.fit h1.1.a.fit hl0 hl1 hl2 hl3 HM0.out HM1.out
  clear hal
  go_wp2_with fail
  refine (toShadow_any _ _ _ _ _ _ B0 A0 C0 D0 _ (HG0.out.below HB1.out) (HG1.out.below HB1.out) (HG2.out.below HB1.out) (HG3.out.below HB1.out) hl0 hl1 hl2 hl3 HE0.out HE1.out).mono ?_
  rintro e W2 ⟨⟨us, vs, xs, ys, mids, rfl, os, ls, _, _⟩, k2⟩
  obtain ⟨p1s, p2s, p3s, p4s, p5s, p6s, rfl, rfl⟩ := os.slices
  obtain ⟨q1s, q2s, q3s, q4s, q5s, q6s, rfl, rfl⟩ := ls.slices
  have Os_2 := Fk.hide os
  have Ps_2 := Fk.hide ls
  clear os ls
  have HB2 : Hid (Below w.heap.size w W2) := HB1.out.trans (k2.mono HB1.out.size)
  have hz2 : W1.heap.size ≤ W2.heap.size := k2.size
  have cAa_2 : W2.cell? ⟨w.heap.size, 0, none⟩ = some (.slice sa B0.length sc) := (k2.cell (by show w.heap.size < _; omega)).trans cAa_1
  have cAb_2 : W2.cell? ⟨w.heap.size, 1, none⟩ = some (.slice ta A0.length tc) := (k2.cell (by show w.heap.size < _; omega)).trans cAb_1
  have cAc_2 : W2.cell? ⟨w.heap.size, 2, none⟩ = some (.int .i64 K0) := (k2.cell (by show w.heap.size < _; omega)).trans cAc_1
  have cAd_2 : W2.cell? ⟨w.heap.size, 3, none⟩ = some (.slice ua C0.length uc) := (k2.cell (by show w.heap.size < _; omega)).trans cAd_1
  have cAe_2 : W2.cell? ⟨w.heap.size, 4, none⟩ = some (.slice va D0.length vc) := (k2.cell (by show w.heap.size < _; omega)).trans cAe_1
  have cAf_2 : W2.cell? ⟨w.heap.size, 5, none⟩ = some (.int .i64 M0) := (k2.cell (by show w.heap.size < _; omega)).trans cAf_1
  clear k2 cAa_1 cAb_1 cAc_1 cAd_1 cAe_1 cAf_1
  go_wp2_with fail
  refine (FS.out _ _ _ _ _ _ _ _ _ Os_2.out Ps_2.out).mono ?_
  rintro e W3 ⟨rfl, k3⟩
  have HB3 : Hid (Below w.heap.size w W3) := HB2.out.trans (k3.mono HB2.out.size)
  have hz3 : W2.heap.size ≤ W3.heap.size := k3.size
  have cAa_3 : W3.cell? ⟨w.heap.size, 0, none⟩ = some (.slice sa B0.length sc) := (k3.cell (by show w.heap.size < _; omega)).trans cAa_2
  have cAb_3 : W3.cell? ⟨w.heap.size, 1, none⟩ = some (.slice ta A0.length tc) := (k3.cell (by show w.heap.size < _; omega)).trans cAb_2
  have cAc_3 : W3.cell? ⟨w.heap.size, 2, none⟩ = some (.int .i64 K0) := (k3.cell (by show w.heap.size < _; omega)).trans cAc_2
  have cAd_3 : W3.cell? ⟨w.heap.size, 3, none⟩ = some (.slice ua C0.length uc) := (k3.cell (by show w.heap.size < _; omega)).trans cAd_2
  have cAe_3 : W3.cell? ⟨w.heap.size, 4, none⟩ = some (.slice va D0.length vc) := (k3.cell (by show w.heap.size < _; omega)).trans cAe_2
  have cAf_3 : W3.cell? ⟨w.heap.size, 5, none⟩ = some (.int .i64 M0) := (k3.cell (by show w.heap.size < _; omega)).trans cAf_2
  have Os_3 := Fk.hide (Os_2.out.below k3)
  have Ps_3 := Fk.hide (Ps_2.out.below k3)
  clear k3 cAa_2 cAb_2 cAc_2 cAd_2 cAe_2 cAf_2 Os_2 Ps_2
  clear Os_3 Ps_3
  go_wp2_with fail
  refine (toShadow_any _ _ _ _ _ _ B0 A0 C0 D0 _ (HG0.out.below HB3.out) (HG1.out.below HB3.out) (HG2.out.below HB3.out) (HG3.out.below HB3.out) hl0 hl1 hl2 hl3 HE0.out HE1.out).mono ?_
  rintro e W4 ⟨⟨ux, vx, xx, yx, midx, rfl, ox, lx, _, _⟩, k4⟩
  obtain ⟨p1x, p2x, p3x, p4x, p5x, p6x, rfl, rfl⟩ := ox.slices
  obtain ⟨q1x, q2x, q3x, q4x, q5x, q6x, rfl, rfl⟩ := lx.slices
  have Ox_4 := Fk.hide ox
  have Px_4 := Fk.hide lx
  clear ox lx
  have HB4 : Hid (Below w.heap.size w W4) := HB3.out.trans (k4.mono HB3.out.size)
  have hz4 : W3.heap.size ≤ W4.heap.size := k4.size
  have cAa_4 : W4.cell? ⟨w.heap.size, 0, none⟩ = some (.slice sa B0.length sc) := (k4.cell (by show w.heap.size < _; omega)).trans cAa_3
  have cAb_4 : W4.cell? ⟨w.heap.size, 1, none⟩ = some (.slice ta A0.length tc) := (k4.cell (by show w.heap.size < _; omega)).trans cAb_3
  have cAc_4 : W4.cell? ⟨w.heap.size, 2, none⟩ = some (.int .i64 K0) := (k4.cell (by show w.heap.size < _; omega)).trans cAc_3
  have cAd_4 : W4.cell? ⟨w.heap.size, 3, none⟩ = some (.slice ua C0.length uc) := (k4.cell (by show w.heap.size < _; omega)).trans cAd_3
  have cAe_4 : W4.cell? ⟨w.heap.size, 4, none⟩ = some (.slice va D0.length vc) := (k4.cell (by show w.heap.size < _; omega)).trans cAe_3
  have cAf_4 : W4.cell? ⟨w.heap.size, 5, none⟩ = some (.int .i64 M0) := (k4.cell (by show w.heap.size < _; omega)).trans cAf_3
  clear k4 cAa_3 cAb_3 cAc_3 cAd_3 cAe_3 cAf_3
  have lcAa_ : (W4.alloc (.cells #[.slice p1x p2x p3x, .slice p4x p5x p6x, .int .i64 K0, .slice q1x q2x q3x, .slice q4x q5x q6x, .int .i64 M0] 39)).cell? ⟨w.heap.size, 0, none⟩ = some (.slice sa B0.length sc) := by rw [Fk.cellOld _ _ _ _ (by omega)]; exact cAa_4
  have lcAb_ : (W4.alloc (.cells #[.slice p1x p2x p3x, .slice p4x p5x p6x, .int .i64 K0, .slice q1x q2x q3x, .slice q4x q5x q6x, .int .i64 M0] 39)).cell? ⟨w.heap.size, 1, none⟩ = some (.slice ta A0.length tc) := by rw [Fk.cellOld _ _ _ _ (by omega)]; exact cAb_4
  have lcAc_ : (W4.alloc (.cells #[.slice p1x p2x p3x, .slice p4x p5x p6x, .int .i64 K0, .slice q1x q2x q3x, .slice q4x q5x q6x, .int .i64 M0] 39)).cell? ⟨w.heap.size, 2, none⟩ = some (.int .i64 K0) := by rw [Fk.cellOld _ _ _ _ (by omega)]; exact cAc_4
  have lcAd_ : (W4.alloc (.cells #[.slice p1x p2x p3x, .slice p4x p5x p6x, .int .i64 K0, .slice q1x q2x q3x, .slice q4x q5x q6x, .int .i64 M0] 39)).cell? ⟨w.heap.size, 3, none⟩ = some (.slice ua C0.length uc) := by rw [Fk.cellOld _ _ _ _ (by omega)]; exact cAd_4
  have lcAe_ : (W4.alloc (.cells #[.slice p1x p2x p3x, .slice p4x p5x p6x, .int .i64 K0, .slice q1x q2x q3x, .slice q4x q5x q6x, .int .i64 M0] 39)).cell? ⟨w.heap.size, 4, none⟩ = some (.slice va D0.length vc) := by rw [Fk.cellOld _ _ _ _ (by omega)]; exact cAe_4
  have lcAf_ : (W4.alloc (.cells #[.slice p1x p2x p3x, .slice p4x p5x p6x, .int .i64 K0, .slice q1x q2x q3x, .slice q4x q5x q6x, .int .i64 M0] 39)).cell? ⟨w.heap.size, 5, none⟩ = some (.int .i64 M0) := by rw [Fk.cellOld _ _ _ _ (by omega)]; exact cAf_4
  go_wp2_with fail
  clear lcAa_ lcAb_ lcAc_ lcAd_ lcAe_ lcAf_
  obtain ⟨W5, hW5⟩ : ∃ W, W = (W4.alloc (.cells #[.slice p1x p2x p3x, .slice p4x p5x p6x, .int .i64 K0, .slice q1x q2x q3x, .slice q4x q5x q6x, .int .i64 M0] 39)) := ⟨_, rfl⟩
  have k5 : Below W4.heap.size W4 W5 := by rw [hW5]; exact (Below.refl _ _).alloc (Nat.le_refl _) _
  have hy5 : W4.heap.size < W5.heap.size := by rw [hW5]; simp
  have sxa_5 : W5.cell? ⟨W4.heap.size, 0, none⟩ = some (.slice p1x p2x p3x) := by rw [hW5, Fk.cellTop _ _ _ _ _ rfl]; rfl
  have sxb_5 : W5.cell? ⟨W4.heap.size, 1, none⟩ = some (.slice p4x p5x p6x) := by rw [hW5, Fk.cellTop _ _ _ _ _ rfl]; rfl
  have sxc_5 : W5.cell? ⟨W4.heap.size, 2, none⟩ = some (.int .i64 K0) := by rw [hW5, Fk.cellTop _ _ _ _ _ rfl]; rfl
  have sxd_5 : W5.cell? ⟨W4.heap.size, 3, none⟩ = some (.slice q1x q2x q3x) := by rw [hW5, Fk.cellTop _ _ _ _ _ rfl]; rfl
  have sxe_5 : W5.cell? ⟨W4.heap.size, 4, none⟩ = some (.slice q4x q5x q6x) := by rw [hW5, Fk.cellTop _ _ _ _ _ rfl]; rfl
  have sxf_5 : W5.cell? ⟨W4.heap.size, 5, none⟩ = some (.int .i64 M0) := by rw [hW5, Fk.cellTop _ _ _ _ _ rfl]; rfl
  have HW5 := Fk.hide hW5
  clear hW5
  have HB5 : Hid (Below w.heap.size w W5) := HB4.out.trans (k5.mono HB4.out.size)
  have hz5 : W4.heap.size ≤ W5.heap.size := k5.size
  have cAa_5 : W5.cell? ⟨w.heap.size, 0, none⟩ = some (.slice sa B0.length sc) := (k5.cell (by show w.heap.size < _; omega)).trans cAa_4
  have cAb_5 : W5.cell? ⟨w.heap.size, 1, none⟩ = some (.slice ta A0.length tc) := (k5.cell (by show w.heap.size < _; omega)).trans cAb_4
  have cAc_5 : W5.cell? ⟨w.heap.size, 2, none⟩ = some (.int .i64 K0) := (k5.cell (by show w.heap.size < _; omega)).trans cAc_4
  have cAd_5 : W5.cell? ⟨w.heap.size, 3, none⟩ = some (.slice ua C0.length uc) := (k5.cell (by show w.heap.size < _; omega)).trans cAd_4
  have cAe_5 : W5.cell? ⟨w.heap.size, 4, none⟩ = some (.slice va D0.length vc) := (k5.cell (by show w.heap.size < _; omega)).trans cAe_4
  have cAf_5 : W5.cell? ⟨w.heap.size, 5, none⟩ = some (.int .i64 M0) := (k5.cell (by show w.heap.size < _; omega)).trans cAf_4
  have Ox_5 := Fk.hide (Ox_4.out.below k5)
  have Px_5 := Fk.hide (Px_4.out.below k5)
  clear k5 cAa_4 cAb_4 cAc_4 cAd_4 cAe_4 cAf_4 Ox_4 Px_4
  rw [← HW5.out]
  go_wp2_with fail
  refine (FI.out _ _ _ _ _ _ _ _ _ Ox_5.out Px_5.out).mono ?_
  rintro e W6 ⟨rfl, k6⟩
  have HB6 : Hid (Below w.heap.size w W6) := HB5.out.trans (k6.mono HB5.out.size)
  have hz6 : W5.heap.size ≤ W6.heap.size := k6.size
  have cAa_6 : W6.cell? ⟨w.heap.size, 0, none⟩ = some (.slice sa B0.length sc) := (k6.cell (by show w.heap.size < _; omega)).trans cAa_5
  have cAb_6 : W6.cell? ⟨w.heap.size, 1, none⟩ = some (.slice ta A0.length tc) := (k6.cell (by show w.heap.size < _; omega)).trans cAb_5
  have cAc_6 : W6.cell? ⟨w.heap.size, 2, none⟩ = some (.int .i64 K0) := (k6.cell (by show w.heap.size < _; omega)).trans cAc_5
  have cAd_6 : W6.cell? ⟨w.heap.size, 3, none⟩ = some (.slice ua C0.length uc) := (k6.cell (by show w.heap.size < _; omega)).trans cAd_5
  have cAe_6 : W6.cell? ⟨w.heap.size, 4, none⟩ = some (.slice va D0.length vc) := (k6.cell (by show w.heap.size < _; omega)).trans cAe_5
  have cAf_6 : W6.cell? ⟨w.heap.size, 5, none⟩ = some (.int .i64 M0) := (k6.cell (by show w.heap.size < _; omega)).trans cAf_5
  have sxa_6 : W6.cell? ⟨W4.heap.size, 0, none⟩ = some (.slice p1x p2x p3x) := (k6.cell (by show W4.heap.size < _; omega)).trans sxa_5
  have sxb_6 : W6.cell? ⟨W4.heap.size, 1, none⟩ = some (.slice p4x p5x p6x) := (k6.cell (by show W4.heap.size < _; omega)).trans sxb_5
  have sxc_6 : W6.cell? ⟨W4.heap.size, 2, none⟩ = some (.int .i64 K0) := (k6.cell (by show W4.heap.size < _; omega)).trans sxc_5
  have sxd_6 : W6.cell? ⟨W4.heap.size, 3, none⟩ = some (.slice q1x q2x q3x) := (k6.cell (by show W4.heap.size < _; omega)).trans sxd_5
  have sxe_6 : W6.cell? ⟨W4.heap.size, 4, none⟩ = some (.slice q4x q5x q6x) := (k6.cell (by show W4.heap.size < _; omega)).trans sxe_5
  have sxf_6 : W6.cell? ⟨W4.heap.size, 5, none⟩ = some (.int .i64 M0) := (k6.cell (by show W4.heap.size < _; omega)).trans sxf_5
  have Ox_6 := Fk.hide (Ox_5.out.below k6)
  have Px_6 := Fk.hide (Px_5.out.below k6)
  clear k6 cAa_5 cAb_5 cAc_5 cAd_5 cAe_5 cAf_5 sxa_5 sxb_5 sxc_5 sxd_5 sxe_5 sxf_5 Ox_5 Px_5
  have hb1 : (al == al) = true := by simp
  have hb2 : (al != al) = false := by simp
  go_wp2_with fail
  have vd0 := Fk.hide ((HG0.out.below HB6.out).below (Below.drew (Below.refl W6.heap.size W6)))
  have vd1 := Fk.hide ((HG1.out.below HB6.out).below (Below.drew (Below.refl W6.heap.size W6)))
  have vd2 := Fk.hide ((HG2.out.below HB6.out).below (Below.drew (Below.refl W6.heap.size W6)))
  have vd3 := Fk.hide ((HG3.out.below HB6.out).below (Below.drew (Below.refl W6.heap.size W6)))
  have ox := Fk.hide (Ox_6.out.below (Below.drew (Below.refl W6.heap.size W6)))
  have lx := Fk.hide (Px_6.out.below (Below.drew (Below.refl W6.heap.size W6)))
  have HZX : Hid (W4.heap.size < W6.heap.size) := by show _ < _; omega
  have HZL : Hid (w.heap.size < W6.heap.size) := by show _ < _; omega
  go_region_held3 (fun w' => w'.cell? ⟨W4.heap.size, 0, none⟩ = some (.slice p1x p2x p3x) ∧ w'.cell? ⟨W4.heap.size, 1, none⟩ = some (.slice p4x p5x p6x) ∧ w'.cell? ⟨W4.heap.size, 2, none⟩ = some (.int .i64 K0) ∧ w'.cell? ⟨W4.heap.size, 3, none⟩ = some (.slice q1x q2x q3x) ∧ w'.cell? ⟨W4.heap.size, 4, none⟩ = some (.slice q4x q5x q6x) ∧ w'.cell? ⟨W4.heap.size, 5, none⟩ = some (.int .i64 M0) ∧ w'.cell? ⟨w.heap.size, 0, none⟩ = some (.slice sa B0.length sc) ∧ w'.cell? ⟨w.heap.size, 1, none⟩ = some (.slice ta A0.length tc) ∧ w'.cell? ⟨w.heap.size, 2, none⟩ = some (.int .i64 K0) ∧ w'.cell? ⟨w.heap.size, 3, none⟩ = some (.slice ua C0.length uc) ∧ w'.cell? ⟨w.heap.size, 4, none⟩ = some (.slice va D0.length vc) ∧ w'.cell? ⟨w.heap.size, 5, none⟩ = some (.int .i64 M0))
    (first | go_keep | (go_split_ands; exact ⟨by assumption, by assumption, by assumption, by assumption, by assumption, by assumption, by assumption, by assumption, by assumption, by assumption, by assumption, by assumption⟩))
    (first
    | (have hchk := PQ.out; clear hchk; go_at_call 9; refine (eqShadow_same _ _ _ _ _ _ _ _ _ _ B0 A0 C0 D0 _ (ox.out.below m1).1.b.view (ox.out.below m1).1.a.view (lx.out.below m1).views.1 (lx.out.below m1).views.2 PQ.out.1.b.view PQ.out.1.a.view QQ.out.views.1 QQ.out.views.2 hl0 hl1 hl2 hl3 HE0.out HE1.out).mono ?_; rintro e W7 ⟨rfl, m2⟩; have Y2 : Below W6.heap.size W6 W7 := Y1.trans (m2.mono Y1.size); have eya := (Y2.cell (p := ⟨W4.heap.size, 0, none⟩) (by exact HZX.out)).trans sxa_6; have eyb := (Y2.cell (p := ⟨W4.heap.size, 1, none⟩) (by exact HZX.out)).trans sxb_6; have eyc := (Y2.cell (p := ⟨W4.heap.size, 2, none⟩) (by exact HZX.out)).trans sxc_6; have eyd := (Y2.cell (p := ⟨W4.heap.size, 3, none⟩) (by exact HZX.out)).trans sxd_6; have eye := (Y2.cell (p := ⟨W4.heap.size, 4, none⟩) (by exact HZX.out)).trans sxe_6; have eyf := (Y2.cell (p := ⟨W4.heap.size, 5, none⟩) (by exact HZX.out)).trans sxf_6; have eyp := (Y2.cell (p := ⟨w.heap.size, 0, none⟩) (by exact HZL.out)).trans cAa_6; have eyq := (Y2.cell (p := ⟨w.heap.size, 1, none⟩) (by exact HZL.out)).trans cAb_6; have eyr := (Y2.cell (p := ⟨w.heap.size, 2, none⟩) (by exact HZL.out)).trans cAc_6; have eys := (Y2.cell (p := ⟨w.heap.size, 3, none⟩) (by exact HZL.out)).trans cAd_6; have eyt := (Y2.cell (p := ⟨w.heap.size, 4, none⟩) (by exact HZL.out)).trans cAe_6; have eyu := (Y2.cell (p := ⟨w.heap.size, 5, none⟩) (by exact HZL.out)).trans cAf_6)
    | (go_at_call 7; refine (toShadow_any _ _ _ _ _ _ B0 A0 C0 D0 _ (vd0.out) (vd1.out) (vd2.out) (vd3.out) hl0 hl1 hl2 hl3 HE0.out HE1.out).mono ?_; rintro e X1 ⟨⟨uq, vq, xq, yq, midq, rfl, oq, lq, _, _⟩, m1⟩; obtain ⟨p1q, p2q, p3q, p4q, p5q, p6q, rfl, rfl⟩ := oq.slices; obtain ⟨q1q, q2q, q3q, q4q, q5q, q6q, rfl, rfl⟩ := lq.slices; have PQ := Fk.hide oq; have QQ := Fk.hide lq; clear oq lq; have Y1 : Below W6.heap.size W6 X1 := (Below.drew (Below.refl _ _)).trans m1; have exa := (Y1.cell (p := ⟨W4.heap.size, 0, none⟩) (by exact HZX.out)).trans sxa_6; have exb := (Y1.cell (p := ⟨W4.heap.size, 1, none⟩) (by exact HZX.out)).trans sxb_6; have exc := (Y1.cell (p := ⟨W4.heap.size, 2, none⟩) (by exact HZX.out)).trans sxc_6; have exd := (Y1.cell (p := ⟨W4.heap.size, 3, none⟩) (by exact HZX.out)).trans sxd_6; have exe := (Y1.cell (p := ⟨W4.heap.size, 4, none⟩) (by exact HZX.out)).trans sxe_6; have exf := (Y1.cell (p := ⟨W4.heap.size, 5, none⟩) (by exact HZX.out)).trans sxf_6; have exp := (Y1.cell (p := ⟨w.heap.size, 0, none⟩) (by exact HZL.out)).trans cAa_6; have exq := (Y1.cell (p := ⟨w.heap.size, 1, none⟩) (by exact HZL.out)).trans cAb_6; have exr := (Y1.cell (p := ⟨w.heap.size, 2, none⟩) (by exact HZL.out)).trans cAc_6; have exs := (Y1.cell (p := ⟨w.heap.size, 3, none⟩) (by exact HZL.out)).trans cAd_6; have ext := (Y1.cell (p := ⟨w.heap.size, 4, none⟩) (by exact HZL.out)).trans cAe_6; have exu := (Y1.cell (p := ⟨w.heap.size, 5, none⟩) (by exact HZL.out)).trans cAf_6))
  all_goals
    have HBZ : Hid (Below w.heap.size w W7) := HB6.out.trans (Y2.mono HB6.out.size)
    go_wp2_with fail
    go_ret
    exact ⟨rfl, HBZ.out⟩

set_option maxRecDepth 100000 in
theorem lifted (os : Os) (started : os.Started) (H : Type) (enc : TypeId × Value → H) :
    ReturnsInHanded {} Try.checked os 3 .any (Rows.fnExactShadowRightSpec.pre6 enc Try.prog Try.f3 Rows.fnExactShadowRightRow.domain false) (Rows.fnExactShadowRightSpec.post enc Try.prog Try.f3 false true false false) := by
  refine returnsInHanded_of_change (C := Try.checked) own started (by kernel_rfl) Try.func3
    (ChangeSpec.witness6 (enc := enc) (C := Try.checked) false ⟨#[], #[.agg #[.slice none 0 0, .slice none 0 0, .int .i64 0, .slice none 0 0, .slice none 0 0, .int .i64 0]], []⟩ 8 (by kernel_rfl) (by kernel_rfl) (by kernel_rfl) (by kernel_rfl)) ?_
  intro W base args ds gs before hval0 hW hcnd _
  have hval : ∀ (j : Nat) t v, Try.f3.params[j]? = some t → args[j]? = some v → Value.okWide Try.prog W .any base t v := hval0
  have hW' := hW
  obtain ⟨p, q, hA0, hV, rfl, hfz, hnd⟩ := hW
  have hA : DataW.TrodAll enc Try.prog W 0 (fun _ => true) true Try.f3.params.toList args.toList ds p := hA0
  rw [Try.params3] at hA hval
  obtain ⟨v0, vs0, d0, ds0, p0, q0, hargs, rfl, rfl, h0, r0⟩ := trodAll_cons hA
  obtain ⟨rfl, rfl, rfl⟩ := trodAll_nil r0
  obtain rfl : args = #[v0] := by cases args; simp_all
  obtain ⟨rfl, rfl⟩ := trodVars_none hV
  have hlt : ∀ x ∈ p0 ++ ([]), x.block < W.heap.size := fun x hx => hW'.lt x (by simpa using hx)
  have k0 := h0
  obtain ⟨a0, b0, K0, B0, A0, c0, e0, M0, C0, D0, rfl, w0, x0, n0, s0, gA0, u0, p0_, q0_, gB0⟩ := Sh.open_shadow (hval 0 29 v0 rfl rfl) h0
  have g0 := And.intro gA0 gB0
  clear hA0 hval0
  have e1 : Rows.fnExactShadowRightSpec.fn H ([d0] ++ []) = { results := [.lit (.bool true)], args := [d0] } := by simp [Rows.fnExactShadowRightSpec]
  refine (walk a0 b0 K0 B0 A0 c0 e0 M0 C0 D0 w0 x0 n0 s0 u0 p0_ q0_ W g0).mono fun e W' ⟨he, bel⟩ => ?_
  subst he
  refine ⟨_, rfl, _, _, _, [], p0 ++ ([]), [], hW', ?_, ?_, ?_, bel.frame _, fun h => by cases h⟩
  · rw [e1]; exact trodAll_mk1 (shut_bool Try.underlying4 true)
  · rw [e1]; exact (trodAll_cons_mk (Below.trod laidOut (by kernel_rfl) (of_decide_eq_true (by kernel_rfl)) k0 bel (fun x hx => hlt x (by simp [hx]))) trodAll_mk0)
  · rw [e1]; rfl

theorem over : Rows.fnExactShadowRightRow.holds Try.pinned (OpenSpec.ofChange Rows.fnExactShadowRightSpec) :=
  OpenClaim.holds_of_wide 3 Try.f3 rfl rfl rfl rfl rfl rfl rfl ⟨rfl, rfl, rfl, rfl, rfl⟩ rfl rfl rfl rfl rfl (by kernel_rfl) Try.func3 (by kernel_rfl)
    (of_decide_eq_true (by kernel_rfl)) (by unfold Func.isWrapper; rw [if_neg (of_decide_eq_false (by kernel_rfl))]; exact ⟨rfl, rfl⟩)
    (fun os started H enc _ => lifted os started H enc)

/-- the statement -/
theorem proved : Rows.FnExactShadowRightSaid :=
  over
#print axioms proved
end Go.Proofs.Ytnhpcknbnmhlhaa.fnExactShadowRight

/- Proved: for every argument the exact law of NewQueue returns true: impl.NewQueue answers as the specification's NewQueue, writes into no argument and keeps nothing of one, its answer owns its memory, and the argument reads as before. No condition. -/
import Derived.Test.YtjagohadeegghaaRows
import Derived.Test.YtjagohadeegghaaNewOpen
import Derived.Test.YtjagohadeegghaaNewTo
import Derived.Test.YtjagohadeegghaaNewEq
import Derived.Test.YtjagohadeegghaaNewQueueImpl
import Derived.Test.YtjagohadeegghaaNewQueueSpec
import Derived.Test.YtjagohadeegghaaNumHeld
import Derived.Test.YtjagohadeegghaaNewMark
import Derived.WalkKit
import Derived.ProofKit
import Derived.OpenShut
import Derived.ShutString
import Derived.Below
import Derived.ChangeSame
namespace Go.Proofs.Ytjagohadeegghaa.fnExactNewQueue
open Go.ChangeShapes Go.WideShapes Go.ChangeAt Go.RowKit
open Go.ChangeMaps (open_string shut_string)
set_option linter.unusedVariables false

theorem own : ownKnob Try.prog.godebug = none := by kernel_rfl
theorem laidOut : laidOutB Try.prog = true := by kernel_rfl

set_option maxHeartbeats 8000000 in
theorem walk (a0 b0 : Value) (K0 : Int) (B0 A0 : List Lv.E) (w0 : (Lit.int .i64 K0).wf = true) (n0 : B0.length ≤ maxLen ∧ A0.length ≤ maxLen) (x0 : (∀ i, i < B0.length → (Lv.at' B0 i).2.length ≤ maxLen) ∧ (∀ i, i < A0.length → (Lv.at' A0 i).2.length ≤ maxLen)) (a1 : Bool) (a2 : Int) (w2 : (Lit.int .i64 a2).wf = true) (w : World) (g0 : Lv.View w a0 B0 ∧ Lv.View w b0 A0) :
    Calls Try.prog 11 #[.agg #[a0, b0, .int .i64 K0], .bool a1, .int .i64 a2] w fun e w' => e = .returned (.bool true) ∧ Below w.heap.size w w' := by
  have HG0 := Fk.hide g0.1
  have HG1 := Fk.hide g0.2
  have HX0 := Fk.hide x0
  obtain ⟨sa, sc, rfl⟩ := g0.1.slice
  obtain ⟨ta, tc, rfl⟩ := g0.2.slice
  clear x0
  obtain ⟨W0, hW⟩ : ∃ W, W = w.alloc (.cells #[.slice sa B0.length sc, .slice ta A0.length tc, .int .i64 K0] 41) := ⟨_, rfl⟩
  have B_0 : Below w.heap.size w W0 := by rw [hW]; exact (Below.refl _ _).alloc (Nat.le_refl _) _
  have hz0 : w.heap.size < W0.heap.size := by rw [hW]; simp
  have cAa_0 : W0.cell? ⟨w.heap.size, 0, none⟩ = some (.slice sa B0.length sc) := by rw [hW, Fk.cellTop _ _ _ _ _ rfl]; rfl
  have cAb_0 : W0.cell? ⟨w.heap.size, 1, none⟩ = some (.slice ta A0.length tc) := by rw [hW, Fk.cellTop _ _ _ _ _ rfl]; rfl
  have cAc_0 : W0.cell? ⟨w.heap.size, 2, none⟩ = some (.int .i64 K0) := by rw [hW, Fk.cellTop _ _ _ _ _ rfl]; rfl
  have HW := Fk.hide hW
  have HB0 := Fk.hide B_0
  clear hW B_0 g0
  go_enter Try.func11, Try.ntmps11
  go_wp2_with fail
  rw [← HW.out]
  refine (szNew_any _ _ _ _ _ _ _ (HG0.out.below HB0.out) (HG1.out.below HB0.out) n0.1 n0.2 HX0.out.1 HX0.out.2 (by decide) (by decide)).mono ?_
  rintro e W1 ⟨⟨r, rfl, hr⟩, k1⟩
  have HB1 : Hid (Below w.heap.size w W1) := HB0.out.trans (k1.mono HB0.out.size)
  have hz1 : W0.heap.size ≤ W1.heap.size := k1.size
  have cAa_1 : W1.cell? ⟨w.heap.size, 0, none⟩ = some (.slice sa B0.length sc) := (k1.cell (by show w.heap.size < _; omega)).trans cAa_0
  have cAb_1 : W1.cell? ⟨w.heap.size, 1, none⟩ = some (.slice ta A0.length tc) := (k1.cell (by show w.heap.size < _; omega)).trans cAb_0
  have cAc_1 : W1.cell? ⟨w.heap.size, 2, none⟩ = some (.int .i64 K0) := (k1.cell (by show w.heap.size < _; omega)).trans cAc_0
  clear k1 cAa_0 cAb_0 cAc_0
  rcases hr with rfl | ⟨hr0, hr⟩
  · go_wp2_with fail
    go_ret
    exact ⟨rfl, HB1.out⟩
  have hl0 : B0.length ≤ 1048576 := by omega
  have hl1 : A0.length ≤ 1048576 := by omega
  have HM0 : Hid ((Nb.flat B0).length ≤ 1048576) := by show _ ≤ _; omega
  have HM1 : Hid ((Nb.flat A0).length ≤ 1048576) := by show _ ≤ _; omega
  clear hr
  have HE0 : Hid (∀ i, i < B0.length → (Lv.at' B0 i).2.length ≤ 1048576) := fun i hi => Nat.le_trans (Nb.each_le B0 i hi) HM0.out
  have HE1 : Hid (∀ i, i < A0.length → (Lv.at' A0 i).2.length ≤ 1048576) := fun i hi => Nat.le_trans (Nb.each_le A0 i hi) HM1.out
  obtain ⟨RL, hRL⟩ : ∃ x, x = Nb.queue B0 A0 K0 a1 a2 := ⟨_, rfl⟩
  have FS : Hid (∀ w' u v, Lv.View w' u B0 → Lv.View w' v A0 → Calls Try.prog 47 #[.agg #[u, v, .int .i64 K0], .bool a1, .int .i64 a2] w' fun e w'' => (∃ x, e = .returned x ∧ Ik.Own w'' w'.heap.size 2 x RL) ∧ Below w'.heap.size w' w'') := fun w' u v h1 h2 => by rw [hRL]; exact (newQueue_spec u v K0 a1 a2 B0 A0 w' h1 h2 hl0 hl1 HM0.out HM1.out).mono fun e w'' ⟨⟨x, h1, h2⟩, h3⟩ => ⟨⟨x, h1, Iq.own h2⟩, h3⟩
  have FI : Hid (∀ w' u v, Lv.View w' u B0 → Lv.View w' v A0 → Calls Try.prog 48 #[.agg #[u, v, .int .i64 K0], .bool a1, .int .i64 a2] w' fun e w'' => (∃ x, e = .returned x ∧ Ik.Own w'' w'.heap.size 2 x RL) ∧ Below w'.heap.size w' w'') := fun w' u v h1 h2 => by rw [hRL]; exact (newQueue_impl u v K0 a1 a2 B0 A0 w' h1 h2 hl0 hl1 HM0.out HM1.out).mono fun e w'' ⟨⟨x, h1, h2⟩, h3⟩ => ⟨⟨x, h1, Iq.own h2⟩, h3⟩
  have hRl : RL.length ≤ 1048576 := by rw [hRL]; exact Nat.le_trans (Nb.queue_length B0 A0 K0 a1 a2) (by decide)
  clear hRL
  go_wp2_with fail
  refine (toNew_any _ _ _ B0 A0 _ (HG0.out.below HB1.out) (HG1.out.below HB1.out) hl0 hl1 HE0.out HE1.out).mono ?_
  rintro e W2 ⟨⟨up, vp, hbp, hap, midp, rfl, pp, qp, unp, hip, hjp⟩, k2⟩
  obtain ⟨ap, cp, rfl⟩ := pp.slice
  obtain ⟨bp, dp, rfl⟩ := qp.slice
  have pb_2 := Fk.hide pp.view
  have pa_2 := Fk.hide qp.view
  clear pp qp unp hip hjp
  have HB2 : Hid (Below w.heap.size w W2) := HB1.out.trans (k2.mono HB1.out.size)
  have hz2 : W1.heap.size ≤ W2.heap.size := k2.size
  have cAa_2 : W2.cell? ⟨w.heap.size, 0, none⟩ = some (.slice sa B0.length sc) := (k2.cell (by show w.heap.size < _; omega)).trans cAa_1
  have cAb_2 : W2.cell? ⟨w.heap.size, 1, none⟩ = some (.slice ta A0.length tc) := (k2.cell (by show w.heap.size < _; omega)).trans cAb_1
  have cAc_2 : W2.cell? ⟨w.heap.size, 2, none⟩ = some (.int .i64 K0) := (k2.cell (by show w.heap.size < _; omega)).trans cAc_1
  clear k2 cAa_1 cAb_1 cAc_1
  go_wp2_with fail
  refine (FS.out _ _ _ pb_2.out pa_2.out).mono ?_
  rintro e W3 ⟨⟨uow, rfl, tow⟩, k3⟩
  obtain ⟨aow, cow, rfl⟩ := tow.slice
  have ow_3 := Fk.hide tow
  clear tow
  have HXow : Hid (∀ k, (Value.slice aow RL.length cow).ownBlock = some k → W2.heap.size ≤ k ∧ k < W3.heap.size) := fun k hk => World.ownsRow.lt ow_3.out k hk
  have HB3 : Hid (Below w.heap.size w W3) := HB2.out.trans (k3.mono HB2.out.size)
  have hz3 : W2.heap.size ≤ W3.heap.size := k3.size
  have cAa_3 : W3.cell? ⟨w.heap.size, 0, none⟩ = some (.slice sa B0.length sc) := (k3.cell (by show w.heap.size < _; omega)).trans cAa_2
  have cAb_3 : W3.cell? ⟨w.heap.size, 1, none⟩ = some (.slice ta A0.length tc) := (k3.cell (by show w.heap.size < _; omega)).trans cAb_2
  have cAc_3 : W3.cell? ⟨w.heap.size, 2, none⟩ = some (.int .i64 K0) := (k3.cell (by show w.heap.size < _; omega)).trans cAc_2
  have pb_3 := Fk.hide (pb_2.out.below k3)
  have pa_3 := Fk.hide (pa_2.out.below k3)
  clear k3 cAa_2 cAb_2 cAc_2 pb_2 pa_2
  clear pb_3
  clear pa_3
  go_wp2_with fail
  refine (toNew_any _ _ _ B0 A0 _ (HG0.out.below HB3.out) (HG1.out.below HB3.out) hl0 hl1 HE0.out HE1.out).mono ?_
  rintro e W4 ⟨⟨ux, vx, hbx, hax, midx, rfl, px, qx, unx, hix, hjx⟩, k4⟩
  obtain ⟨ax, cx, rfl⟩ := px.slice
  obtain ⟨bx, dx, rfl⟩ := qx.slice
  have xb_4 := Fk.hide px.view
  have xa_4 := Fk.hide qx.view
  have xB_4 := Fk.hide px
  have xA_4 := Fk.hide qx
  have HUx := Fk.hide unx
  have HIx := Fk.hide hix
  have HJx := Fk.hide hjx
  have HVx := Fk.hide qx.under
  clear px qx unx hix hjx
  have HB4 : Hid (Below w.heap.size w W4) := HB3.out.trans (k4.mono HB3.out.size)
  have hz4 : W3.heap.size ≤ W4.heap.size := k4.size
  have cAa_4 : W4.cell? ⟨w.heap.size, 0, none⟩ = some (.slice sa B0.length sc) := (k4.cell (by show w.heap.size < _; omega)).trans cAa_3
  have cAb_4 : W4.cell? ⟨w.heap.size, 1, none⟩ = some (.slice ta A0.length tc) := (k4.cell (by show w.heap.size < _; omega)).trans cAb_3
  have cAc_4 : W4.cell? ⟨w.heap.size, 2, none⟩ = some (.int .i64 K0) := (k4.cell (by show w.heap.size < _; omega)).trans cAc_3
  have ow_4 := Fk.hide (ow_3.out.below k4)
  clear k4 cAa_3 cAb_3 cAc_3 ow_3
  have lcAa_ : (W4.alloc (.cells #[.slice ax B0.length cx, .slice bx A0.length dx, .int .i64 K0] 28)).cell? ⟨w.heap.size, 0, none⟩ = some (.slice sa B0.length sc) := by rw [Fk.cellOld _ _ _ _ (by omega)]; exact cAa_4
  have lcAb_ : (W4.alloc (.cells #[.slice ax B0.length cx, .slice bx A0.length dx, .int .i64 K0] 28)).cell? ⟨w.heap.size, 1, none⟩ = some (.slice ta A0.length tc) := by rw [Fk.cellOld _ _ _ _ (by omega)]; exact cAb_4
  have lcAc_ : (W4.alloc (.cells #[.slice ax B0.length cx, .slice bx A0.length dx, .int .i64 K0] 28)).cell? ⟨w.heap.size, 2, none⟩ = some (.int .i64 K0) := by rw [Fk.cellOld _ _ _ _ (by omega)]; exact cAc_4
  go_wp2_with fail
  clear lcAa_ lcAb_ lcAc_
  obtain ⟨W5, hW5⟩ : ∃ W, W = (W4.alloc (.cells #[.slice ax B0.length cx, .slice bx A0.length dx, .int .i64 K0] 28)) := ⟨_, rfl⟩
  have k5 : Below W4.heap.size W4 W5 := by rw [hW5]; exact (Below.refl _ _).alloc (Nat.le_refl _) _
  have hy5 : W4.heap.size < W5.heap.size := by rw [hW5]; simp
  have sxa_5 : W5.cell? ⟨W4.heap.size, 0, none⟩ = some (.slice ax B0.length cx) := by rw [hW5, Fk.cellTop _ _ _ _ _ rfl]; rfl
  have sxb_5 : W5.cell? ⟨W4.heap.size, 1, none⟩ = some (.slice bx A0.length dx) := by rw [hW5, Fk.cellTop _ _ _ _ _ rfl]; rfl
  have sxc_5 : W5.cell? ⟨W4.heap.size, 2, none⟩ = some (.int .i64 K0) := by rw [hW5, Fk.cellTop _ _ _ _ _ rfl]; rfl
  have HW5 := Fk.hide hW5
  clear hW5
  have HB5 : Hid (Below w.heap.size w W5) := HB4.out.trans (k5.mono HB4.out.size)
  have hz5 : W4.heap.size ≤ W5.heap.size := k5.size
  have cAa_5 : W5.cell? ⟨w.heap.size, 0, none⟩ = some (.slice sa B0.length sc) := (k5.cell (by show w.heap.size < _; omega)).trans cAa_4
  have cAb_5 : W5.cell? ⟨w.heap.size, 1, none⟩ = some (.slice ta A0.length tc) := (k5.cell (by show w.heap.size < _; omega)).trans cAb_4
  have cAc_5 : W5.cell? ⟨w.heap.size, 2, none⟩ = some (.int .i64 K0) := (k5.cell (by show w.heap.size < _; omega)).trans cAc_4
  have ow_5 := Fk.hide (ow_4.out.below k5)
  have xb_5 := Fk.hide (xb_4.out.below k5)
  have xa_5 := Fk.hide (xa_4.out.below k5)
  have xB_5 := Fk.hide (xB_4.out.below k5)
  have xA_5 := Fk.hide (xA_4.out.below k5)
  clear k5 cAa_4 cAb_4 cAc_4 ow_4 xb_4 xa_4 xB_4 xA_4
  rw [← HW5.out]
  refine (FI.out _ _ _ xb_5.out xa_5.out).mono ?_
  rintro e W6 ⟨⟨uog, rfl, tog⟩, k6⟩
  obtain ⟨aog, cog, rfl⟩ := tog.slice
  have og_6 := Fk.hide tog
  clear tog
  have HXog : Hid (∀ k, (Value.slice aog RL.length cog).ownBlock = some k → W5.heap.size ≤ k ∧ k < W6.heap.size) := fun k hk => World.ownsRow.lt og_6.out k hk
  have HB6 : Hid (Below w.heap.size w W6) := HB5.out.trans (k6.mono HB5.out.size)
  have hz6 : W5.heap.size ≤ W6.heap.size := k6.size
  have cAa_6 : W6.cell? ⟨w.heap.size, 0, none⟩ = some (.slice sa B0.length sc) := (k6.cell (by show w.heap.size < _; omega)).trans cAa_5
  have cAb_6 : W6.cell? ⟨w.heap.size, 1, none⟩ = some (.slice ta A0.length tc) := (k6.cell (by show w.heap.size < _; omega)).trans cAb_5
  have cAc_6 : W6.cell? ⟨w.heap.size, 2, none⟩ = some (.int .i64 K0) := (k6.cell (by show w.heap.size < _; omega)).trans cAc_5
  have sxa_6 : W6.cell? ⟨W4.heap.size, 0, none⟩ = some (.slice ax B0.length cx) := (k6.cell (by show W4.heap.size < _; omega)).trans sxa_5
  have sxb_6 : W6.cell? ⟨W4.heap.size, 1, none⟩ = some (.slice bx A0.length dx) := (k6.cell (by show W4.heap.size < _; omega)).trans sxb_5
  have sxc_6 : W6.cell? ⟨W4.heap.size, 2, none⟩ = some (.int .i64 K0) := (k6.cell (by show W4.heap.size < _; omega)).trans sxc_5
  have ow_6 := Fk.hide (ow_5.out.below k6)
  have xb_6 := Fk.hide (xb_5.out.below k6)
  have xa_6 := Fk.hide (xa_5.out.below k6)
  have xB_6 := Fk.hide (xB_5.out.below k6)
  have xA_6 := Fk.hide (xA_5.out.below k6)
  clear k6 cAa_5 cAb_5 cAc_5 sxa_5 sxb_5 sxc_5 ow_5 xb_5 xa_5 xB_5 xA_5
  go_wp2_with fail
  refine (eqInt64S_same _ _ RL _ (og_6.out.view) (ow_6.out.view) hRl).mono ?_
  rintro e W7 ⟨rfl, k7⟩
  have HB7 : Hid (Below w.heap.size w W7) := HB6.out.trans (k7.mono HB6.out.size)
  have hz7 : W6.heap.size ≤ W7.heap.size := k7.size
  have cAa_7 : W7.cell? ⟨w.heap.size, 0, none⟩ = some (.slice sa B0.length sc) := (k7.cell (by show w.heap.size < _; omega)).trans cAa_6
  have cAb_7 : W7.cell? ⟨w.heap.size, 1, none⟩ = some (.slice ta A0.length tc) := (k7.cell (by show w.heap.size < _; omega)).trans cAb_6
  have cAc_7 : W7.cell? ⟨w.heap.size, 2, none⟩ = some (.int .i64 K0) := (k7.cell (by show w.heap.size < _; omega)).trans cAc_6
  have sxa_7 : W7.cell? ⟨W4.heap.size, 0, none⟩ = some (.slice ax B0.length cx) := (k7.cell (by show W4.heap.size < _; omega)).trans sxa_6
  have sxb_7 : W7.cell? ⟨W4.heap.size, 1, none⟩ = some (.slice bx A0.length dx) := (k7.cell (by show W4.heap.size < _; omega)).trans sxb_6
  have sxc_7 : W7.cell? ⟨W4.heap.size, 2, none⟩ = some (.int .i64 K0) := (k7.cell (by show W4.heap.size < _; omega)).trans sxc_6
  have ow_7 := Fk.hide (ow_6.out.below k7)
  have xb_7 := Fk.hide (xb_6.out.below k7)
  have xa_7 := Fk.hide (xa_6.out.below k7)
  have xB_7 := Fk.hide (xB_6.out.below k7)
  have xA_7 := Fk.hide (xA_6.out.below k7)
  have og_7 := Fk.hide (og_6.out.below k7)
  clear k7 cAa_6 cAb_6 cAc_6 sxa_6 sxb_6 sxc_6 ow_6 xb_6 xa_6 xB_6 xA_6 og_6
  go_wp2_with fail
  have vd0 := Fk.hide ((HG0.out.below HB7.out).below (Below.drew (Below.refl W7.heap.size W7)))
  have vd1 := Fk.hide ((HG1.out.below HB7.out).below (Below.drew (Below.refl W7.heap.size W7)))
  have ob := Fk.hide (xb_7.out.below (Below.drew (Below.refl W7.heap.size W7)))
  have oa := Fk.hide (xa_7.out.below (Below.drew (Below.refl W7.heap.size W7)))
  go_region_with (first
    | (go_at_call 26; refine (toNew_any _ _ _ B0 A0 _ vd0.out vd1.out hl0 hl1 HE0.out HE1.out).mono ?_; rintro e X1 ⟨⟨uq, vq, hbq, haq, midq, rfl, pq, qq, _, _, _⟩, m1⟩; obtain ⟨aq, jq, rfl⟩ := pq.slice; obtain ⟨ar, jr, rfl⟩ := qq.slice; have PQ := Fk.hide pq.view; have QQ := Fk.hide qq.view; clear pq qq; have dxa : X1.cell? ⟨W4.heap.size, 0, none⟩ = some (.slice ax B0.length cx) := (m1.cell (by show W4.heap.size < W7.heap.size; omega)).trans sxa_7; have dxb : X1.cell? ⟨W4.heap.size, 1, none⟩ = some (.slice bx A0.length dx) := (m1.cell (by show W4.heap.size < W7.heap.size; omega)).trans sxb_7; have dxc : X1.cell? ⟨W4.heap.size, 2, none⟩ = some (.int .i64 K0) := (m1.cell (by show W4.heap.size < W7.heap.size; omega)).trans sxc_7)
    | (go_at_call 19; refine (eqNew_same _ _ _ _ _ B0 A0 _ (ob.out.below m1) (oa.out.below m1) PQ.out QQ.out hl0 hl1 HE0.out HE1.out).mono ?_; rintro e W8 ⟨rfl, m2⟩))
  all_goals
    have k8 : Below W7.heap.size W7 W8 := (Below.trans (Below.drew (Below.refl _ _)) m1).trans (m2.mono m1.size)
    clear m1 m2 vd0 vd1 ob oa PQ QQ dxa dxb dxc
    have HB8 : Hid (Below w.heap.size w W8) := HB7.out.trans (k8.mono HB7.out.size)
    have hz8 : W7.heap.size ≤ W8.heap.size := k8.size
    have cAa_8 : W8.cell? ⟨w.heap.size, 0, none⟩ = some (.slice sa B0.length sc) := (k8.cell (by show w.heap.size < _; omega)).trans cAa_7
    have cAb_8 : W8.cell? ⟨w.heap.size, 1, none⟩ = some (.slice ta A0.length tc) := (k8.cell (by show w.heap.size < _; omega)).trans cAb_7
    have cAc_8 : W8.cell? ⟨w.heap.size, 2, none⟩ = some (.int .i64 K0) := (k8.cell (by show w.heap.size < _; omega)).trans cAc_7
    have sxa_8 : W8.cell? ⟨W4.heap.size, 0, none⟩ = some (.slice ax B0.length cx) := (k8.cell (by show W4.heap.size < _; omega)).trans sxa_7
    have sxb_8 : W8.cell? ⟨W4.heap.size, 1, none⟩ = some (.slice bx A0.length dx) := (k8.cell (by show W4.heap.size < _; omega)).trans sxb_7
    have sxc_8 : W8.cell? ⟨W4.heap.size, 2, none⟩ = some (.int .i64 K0) := (k8.cell (by show W4.heap.size < _; omega)).trans sxc_7
    have ow_8 := Fk.hide (ow_7.out.below k8)
    have xb_8 := Fk.hide (xb_7.out.below k8)
    have xa_8 := Fk.hide (xa_7.out.below k8)
    have xB_8 := Fk.hide (xB_7.out.below k8)
    have xA_8 := Fk.hide (xA_7.out.below k8)
    have og_8 := Fk.hide (og_7.out.below k8)
    clear k8 cAa_7 cAb_7 cAc_7 sxa_7 sxb_7 sxc_7 ow_7 xb_7 xa_7 xB_7 xA_7 og_7
    go_wp2_with fail
    refine (markNew_any _ _ _ B0 A0 _ _ 1 _ midx _ _ xB_8.out xA_8.out HUx.out HVx.out HIx.out HJx.out (by omega) hl0 hl1 HM0.out HM1.out (by decide) (by decide)).mono ?_
    rintro e W9 ⟨⟨mk, rfl, hmk⟩, gm⟩
    have HB9 : Hid (Below w.heap.size w W9) := gm.below HB8.out HB8.out.size (by have := HB3.out.size; omega)
    have hz9 : W8.heap.size ≤ W9.heap.size := gm.size
    clear xb_8
    clear xa_8
    clear xB_8
    clear xA_8
    have cAa_9 : W9.cell? ⟨w.heap.size, 0, none⟩ = some (.slice sa B0.length sc) := gm.cell cAa_8 (by show w.heap.size < _ ∨ _ ≤ w.heap.size; omega)
    have cAb_9 : W9.cell? ⟨w.heap.size, 1, none⟩ = some (.slice ta A0.length tc) := gm.cell cAb_8 (by show w.heap.size < _ ∨ _ ≤ w.heap.size; omega)
    have cAc_9 : W9.cell? ⟨w.heap.size, 2, none⟩ = some (.int .i64 K0) := gm.cell cAc_8 (by show w.heap.size < _ ∨ _ ≤ w.heap.size; omega)
    have sxa_9 : W9.cell? ⟨W4.heap.size, 0, none⟩ = some (.slice ax B0.length cx) := gm.cell sxa_8 (by show W4.heap.size < _ ∨ _ ≤ W4.heap.size; omega)
    have sxb_9 : W9.cell? ⟨W4.heap.size, 1, none⟩ = some (.slice bx A0.length dx) := gm.cell sxb_8 (by show W4.heap.size < _ ∨ _ ≤ W4.heap.size; omega)
    have sxc_9 : W9.cell? ⟨W4.heap.size, 2, none⟩ = some (.int .i64 K0) := gm.cell sxc_8 (by show W4.heap.size < _ ∨ _ ≤ W4.heap.size; omega)
    have ow_9 := Fk.hide (show Ik.Own _ _ _ _ RL from gm.keepsRow ow_8.out (fun k hk => by have := HXow.out k hk; omega))
    have og_9 := Fk.hide (show Ik.Own _ _ _ _ RL from gm.keepsRow og_8.out (fun k hk => by have := HXog.out k hk; omega))
    clear gm cAa_8 cAb_8 cAc_8 sxa_8 sxb_8 sxc_8 ow_8 og_8
    have hq10 : (0 : Int) ≤ (mk : Int) := by omega
    go_wp2_with fail
    refine (eqInt64S_same _ _ RL _ (og_9.out.view) (ow_9.out.view) hRl).mono ?_
    rintro e W10 ⟨rfl, k10⟩
    have HB10 : Hid (Below w.heap.size w W10) := HB9.out.trans (k10.mono HB9.out.size)
    have hz10 : W9.heap.size ≤ W10.heap.size := k10.size
    have cAa_10 : W10.cell? ⟨w.heap.size, 0, none⟩ = some (.slice sa B0.length sc) := (k10.cell (by show w.heap.size < _; omega)).trans cAa_9
    have cAb_10 : W10.cell? ⟨w.heap.size, 1, none⟩ = some (.slice ta A0.length tc) := (k10.cell (by show w.heap.size < _; omega)).trans cAb_9
    have cAc_10 : W10.cell? ⟨w.heap.size, 2, none⟩ = some (.int .i64 K0) := (k10.cell (by show w.heap.size < _; omega)).trans cAc_9
    have sxa_10 : W10.cell? ⟨W4.heap.size, 0, none⟩ = some (.slice ax B0.length cx) := (k10.cell (by show W4.heap.size < _; omega)).trans sxa_9
    have sxb_10 : W10.cell? ⟨W4.heap.size, 1, none⟩ = some (.slice bx A0.length dx) := (k10.cell (by show W4.heap.size < _; omega)).trans sxb_9
    have sxc_10 : W10.cell? ⟨W4.heap.size, 2, none⟩ = some (.int .i64 K0) := (k10.cell (by show W4.heap.size < _; omega)).trans sxc_9
    have ow_10 := Fk.hide (ow_9.out.below k10)
    have og_10 := Fk.hide (og_9.out.below k10)
    clear k10 cAa_9 cAb_9 cAc_9 sxa_9 sxb_9 sxc_9 ow_9 og_9
    go_wp2_with fail
    refine (markInt64S_any _ RL 1 W5.heap.size _ og_10.out hRl (by decide) (by decide)).mono ?_
    rintro e W11 ⟨⟨rfl, oG⟩, gm⟩
    have oG_11 := Fk.hide oG
    clear oG
    have HB11 : Hid (Below w.heap.size w W11) := HB10.out.grown gm HB10.out.size (fun k hk => by have := HXog.out k hk; have := HB5.out.size; omega)
    have hz11 : W10.heap.size ≤ W11.heap.size := gm.size
    clear og_10
    have cAa_11 : W11.cell? ⟨w.heap.size, 0, none⟩ = some (.slice sa B0.length sc) := gm.cell cAa_10 (fun e => by have := HXog.out _ e.symm; simp only at this; omega)
    have cAb_11 : W11.cell? ⟨w.heap.size, 1, none⟩ = some (.slice ta A0.length tc) := gm.cell cAb_10 (fun e => by have := HXog.out _ e.symm; simp only at this; omega)
    have cAc_11 : W11.cell? ⟨w.heap.size, 2, none⟩ = some (.int .i64 K0) := gm.cell cAc_10 (fun e => by have := HXog.out _ e.symm; simp only at this; omega)
    have sxa_11 : W11.cell? ⟨W4.heap.size, 0, none⟩ = some (.slice ax B0.length cx) := gm.cell sxa_10 (fun e => by have := HXog.out _ e.symm; simp only at this; omega)
    have sxb_11 : W11.cell? ⟨W4.heap.size, 1, none⟩ = some (.slice bx A0.length dx) := gm.cell sxb_10 (fun e => by have := HXog.out _ e.symm; simp only at this; omega)
    have sxc_11 : W11.cell? ⟨W4.heap.size, 2, none⟩ = some (.int .i64 K0) := gm.cell sxc_10 (fun e => by have := HXog.out _ e.symm; simp only at this; omega)
    have ow_11 := Fk.hide (ow_10.out.kept gm (fun k hk e => by have h1 := HXow.out k hk; have h2 := HXog.out k e.symm; omega))
    clear gm cAa_10 cAb_10 cAc_10 sxa_10 sxb_10 sxc_10 ow_10
    obtain ⟨q2, hq2⟩ : ∃ q : Int, q = ((1 + RL.length : Nat) : Int) := ⟨_, rfl⟩
    have hq20 : 0 ≤ q2 := by omega
    rw [← hq2]
    have HQ2 := Fk.hide hq2
    clear hq2
    go_wp2_with fail
    refine (heldInt64S_any _ RL.length 1 _ (oG_11.out.view) hRl (by decide) (by decide)).mono ?_
    rintro e W12 ⟨rfl, k12⟩
    rw [← HQ2.out]
    have HB12 : Hid (Below w.heap.size w W12) := HB11.out.trans (k12.mono HB11.out.size)
    have hz12 : W11.heap.size ≤ W12.heap.size := k12.size
    have cAa_12 : W12.cell? ⟨w.heap.size, 0, none⟩ = some (.slice sa B0.length sc) := (k12.cell (by show w.heap.size < _; omega)).trans cAa_11
    have cAb_12 : W12.cell? ⟨w.heap.size, 1, none⟩ = some (.slice ta A0.length tc) := (k12.cell (by show w.heap.size < _; omega)).trans cAb_11
    have cAc_12 : W12.cell? ⟨w.heap.size, 2, none⟩ = some (.int .i64 K0) := (k12.cell (by show w.heap.size < _; omega)).trans cAc_11
    have sxa_12 : W12.cell? ⟨W4.heap.size, 0, none⟩ = some (.slice ax B0.length cx) := (k12.cell (by show W4.heap.size < _; omega)).trans sxa_11
    have sxb_12 : W12.cell? ⟨W4.heap.size, 1, none⟩ = some (.slice bx A0.length dx) := (k12.cell (by show W4.heap.size < _; omega)).trans sxb_11
    have sxc_12 : W12.cell? ⟨W4.heap.size, 2, none⟩ = some (.int .i64 K0) := (k12.cell (by show W4.heap.size < _; omega)).trans sxc_11
    have ow_12 := Fk.hide (ow_11.out.below k12)
    have oG_12 := Fk.hide (oG_11.out.below k12)
    clear k12 cAa_11 cAb_11 cAc_11 sxa_11 sxb_11 sxc_11 ow_11 oG_11
    go_wp2_with fail
    refine (toNew_any _ _ _ B0 A0 _ (HG0.out.below HB12.out) (HG1.out.below HB12.out) hl0 hl1 HE0.out HE1.out).mono ?_
    rintro e W13 ⟨⟨utt, vtt, hbtt, hatt, midtt, rfl, ptt, qtt, untt, hitt, hjtt⟩, k13⟩
    obtain ⟨att, ctt, rfl⟩ := ptt.slice
    obtain ⟨btt, dtt, rfl⟩ := qtt.slice
    have ttb_13 := Fk.hide ptt.view
    have tta_13 := Fk.hide qtt.view
    clear ptt qtt untt hitt hjtt
    have HB13 : Hid (Below w.heap.size w W13) := HB12.out.trans (k13.mono HB12.out.size)
    have hz13 : W12.heap.size ≤ W13.heap.size := k13.size
    have cAa_13 : W13.cell? ⟨w.heap.size, 0, none⟩ = some (.slice sa B0.length sc) := (k13.cell (by show w.heap.size < _; omega)).trans cAa_12
    have cAb_13 : W13.cell? ⟨w.heap.size, 1, none⟩ = some (.slice ta A0.length tc) := (k13.cell (by show w.heap.size < _; omega)).trans cAb_12
    have cAc_13 : W13.cell? ⟨w.heap.size, 2, none⟩ = some (.int .i64 K0) := (k13.cell (by show w.heap.size < _; omega)).trans cAc_12
    have sxa_13 : W13.cell? ⟨W4.heap.size, 0, none⟩ = some (.slice ax B0.length cx) := (k13.cell (by show W4.heap.size < _; omega)).trans sxa_12
    have sxb_13 : W13.cell? ⟨W4.heap.size, 1, none⟩ = some (.slice bx A0.length dx) := (k13.cell (by show W4.heap.size < _; omega)).trans sxb_12
    have sxc_13 : W13.cell? ⟨W4.heap.size, 2, none⟩ = some (.int .i64 K0) := (k13.cell (by show W4.heap.size < _; omega)).trans sxc_12
    have ow_13 := Fk.hide (ow_12.out.below k13)
    have oG_13 := Fk.hide (oG_12.out.below k13)
    clear k13 cAa_12 cAb_12 cAc_12 sxa_12 sxb_12 sxc_12 ow_12 oG_12
    go_wp2_with fail
    refine (FI.out _ _ _ ttb_13.out tta_13.out).mono ?_
    rintro e W14 ⟨⟨uoh, rfl, toh⟩, k14⟩
    obtain ⟨aoh, coh, rfl⟩ := toh.slice
    have oh_14 := Fk.hide toh
    clear toh
    have HXoh : Hid (∀ k, (Value.slice aoh RL.length coh).ownBlock = some k → W13.heap.size ≤ k ∧ k < W14.heap.size) := fun k hk => World.ownsRow.lt oh_14.out k hk
    have HB14 : Hid (Below w.heap.size w W14) := HB13.out.trans (k14.mono HB13.out.size)
    have hz14 : W13.heap.size ≤ W14.heap.size := k14.size
    have cAa_14 : W14.cell? ⟨w.heap.size, 0, none⟩ = some (.slice sa B0.length sc) := (k14.cell (by show w.heap.size < _; omega)).trans cAa_13
    have cAb_14 : W14.cell? ⟨w.heap.size, 1, none⟩ = some (.slice ta A0.length tc) := (k14.cell (by show w.heap.size < _; omega)).trans cAb_13
    have cAc_14 : W14.cell? ⟨w.heap.size, 2, none⟩ = some (.int .i64 K0) := (k14.cell (by show w.heap.size < _; omega)).trans cAc_13
    have sxa_14 : W14.cell? ⟨W4.heap.size, 0, none⟩ = some (.slice ax B0.length cx) := (k14.cell (by show W4.heap.size < _; omega)).trans sxa_13
    have sxb_14 : W14.cell? ⟨W4.heap.size, 1, none⟩ = some (.slice bx A0.length dx) := (k14.cell (by show W4.heap.size < _; omega)).trans sxb_13
    have sxc_14 : W14.cell? ⟨W4.heap.size, 2, none⟩ = some (.int .i64 K0) := (k14.cell (by show W4.heap.size < _; omega)).trans sxc_13
    have ow_14 := Fk.hide (ow_13.out.below k14)
    have oG_14 := Fk.hide (oG_13.out.below k14)
    have ttb_14 := Fk.hide (ttb_13.out.below k14)
    have tta_14 := Fk.hide (tta_13.out.below k14)
    clear k14 cAa_13 cAb_13 cAc_13 sxa_13 sxb_13 sxc_13 ow_13 oG_13 ttb_13 tta_13
    clear ttb_14
    clear tta_14
    go_wp2_with fail
    refine (eqInt64S_same _ _ RL _ (oh_14.out.view) (ow_14.out.view) hRl).mono ?_
    rintro e W15 ⟨rfl, k15⟩
    have HB15 : Hid (Below w.heap.size w W15) := HB14.out.trans (k15.mono HB14.out.size)
    have hz15 : W14.heap.size ≤ W15.heap.size := k15.size
    have cAa_15 : W15.cell? ⟨w.heap.size, 0, none⟩ = some (.slice sa B0.length sc) := (k15.cell (by show w.heap.size < _; omega)).trans cAa_14
    have cAb_15 : W15.cell? ⟨w.heap.size, 1, none⟩ = some (.slice ta A0.length tc) := (k15.cell (by show w.heap.size < _; omega)).trans cAb_14
    have cAc_15 : W15.cell? ⟨w.heap.size, 2, none⟩ = some (.int .i64 K0) := (k15.cell (by show w.heap.size < _; omega)).trans cAc_14
    have sxa_15 : W15.cell? ⟨W4.heap.size, 0, none⟩ = some (.slice ax B0.length cx) := (k15.cell (by show W4.heap.size < _; omega)).trans sxa_14
    have sxb_15 : W15.cell? ⟨W4.heap.size, 1, none⟩ = some (.slice bx A0.length dx) := (k15.cell (by show W4.heap.size < _; omega)).trans sxb_14
    have sxc_15 : W15.cell? ⟨W4.heap.size, 2, none⟩ = some (.int .i64 K0) := (k15.cell (by show W4.heap.size < _; omega)).trans sxc_14
    have ow_15 := Fk.hide (ow_14.out.below k15)
    have oG_15 := Fk.hide (oG_14.out.below k15)
    have oh_15 := Fk.hide (oh_14.out.below k15)
    clear k15 cAa_14 cAb_14 cAc_14 sxa_14 sxb_14 sxc_14 ow_14 oG_14 oh_14
    go_wp2_with fail
    refine (heldInt64S_any _ RL.length 1 _ (oG_15.out.view) hRl (by decide) (by decide)).mono ?_
    rintro e W16 ⟨rfl, k16⟩
    rw [← HQ2.out]
    have HB16 : Hid (Below w.heap.size w W16) := HB15.out.trans (k16.mono HB15.out.size)
    have hz16 : W15.heap.size ≤ W16.heap.size := k16.size
    have cAa_16 : W16.cell? ⟨w.heap.size, 0, none⟩ = some (.slice sa B0.length sc) := (k16.cell (by show w.heap.size < _; omega)).trans cAa_15
    have cAb_16 : W16.cell? ⟨w.heap.size, 1, none⟩ = some (.slice ta A0.length tc) := (k16.cell (by show w.heap.size < _; omega)).trans cAb_15
    have cAc_16 : W16.cell? ⟨w.heap.size, 2, none⟩ = some (.int .i64 K0) := (k16.cell (by show w.heap.size < _; omega)).trans cAc_15
    have sxa_16 : W16.cell? ⟨W4.heap.size, 0, none⟩ = some (.slice ax B0.length cx) := (k16.cell (by show W4.heap.size < _; omega)).trans sxa_15
    have sxb_16 : W16.cell? ⟨W4.heap.size, 1, none⟩ = some (.slice bx A0.length dx) := (k16.cell (by show W4.heap.size < _; omega)).trans sxb_15
    have sxc_16 : W16.cell? ⟨W4.heap.size, 2, none⟩ = some (.int .i64 K0) := (k16.cell (by show W4.heap.size < _; omega)).trans sxc_15
    have ow_16 := Fk.hide (ow_15.out.below k16)
    have oG_16 := Fk.hide (oG_15.out.below k16)
    have oh_16 := Fk.hide (oh_15.out.below k16)
    clear k16 cAa_15 cAb_15 cAc_15 sxa_15 sxb_15 sxc_15 ow_15 oG_15 oh_15
    go_wp2_with fail
    go_ret
    exact ⟨rfl, HB16.out⟩

set_option maxRecDepth 100000 in
theorem lifted (os : Os) (started : os.Started) (H : Type) (enc : TypeId × Value → H) :
    ReturnsInHanded {} Try.checked os 11 .any (Rows.fnExactNewQueueSpec.pre6 enc Try.prog Try.f11 Rows.fnExactNewQueueRow.domain false) (Rows.fnExactNewQueueSpec.post enc Try.prog Try.f11 false true false false) := by
  refine returnsInHanded_of_change (C := Try.checked) own started (by kernel_rfl) Try.func11
    (ChangeSpec.witness6 (enc := enc) (C := Try.checked) false ⟨#[], #[.agg #[.slice none 0 0, .slice none 0 0, .int .i64 0], .bool false, .int .i64 0], []⟩ 8 (by kernel_rfl) (by kernel_rfl) (by kernel_rfl) (by kernel_rfl)) ?_
  intro W base args ds gs before hval0 hW hcnd _
  have hval : ∀ (j : Nat) t v, Try.f11.params[j]? = some t → args[j]? = some v → Value.okWide Try.prog W .any base t v := hval0
  have hW' := hW
  obtain ⟨p, q, hA0, hV, rfl, hfz, hnd⟩ := hW
  have hA : DataW.TrodAll enc Try.prog W 0 (fun _ => true) true Try.f11.params.toList args.toList ds p := hA0
  rw [Try.params11] at hA hval
  obtain ⟨v0, vs0, d0, ds0, p0, q0, hargs, rfl, rfl, h0, r0⟩ := trodAll_cons hA
  obtain ⟨v1, vs1, d1, ds1, p1, q1, rfl, rfl, rfl, h1, r1⟩ := trodAll_cons r0
  obtain ⟨v2, vs2, d2, ds2, p2, q2, rfl, rfl, rfl, h2, r2⟩ := trodAll_cons r1
  obtain ⟨rfl, rfl, rfl⟩ := trodAll_nil r2
  obtain rfl : args = #[v0, v1, v2] := by cases args; simp_all
  obtain ⟨rfl, rfl⟩ := trodVars_none hV
  have hlt : ∀ x ∈ p0 ++ (p1 ++ (p2 ++ ([]))), x.block < W.heap.size := fun x hx => hW'.lt x (by simpa using hx)
  have k0 := h0
  obtain ⟨a0, b0, K0, B0, A0, rfl, w0, n0, x0, g0⟩ := Nb.open_new (hval 0 41 v0 rfl rfl) h0
  have k1 := h1
  obtain ⟨a1, rfl, _⟩ := open_bool Try.underlying4 (hval 1 4 v1 rfl rfl) h1
  have k2 := h2
  obtain ⟨a2, rfl, rfl, rfl, w2⟩ := open_int Try.underlying2 (hval 2 2 v2 rfl rfl) h2
  clear hA0 hval0
  have e1 : Rows.fnExactNewQueueSpec.fn H ([d0, d1, .lit (.int .i64 a2)] ++ []) = { results := [.lit (.bool true)], args := [d0, d1, .lit (.int .i64 a2)] } := by simp [Rows.fnExactNewQueueSpec]
  refine (walk a0 b0 K0 B0 A0 w0 n0 x0 a1 a2 w2 W g0).mono fun e W' ⟨he, bel⟩ => ?_
  subst he
  refine ⟨_, rfl, _, _, _, [], p0 ++ (p1 ++ ([] ++ ([]))), [], hW', ?_, ?_, ?_, bel.frame _, fun h => by cases h⟩
  · rw [e1]; exact trodAll_mk1 (shut_bool Try.underlying4 true)
  · rw [e1]; exact (trodAll_cons_mk (Below.trod laidOut (by kernel_rfl) (of_decide_eq_true (by kernel_rfl)) k0 bel (fun x hx => hlt x (by simp [hx]))) (trodAll_cons_mk (Below.trod laidOut (by kernel_rfl) (of_decide_eq_true (by kernel_rfl)) k1 bel (fun x hx => hlt x (by simp [hx]))) (trodAll_cons_mk (shut_int Try.underlying2 w2) trodAll_mk0)))
  · rw [e1]; rfl

theorem over : Rows.fnExactNewQueueRow.holds Try.pinned (OpenSpec.ofChange Rows.fnExactNewQueueSpec) :=
  OpenClaim.holds_of_wide 11 Try.f11 rfl rfl rfl rfl rfl rfl rfl ⟨rfl, rfl, rfl, rfl, rfl⟩ rfl rfl rfl rfl rfl (by kernel_rfl) Try.func11 (by kernel_rfl)
    (of_decide_eq_true (by kernel_rfl)) (by unfold Func.isWrapper; rw [if_neg (of_decide_eq_false (by kernel_rfl))]; exact ⟨rfl, rfl⟩)
    (fun os started H enc _ => lifted os started H enc)

/-- the statement -/
theorem proved : Rows.FnExactNewQueueSaid :=
  over
#print axioms proved
end Go.Proofs.Ytjagohadeegghaa.fnExactNewQueue

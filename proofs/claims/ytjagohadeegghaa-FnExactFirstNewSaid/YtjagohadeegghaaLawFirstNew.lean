/- Proved: for every argument the exact law of FirstNew returns true: impl.FirstNew answers as the specification's FirstNew, writes into no argument, and the argument reads as before. No condition. -/
import Derived.Test.YtjagohadeegghaaRows
import Derived.Test.YtjagohadeegghaaNewOpen
import Derived.Test.YtjagohadeegghaaNewTo
import Derived.Test.YtjagohadeegghaaNewEq
import Derived.Test.YtjagohadeegghaaFirstNew
import Derived.Test.YtjagohadeegghaaFirstNewImpl
import Derived.WalkKit
import Derived.ProofKit
import Derived.OpenShut
import Derived.ShutString
import Derived.Below
import Derived.ChangeSame
namespace Go.Proofs.Ytjagohadeegghaa.fnExactFirstNew
open Go.ChangeShapes Go.WideShapes Go.ChangeAt Go.RowKit
open Go.ChangeMaps (open_string shut_string)
set_option linter.unusedVariables false

theorem own : ownKnob Try.prog.godebug = none := by kernel_rfl
theorem laidOut : laidOutB Try.prog = true := by kernel_rfl

set_option maxHeartbeats 8000000 in
theorem walk (a0 b0 : Value) (K0 : Int) (B0 A0 : List Lv.E) (w0 : (Lit.int .i64 K0).wf = true) (n0 : B0.length ≤ maxLen ∧ A0.length ≤ maxLen) (x0 : (∀ i, i < B0.length → (Lv.at' B0 i).2.length ≤ maxLen) ∧ (∀ i, i < A0.length → (Lv.at' A0 i).2.length ≤ maxLen)) (w : World) (g0 : Lv.View w a0 B0 ∧ Lv.View w b0 A0) :
    Calls Try.prog 6 #[.agg #[a0, b0, .int .i64 K0]] w fun e w' => e = .returned (.bool true) ∧ Below w.heap.size w w' := by
  have HG0 := Fk.hide g0.1
  have HG1 := Fk.hide g0.2
  have HX0 := Fk.hide x0
  obtain ⟨sa, sc, rfl⟩ := g0.1.slice
  obtain ⟨ta, tc, rfl⟩ := g0.2.slice
  clear x0
  obtain ⟨W0, hW⟩ : ∃ W, W = w.alloc (.cells #[.slice sa B0.length sc, .slice ta A0.length tc, .int .i64 K0] 41) := ⟨_, rfl⟩
  have B_0 : Below w.heap.size w W0 := by rw [hW]; exact (Below.refl _ _).alloc (Nat.le_refl _) _
  have hz0 : w.heap.size < W0.heap.size := by rw [hW]; simp
  have cAa_0 : W0.cell? ⟨w.heap.size, 0, none⟩ = some (.slice sa B0.length sc) := by rw [hW, Fk.cellTop _ _ _ _ _ rfl]; rfl
  have cAb_0 : W0.cell? ⟨w.heap.size, 1, none⟩ = some (.slice ta A0.length tc) := by rw [hW, Fk.cellTop _ _ _ _ _ rfl]; rfl
  have cAc_0 : W0.cell? ⟨w.heap.size, 2, none⟩ = some (.int .i64 K0) := by rw [hW, Fk.cellTop _ _ _ _ _ rfl]; rfl
  have HW := Fk.hide hW
  have HB0 := Fk.hide B_0
  clear hW B_0 g0
  go_enter Try.func6, Try.ntmps6
  go_wp2_with fail
  rw [← HW.out]
  refine (szNew_any _ _ _ _ _ _ _ (HG0.out.below HB0.out) (HG1.out.below HB0.out) n0.1 n0.2 HX0.out.1 HX0.out.2 (by decide) (by decide)).mono ?_
  rintro e W1 ⟨⟨r, rfl, hr⟩, k1⟩
  have HB1 : Hid (Below w.heap.size w W1) := HB0.out.trans (k1.mono HB0.out.size)
  have hz1 : W0.heap.size ≤ W1.heap.size := k1.size
  have cAa_1 : W1.cell? ⟨w.heap.size, 0, none⟩ = some (.slice sa B0.length sc) := (k1.cell (by show w.heap.size < _; omega)).trans cAa_0
  have cAb_1 : W1.cell? ⟨w.heap.size, 1, none⟩ = some (.slice ta A0.length tc) := (k1.cell (by show w.heap.size < _; omega)).trans cAb_0
  have cAc_1 : W1.cell? ⟨w.heap.size, 2, none⟩ = some (.int .i64 K0) := (k1.cell (by show w.heap.size < _; omega)).trans cAc_0
  clear k1 cAa_0 cAb_0 cAc_0
  rcases hr with rfl | ⟨hr0, hr⟩
  · go_wp2_with fail
    go_ret
    exact ⟨rfl, HB1.out⟩
  have hl0 : B0.length ≤ 1048576 := by omega
  have hl1 : A0.length ≤ 1048576 := by omega
  have HM0 : Hid ((Nb.flat B0).length ≤ 1048576) := by show _ ≤ _; omega
  have HM1 : Hid ((Nb.flat A0).length ≤ 1048576) := by show _ ≤ _; omega
  clear hr
  have HE0 : Hid (∀ i, i < B0.length → (Lv.at' B0 i).2.length ≤ 1048576) := fun i hi => Nat.le_trans (Nb.each_le B0 i hi) HM0.out
  have HE1 : Hid (∀ i, i < A0.length → (Lv.at' A0 i).2.length ≤ 1048576) := fun i hi => Nat.le_trans (Nb.each_le A0 i hi) HM1.out
  go_wp2_with fail
  refine (toNew_any _ _ _ B0 A0 _ (HG0.out.below HB1.out) (HG1.out.below HB1.out) hl0 hl1 HE0.out HE1.out).mono ?_
  rintro e W2 ⟨⟨up, vp, hbp, hap, midp, rfl, pp, qp, unp, hip, hjp⟩, k2⟩
  obtain ⟨ap, cp, rfl⟩ := pp.slice
  obtain ⟨bp, dp, rfl⟩ := qp.slice
  have pb_2 := Fk.hide pp.view
  have pa_2 := Fk.hide qp.view
  clear pp qp unp hip hjp
  have HB2 : Hid (Below w.heap.size w W2) := HB1.out.trans (k2.mono HB1.out.size)
  have hz2 : W1.heap.size ≤ W2.heap.size := k2.size
  have cAa_2 : W2.cell? ⟨w.heap.size, 0, none⟩ = some (.slice sa B0.length sc) := (k2.cell (by show w.heap.size < _; omega)).trans cAa_1
  have cAb_2 : W2.cell? ⟨w.heap.size, 1, none⟩ = some (.slice ta A0.length tc) := (k2.cell (by show w.heap.size < _; omega)).trans cAb_1
  have cAc_2 : W2.cell? ⟨w.heap.size, 2, none⟩ = some (.int .i64 K0) := (k2.cell (by show w.heap.size < _; omega)).trans cAc_1
  clear k2 cAa_1 cAb_1 cAc_1
  go_wp2_with fail
  refine (firstNew_spec _ _ _ B0 A0 _ (pb_2.out) (pa_2.out) hl0 hl1 HM0.out HM1.out).mono ?_
  rintro e W3 ⟨rfl, k3⟩
  have HB3 : Hid (Below w.heap.size w W3) := HB2.out.trans (k3.mono HB2.out.size)
  have hz3 : W2.heap.size ≤ W3.heap.size := k3.size
  have cAa_3 : W3.cell? ⟨w.heap.size, 0, none⟩ = some (.slice sa B0.length sc) := (k3.cell (by show w.heap.size < _; omega)).trans cAa_2
  have cAb_3 : W3.cell? ⟨w.heap.size, 1, none⟩ = some (.slice ta A0.length tc) := (k3.cell (by show w.heap.size < _; omega)).trans cAb_2
  have cAc_3 : W3.cell? ⟨w.heap.size, 2, none⟩ = some (.int .i64 K0) := (k3.cell (by show w.heap.size < _; omega)).trans cAc_2
  have pb_3 := Fk.hide (pb_2.out.below k3)
  have pa_3 := Fk.hide (pa_2.out.below k3)
  clear k3 cAa_2 cAb_2 cAc_2 pb_2 pa_2
  clear pb_3
  clear pa_3
  go_wp2_with fail
  refine (toNew_any _ _ _ B0 A0 _ (HG0.out.below HB3.out) (HG1.out.below HB3.out) hl0 hl1 HE0.out HE1.out).mono ?_
  rintro e W4 ⟨⟨ux, vx, hbx, hax, midx, rfl, px, qx, unx, hix, hjx⟩, k4⟩
  obtain ⟨ax, cx, rfl⟩ := px.slice
  obtain ⟨bx, dx, rfl⟩ := qx.slice
  have xb_4 := Fk.hide px.view
  have xa_4 := Fk.hide qx.view
  clear px qx unx hix hjx
  have HB4 : Hid (Below w.heap.size w W4) := HB3.out.trans (k4.mono HB3.out.size)
  have hz4 : W3.heap.size ≤ W4.heap.size := k4.size
  have cAa_4 : W4.cell? ⟨w.heap.size, 0, none⟩ = some (.slice sa B0.length sc) := (k4.cell (by show w.heap.size < _; omega)).trans cAa_3
  have cAb_4 : W4.cell? ⟨w.heap.size, 1, none⟩ = some (.slice ta A0.length tc) := (k4.cell (by show w.heap.size < _; omega)).trans cAb_3
  have cAc_4 : W4.cell? ⟨w.heap.size, 2, none⟩ = some (.int .i64 K0) := (k4.cell (by show w.heap.size < _; omega)).trans cAc_3
  clear k4 cAa_3 cAb_3 cAc_3
  have lcAa_ : (W4.alloc (.cells #[.slice ax B0.length cx, .slice bx A0.length dx, .int .i64 K0] 28)).cell? ⟨w.heap.size, 0, none⟩ = some (.slice sa B0.length sc) := by rw [Fk.cellOld _ _ _ _ (by omega)]; exact cAa_4
  have lcAb_ : (W4.alloc (.cells #[.slice ax B0.length cx, .slice bx A0.length dx, .int .i64 K0] 28)).cell? ⟨w.heap.size, 1, none⟩ = some (.slice ta A0.length tc) := by rw [Fk.cellOld _ _ _ _ (by omega)]; exact cAb_4
  have lcAc_ : (W4.alloc (.cells #[.slice ax B0.length cx, .slice bx A0.length dx, .int .i64 K0] 28)).cell? ⟨w.heap.size, 2, none⟩ = some (.int .i64 K0) := by rw [Fk.cellOld _ _ _ _ (by omega)]; exact cAc_4
  go_wp2_with fail
  clear lcAa_ lcAb_ lcAc_
  obtain ⟨W5, hW5⟩ : ∃ W, W = (W4.alloc (.cells #[.slice ax B0.length cx, .slice bx A0.length dx, .int .i64 K0] 28)) := ⟨_, rfl⟩
  have k5 : Below W4.heap.size W4 W5 := by rw [hW5]; exact (Below.refl _ _).alloc (Nat.le_refl _) _
  have hy5 : W4.heap.size < W5.heap.size := by rw [hW5]; simp
  have sxa_5 : W5.cell? ⟨W4.heap.size, 0, none⟩ = some (.slice ax B0.length cx) := by rw [hW5, Fk.cellTop _ _ _ _ _ rfl]; rfl
  have sxb_5 : W5.cell? ⟨W4.heap.size, 1, none⟩ = some (.slice bx A0.length dx) := by rw [hW5, Fk.cellTop _ _ _ _ _ rfl]; rfl
  have sxc_5 : W5.cell? ⟨W4.heap.size, 2, none⟩ = some (.int .i64 K0) := by rw [hW5, Fk.cellTop _ _ _ _ _ rfl]; rfl
  have HW5 := Fk.hide hW5
  clear hW5
  have HB5 : Hid (Below w.heap.size w W5) := HB4.out.trans (k5.mono HB4.out.size)
  have hz5 : W4.heap.size ≤ W5.heap.size := k5.size
  have cAa_5 : W5.cell? ⟨w.heap.size, 0, none⟩ = some (.slice sa B0.length sc) := (k5.cell (by show w.heap.size < _; omega)).trans cAa_4
  have cAb_5 : W5.cell? ⟨w.heap.size, 1, none⟩ = some (.slice ta A0.length tc) := (k5.cell (by show w.heap.size < _; omega)).trans cAb_4
  have cAc_5 : W5.cell? ⟨w.heap.size, 2, none⟩ = some (.int .i64 K0) := (k5.cell (by show w.heap.size < _; omega)).trans cAc_4
  have xb_5 := Fk.hide (xb_4.out.below k5)
  have xa_5 := Fk.hide (xa_4.out.below k5)
  clear k5 cAa_4 cAb_4 cAc_4 xb_4 xa_4
  rw [← HW5.out]
  refine (firstNew_impl _ _ _ B0 A0 _ (xb_5.out) (xa_5.out) hl0 hl1 HM0.out HM1.out).mono ?_
  rintro e W6 ⟨rfl, k6⟩
  have HB6 : Hid (Below w.heap.size w W6) := HB5.out.trans (k6.mono HB5.out.size)
  have hz6 : W5.heap.size ≤ W6.heap.size := k6.size
  have cAa_6 : W6.cell? ⟨w.heap.size, 0, none⟩ = some (.slice sa B0.length sc) := (k6.cell (by show w.heap.size < _; omega)).trans cAa_5
  have cAb_6 : W6.cell? ⟨w.heap.size, 1, none⟩ = some (.slice ta A0.length tc) := (k6.cell (by show w.heap.size < _; omega)).trans cAb_5
  have cAc_6 : W6.cell? ⟨w.heap.size, 2, none⟩ = some (.int .i64 K0) := (k6.cell (by show w.heap.size < _; omega)).trans cAc_5
  have sxa_6 : W6.cell? ⟨W4.heap.size, 0, none⟩ = some (.slice ax B0.length cx) := (k6.cell (by show W4.heap.size < _; omega)).trans sxa_5
  have sxb_6 : W6.cell? ⟨W4.heap.size, 1, none⟩ = some (.slice bx A0.length dx) := (k6.cell (by show W4.heap.size < _; omega)).trans sxb_5
  have sxc_6 : W6.cell? ⟨W4.heap.size, 2, none⟩ = some (.int .i64 K0) := (k6.cell (by show W4.heap.size < _; omega)).trans sxc_5
  have xb_6 := Fk.hide (xb_5.out.below k6)
  have xa_6 := Fk.hide (xa_5.out.below k6)
  clear k6 cAa_5 cAb_5 cAc_5 sxa_5 sxb_5 sxc_5 xb_5 xa_5
  go_wp2_with fail
  have vd0 := Fk.hide ((HG0.out.below HB6.out).below (Below.drew (Below.refl W6.heap.size W6)))
  have vd1 := Fk.hide ((HG1.out.below HB6.out).below (Below.drew (Below.refl W6.heap.size W6)))
  have ob := Fk.hide (xb_6.out.below (Below.drew (Below.refl W6.heap.size W6)))
  have oa := Fk.hide (xa_6.out.below (Below.drew (Below.refl W6.heap.size W6)))
  go_region_with (first
    | (go_at_call 26; refine (toNew_any _ _ _ B0 A0 _ vd0.out vd1.out hl0 hl1 HE0.out HE1.out).mono ?_; rintro e X1 ⟨⟨uq, vq, hbq, haq, midq, rfl, pq, qq, _, _, _⟩, m1⟩; obtain ⟨aq, jq, rfl⟩ := pq.slice; obtain ⟨ar, jr, rfl⟩ := qq.slice; have PQ := Fk.hide pq.view; have QQ := Fk.hide qq.view; clear pq qq; have dxa : X1.cell? ⟨W4.heap.size, 0, none⟩ = some (.slice ax B0.length cx) := (m1.cell (by show W4.heap.size < W6.heap.size; omega)).trans sxa_6; have dxb : X1.cell? ⟨W4.heap.size, 1, none⟩ = some (.slice bx A0.length dx) := (m1.cell (by show W4.heap.size < W6.heap.size; omega)).trans sxb_6; have dxc : X1.cell? ⟨W4.heap.size, 2, none⟩ = some (.int .i64 K0) := (m1.cell (by show W4.heap.size < W6.heap.size; omega)).trans sxc_6)
    | (go_at_call 19; refine (eqNew_same _ _ _ _ _ B0 A0 _ (ob.out.below m1) (oa.out.below m1) PQ.out QQ.out hl0 hl1 HE0.out HE1.out).mono ?_; rintro e W7 ⟨rfl, m2⟩))
  all_goals
    have k7 : Below W6.heap.size W6 W7 := (Below.trans (Below.drew (Below.refl _ _)) m1).trans (m2.mono m1.size)
    clear m1 m2 vd0 vd1 ob oa PQ QQ dxa dxb dxc
    have HB7 : Hid (Below w.heap.size w W7) := HB6.out.trans (k7.mono HB6.out.size)
    have hz7 : W6.heap.size ≤ W7.heap.size := k7.size
    have cAa_7 : W7.cell? ⟨w.heap.size, 0, none⟩ = some (.slice sa B0.length sc) := (k7.cell (by show w.heap.size < _; omega)).trans cAa_6
    have cAb_7 : W7.cell? ⟨w.heap.size, 1, none⟩ = some (.slice ta A0.length tc) := (k7.cell (by show w.heap.size < _; omega)).trans cAb_6
    have cAc_7 : W7.cell? ⟨w.heap.size, 2, none⟩ = some (.int .i64 K0) := (k7.cell (by show w.heap.size < _; omega)).trans cAc_6
    have sxa_7 : W7.cell? ⟨W4.heap.size, 0, none⟩ = some (.slice ax B0.length cx) := (k7.cell (by show W4.heap.size < _; omega)).trans sxa_6
    have sxb_7 : W7.cell? ⟨W4.heap.size, 1, none⟩ = some (.slice bx A0.length dx) := (k7.cell (by show W4.heap.size < _; omega)).trans sxb_6
    have sxc_7 : W7.cell? ⟨W4.heap.size, 2, none⟩ = some (.int .i64 K0) := (k7.cell (by show W4.heap.size < _; omega)).trans sxc_6
    have xb_7 := Fk.hide (xb_6.out.below k7)
    have xa_7 := Fk.hide (xa_6.out.below k7)
    clear k7 cAa_6 cAb_6 cAc_6 sxa_6 sxb_6 sxc_6 xb_6 xa_6
    go_wp2_with fail
    go_ret
    exact ⟨rfl, HB7.out⟩

set_option maxRecDepth 100000 in
theorem lifted (os : Os) (started : os.Started) (H : Type) (enc : TypeId × Value → H) :
    ReturnsInHanded {} Try.checked os 6 .any (Rows.fnExactFirstNewSpec.pre6 enc Try.prog Try.f6 Rows.fnExactFirstNewRow.domain false) (Rows.fnExactFirstNewSpec.post enc Try.prog Try.f6 false true false false) := by
  refine returnsInHanded_of_change (C := Try.checked) own started (by kernel_rfl) Try.func6
    (ChangeSpec.witness6 (enc := enc) (C := Try.checked) false ⟨#[], #[.agg #[.slice none 0 0, .slice none 0 0, .int .i64 0]], []⟩ 8 (by kernel_rfl) (by kernel_rfl) (by kernel_rfl) (by kernel_rfl)) ?_
  intro W base args ds gs before hval0 hW hcnd _
  have hval : ∀ (j : Nat) t v, Try.f6.params[j]? = some t → args[j]? = some v → Value.okWide Try.prog W .any base t v := hval0
  have hW' := hW
  obtain ⟨p, q, hA0, hV, rfl, hfz, hnd⟩ := hW
  have hA : DataW.TrodAll enc Try.prog W 0 (fun _ => true) true Try.f6.params.toList args.toList ds p := hA0
  rw [Try.params6] at hA hval
  obtain ⟨v0, vs0, d0, ds0, p0, q0, hargs, rfl, rfl, h0, r0⟩ := trodAll_cons hA
  obtain ⟨rfl, rfl, rfl⟩ := trodAll_nil r0
  obtain rfl : args = #[v0] := by cases args; simp_all
  obtain ⟨rfl, rfl⟩ := trodVars_none hV
  have hlt : ∀ x ∈ p0 ++ ([]), x.block < W.heap.size := fun x hx => hW'.lt x (by simpa using hx)
  have k0 := h0
  obtain ⟨a0, b0, K0, B0, A0, rfl, w0, n0, x0, g0⟩ := Nb.open_new (hval 0 41 v0 rfl rfl) h0
  clear hA0 hval0
  have e1 : Rows.fnExactFirstNewSpec.fn H ([d0] ++ []) = { results := [.lit (.bool true)], args := [d0] } := by simp [Rows.fnExactFirstNewSpec]
  refine (walk a0 b0 K0 B0 A0 w0 n0 x0 W g0).mono fun e W' ⟨he, bel⟩ => ?_
  subst he
  refine ⟨_, rfl, _, _, _, [], p0 ++ ([]), [], hW', ?_, ?_, ?_, bel.frame _, fun h => by cases h⟩
  · rw [e1]; exact trodAll_mk1 (shut_bool Try.underlying4 true)
  · rw [e1]; exact (trodAll_cons_mk (Below.trod laidOut (by kernel_rfl) (of_decide_eq_true (by kernel_rfl)) k0 bel (fun x hx => hlt x (by simp [hx]))) trodAll_mk0)
  · rw [e1]; rfl

theorem over : Rows.fnExactFirstNewRow.holds Try.pinned (OpenSpec.ofChange Rows.fnExactFirstNewSpec) :=
  OpenClaim.holds_of_wide 6 Try.f6 rfl rfl rfl rfl rfl rfl rfl ⟨rfl, rfl, rfl, rfl, rfl⟩ rfl rfl rfl rfl rfl (by kernel_rfl) Try.func6 (by kernel_rfl)
    (of_decide_eq_true (by kernel_rfl)) (by unfold Func.isWrapper; rw [if_neg (of_decide_eq_false (by kernel_rfl))]; exact ⟨rfl, rfl⟩)
    (fun os started H enc _ => lifted os started H enc)

/-- the statement -/
theorem proved : Rows.FnExactFirstNewSaid :=
  over
#print axioms proved
end Go.Proofs.Ytjagohadeegghaa.fnExactFirstNew

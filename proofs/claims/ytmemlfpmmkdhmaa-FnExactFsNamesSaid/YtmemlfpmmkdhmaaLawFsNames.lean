/- Proved: for every list of files the exact law of FsNames returns true: impl.FsNames answers as the specification's FsNames, writes into no argument and keeps nothing of one, its answer owns its memory, and the argument reads as before. No condition. -/
import Derived.Test.YtmemlfpmmkdhmaaRows
import Derived.Test.YtmemlfpmmkdhmaaFsSz
import Derived.Test.YtmemlfpmmkdhmaaFsTo
import Derived.Test.YtmemlfpmmkdhmaaFsEq
import Derived.Test.YtmemlfpmmkdhmaaFsNamesWalks
import Derived.WalkKit
import Derived.ProofKit
import Derived.OpenShut
import Derived.ShutString
import Derived.Below
namespace Go.Proofs.Ytmemlfpmmkdhmaa.fnExactFsNames
open Go.ChangeShapes Go.WideShapes Go.ChangeAt Go.RowKit
open Go.ChangeMaps (open_string shut_string)
set_option linter.unusedVariables false

theorem own : ownKnob Try.prog.godebug = none := by kernel_rfl
theorem laidOut : laidOutB Try.prog = true := by kernel_rfl

set_option maxHeartbeats 4000000 in
theorem walk (a0 : Value) (L0 : List Fk.Fl) (x0 : Fk.Fits L0) (n0 : L0.length ≤ maxLen) (w : World) (g0 : Fk.View w a0 L0) :
    Calls Try.prog 4 #[.agg #[a0]] w fun e w' => e = .returned (.bool true) ∧ Below w.heap.size w w' := by
  have B0 : Below w.heap.size w (w.alloc (.cells #[a0] 24)) := (Below.refl _ _).alloc (Nat.le_refl _) _
  have cA0 : (w.alloc (.cells #[a0] 24)).cell? ⟨w.heap.size, 0, none⟩ = some a0 := by rw [Fk.cellTop _ _ _ _ _ rfl]; rfl
  have hz0 : w.heap.size < (w.alloc (.cells #[a0] 24)).heap.size := by simp
  obtain ⟨W0, hW⟩ : ∃ W, W = w.alloc (.cells #[a0] 24) := ⟨_, rfl⟩
  rw [← hW] at B0 cA0 hz0
  have HW := Fk.hide hW
  have HB0 := Fk.hide B0
  clear hW B0
  have HG := Fk.hide g0
  obtain ⟨a, cap, rfl, _⟩ := g0
  go_enter Try.func4, Try.ntmps4
  go_wp2_with fail
  rw [← HW.out]
  refine (szFs_any _ _ _ _ (HG.out.below HB0.out) x0 n0 (by decide) (by decide)).mono ?_
  rintro e W1 ⟨⟨r, rfl, hr⟩, k1⟩
  have HB1 : Hid (Below w.heap.size w W1) := HB0.out.trans (k1.mono HB0.out.size)
  have hz1 : W0.heap.size ≤ W1.heap.size := k1.size
  have cA1 : W1.cell? ⟨w.heap.size, 0, none⟩ = some (.slice a L0.length cap) := (k1.cell (by show w.heap.size < _; omega)).trans cA0
  clear cA0 
  clear k1
  rcases hr with rfl | ⟨hr0, hr⟩
  · go_wp2_with fail
    go_ret
    exact ⟨rfl, HB1.out⟩
  have hl : L0.length ≤ 1048576 := by omega
  clear hr
  obtain ⟨N, hN⟩ : ∃ N, N = Sk.names L0 := ⟨_, rfl⟩
  have hNl : N.length ≤ 1048576 := by rw [hN]; exact Nat.le_trans (Sk.names_len L0) hl
  have HN := Fk.hide hN
  clear hN
  go_wp2_with fail
  refine (toFs_any _ _ _ (HG.out.below HB1.out) hl).mono ?_
  rintro e W2 ⟨⟨u2, rfl, ou2⟩, k2⟩
  obtain ⟨au2, ju2, rfl⟩ := ou2.slice
  have HB2 : Hid (Below w.heap.size w W2) := HB1.out.trans (k2.mono HB1.out.size)
  have hz2 : W1.heap.size ≤ W2.heap.size := k2.size
  have cA2 : W2.cell? ⟨w.heap.size, 0, none⟩ = some (.slice a L0.length cap) := (k2.cell (by show w.heap.size < _; omega)).trans cA1
  clear cA1 
  clear k2
  go_wp2_with fail
  refine (fsNames_spec _ L0 _ ou2.view x0 hl).mono ?_
  rintro e W3 ⟨⟨u3, rfl, ow3⟩, k3⟩
  rw [← HN.out] at ow3
  obtain ⟨a3, j3, rfl⟩ := ow3.slice
  have HB3 : Hid (Below w.heap.size w W3) := HB2.out.trans (k3.mono HB2.out.size)
  have hz3 : W2.heap.size ≤ W3.heap.size := k3.size
  have cA3 : W3.cell? ⟨w.heap.size, 0, none⟩ = some (.slice a L0.length cap) := (k3.cell (by show w.heap.size < _; omega)).trans cA2
  clear cA2 
  clear k3
  clear ou2
  have HWb : Hid (∀ k, (Value.slice a3 N.length j3).ownBlock = some k → k < W3.heap.size) := fun k hk => (World.ownsRow.lt ow3 k hk).2
  go_wp2_with fail
  refine (toFs_any _ _ _ (HG.out.below HB3.out) hl).mono ?_
  rintro e W4 ⟨⟨u4, rfl, ou4⟩, k4⟩
  obtain ⟨au4, ju4, rfl⟩ := ou4.slice
  have HB4 : Hid (Below w.heap.size w W4) := HB3.out.trans (k4.mono HB3.out.size)
  have hz4 : W3.heap.size ≤ W4.heap.size := k4.size
  have cA4 : W4.cell? ⟨w.heap.size, 0, none⟩ = some (.slice a L0.length cap) := (k4.cell (by show w.heap.size < _; omega)).trans cA3
  have ow4 := ow3.below k4
  clear cA3 ow3
  clear k4
  have HXb : Hid (∀ k, (Value.slice au4 L0.length ju4).ownBlock = some k → W3.heap.size ≤ k ∧ k < W4.heap.size) := fun k hk => World.ownsRow.lt ou4 k hk
  have ox4 := ou4
  clear ou4
  obtain ⟨W5, hW5⟩ : ∃ W, W = W4.alloc (.cells #[.slice au4 L0.length ju4] 29) := ⟨_, rfl⟩
  have k5 : Below W4.heap.size W4 W5 := by rw [hW5]; exact (Below.refl _ _).alloc (Nat.le_refl _) _
  have hy5 : W4.heap.size < W5.heap.size := by rw [hW5]; simp
  have sx5 : W5.cell? ⟨W4.heap.size, 0, none⟩ = some (.slice au4 L0.length ju4) := by rw [hW5, Fk.cellTop _ _ _ _ _ rfl]; rfl
  have HB5 : Hid (Below w.heap.size w W5) := HB4.out.trans (k5.mono HB4.out.size)
  have hz5 : W4.heap.size ≤ W5.heap.size := k5.size
  have cA5 : W5.cell? ⟨w.heap.size, 0, none⟩ = some (.slice a L0.length cap) := (k5.cell (by show w.heap.size < _; omega)).trans cA4
  have ow5 := ow4.below k5
  have ox5 := ox4.below k5
  clear cA4 ow4 ox4
  have HW5 := Fk.hide hW5
  clear hW5 k5
  go_wp2_with fail
  rw [← HW5.out]
  refine (fsNames_impl _ L0 _ ox5.view x0 hl).mono ?_
  rintro e W6 ⟨⟨u6, rfl, og6⟩, k6⟩
  rw [← HN.out] at og6
  obtain ⟨a6, j6, rfl⟩ := og6.slice
  have HB6 : Hid (Below w.heap.size w W6) := HB5.out.trans (k6.mono HB5.out.size)
  have hz6 : W5.heap.size ≤ W6.heap.size := k6.size
  have cA6 : W6.cell? ⟨w.heap.size, 0, none⟩ = some (.slice a L0.length cap) := (k6.cell (by show w.heap.size < _; omega)).trans cA5
  have sx6 : W6.cell? ⟨W4.heap.size, 0, none⟩ = some (.slice au4 L0.length ju4) := (k6.cell (by show W4.heap.size < _; omega)).trans sx5
  have ow6 := ow5.below k6
  have ox6 := ox5.below k6
  clear cA5 sx5 ow5 ox5
  clear k6
  have HGb : Hid (∀ k, (Value.slice a6 N.length j6).ownBlock = some k → W5.heap.size ≤ k ∧ k < W6.heap.size) := fun k hk => World.ownsRow.lt og6 k hk
  go_wp2_with fail
  refine (eqStringS_same _ _ N _ og6.view ow6.view hNl).mono ?_
  rintro e W7 ⟨rfl, k7⟩
  have HB7 : Hid (Below w.heap.size w W7) := HB6.out.trans (k7.mono HB6.out.size)
  have hz7 : W6.heap.size ≤ W7.heap.size := k7.size
  have cA7 : W7.cell? ⟨w.heap.size, 0, none⟩ = some (.slice a L0.length cap) := (k7.cell (by show w.heap.size < _; omega)).trans cA6
  have sx7 : W7.cell? ⟨W4.heap.size, 0, none⟩ = some (.slice au4 L0.length ju4) := (k7.cell (by show W4.heap.size < _; omega)).trans sx6
  have ow7 := ow6.below k7
  have ox7 := ox6.below k7
  have og7 := og6.below k7
  clear cA6 sx6 ow6 ox6 og6
  clear k7
  go_wp2_with fail
  have vd : Fk.View W7.drew (.slice a L0.length cap) L0 := (HG.out.below HB7.out).below (Below.drew (Below.refl _ _))
  have od := ox7.below (Below.drew (Below.refl W7.heap.size W7))
  go_region_with (first
    | (go_at_call 8; refine (toFs_any _ _ _ vd hl).mono ?_; rintro e X1 ⟨⟨ux, rfl, oxx⟩, m1⟩; obtain ⟨ax, jx, rfl⟩ := oxx.slice; have dx : X1.cell? ⟨W4.heap.size, 0, none⟩ = some (.slice au4 L0.length ju4) := (m1.cell (by show W4.heap.size < W7.heap.size; omega)).trans sx7)
    | (go_at_call 10; refine (eqFs_same _ _ L0 _ (od.below m1).view oxx.view hl).mono ?_; rintro e W8 ⟨rfl, m2⟩))
  all_goals
    have k8 : Below W7.heap.size W7 W8 := (Below.trans (Below.drew (Below.refl _ _)) m1).trans (m2.mono m1.size)
    have HB8 : Hid (Below w.heap.size w W8) := HB7.out.trans (k8.mono HB7.out.size)
    have hz8 : W7.heap.size ≤ W8.heap.size := k8.size
    have cA8 : W8.cell? ⟨w.heap.size, 0, none⟩ = some (.slice a L0.length cap) := (k8.cell (by show w.heap.size < _; omega)).trans cA7
    have sx8 : W8.cell? ⟨W4.heap.size, 0, none⟩ = some (.slice au4 L0.length ju4) := (k8.cell (by show W4.heap.size < _; omega)).trans sx7
    have ow8 := ow7.below k8
    have ox8 := ox7.below k8
    have og8 := og7.below k8
    clear cA7 sx7 ow7 ox7 og7
    clear k8 m1 m2 vd od oxx dx
    go_wp2_with fail
    refine (markFs_any _ L0 1 W3.heap.size _ ox8 hl (by decide) (by decide)).mono ?_
    rintro e W9 ⟨⟨rfl, _⟩, k9⟩
    have HB9 : Hid (Below w.heap.size w W9) := HB8.out.grown k9 HB8.out.size (fun k hk => by have := HXb.out k hk; omega)
    have hz9 : W8.heap.size ≤ W9.heap.size := k9.size
    have ow9 := ow8.kept k9 (fun k hk e => by have h1 := HWb.out k hk; have h2 := HXb.out k e.symm; omega)
    have og9 := og8.kept k9 (fun k hk e => by have h1 := HGb.out k hk; have h2 := HXb.out k e.symm; omega)
    have cA9 : W9.cell? ⟨w.heap.size, 0, none⟩ = some (.slice a L0.length cap) := k9.cell cA8 (fun e => by have := HXb.out _ e.symm; simp only at this; omega)
    have sx9 : W9.cell? ⟨W4.heap.size, 0, none⟩ = some (.slice au4 L0.length ju4) := k9.cell sx8 (fun e => by have := HXb.out _ e.symm; simp only at this; omega)
    clear cA8 sx8
    clear k9 ow8 og8 ox8
    obtain ⟨q1, hq1⟩ : ∃ q : Int, q = ((1 + 3 * L0.length : Nat) : Int) := ⟨_, rfl⟩
    have hq10 : 0 ≤ q1 := by omega
    rw [← hq1]
    clear hq1
    go_wp2_with fail
    refine (eqStringS_same _ _ N _ og9.view ow9.view hNl).mono ?_
    rintro e W10 ⟨rfl, k10⟩
    have HB10 : Hid (Below w.heap.size w W10) := HB9.out.trans (k10.mono HB9.out.size)
    have hz10 : W9.heap.size ≤ W10.heap.size := k10.size
    have cA10 : W10.cell? ⟨w.heap.size, 0, none⟩ = some (.slice a L0.length cap) := (k10.cell (by show w.heap.size < _; omega)).trans cA9
    have sx10 : W10.cell? ⟨W4.heap.size, 0, none⟩ = some (.slice au4 L0.length ju4) := (k10.cell (by show W4.heap.size < _; omega)).trans sx9
    have ow10 := ow9.below k10
    have og10 := og9.below k10
    clear cA9 sx9 ow9 og9
    clear k10
    go_wp2_with fail
    refine (markStringS_any _ N 1 W5.heap.size _ og10 hNl (by decide) (by decide)).mono ?_
    rintro e W11 ⟨⟨rfl, og11⟩, k11⟩
    have HB11 : Hid (Below w.heap.size w W11) := HB10.out.grown k11 HB10.out.size (fun k hk => by have := HGb.out k hk; omega)
    have hz11 : W10.heap.size ≤ W11.heap.size := k11.size
    have ow11 := ow10.kept k11 (fun k hk e => by have h1 := HWb.out k hk; have h2 := HGb.out k e.symm; omega)
    have cA11 : W11.cell? ⟨w.heap.size, 0, none⟩ = some (.slice a L0.length cap) := k11.cell cA10 (fun e => by have := HGb.out _ e.symm; simp only at this; omega)
    have sx11 : W11.cell? ⟨W4.heap.size, 0, none⟩ = some (.slice au4 L0.length ju4) := k11.cell sx10 (fun e => by have := HGb.out _ e.symm; simp only at this; omega)
    clear cA10 sx10
    clear k11 ow10 og10
    obtain ⟨q2, hq2⟩ : ∃ q : Int, q = ((1 + N.length : Nat) : Int) := ⟨_, rfl⟩
    have hq20 : 0 ≤ q2 := by omega
    rw [← hq2]
    have HQ2 := Fk.hide hq2
    clear hq2
    go_wp2_with fail
    refine (heldStringS_any _ N.length 1 _ og11.view hNl (by decide) (by decide)).mono ?_
    rintro e W12 ⟨rfl, k12⟩
    rw [← HQ2.out]
    have HB12 : Hid (Below w.heap.size w W12) := HB11.out.trans (k12.mono HB11.out.size)
    have hz12 : W11.heap.size ≤ W12.heap.size := k12.size
    have cA12 : W12.cell? ⟨w.heap.size, 0, none⟩ = some (.slice a L0.length cap) := (k12.cell (by show w.heap.size < _; omega)).trans cA11
    have sx12 : W12.cell? ⟨W4.heap.size, 0, none⟩ = some (.slice au4 L0.length ju4) := (k12.cell (by show W4.heap.size < _; omega)).trans sx11
    have ow12 := ow11.below k12
    have og12 := og11.below k12
    clear cA11 sx11 ow11 og11
    clear k12
    go_wp2_with fail
    refine (toFs_any _ _ _ (HG.out.below HB12.out) hl).mono ?_
    rintro e W13 ⟨⟨u13, rfl, ou13⟩, k13⟩
    obtain ⟨au13, ju13, rfl⟩ := ou13.slice
    have HB13 : Hid (Below w.heap.size w W13) := HB12.out.trans (k13.mono HB12.out.size)
    have hz13 : W12.heap.size ≤ W13.heap.size := k13.size
    have cA13 : W13.cell? ⟨w.heap.size, 0, none⟩ = some (.slice a L0.length cap) := (k13.cell (by show w.heap.size < _; omega)).trans cA12
    have sx13 : W13.cell? ⟨W4.heap.size, 0, none⟩ = some (.slice au4 L0.length ju4) := (k13.cell (by show W4.heap.size < _; omega)).trans sx12
    have ow13 := ow12.below k13
    have og13 := og12.below k13
    clear cA12 sx12 ow12 og12
    clear k13
    go_wp2_with fail
    refine (fsNames_impl _ L0 _ ou13.view x0 hl).mono ?_
    rintro e W14 ⟨⟨u14, rfl, oh14⟩, k14⟩
    rw [← HN.out] at oh14
    obtain ⟨a14, j14, rfl⟩ := oh14.slice
    have HB14 : Hid (Below w.heap.size w W14) := HB13.out.trans (k14.mono HB13.out.size)
    have hz14 : W13.heap.size ≤ W14.heap.size := k14.size
    have cA14 : W14.cell? ⟨w.heap.size, 0, none⟩ = some (.slice a L0.length cap) := (k14.cell (by show w.heap.size < _; omega)).trans cA13
    have sx14 : W14.cell? ⟨W4.heap.size, 0, none⟩ = some (.slice au4 L0.length ju4) := (k14.cell (by show W4.heap.size < _; omega)).trans sx13
    have ow14 := ow13.below k14
    have og14 := og13.below k14
    clear cA13 sx13 ow13 og13
    clear k14
    clear ou13
    go_wp2_with fail
    refine (eqStringS_same _ _ N _ oh14.view ow14.view hNl).mono ?_
    rintro e W15 ⟨rfl, k15⟩
    have HB15 : Hid (Below w.heap.size w W15) := HB14.out.trans (k15.mono HB14.out.size)
    have hz15 : W14.heap.size ≤ W15.heap.size := k15.size
    have cA15 : W15.cell? ⟨w.heap.size, 0, none⟩ = some (.slice a L0.length cap) := (k15.cell (by show w.heap.size < _; omega)).trans cA14
    have sx15 : W15.cell? ⟨W4.heap.size, 0, none⟩ = some (.slice au4 L0.length ju4) := (k15.cell (by show W4.heap.size < _; omega)).trans sx14
    have ow15 := ow14.below k15
    have og15 := og14.below k15
    have oh15 := oh14.below k15
    clear cA14 sx14 ow14 og14 oh14
    clear k15
    go_wp2_with fail
    refine (heldStringS_any _ N.length 1 _ og15.view hNl (by decide) (by decide)).mono ?_
    rintro e W16 ⟨rfl, k16⟩
    rw [← HQ2.out]
    have HB16 : Hid (Below w.heap.size w W16) := HB15.out.trans (k16.mono HB15.out.size)
    have hz16 : W15.heap.size ≤ W16.heap.size := k16.size
    go_wp2_with fail
    go_ret
    exact ⟨rfl, HB16.out⟩

set_option maxRecDepth 100000 in
theorem lifted (os : Os) (started : os.Started) (H : Type) (enc : TypeId × Value → H) :
    ReturnsInHanded {} Try.checked os 4 .any (Rows.fnExactFsNamesSpec.pre6 enc Try.prog Try.f4 Rows.fnExactFsNamesRow.domain false) (Rows.fnExactFsNamesSpec.post enc Try.prog Try.f4 false true false false) := by
  refine returnsInHanded_of_change (C := Try.checked) own started (by kernel_rfl) Try.func4
    (ChangeSpec.witness6 (enc := enc) (C := Try.checked) false ⟨#[], #[.agg #[.slice none 0 0]], []⟩ 8 (by kernel_rfl) (by kernel_rfl) (by kernel_rfl) (by kernel_rfl)) ?_
  intro W base args ds gs before hval0 hW hcnd _
  have hval : ∀ (j : Nat) t v, Try.f4.params[j]? = some t → args[j]? = some v → Value.okWide Try.prog W .any base t v := hval0
  have hW' := hW
  obtain ⟨p, q, hA0, hV, rfl, hfz, hnd⟩ := hW
  have hA : DataW.TrodAll enc Try.prog W 0 (fun _ => true) true Try.f4.params.toList args.toList ds p := hA0
  rw [Try.params4] at hA hval
  obtain ⟨v0, vs0, d0, ds0, p0, q0, hargs, rfl, rfl, h0, r0⟩ := trodAll_cons hA
  obtain ⟨rfl, rfl, rfl⟩ := trodAll_nil r0
  obtain rfl : args = #[v0] := by cases args; simp_all
  obtain ⟨rfl, rfl⟩ := trodVars_none hV
  have hlt : ∀ x ∈ p0 ++ ([]), x.block < W.heap.size := fun x hx => hW'.lt x (by simpa using hx)
  have k0 := h0
  obtain ⟨a0, L0, rfl, x0, n0, g0⟩ := Fk.open_fs Try.underlying24 (by kernel_rfl) rfl rfl (by kernel_rfl) Try.underlying22 Try.underlying61 (by kernel_rfl) rfl rfl rfl rfl rfl rfl (by kernel_rfl) (by kernel_rfl) Try.underlying9 Try.underlying2 (hval 0 24 v0 rfl rfl) h0
  clear hA0 hval0
  have e1 : Rows.fnExactFsNamesSpec.fn H ([d0] ++ []) = { results := [.lit (.bool true)], args := [d0] } := by simp [Rows.fnExactFsNamesSpec]
  refine (walk a0 L0 x0 n0 W g0).mono fun e W' ⟨he, bel⟩ => ?_
  subst he
  refine ⟨_, rfl, _, _, _, [], p0 ++ ([]), [], hW', ?_, ?_, ?_, bel.frame _, fun h => by cases h⟩
  · rw [e1]; exact trodAll_mk1 (shut_bool Try.underlying4 true)
  · rw [e1]; exact (trodAll_cons_mk (Below.trod laidOut (by kernel_rfl) (of_decide_eq_true (by kernel_rfl)) k0 bel (fun x hx => hlt x (by simp [hx]))) trodAll_mk0)
  · rw [e1]; rfl

theorem over : Rows.fnExactFsNamesRow.holds Try.pinned (OpenSpec.ofChange Rows.fnExactFsNamesSpec) :=
  OpenClaim.holds_of_wide 4 Try.f4 rfl rfl rfl rfl rfl rfl rfl ⟨rfl, rfl, rfl, rfl, rfl⟩ rfl rfl rfl rfl rfl (by kernel_rfl) Try.func4 (by kernel_rfl)
    (of_decide_eq_true (by kernel_rfl)) (by unfold Func.isWrapper; rw [if_neg (of_decide_eq_false (by kernel_rfl))]; exact ⟨rfl, rfl⟩)
    (fun os started H enc _ => lifted os started H enc)

/-- the statement -/
theorem proved : Rows.FnExactFsNamesSaid :=
  over
#print axioms proved
end Go.Proofs.Ytmemlfpmmkdhmaa.fnExactFsNames

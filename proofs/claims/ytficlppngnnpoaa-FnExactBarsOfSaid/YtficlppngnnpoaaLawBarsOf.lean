/- Proved: for every argument the exact law of BarsOf returns true: impl.BarsOf answers as the specification's BarsOf, writes into no argument and keeps nothing of one, its answer owns its memory, and the argument reads as before. No condition. -/
import Derived.Test.YtficlppngnnpoaaRows
import Derived.Test.YtficlppngnnpoaaTradesOpen
import Derived.Test.YtficlppngnnpoaaTradesLaw
import Derived.Test.YtficlppngnnpoaaTradesMark
import Derived.Test.YtficlppngnnpoaaTapeBarsSpec
import Derived.Test.YtficlppngnnpoaaBarsLaw
import Derived.Test.YtficlppngnnpoaaBarsMark
import Derived.WalkKit
import Derived.ProofKit
import Derived.OpenShut
import Derived.ShutString
import Derived.Below
import Derived.ChangeSame
namespace Go.Proofs.Ytficlppngnnpoaa.fnExactBarsOf
open Go.ChangeShapes Go.WideShapes Go.ChangeAt Go.RowKit
open Go.ChangeMaps (open_string shut_string)
set_option linter.unusedVariables false

theorem own : ownKnob Try.prog.godebug = none := by kernel_rfl
theorem laidOut : laidOutB Try.prog = true := by kernel_rfl

set_option maxHeartbeats 8000000 in
theorem walk (v0 : Value) (L0 : List Td.E) (x0 : ∀ f ∈ L0, Td.Fit f) (n0 : L0.length ≤ maxLen) (s0 : Rk.Shut v0) (a1 : Int) (w1 : (Lit.int .i64 a1).wf = true) (w : World) (g0 : Rk.View Td.S w v0 L0) :
    Calls Try.prog 9 #[v0, .int .i64 a1] w fun e w' => e = .returned (.bool true) ∧ Below w.heap.size w w' := by
  have HG0 := Fk.hide g0
  have HFIT := Fk.hide x0
  obtain ⟨sa, sc, rfl, _⟩ := g0
  clear x0 s0
  obtain ⟨W0, hW⟩ : ∃ W, W = w := ⟨_, rfl⟩
  have HB0 : Hid (Below w.heap.size w W0) := by show Below _ _ _; rw [hW]; exact Below.refl _ _
  have HW := Fk.hide hW
  have hz0 : w.heap.size ≤ W0.heap.size := HB0.out.size
  clear hW
  go_enter Try.func9, Try.ntmps9
  rw [← HW.out]
  go_wp2_with fail
  refine (szTradeS_any _ L0 _ _ (HG0.out.below HB0.out) n0 (by decide) (by decide)).mono ?_
  rintro e W1 ⟨⟨r, rfl, hr⟩, k1⟩
  have HB1 : Hid (Below w.heap.size w W1) := HB0.out.trans (k1.mono HB0.out.size)
  have hz1 : W0.heap.size ≤ W1.heap.size := k1.size
  clear k1 
  rcases hr with rfl | ⟨hr0, hr⟩
  · go_wp2_with fail
    go_ret
    exact ⟨rfl, HW.out ▸ HB1.out⟩
  have hl0 : L0.length ≤ 1048576 := by omega
  clear hr
  obtain ⟨RL, hRL⟩ : ∃ r, r = Tp.barsAll L0 a1 := ⟨_, rfl⟩
  have FS : Hid (∀ w' v b, Rk.Own Td.S w' b 37 v L0 → Calls Try.prog 18 #[v, .int .i64 a1] w' fun e w'' => (∃ u, e = .returned u ∧ Rk.Own Ba.S w'' w'.heap.size 35 u RL) ∧ Below w'.heap.size w' w'') := fun w' v b hv => by rw [hRL]; exact barsOf_spec v L0 a1 w' hv.view (Td.fit_own hv) hl0
  have FI : Hid (∀ w' v b, Rk.Own Td.S w' b 37 v L0 → Calls Try.prog 11 #[v, .int .i64 a1] w' fun e w'' => (∃ u, e = .returned u ∧ Rk.Own Ba.S w'' w'.heap.size 35 u RL) ∧ Below w'.heap.size w' w'') := fun w' v b hv => by rw [hRL]; exact barsOf_impl v L0 a1 w' hv.view (Td.fit_own hv) hl0
  have hRl : RL.length ≤ 1048576 := by rw [hRL]; exact Nat.le_trans (Tp.barsAll_len L0 a1) (by decide)
  clear hRL
  go_wp2_with fail
  refine (toTradeS_any _ L0 _ (HG0.out.below HB1.out) hl0).mono ?_
  rintro e W2 ⟨⟨up, rfl, p_2⟩, k2⟩
  obtain ⟨ap, cp, rfl⟩ := p_2.slice
  have HXp : Hid (∀ k, (Value.slice ap L0.length cp).ownBlock = some k → W1.heap.size ≤ k ∧ k < W2.heap.size) := fun k hk => World.ownsRow.lt p_2 k hk
  have HB2 : Hid (Below w.heap.size w W2) := HB1.out.trans (k2.mono HB1.out.size)
  have hz2 : W1.heap.size ≤ W2.heap.size := k2.size
  clear k2 
  go_wp2_with fail
  refine (FS.out _ _ _ p_2).mono ?_
  rintro e W3 ⟨⟨uow, rfl, ow_3⟩, k3⟩
  obtain ⟨aow, cow, rfl⟩ := ow_3.slice
  have HXow : Hid (∀ k, (Value.slice aow RL.length cow).ownBlock = some k → W2.heap.size ≤ k ∧ k < W3.heap.size) := fun k hk => World.ownsRow.lt ow_3 k hk
  have HB3 : Hid (Below w.heap.size w W3) := HB2.out.trans (k3.mono HB2.out.size)
  have hz3 : W2.heap.size ≤ W3.heap.size := k3.size
  have p_3 := p_2.below k3
  clear k3 p_2
  clear p_3
  go_wp2_with fail
  refine (toTradeS_any _ L0 _ (HG0.out.below HB3.out) hl0).mono ?_
  rintro e W4 ⟨⟨ux, rfl, x_4⟩, k4⟩
  obtain ⟨ax, cx, rfl⟩ := x_4.slice
  have HXx : Hid (∀ k, (Value.slice ax L0.length cx).ownBlock = some k → W3.heap.size ≤ k ∧ k < W4.heap.size) := fun k hk => World.ownsRow.lt x_4 k hk
  have HB4 : Hid (Below w.heap.size w W4) := HB3.out.trans (k4.mono HB3.out.size)
  have hz4 : W3.heap.size ≤ W4.heap.size := k4.size
  have ow_4 := ow_3.below k4
  clear k4 ow_3
  go_wp2_with fail
  refine (FI.out _ _ _ x_4).mono ?_
  rintro e W5 ⟨⟨uog, rfl, og_5⟩, k5⟩
  obtain ⟨aog, cog, rfl⟩ := og_5.slice
  have HXog : Hid (∀ k, (Value.slice aog RL.length cog).ownBlock = some k → W4.heap.size ≤ k ∧ k < W5.heap.size) := fun k hk => World.ownsRow.lt og_5 k hk
  have HB5 : Hid (Below w.heap.size w W5) := HB4.out.trans (k5.mono HB4.out.size)
  have hz5 : W4.heap.size ≤ W5.heap.size := k5.size
  have ow_5 := ow_4.below k5
  have x_5 := x_4.below k5
  clear k5 ow_4 x_4
  go_wp2_with fail
  refine (eqBarS_same _ _ RL _ (og_5.view) (ow_5.view) hRl).mono ?_
  rintro e W6 ⟨rfl, k6⟩
  have HB6 : Hid (Below w.heap.size w W6) := HB5.out.trans (k6.mono HB5.out.size)
  have hz6 : W5.heap.size ≤ W6.heap.size := k6.size
  have ow_6 := ow_5.below k6
  have x_6 := x_5.below k6
  have og_6 := og_5.below k6
  clear k6 ow_5 x_5 og_5
  go_wp2_with fail
  refine (toTradeS_any _ L0 _ (HG0.out.below HB6.out) hl0).mono ?_
  rintro e W7 ⟨⟨uq, rfl, q_7⟩, k7⟩
  obtain ⟨aq, cq, rfl⟩ := q_7.slice
  have HXq : Hid (∀ k, (Value.slice aq L0.length cq).ownBlock = some k → W6.heap.size ≤ k ∧ k < W7.heap.size) := fun k hk => World.ownsRow.lt q_7 k hk
  have HB7 : Hid (Below w.heap.size w W7) := HB6.out.trans (k7.mono HB6.out.size)
  have hz7 : W6.heap.size ≤ W7.heap.size := k7.size
  have ow_7 := ow_6.below k7
  have x_7 := x_6.below k7
  have og_7 := og_6.below k7
  clear k7 ow_6 x_6 og_6
  go_wp2_with fail
  refine (eqTradeS_same _ _ L0 _ x_7.view q_7.view hl0).mono ?_
  rintro e W8 ⟨rfl, k8⟩
  have HB8 : Hid (Below w.heap.size w W8) := HB7.out.trans (k8.mono HB7.out.size)
  have hz8 : W7.heap.size ≤ W8.heap.size := k8.size
  have ow_8 := ow_7.below k8
  have x_8 := x_7.below k8
  have og_8 := og_7.below k8
  have q_8 := q_7.below k8
  clear k8 ow_7 x_7 og_7 q_7
  clear q_8
  go_wp2_with fail
  refine (markTradeS_any _ L0 1 _ _ x_8 hl0 (by decide) (by decide)).mono ?_
  rintro e W9 ⟨⟨rfl, _⟩, k9⟩
  have HB9 : Hid (Below w.heap.size w W9) := HB8.out.grown k9 HB8.out.size (fun k hk => by have := HXx.out k hk; omega)
  have hz9 : W8.heap.size ≤ W9.heap.size := k9.size
  have ow_9 := ow_8.kept k9 (fun k hk e => by have h1 := HXow.out k hk; have h2 := HXx.out k e.symm; omega)
  have og_9 := og_8.kept k9 (fun k hk e => by have h1 := HXog.out k hk; have h2 := HXx.out k e.symm; omega)
  clear k9 ow_8 x_8 og_8
  obtain ⟨mk, hmk⟩ : ∃ q : Nat, q = 1 + 2 * L0.length := ⟨_, rfl⟩
  rw [← hmk]
  have hq10 : (0 : Int) ≤ (mk : Int) := by omega
  clear hmk
  go_wp2_with fail
  refine (eqBarS_same _ _ RL _ (og_9.view) (ow_9.view) hRl).mono ?_
  rintro e W10 ⟨rfl, k10⟩
  have HB10 : Hid (Below w.heap.size w W10) := HB9.out.trans (k10.mono HB9.out.size)
  have hz10 : W9.heap.size ≤ W10.heap.size := k10.size
  have ow_10 := ow_9.below k10
  have og_10 := og_9.below k10
  clear k10 ow_9 og_9
  go_wp2_with fail
  refine (markBarS_any _ RL 1 W4.heap.size _ og_10 hRl (by decide) (by decide)).mono ?_
  rintro e W11 ⟨⟨rfl, oG_11⟩, k11⟩
  have HB11 : Hid (Below w.heap.size w W11) := HB10.out.grown k11 HB10.out.size (fun k hk => by have := HXog.out k hk; omega)
  have hz11 : W10.heap.size ≤ W11.heap.size := k11.size
  have ow_11 := ow_10.kept k11 (fun k hk e => by have h1 := HXow.out k hk; have h2 := HXog.out k e.symm; omega)
  clear k11 ow_10 og_10
  have HXoG := HXog
  obtain ⟨q2, hq2⟩ : ∃ q : Int, q = ((1 + 5 * RL.length : Nat) : Int) := ⟨_, rfl⟩
  have hq20 : 0 ≤ q2 := by omega
  rw [← hq2]
  have HQ2 := Fk.hide hq2
  clear hq2
  go_wp2_with fail
  refine (heldBarS_any _ RL.length 1 _ (oG_11.view) hRl (by decide) (by decide)).mono ?_
  rintro e W12 ⟨rfl, k12⟩
  rw [← HQ2.out]
  have HB12 : Hid (Below w.heap.size w W12) := HB11.out.trans (k12.mono HB11.out.size)
  have hz12 : W11.heap.size ≤ W12.heap.size := k12.size
  have ow_12 := ow_11.below k12
  have oG_12 := oG_11.below k12
  clear k12 ow_11 oG_11
  go_wp2_with fail
  refine (toTradeS_any _ L0 _ (HG0.out.below HB12.out) hl0).mono ?_
  rintro e W13 ⟨⟨utt, rfl, tt_13⟩, k13⟩
  obtain ⟨att, ctt, rfl⟩ := tt_13.slice
  have HXtt : Hid (∀ k, (Value.slice att L0.length ctt).ownBlock = some k → W12.heap.size ≤ k ∧ k < W13.heap.size) := fun k hk => World.ownsRow.lt tt_13 k hk
  have HB13 : Hid (Below w.heap.size w W13) := HB12.out.trans (k13.mono HB12.out.size)
  have hz13 : W12.heap.size ≤ W13.heap.size := k13.size
  have ow_13 := ow_12.below k13
  have oG_13 := oG_12.below k13
  clear k13 ow_12 oG_12
  go_wp2_with fail
  refine (FI.out _ _ _ tt_13).mono ?_
  rintro e W14 ⟨⟨uoh, rfl, oh_14⟩, k14⟩
  obtain ⟨aoh, coh, rfl⟩ := oh_14.slice
  have HXoh : Hid (∀ k, (Value.slice aoh RL.length coh).ownBlock = some k → W13.heap.size ≤ k ∧ k < W14.heap.size) := fun k hk => World.ownsRow.lt oh_14 k hk
  have HB14 : Hid (Below w.heap.size w W14) := HB13.out.trans (k14.mono HB13.out.size)
  have hz14 : W13.heap.size ≤ W14.heap.size := k14.size
  have ow_14 := ow_13.below k14
  have oG_14 := oG_13.below k14
  have tt_14 := tt_13.below k14
  clear k14 ow_13 oG_13 tt_13
  clear tt_14
  go_wp2_with fail
  refine (eqBarS_same _ _ RL _ (oh_14.view) (ow_14.view) hRl).mono ?_
  rintro e W15 ⟨rfl, k15⟩
  have HB15 : Hid (Below w.heap.size w W15) := HB14.out.trans (k15.mono HB14.out.size)
  have hz15 : W14.heap.size ≤ W15.heap.size := k15.size
  have ow_15 := ow_14.below k15
  have oG_15 := oG_14.below k15
  have oh_15 := oh_14.below k15
  clear k15 ow_14 oG_14 oh_14
  go_wp2_with fail
  refine (heldBarS_any _ RL.length 1 _ (oG_15.view) hRl (by decide) (by decide)).mono ?_
  rintro e W16 ⟨rfl, k16⟩
  rw [← HQ2.out]
  have HB16 : Hid (Below w.heap.size w W16) := HB15.out.trans (k16.mono HB15.out.size)
  have hz16 : W15.heap.size ≤ W16.heap.size := k16.size
  have ow_16 := ow_15.below k16
  have oG_16 := oG_15.below k16
  have oh_16 := oh_15.below k16
  clear k16 ow_15 oG_15 oh_15
  go_wp2_with fail
  go_ret
  exact ⟨rfl, HW.out ▸ HB16.out⟩

set_option maxRecDepth 100000 in
theorem lifted (os : Os) (started : os.Started) (H : Type) (enc : TypeId × Value → H) :
    ReturnsInHanded {} Try.checked os 9 .any (Rows.fnExactBarsOfSpec.pre6 enc Try.prog Try.f9 Rows.fnExactBarsOfRow.domain false) (Rows.fnExactBarsOfSpec.post enc Try.prog Try.f9 false true false false) := by
  refine returnsInHanded_of_change (C := Try.checked) own started (by kernel_rfl) Try.func9
    (ChangeSpec.witness6 (enc := enc) (C := Try.checked) false ⟨#[], #[.slice none 0 0, .int .i64 0], []⟩ 8 (by kernel_rfl) (by kernel_rfl) (by kernel_rfl) (by kernel_rfl)) ?_
  intro W base args ds gs before hval0 hW hcnd _
  have hval : ∀ (j : Nat) t v, Try.f9.params[j]? = some t → args[j]? = some v → Value.okWide Try.prog W .any base t v := hval0
  have hW' := hW
  obtain ⟨p, q, hA0, hV, rfl, hfz, hnd⟩ := hW
  have hA : DataW.TrodAll enc Try.prog W 0 (fun _ => true) true Try.f9.params.toList args.toList ds p := hA0
  rw [Try.params9] at hA hval
  obtain ⟨v0, vs0, d0, ds0, p0, q0, hargs, rfl, rfl, h0, r0⟩ := trodAll_cons hA
  obtain ⟨v1, vs1, d1, ds1, p1, q1, rfl, rfl, rfl, h1, r1⟩ := trodAll_cons r0
  obtain ⟨rfl, rfl, rfl⟩ := trodAll_nil r1
  obtain rfl : args = #[v0, v1] := by cases args; simp_all
  obtain ⟨rfl, rfl⟩ := trodVars_none hV
  have hlt : ∀ x ∈ p0 ++ (p1 ++ ([])), x.block < W.heap.size := fun x hx => hW'.lt x (by simpa using hx)
  have k0 := h0
  obtain ⟨L0, x0, n0, s0, g0⟩ := Td.open_list (hval 0 46 v0 rfl rfl) h0
  have k1 := h1
  obtain ⟨a1, rfl, rfl, rfl, w1⟩ := open_int Try.underlying2 (hval 1 2 v1 rfl rfl) h1
  clear hA0 hval0
  have e1 : Rows.fnExactBarsOfSpec.fn H ([d0, .lit (.int .i64 a1)] ++ []) = { results := [.lit (.bool true)], args := [d0, .lit (.int .i64 a1)] } := by simp [Rows.fnExactBarsOfSpec]
  refine (walk v0 L0 x0 n0 s0 a1 w1 W g0).mono fun e W' ⟨he, bel⟩ => ?_
  subst he
  refine ⟨_, rfl, _, _, _, [], p0 ++ ([] ++ ([])), [], hW', ?_, ?_, ?_, bel.frame _, fun h => by cases h⟩
  · rw [e1]; exact trodAll_mk1 (shut_bool Try.underlying4 true)
  · rw [e1]; exact (trodAll_cons_mk (Below.trod laidOut (by kernel_rfl) (of_decide_eq_true (by kernel_rfl)) k0 bel (fun x hx => hlt x (by simp [hx]))) (trodAll_cons_mk (shut_int Try.underlying2 w1) trodAll_mk0))
  · rw [e1]; rfl

theorem over : Rows.fnExactBarsOfRow.holds Try.pinned (OpenSpec.ofChange Rows.fnExactBarsOfSpec) :=
  OpenClaim.holds_of_wide 9 Try.f9 rfl rfl rfl rfl rfl rfl rfl ⟨rfl, rfl, rfl, rfl, rfl⟩ rfl rfl rfl rfl rfl (by kernel_rfl) Try.func9 (by kernel_rfl)
    (of_decide_eq_true (by kernel_rfl)) (by unfold Func.isWrapper; rw [if_neg (of_decide_eq_false (by kernel_rfl))]; exact ⟨rfl, rfl⟩)
    (fun os started H enc _ => lifted os started H enc)

/-- the statement -/
theorem proved : Rows.FnExactBarsOfSaid :=
  over
#print axioms proved
end Go.Proofs.Ytficlppngnnpoaa.fnExactBarsOf

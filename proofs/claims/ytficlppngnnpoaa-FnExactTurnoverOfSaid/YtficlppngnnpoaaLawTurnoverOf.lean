/- Proved: for every argument the exact law of TurnoverOf returns true: impl.TurnoverOf answers as the specification's TurnoverOf, writes into no argument, and the argument reads as before. No condition. -/
import Derived.Test.YtficlppngnnpoaaRows
import Derived.Test.YtficlppngnnpoaaTradesOpen
import Derived.Test.YtficlppngnnpoaaTradesLaw
import Derived.Test.YtficlppngnnpoaaTapeFaces
import Derived.WalkKit
import Derived.ProofKit
import Derived.OpenShut
import Derived.ShutString
import Derived.Below
import Derived.ChangeSame
namespace Go.Proofs.Ytficlppngnnpoaa.fnExactTurnoverOf
open Go.ChangeShapes Go.WideShapes Go.ChangeAt Go.RowKit
open Go.ChangeMaps (open_string shut_string)
set_option linter.unusedVariables false

theorem own : ownKnob Try.prog.godebug = none := by kernel_rfl
theorem laidOut : laidOutB Try.prog = true := by kernel_rfl

set_option maxHeartbeats 8000000 in
theorem walk (v0 : Value) (L0 : List Td.E) (x0 : ∀ f ∈ L0, Td.Fit f) (n0 : L0.length ≤ maxLen) (s0 : Rk.Shut v0) (w : World) (g0 : Rk.View Td.S w v0 L0) :
    Calls Try.prog 6 #[v0] w fun e w' => e = .returned (.bool true) ∧ Below w.heap.size w w' := by
  have HG0 := Fk.hide g0
  have HFIT := Fk.hide x0
  obtain ⟨sa, sc, rfl, _⟩ := g0
  clear x0 s0
  obtain ⟨W0, hW⟩ : ∃ W, W = w := ⟨_, rfl⟩
  have HB0 : Hid (Below w.heap.size w W0) := by show Below _ _ _; rw [hW]; exact Below.refl _ _
  have HW := Fk.hide hW
  clear hW
  go_enter Try.func6, Try.ntmps6
  rw [← HW.out]
  go_wp2_with fail
  refine (szTradeS_any _ L0 _ _ (HG0.out.below HB0.out) n0 (by decide) (by decide)).mono ?_
  rintro e W1 ⟨⟨r, rfl, hr⟩, k1⟩
  have HB1 : Hid (Below w.heap.size w W1) := HB0.out.trans (k1.mono HB0.out.size)
  have hz1 : W0.heap.size ≤ W1.heap.size := k1.size
  clear k1 
  rcases hr with rfl | ⟨hr0, hr⟩
  · go_wp2_with fail
    go_ret
    exact ⟨rfl, HW.out ▸ HB1.out⟩
  have hl0 : L0.length ≤ 1048576 := by omega
  clear hr
  obtain ⟨rs, hrs⟩ : ∃ r, r = Tp.turnAll L0 := ⟨_, rfl⟩
  have FS : Hid (∀ w' v, Rk.View Td.S w' v L0 → Calls Try.prog 23 #[v] w' fun e w'' => e = .returned (.int .i64 rs) ∧ Below w'.heap.size w' w'') := fun w' v hv => by rw [hrs]; exact turnoverOf_spec v L0 w' hv hl0
  have FI : Hid (∀ w' v, Rk.View Td.S w' v L0 → Calls Try.prog 14 #[v] w' fun e w'' => e = .returned (.int .i64 rs) ∧ Below w'.heap.size w' w'') := fun w' v hv => by rw [hrs]; exact turnoverOf_impl v L0 w' hv hl0
  clear hrs
  go_wp2_with fail
  refine (toTradeS_any _ L0 _ (HG0.out.below HB1.out) hl0).mono ?_
  rintro e W2 ⟨⟨up, rfl, p_2⟩, k2⟩
  obtain ⟨ap, cp, rfl⟩ := p_2.slice
  have HB2 : Hid (Below w.heap.size w W2) := HB1.out.trans (k2.mono HB1.out.size)
  have hz2 : W1.heap.size ≤ W2.heap.size := k2.size
  clear k2 
  go_wp2_with fail
  refine (FS.out _ _ (p_2.view)).mono ?_
  rintro e W3 ⟨rfl, k3⟩
  have HB3 : Hid (Below w.heap.size w W3) := HB2.out.trans (k3.mono HB2.out.size)
  have hz3 : W2.heap.size ≤ W3.heap.size := k3.size
  have p_3 := p_2.below k3
  clear k3 p_2
  clear p_3
  go_wp2_with fail
  refine (toTradeS_any _ L0 _ (HG0.out.below HB3.out) hl0).mono ?_
  rintro e W4 ⟨⟨ux, rfl, x_4⟩, k4⟩
  obtain ⟨ax, cx, rfl⟩ := x_4.slice
  have HB4 : Hid (Below w.heap.size w W4) := HB3.out.trans (k4.mono HB3.out.size)
  have hz4 : W3.heap.size ≤ W4.heap.size := k4.size
  clear k4 
  go_wp2_with fail
  refine (FI.out _ _ (x_4.view)).mono ?_
  rintro e W5 ⟨rfl, k5⟩
  have HB5 : Hid (Below w.heap.size w W5) := HB4.out.trans (k5.mono HB4.out.size)
  have hz5 : W4.heap.size ≤ W5.heap.size := k5.size
  have x_5 := x_4.below k5
  clear k5 x_4
  go_wp2_with fail
  refine (toTradeS_any _ L0 _ (HG0.out.below HB5.out) hl0).mono ?_
  rintro e W6 ⟨⟨uq, rfl, q_6⟩, k6⟩
  obtain ⟨aq, cq, rfl⟩ := q_6.slice
  have HB6 : Hid (Below w.heap.size w W6) := HB5.out.trans (k6.mono HB5.out.size)
  have hz6 : W5.heap.size ≤ W6.heap.size := k6.size
  have x_6 := x_5.below k6
  clear k6 x_5
  go_wp2_with fail
  refine (eqTradeS_same _ _ L0 _ x_6.view q_6.view hl0).mono ?_
  rintro e W7 ⟨rfl, k7⟩
  have HB7 : Hid (Below w.heap.size w W7) := HB6.out.trans (k7.mono HB6.out.size)
  clear k7
  go_wp2_with fail
  go_ret
  exact ⟨rfl, HW.out ▸ HB7.out⟩

set_option maxRecDepth 100000 in
theorem lifted (os : Os) (started : os.Started) (H : Type) (enc : TypeId × Value → H) :
    ReturnsInHanded {} Try.checked os 6 .any (Rows.fnExactTurnoverOfSpec.pre6 enc Try.prog Try.f6 Rows.fnExactTurnoverOfRow.domain false) (Rows.fnExactTurnoverOfSpec.post enc Try.prog Try.f6 false true false false) := by
  refine returnsInHanded_of_change (C := Try.checked) own started (by kernel_rfl) Try.func6
    (ChangeSpec.witness6 (enc := enc) (C := Try.checked) false ⟨#[], #[.slice none 0 0], []⟩ 8 (by kernel_rfl) (by kernel_rfl) (by kernel_rfl) (by kernel_rfl)) ?_
  intro W base args ds gs before hval0 hW hcnd _
  have hval : ∀ (j : Nat) t v, Try.f6.params[j]? = some t → args[j]? = some v → Value.okWide Try.prog W .any base t v := hval0
  have hW' := hW
  obtain ⟨p, q, hA0, hV, rfl, hfz, hnd⟩ := hW
  have hA : DataW.TrodAll enc Try.prog W 0 (fun _ => true) true Try.f6.params.toList args.toList ds p := hA0
  rw [Try.params6] at hA hval
  obtain ⟨v0, vs0, d0, ds0, p0, q0, hargs, rfl, rfl, h0, r0⟩ := trodAll_cons hA
  obtain ⟨rfl, rfl, rfl⟩ := trodAll_nil r0
  obtain rfl : args = #[v0] := by cases args; simp_all
  obtain ⟨rfl, rfl⟩ := trodVars_none hV
  have hlt : ∀ x ∈ p0 ++ ([]), x.block < W.heap.size := fun x hx => hW'.lt x (by simpa using hx)
  have k0 := h0
  obtain ⟨L0, x0, n0, s0, g0⟩ := Td.open_list (hval 0 46 v0 rfl rfl) h0
  clear hA0 hval0
  have e1 : Rows.fnExactTurnoverOfSpec.fn H ([d0] ++ []) = { results := [.lit (.bool true)], args := [d0] } := by simp [Rows.fnExactTurnoverOfSpec]
  refine (walk v0 L0 x0 n0 s0 W g0).mono fun e W' ⟨he, bel⟩ => ?_
  subst he
  refine ⟨_, rfl, _, _, _, [], p0 ++ ([]), [], hW', ?_, ?_, ?_, bel.frame _, fun h => by cases h⟩
  · rw [e1]; exact trodAll_mk1 (shut_bool Try.underlying4 true)
  · rw [e1]; exact (trodAll_cons_mk (Below.trod laidOut (by kernel_rfl) (of_decide_eq_true (by kernel_rfl)) k0 bel (fun x hx => hlt x (by simp [hx]))) trodAll_mk0)
  · rw [e1]; rfl

theorem over : Rows.fnExactTurnoverOfRow.holds Try.pinned (OpenSpec.ofChange Rows.fnExactTurnoverOfSpec) :=
  OpenClaim.holds_of_wide 6 Try.f6 rfl rfl rfl rfl rfl rfl rfl ⟨rfl, rfl, rfl, rfl, rfl⟩ rfl rfl rfl rfl rfl (by kernel_rfl) Try.func6 (by kernel_rfl)
    (of_decide_eq_true (by kernel_rfl)) (by unfold Func.isWrapper; rw [if_neg (of_decide_eq_false (by kernel_rfl))]; exact ⟨rfl, rfl⟩)
    (fun os started H enc _ => lifted os started H enc)

/-- the statement -/
theorem proved : Rows.FnExactTurnoverOfSaid :=
  over
#print axioms proved
end Go.Proofs.Ytficlppngnnpoaa.fnExactTurnoverOf

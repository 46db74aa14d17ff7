/- Proved: for every argument the exact law of Diverged returns true: impl.Diverged answers as the specification's Diverged, writes into no argument, and the argument reads as before. No condition. -/
import Derived.Test.YtnhpcknbnmhlhaaRows
import Derived.Test.YtnhpcknbnmhlhaaEventsOpen
import Derived.Test.YtnhpcknbnmhlhaaEventsLaw
import Derived.Test.YtnhpcknbnmhlhaaDivSpec
import Derived.Test.YtnhpcknbnmhlhaaDivImpl
import Derived.WalkKit
import Derived.ProofKit
import Derived.OpenShut
import Derived.ShutString
import Derived.Below
import Derived.ChangeSame
namespace Go.Proofs.Ytnhpcknbnmhlhaa.fnExactDiverged
open Go.ChangeShapes Go.WideShapes Go.ChangeAt Go.RowKit
open Go.ChangeMaps (open_string shut_string)
set_option linter.unusedVariables false

theorem own : ownKnob Try.prog.godebug = none := by kernel_rfl
theorem laidOut : laidOutB Try.prog = true := by kernel_rfl

set_option maxHeartbeats 8000000 in
theorem walk (v0 : Value) (L0 : List Vt.E) (x0 : ∀ f ∈ L0, Vt.Fit f) (n0 : L0.length ≤ maxLen) (s0 : Rk.Shut v0) (v1 : Value) (L1 : List Vt.E) (x1 : ∀ f ∈ L1, Vt.Fit f) (n1 : L1.length ≤ maxLen) (s1 : Rk.Shut v1) (w : World) (g0 : Rk.View Vt.S w v0 L0) (g1 : Rk.View Vt.S w v1 L1) :
    Calls Try.prog 4 #[v0, v1] w fun e w' => e = .returned (.bool true) ∧ Below w.heap.size w w' := by
  have HG0 := Fk.hide g0
  obtain ⟨sa0, sc0, rfl, _⟩ := g0
  clear x0 s0
  have HG1 := Fk.hide g1
  obtain ⟨sa1, sc1, rfl, _⟩ := g1
  clear x1 s1
  obtain ⟨W0, hW⟩ : ∃ W, W = w := ⟨_, rfl⟩
  have HB0 : Hid (Below w.heap.size w W0) := by show Below _ _ _; rw [hW]; exact Below.refl _ _
  have HW := Fk.hide hW
  clear hW
  go_enter Try.func4, Try.ntmps4
  rw [← HW.out]
  go_wp2_with fail
  refine (szEventS_any _ L0 _ _ (HG0.out.below HB0.out) n0 (by decide) (by decide)).mono ?_
  rintro e W1 ⟨⟨r0, rfl, hr0⟩, k1⟩
  have HB1 : Hid (Below w.heap.size w W1) := HB0.out.trans (k1.mono HB0.out.size)
  clear k1 
  rcases hr0 with rfl | ⟨hr00, hr0⟩
  · go_wp2_with fail
    go_ret
    exact ⟨rfl, HW.out ▸ HB1.out⟩
  have hl0 : L0.length ≤ 1048576 := by omega
  have hrr0 : r0 ≤ 1048576 := by omega
  clear hr0
  go_wp2_with fail
  refine (szEventS_any _ L1 r0 _ (HG1.out.below HB1.out) n1 hr00 hrr0).mono ?_
  rintro e W2 ⟨⟨r1, rfl, hr1⟩, k2⟩
  have HB2 : Hid (Below w.heap.size w W2) := HB1.out.trans (k2.mono HB1.out.size)
  clear k2 
  rcases hr1 with rfl | ⟨hr10, hr1⟩
  · go_wp2_with fail
    go_ret
    exact ⟨rfl, HW.out ▸ HB2.out⟩
  have hl1 : L1.length ≤ 1048576 := by omega
  have hrr1 : r1 ≤ 1048576 := by omega
  clear hr1
  obtain ⟨rs, hrs⟩ : ∃ r, r = Dv.told L0 L1 := ⟨_, rfl⟩
  have FS : Hid (∀ w' v u, Rk.View Vt.S w' v L0 → Rk.View Vt.S w' u L1 → Calls Try.prog 11 #[v, u] w' fun e w'' => e = .returned (.int .i64 rs) ∧ Below w'.heap.size w' w'') := fun w' v u hv hu => by rw [hrs]; exact diverged_spec v u L0 L1 w' hv hu (by omega) (by omega)
  have FI : Hid (∀ w' v u, Rk.View Vt.S w' v L0 → Rk.View Vt.S w' u L1 → Calls Try.prog 13 #[v, u] w' fun e w'' => e = .returned (.int .i64 rs) ∧ Below w'.heap.size w' w'') := fun w' v u hv hu => by rw [hrs]; exact diverged_impl v u L0 L1 w' hv hu (by omega) (by omega)
  clear hrs
  go_wp2_with fail
  refine (toEventS_any _ L0 _ (HG0.out.below HB2.out) hl0).mono ?_
  rintro e W3 ⟨⟨up, rfl, p_3⟩, k3⟩
  obtain ⟨ap, cp, rfl⟩ := p_3.slice
  have HB3 : Hid (Below w.heap.size w W3) := HB2.out.trans (k3.mono HB2.out.size)
  clear k3 
  go_wp2_with fail
  refine (toEventS_any _ L1 _ (HG1.out.below HB3.out) hl1).mono ?_
  rintro e W4 ⟨⟨uq, rfl, q_4⟩, k4⟩
  obtain ⟨aq, cq, rfl⟩ := q_4.slice
  have HB4 : Hid (Below w.heap.size w W4) := HB3.out.trans (k4.mono HB3.out.size)
  have p_4 := p_3.below k4
  clear k4 p_3
  go_wp2_with fail
  refine (FS.out _ _ _ (p_4.view) (q_4.view)).mono ?_
  rintro e W5 ⟨rfl, k5⟩
  have HB5 : Hid (Below w.heap.size w W5) := HB4.out.trans (k5.mono HB4.out.size)
  have p_5 := p_4.below k5
  have q_5 := q_4.below k5
  clear k5 p_4 q_4
  clear p_5
  clear q_5
  go_wp2_with fail
  refine (toEventS_any _ L0 _ (HG0.out.below HB5.out) hl0).mono ?_
  rintro e W6 ⟨⟨ux, rfl, x_6⟩, k6⟩
  obtain ⟨ax, cx, rfl⟩ := x_6.slice
  have HB6 : Hid (Below w.heap.size w W6) := HB5.out.trans (k6.mono HB5.out.size)
  clear k6 
  go_wp2_with fail
  refine (toEventS_any _ L1 _ (HG1.out.below HB6.out) hl1).mono ?_
  rintro e W7 ⟨⟨uy, rfl, y_7⟩, k7⟩
  obtain ⟨ay, cy, rfl⟩ := y_7.slice
  have HB7 : Hid (Below w.heap.size w W7) := HB6.out.trans (k7.mono HB6.out.size)
  have x_7 := x_6.below k7
  clear k7 x_6
  go_wp2_with fail
  refine (FI.out _ _ _ (x_7.view) (y_7.view)).mono ?_
  rintro e W8 ⟨rfl, k8⟩
  have HB8 : Hid (Below w.heap.size w W8) := HB7.out.trans (k8.mono HB7.out.size)
  have x_8 := x_7.below k8
  have y_8 := y_7.below k8
  clear k8 x_7 y_7
  go_wp2_with fail
  refine (toEventS_any _ L0 _ (HG0.out.below HB8.out) hl0).mono ?_
  rintro e W9 ⟨⟨uzx, rfl, zx_9⟩, k9⟩
  obtain ⟨azx, czx, rfl⟩ := zx_9.slice
  have HB9 : Hid (Below w.heap.size w W9) := HB8.out.trans (k9.mono HB8.out.size)
  have x_9 := x_8.below k9
  have y_9 := y_8.below k9
  clear k9 x_8 y_8
  go_wp2_with fail
  refine (eqEventS_same _ _ L0 _ x_9.view zx_9.view hl0).mono ?_
  rintro e W10 ⟨rfl, k10⟩
  have HB10 : Hid (Below w.heap.size w W10) := HB9.out.trans (k10.mono HB9.out.size)
  have x_10 := x_9.below k10
  have y_10 := y_9.below k10
  have zx_10 := zx_9.below k10
  clear k10 x_9 y_9 zx_9
  clear zx_10
  go_wp2_with fail
  refine (toEventS_any _ L1 _ (HG1.out.below HB10.out) hl1).mono ?_
  rintro e W11 ⟨⟨uzy, rfl, zy_11⟩, k11⟩
  obtain ⟨azy, czy, rfl⟩ := zy_11.slice
  have HB11 : Hid (Below w.heap.size w W11) := HB10.out.trans (k11.mono HB10.out.size)
  have x_11 := x_10.below k11
  have y_11 := y_10.below k11
  clear k11 x_10 y_10
  go_wp2_with fail
  refine (eqEventS_same _ _ L1 _ y_11.view zy_11.view hl1).mono ?_
  rintro e W12 ⟨rfl, k12⟩
  have HB12 : Hid (Below w.heap.size w W12) := HB11.out.trans (k12.mono HB11.out.size)
  have x_12 := x_11.below k12
  have y_12 := y_11.below k12
  have zy_12 := zy_11.below k12
  clear k12 x_11 y_11 zy_11
  clear zy_12
  go_wp2_with fail
  go_ret
  exact ⟨rfl, HW.out ▸ HB12.out⟩

set_option maxRecDepth 100000 in
theorem lifted (os : Os) (started : os.Started) (H : Type) (enc : TypeId × Value → H) :
    ReturnsInHanded {} Try.checked os 4 .any (Rows.fnExactDivergedSpec.pre6 enc Try.prog Try.f4 Rows.fnExactDivergedRow.domain false) (Rows.fnExactDivergedSpec.post enc Try.prog Try.f4 false true false false) := by
  refine returnsInHanded_of_change (C := Try.checked) own started (by kernel_rfl) Try.func4
    (ChangeSpec.witness6 (enc := enc) (C := Try.checked) false ⟨#[], #[.slice none 0 0, .slice none 0 0], []⟩ 8 (by kernel_rfl) (by kernel_rfl) (by kernel_rfl) (by kernel_rfl)) ?_
  intro W base args ds gs before hval0 hW hcnd _
  have hval : ∀ (j : Nat) t v, Try.f4.params[j]? = some t → args[j]? = some v → Value.okWide Try.prog W .any base t v := hval0
  have hW' := hW
  obtain ⟨p, q, hA0, hV, rfl, hfz, hnd⟩ := hW
  have hA : DataW.TrodAll enc Try.prog W 0 (fun _ => true) true Try.f4.params.toList args.toList ds p := hA0
  rw [Try.params4] at hA hval
  obtain ⟨v0, vs0, d0, ds0, p0, q0, hargs, rfl, rfl, h0, r0⟩ := trodAll_cons hA
  obtain ⟨v1, vs1, d1, ds1, p1, q1, rfl, rfl, rfl, h1, r1⟩ := trodAll_cons r0
  obtain ⟨rfl, rfl, rfl⟩ := trodAll_nil r1
  obtain rfl : args = #[v0, v1] := by cases args; simp_all
  obtain ⟨rfl, rfl⟩ := trodVars_none hV
  have hlt : ∀ x ∈ p0 ++ (p1 ++ ([])), x.block < W.heap.size := fun x hx => hW'.lt x (by simpa using hx)
  have k0 := h0
  obtain ⟨L0, x0, n0, s0, g0⟩ := Vt.open_list (hval 0 43 v0 rfl rfl) h0
  have k1 := h1
  obtain ⟨L1, x1, n1, s1, g1⟩ := Vt.open_list (hval 1 43 v1 rfl rfl) h1
  clear hA0 hval0
  have e1 : Rows.fnExactDivergedSpec.fn H ([d0, d1] ++ []) = { results := [.lit (.bool true)], args := [d0, d1] } := by simp [Rows.fnExactDivergedSpec]
  refine (walk v0 L0 x0 n0 s0 v1 L1 x1 n1 s1 W g0 g1).mono fun e W' ⟨he, bel⟩ => ?_
  subst he
  refine ⟨_, rfl, _, _, _, [], p0 ++ (p1 ++ ([])), [], hW', ?_, ?_, ?_, bel.frame _, fun h => by cases h⟩
  · rw [e1]; exact trodAll_mk1 (shut_bool Try.underlying4 true)
  · rw [e1]; exact (trodAll_cons_mk (Below.trod laidOut (by kernel_rfl) (of_decide_eq_true (by kernel_rfl)) k0 bel (fun x hx => hlt x (by simp [hx]))) (trodAll_cons_mk (Below.trod laidOut (by kernel_rfl) (of_decide_eq_true (by kernel_rfl)) k1 bel (fun x hx => hlt x (by simp [hx]))) trodAll_mk0))
  · rw [e1]; rfl

theorem over : Rows.fnExactDivergedRow.holds Try.pinned (OpenSpec.ofChange Rows.fnExactDivergedSpec) :=
  OpenClaim.holds_of_wide 4 Try.f4 rfl rfl rfl rfl rfl rfl rfl ⟨rfl, rfl, rfl, rfl, rfl⟩ rfl rfl rfl rfl rfl (by kernel_rfl) Try.func4 (by kernel_rfl)
    (of_decide_eq_true (by kernel_rfl)) (by unfold Func.isWrapper; rw [if_neg (of_decide_eq_false (by kernel_rfl))]; exact ⟨rfl, rfl⟩)
    (fun os started H enc _ => lifted os started H enc)

/-- the statement -/
theorem proved : Rows.FnExactDivergedSaid :=
  over
#print axioms proved
end Go.Proofs.Ytnhpcknbnmhlhaa.fnExactDiverged

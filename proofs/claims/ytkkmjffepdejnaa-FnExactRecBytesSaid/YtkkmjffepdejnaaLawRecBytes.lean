/- Proved: for every argument the exact law of RecBytes returns true: impl.RecBytes answers as the specification's RecBytes, writes into no argument, and the argument reads as before. No condition. -/
import Derived.Test.YtkkmjffepdejnaaRows
import Derived.Test.YtkkmjffepdejnaaRecOpen
import Derived.Test.YtkkmjffepdejnaaRecLaw
import Derived.Test.YtkkmjffepdejnaaRecBytesImpl
import Derived.Test.YtkkmjffepdejnaaRecBytesSpec
import Derived.WalkKit
import Derived.ProofKit
import Derived.OpenShut
import Derived.ShutString
import Derived.Below
import Derived.ChangeSame
namespace Go.Proofs.Ytkkmjffepdejnaa.fnExactRecBytes
open Go.ChangeShapes Go.WideShapes Go.ChangeAt Go.RowKit
open Go.ChangeMaps (open_string shut_string)
set_option linter.unusedVariables false

theorem own : ownKnob Try.prog.godebug = none := by kernel_rfl
theorem laidOut : laidOutB Try.prog = true := by kernel_rfl

set_option maxHeartbeats 4000000 in
theorem walk (a0 : Value) (K0 : Int) (L0 : List Fd.E) (w0 : (Lit.int .i64 K0).wf = true) (x0 : ∀ f ∈ L0, Fd.Fit f) (n0 : L0.length ≤ maxLen) (s0 : Rk.Shut a0) (w : World) (g0 : Rk.View Fd.S w a0 L0) :
    Calls Try.prog 4 #[.agg #[.int .i64 K0, a0]] w fun e w' => e = .returned (.bool true) ∧ Below w.heap.size w w' := by
  obtain ⟨W0, hW⟩ : ∃ W, W = w.alloc (.cells #[.int .i64 K0, a0] 40) := ⟨_, rfl⟩
  have B0 : Below w.heap.size w W0 := by rw [hW]; exact (Below.refl _ _).alloc (Nat.le_refl _) _
  have cA0 : W0.cell? ⟨w.heap.size, 0, none⟩ = some (.int .i64 K0) := by rw [hW, Fk.cellTop _ _ _ _ _ rfl]; rfl
  have cB0 : W0.cell? ⟨w.heap.size, 1, none⟩ = some a0 := by rw [hW, Fk.cellTop _ _ _ _ _ rfl]; rfl
  have hz0 : w.heap.size < W0.heap.size := by rw [hW]; simp
  have HW := Fk.hide hW
  have HB0 := Fk.hide B0
  clear hW B0
  have HG := Fk.hide g0
  have HL := Fk.hide x0
  obtain ⟨a, cap, rfl, _⟩ := g0
  go_enter Try.func4, Try.ntmps4
  go_wp2_with fail
  rw [← HW.out]
  refine (szRec_any _ _ _ _ _ (HG.out.below HB0.out) x0 n0 (by decide) (by decide)).mono ?_
  rintro e W1 ⟨⟨r, rfl, hr⟩, k1⟩
  have HB1 : Hid (Below w.heap.size w W1) := HB0.out.trans (k1.mono HB0.out.size)
  have hz1 : W0.heap.size ≤ W1.heap.size := k1.size
  have cA1 : W1.cell? ⟨w.heap.size, 0, none⟩ = some (.int .i64 K0) := (k1.cell (by show w.heap.size < _; omega)).trans cA0
  have cB1 : W1.cell? ⟨w.heap.size, 1, none⟩ = some (.slice a L0.length cap) := (k1.cell (by show w.heap.size < _; omega)).trans cB0
  clear k1 cA0 cB0
  rcases hr with rfl | ⟨hr0, hr⟩
  · go_wp2_with fail
    go_ret
    exact ⟨rfl, HB1.out⟩
  have hl : L0.length ≤ 1048576 := by omega
  clear hr
  obtain ⟨tx, htx⟩ : ∃ t, t = Rc.bytes K0 L0 := ⟨_, rfl⟩
  have FS : Hid (∀ w' v, Rk.View Fd.S w' v L0 → Calls Try.prog 18 #[.agg #[.int .i64 K0, v]] w' fun e w'' => e = .returned (.string tx) ∧ Below w'.heap.size w' w'') := fun w' v hv => by rw [htx]; exact recBytes_spec K0 v L0 w' hv HL.out n0
  have FI : Hid (∀ w' v, Rk.View Fd.S w' v L0 → Calls Try.prog 20 #[.agg #[.int .i64 K0, v]] w' fun e w'' => e = .returned (.string tx) ∧ Below w'.heap.size w' w'') := fun w' v hv => by rw [htx]; exact recBytes_impl K0 v L0 w' hv HL.out n0
  clear htx
  go_wp2_with fail
  refine (toRec_any _ _ _ _ (HG.out.below HB1.out) hl).mono ?_
  rintro e W2 ⟨⟨u2, rfl, ou2⟩, k2⟩
  obtain ⟨au2, ju2, rfl⟩ := ou2.slice
  have HB2 : Hid (Below w.heap.size w W2) := HB1.out.trans (k2.mono HB1.out.size)
  have hz2 : W1.heap.size ≤ W2.heap.size := k2.size
  have cA2 : W2.cell? ⟨w.heap.size, 0, none⟩ = some (.int .i64 K0) := (k2.cell (by show w.heap.size < _; omega)).trans cA1
  have cB2 : W2.cell? ⟨w.heap.size, 1, none⟩ = some (.slice a L0.length cap) := (k2.cell (by show w.heap.size < _; omega)).trans cB1
  clear k2 cA1 cB1
  go_wp2_with fail
  refine (FS.out _ _ (ou2.view)).mono ?_
  rintro e W3 ⟨rfl, k3⟩
  clear ou2
  have HB3 : Hid (Below w.heap.size w W3) := HB2.out.trans (k3.mono HB2.out.size)
  have hz3 : W2.heap.size ≤ W3.heap.size := k3.size
  have cA3 : W3.cell? ⟨w.heap.size, 0, none⟩ = some (.int .i64 K0) := (k3.cell (by show w.heap.size < _; omega)).trans cA2
  have cB3 : W3.cell? ⟨w.heap.size, 1, none⟩ = some (.slice a L0.length cap) := (k3.cell (by show w.heap.size < _; omega)).trans cB2
  clear k3 cA2 cB2
  go_wp2_with fail
  refine (toRec_any _ _ _ _ (HG.out.below HB3.out) hl).mono ?_
  rintro e W4 ⟨⟨ux, rfl, oux⟩, k4⟩
  obtain ⟨aux, jux, rfl⟩ := oux.slice
  have HB4 : Hid (Below w.heap.size w W4) := HB3.out.trans (k4.mono HB3.out.size)
  have hz4 : W3.heap.size ≤ W4.heap.size := k4.size
  have cA4 : W4.cell? ⟨w.heap.size, 0, none⟩ = some (.int .i64 K0) := (k4.cell (by show w.heap.size < _; omega)).trans cA3
  have cB4 : W4.cell? ⟨w.heap.size, 1, none⟩ = some (.slice a L0.length cap) := (k4.cell (by show w.heap.size < _; omega)).trans cB3
  clear k4 cA3 cB3
  have ox4 := oux
  clear oux
  obtain ⟨W5, hW5⟩ : ∃ W, W = W4.alloc (.cells #[.int .i64 K0, .slice aux L0.length jux] 45) := ⟨_, rfl⟩
  have k5 : Below W4.heap.size W4 W5 := by rw [hW5]; exact (Below.refl _ _).alloc (Nat.le_refl _) _
  have hy5 : W4.heap.size < W5.heap.size := by rw [hW5]; simp
  have sxa5 : W5.cell? ⟨W4.heap.size, 0, none⟩ = some (.int .i64 K0) := by rw [hW5, Fk.cellTop _ _ _ _ _ rfl]; rfl
  have sxb5 : W5.cell? ⟨W4.heap.size, 1, none⟩ = some (.slice aux L0.length jux) := by rw [hW5, Fk.cellTop _ _ _ _ _ rfl]; rfl
  have HW5 := Fk.hide hW5
  clear hW5
  have HB5 : Hid (Below w.heap.size w W5) := HB4.out.trans (k5.mono HB4.out.size)
  have hz5 : W4.heap.size ≤ W5.heap.size := k5.size
  have cA5 : W5.cell? ⟨w.heap.size, 0, none⟩ = some (.int .i64 K0) := (k5.cell (by show w.heap.size < _; omega)).trans cA4
  have cB5 : W5.cell? ⟨w.heap.size, 1, none⟩ = some (.slice a L0.length cap) := (k5.cell (by show w.heap.size < _; omega)).trans cB4
  have ox5 := ox4.below k5
  clear k5 cA4 cB4 ox4
  go_wp2_with fail
  rw [← HW5.out]
  refine (FI.out _ _ (ox5.view)).mono ?_
  rintro e W6 ⟨rfl, k6⟩
  have HB6 : Hid (Below w.heap.size w W6) := HB5.out.trans (k6.mono HB5.out.size)
  have hz6 : W5.heap.size ≤ W6.heap.size := k6.size
  have cA6 : W6.cell? ⟨w.heap.size, 0, none⟩ = some (.int .i64 K0) := (k6.cell (by show w.heap.size < _; omega)).trans cA5
  have cB6 : W6.cell? ⟨w.heap.size, 1, none⟩ = some (.slice a L0.length cap) := (k6.cell (by show w.heap.size < _; omega)).trans cB5
  have sxa6 : W6.cell? ⟨W4.heap.size, 0, none⟩ = some (.int .i64 K0) := (k6.cell (by show W4.heap.size < _; omega)).trans sxa5
  have sxb6 : W6.cell? ⟨W4.heap.size, 1, none⟩ = some (.slice aux L0.length jux) := (k6.cell (by show W4.heap.size < _; omega)).trans sxb5
  have ox6 := ox5.below k6
  clear k6 cA5 cB5 sxa5 sxb5 ox5
  go_wp2_with fail
  have vd : Rk.View Fd.S W6.drew (.slice a L0.length cap) L0 := (HG.out.below HB6.out).below (Below.drew (Below.refl _ _))
  have od := ox6.below (Below.drew (Below.refl W6.heap.size W6))
  go_region_with (first
    | (go_at_call 19; refine (toRec_any _ _ _ _ vd hl).mono ?_; rintro e X1 ⟨⟨ux, rfl, oxx⟩, m1⟩; obtain ⟨ax, jx, rfl⟩ := oxx.slice; have dx : X1.cell? ⟨W4.heap.size, 0, none⟩ = some (.int .i64 K0) := (m1.cell (by show W4.heap.size < W6.heap.size; omega)).trans sxa6; have dy : X1.cell? ⟨W4.heap.size, 1, none⟩ = some (.slice aux L0.length jux) := (m1.cell (by show W4.heap.size < W6.heap.size; omega)).trans sxb6)
    | (go_at_call 21; refine (eqRec_same _ _ _ L0 _ (od.below m1).view oxx.view hl).mono ?_; rintro e X2 ⟨rfl, m2⟩))
  all_goals
    have HB9 : Hid (Below w.heap.size w X2) := HB6.out.trans (((Below.trans (Below.drew (Below.refl _ _)) m1).trans (m2.mono m1.size)).mono HB6.out.size)
    clear m1 m2 vd od oxx dx dy
    go_wp2_with fail
    go_ret
    exact ⟨rfl, HB9.out⟩

set_option maxRecDepth 100000 in
theorem lifted (os : Os) (started : os.Started) (H : Type) (enc : TypeId × Value → H) :
    ReturnsInHanded {} Try.checked os 4 .any (Rows.fnExactRecBytesSpec.pre6 enc Try.prog Try.f4 Rows.fnExactRecBytesRow.domain false) (Rows.fnExactRecBytesSpec.post enc Try.prog Try.f4 false true false false) := by
  refine returnsInHanded_of_change (C := Try.checked) own started (by kernel_rfl) Try.func4
    (ChangeSpec.witness6 (enc := enc) (C := Try.checked) false ⟨#[], #[.agg #[.int .i64 0, .slice none 0 0]], []⟩ 8 (by kernel_rfl) (by kernel_rfl) (by kernel_rfl) (by kernel_rfl)) ?_
  intro W base args ds gs before hval0 hW hcnd _
  have hval : ∀ (j : Nat) t v, Try.f4.params[j]? = some t → args[j]? = some v → Value.okWide Try.prog W .any base t v := hval0
  have hW' := hW
  obtain ⟨p, q, hA0, hV, rfl, hfz, hnd⟩ := hW
  have hA : DataW.TrodAll enc Try.prog W 0 (fun _ => true) true Try.f4.params.toList args.toList ds p := hA0
  rw [Try.params4] at hA hval
  obtain ⟨v0, vs0, d0, ds0, p0, q0, hargs, rfl, rfl, h0, r0⟩ := trodAll_cons hA
  obtain ⟨rfl, rfl, rfl⟩ := trodAll_nil r0
  obtain rfl : args = #[v0] := by cases args; simp_all
  obtain ⟨rfl, rfl⟩ := trodVars_none hV
  have hlt : ∀ x ∈ p0 ++ ([]), x.block < W.heap.size := fun x hx => hW'.lt x (by simpa using hx)
  have k0 := h0
  obtain ⟨a0, K0, L0, rfl, w0, x0, n0, s0, g0⟩ := Rk.open_rec Try.underlying40 (by kernel_rfl) rfl rfl rfl rfl (by kernel_rfl) Try.underlying38 (by kernel_rfl) Try.underlying100 rfl rfl rfl rfl (by kernel_rfl) (by kernel_rfl) Try.underlying9 Try.underlying2 (hval 0 40 v0 rfl rfl) h0
  clear hA0 hval0
  have e1 : Rows.fnExactRecBytesSpec.fn H ([d0] ++ []) = { results := [.lit (.bool true)], args := [d0] } := by simp [Rows.fnExactRecBytesSpec]
  refine (walk a0 K0 L0 w0 x0 n0 s0 W g0).mono fun e W' ⟨he, bel⟩ => ?_
  subst he
  refine ⟨_, rfl, _, _, _, [], p0 ++ ([]), [], hW', ?_, ?_, ?_, bel.frame _, fun h => by cases h⟩
  · rw [e1]; exact trodAll_mk1 (shut_bool Try.underlying4 true)
  · rw [e1]; exact (trodAll_cons_mk (Below.trod laidOut (by kernel_rfl) (of_decide_eq_true (by kernel_rfl)) k0 bel (fun x hx => hlt x (by simp [hx]))) trodAll_mk0)
  · rw [e1]; rfl

theorem over : Rows.fnExactRecBytesRow.holds Try.pinned (OpenSpec.ofChange Rows.fnExactRecBytesSpec) :=
  OpenClaim.holds_of_wide 4 Try.f4 rfl rfl rfl rfl rfl rfl rfl ⟨rfl, rfl, rfl, rfl, rfl⟩ rfl rfl rfl rfl rfl (by kernel_rfl) Try.func4 (by kernel_rfl)
    (of_decide_eq_true (by kernel_rfl)) (by unfold Func.isWrapper; rw [if_neg (of_decide_eq_false (by kernel_rfl))]; exact ⟨rfl, rfl⟩)
    (fun os started H enc _ => lifted os started H enc)

/-- the statement -/
theorem proved : Rows.FnExactRecBytesSaid :=
  over
#print axioms proved
end Go.Proofs.Ytkkmjffepdejnaa.fnExactRecBytes

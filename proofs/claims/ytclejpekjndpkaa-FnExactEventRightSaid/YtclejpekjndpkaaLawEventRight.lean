/- Proved: for every argument the exact law of EventRight returns true: impl.EventRight answers as the specification's EventRight, and the argument reads as before. No condition. -/
import Derived.Test.YtclejpekjndpkaaRows
import Derived.Test.YtclejpekjndpkaaEventOpen
import Derived.Test.YtclejpekjndpkaaEventLaw
import Derived.Test.YtclejpekjndpkaaEventRightImpl
import Derived.Test.YtclejpekjndpkaaEventRightSpec
import Derived.WalkKit
import Derived.ProofKit
import Derived.OpenShut
import Derived.ShutString
import Derived.Below
import Derived.ChangeSame
namespace Go.Proofs.Ytclejpekjndpkaa.fnExactEventRight
open Go.ChangeShapes Go.WideShapes Go.ChangeAt Go.RowKit
open Go.ChangeMaps (open_string shut_string)
set_option linter.unusedVariables false

theorem own : ownKnob Try.prog.godebug = none := by kernel_rfl
theorem laidOut : laidOutB Try.prog = true := by kernel_rfl

set_option maxHeartbeats 4000000 in
theorem walk (c0 : Ev.E) (w : World) :
    Calls Try.prog 4 #[.agg #[.int .i64 c0.kind, .int .i64 c0.id, .int .i64 c0.other, .int .i64 c0.price, .int .i64 c0.amount]] w fun e w' => e = .returned (.bool true) ∧ Below w.heap.size w w' := by
  obtain ⟨W0, hW⟩ : ∃ W, W = w.alloc (.cells #[.int .i64 c0.kind, .int .i64 c0.id, .int .i64 c0.other, .int .i64 c0.price, .int .i64 c0.amount] 37) := ⟨_, rfl⟩
  have B0 : Below w.heap.size w W0 := by rw [hW]; exact (Below.refl _ _).alloc (Nat.le_refl _) _
  have hz0 : w.heap.size < W0.heap.size := by rw [hW]; simp
  have p0 : W0.cell? ⟨w.heap.size, 0, none⟩ = some (.int .i64 c0.kind) := by rw [hW, Fk.cellTop _ _ _ _ _ rfl]; rfl
  have p1 : W0.cell? ⟨w.heap.size, 1, none⟩ = some (.int .i64 c0.id) := by rw [hW, Fk.cellTop _ _ _ _ _ rfl]; rfl
  have p2 : W0.cell? ⟨w.heap.size, 2, none⟩ = some (.int .i64 c0.other) := by rw [hW, Fk.cellTop _ _ _ _ _ rfl]; rfl
  have p3 : W0.cell? ⟨w.heap.size, 3, none⟩ = some (.int .i64 c0.price) := by rw [hW, Fk.cellTop _ _ _ _ _ rfl]; rfl
  have p4 : W0.cell? ⟨w.heap.size, 4, none⟩ = some (.int .i64 c0.amount) := by rw [hW, Fk.cellTop _ _ _ _ _ rfl]; rfl
  have HW := Fk.hide hW
  have HB0 := Fk.hide B0
  clear hW B0
  go_enter Try.func4, Try.ntmps4
  go_wp2_with fail
  rw [← HW.out]
  refine (toEvent_any c0 _).mono ?_
  rintro e W1 ⟨rfl, k1⟩
  have HB1 : Hid (Below w.heap.size w W1) := HB0.out.trans (k1.mono HB0.out.size)
  have hz1 : W0.heap.size ≤ W1.heap.size := k1.size
  have d0 := (k1.cell (p := ⟨w.heap.size, 0, none⟩) (by show w.heap.size < _; omega)).trans p0
  have d1 := (k1.cell (p := ⟨w.heap.size, 1, none⟩) (by show w.heap.size < _; omega)).trans p1
  have d2 := (k1.cell (p := ⟨w.heap.size, 2, none⟩) (by show w.heap.size < _; omega)).trans p2
  have d3 := (k1.cell (p := ⟨w.heap.size, 3, none⟩) (by show w.heap.size < _; omega)).trans p3
  have d4 := (k1.cell (p := ⟨w.heap.size, 4, none⟩) (by show w.heap.size < _; omega)).trans p4
  clear p0 p1 p2 p3 p4
  go_wp2_with fail
  refine (eventRight_spec c0 _).mono ?_
  rintro e W2 ⟨rfl, k2⟩
  have HB2 : Hid (Below w.heap.size w W2) := HB1.out.trans (k2.mono HB1.out.size)
  have hz2 : W1.heap.size ≤ W2.heap.size := k2.size
  have f0 := (k2.cell (p := ⟨w.heap.size, 0, none⟩) (by show w.heap.size < _; omega)).trans d0
  have f1 := (k2.cell (p := ⟨w.heap.size, 1, none⟩) (by show w.heap.size < _; omega)).trans d1
  have f2 := (k2.cell (p := ⟨w.heap.size, 2, none⟩) (by show w.heap.size < _; omega)).trans d2
  have f3 := (k2.cell (p := ⟨w.heap.size, 3, none⟩) (by show w.heap.size < _; omega)).trans d3
  have f4 := (k2.cell (p := ⟨w.heap.size, 4, none⟩) (by show w.heap.size < _; omega)).trans d4
  clear d0 d1 d2 d3 d4
  obtain ⟨r, hr⟩ : ∃ r, r = Ev.right c0 := ⟨_, rfl⟩
  have HR := Fk.hide hr
  rw [← hr]
  clear hr
  go_wp2_with fail
  refine (toEvent_any c0 _).mono ?_
  rintro e W3 ⟨rfl, k3⟩
  have HB3 : Hid (Below w.heap.size w W3) := HB2.out.trans (k3.mono HB2.out.size)
  clear f0 f1 f2 f3 f4
  go_wp2_with fail
  refine (eventRight_impl c0 _).mono ?_
  rintro e W4 ⟨rfl, k4⟩
  have HB4 : Hid (Below w.heap.size w W4) := HB3.out.trans (k4.mono HB3.out.size)
  rw [← HR.out]
  clear k1 k2 k3 k4
  cases r
  all_goals
    go_wp2_with fail
    go_ret
    exact ⟨rfl, HB4.out⟩

set_option maxRecDepth 100000 in
theorem lifted (os : Os) (started : os.Started) (H : Type) (enc : TypeId × Value → H) :
    ReturnsInHanded {} Try.checked os 4 .any (Rows.fnExactEventRightSpec.pre6 enc Try.prog Try.f4 Rows.fnExactEventRightRow.domain false) (Rows.fnExactEventRightSpec.post enc Try.prog Try.f4 false true false false) := by
  refine returnsInHanded_of_change (C := Try.checked) own started (by kernel_rfl) Try.func4
    (ChangeSpec.witness6 (enc := enc) (C := Try.checked) false ⟨#[], #[.agg #[.int .i64 0, .int .i64 0, .int .i64 0, .int .i64 0, .int .i64 0]], []⟩ 8 (by kernel_rfl) (by kernel_rfl) (by kernel_rfl) (by kernel_rfl)) ?_
  intro W base args ds gs before hval0 hW hcnd _
  have hval : ∀ (j : Nat) t v, Try.f4.params[j]? = some t → args[j]? = some v → Value.okWide Try.prog W .any base t v := hval0
  have hW' := hW
  obtain ⟨p, q, hA0, hV, rfl, hfz, hnd⟩ := hW
  have hA : DataW.TrodAll enc Try.prog W 0 (fun _ => true) true Try.f4.params.toList args.toList ds p := hA0
  rw [Try.params4] at hA hval
  obtain ⟨v0, vs0, d0, ds0, p0, q0, hargs, rfl, rfl, h0, r0⟩ := trodAll_cons hA
  obtain ⟨rfl, rfl, rfl⟩ := trodAll_nil r0
  obtain rfl : args = #[v0] := by cases args; simp_all
  obtain ⟨rfl, rfl⟩ := trodVars_none hV
  have hlt : ∀ x ∈ p0 ++ ([]), x.block < W.heap.size := fun x hx => hW'.lt x (by simpa using hx)
  have k0 := h0
  obtain ⟨c0, rfl⟩ := Ev.open_event (hval 0 37 v0 rfl rfl) h0
  clear hA0 hval0
  have e1 : Rows.fnExactEventRightSpec.fn H ([d0] ++ []) = { results := [.lit (.bool true)], args := [d0] } := by simp [Rows.fnExactEventRightSpec]
  refine (walk c0 W).mono fun e W' ⟨he, bel⟩ => ?_
  subst he
  refine ⟨_, rfl, _, _, _, [], p0 ++ ([]), [], hW', ?_, ?_, ?_, bel.frame _, fun h => by cases h⟩
  · rw [e1]; exact trodAll_mk1 (shut_bool Try.underlying4 true)
  · rw [e1]; exact (trodAll_cons_mk (Below.trod laidOut (by kernel_rfl) (of_decide_eq_true (by kernel_rfl)) k0 bel (fun x hx => hlt x (by simp [hx]))) trodAll_mk0)
  · rw [e1]; rfl

theorem over : Rows.fnExactEventRightRow.holds Try.pinned (OpenSpec.ofChange Rows.fnExactEventRightSpec) :=
  OpenClaim.holds_of_wide 4 Try.f4 rfl rfl rfl rfl rfl rfl rfl ⟨rfl, rfl, rfl, rfl, rfl⟩ rfl rfl rfl rfl rfl (by kernel_rfl) Try.func4 (by kernel_rfl)
    (of_decide_eq_true (by kernel_rfl)) (by unfold Func.isWrapper; rw [if_neg (of_decide_eq_false (by kernel_rfl))]; exact ⟨rfl, rfl⟩)
    (fun os started H enc _ => lifted os started H enc)

/-- the statement -/
theorem proved : Rows.FnExactEventRightSaid :=
  over
#print axioms proved
end Go.Proofs.Ytclejpekjndpkaa.fnExactEventRight

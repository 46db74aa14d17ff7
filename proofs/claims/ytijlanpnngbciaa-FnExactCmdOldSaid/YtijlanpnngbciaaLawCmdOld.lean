/- Proved: for every argument the exact law of CmdOld returns true: impl.CmdOld answers as the specification's CmdOld, and the argument reads as before. No condition. -/
import Derived.Test.YtijlanpnngbciaaRows
import Derived.Test.YtijlanpnngbciaaCmdOpen
import Derived.Test.YtijlanpnngbciaaCmdLaw
import Derived.Test.YtijlanpnngbciaaCmdOldImpl
import Derived.Test.YtijlanpnngbciaaCmdOldSpec
import Derived.WalkKit
import Derived.ProofKit
import Derived.OpenShut
import Derived.ShutString
import Derived.Below
import Derived.ChangeSame
namespace Go.Proofs.Ytijlanpnngbciaa.fnExactCmdOld
open Go.ChangeShapes Go.WideShapes Go.ChangeAt Go.RowKit
open Go.ChangeMaps (open_string shut_string)
set_option linter.unusedVariables false

theorem own : ownKnob Try.prog.godebug = none := by kernel_rfl
theorem laidOut : laidOutB Try.prog = true := by kernel_rfl

set_option maxHeartbeats 4000000 in
theorem walk (c0 : Cm.C) (w : World) :
    Calls Try.prog 5 #[.agg #[.int .i64 c0.kind, .int .i64 c0.owner, .int .i64 c0.id, .bool c0.buy, .int .i64 c0.price, .int .i64 c0.amount, .int .i64 c0.life, .bool c0.post, .int .i64 c0.peak, .bool c0.guard]] w fun e w' => e = .returned (.bool true) ∧ Below w.heap.size w w' := by
  obtain ⟨W0, hW⟩ : ∃ W, W = w.alloc (.cells #[.int .i64 c0.kind, .int .i64 c0.owner, .int .i64 c0.id, .bool c0.buy, .int .i64 c0.price, .int .i64 c0.amount, .int .i64 c0.life, .bool c0.post, .int .i64 c0.peak, .bool c0.guard] 33) := ⟨_, rfl⟩
  have B0 : Below w.heap.size w W0 := by rw [hW]; exact (Below.refl _ _).alloc (Nat.le_refl _) _
  have hz0 : w.heap.size < W0.heap.size := by rw [hW]; simp
  have p0 : W0.cell? ⟨w.heap.size, 0, none⟩ = some (.int .i64 c0.kind) := by rw [hW, Fk.cellTop _ _ _ _ _ rfl]; rfl
  have p1 : W0.cell? ⟨w.heap.size, 1, none⟩ = some (.int .i64 c0.owner) := by rw [hW, Fk.cellTop _ _ _ _ _ rfl]; rfl
  have p2 : W0.cell? ⟨w.heap.size, 2, none⟩ = some (.int .i64 c0.id) := by rw [hW, Fk.cellTop _ _ _ _ _ rfl]; rfl
  have p3 : W0.cell? ⟨w.heap.size, 3, none⟩ = some (.bool c0.buy) := by rw [hW, Fk.cellTop _ _ _ _ _ rfl]; rfl
  have p4 : W0.cell? ⟨w.heap.size, 4, none⟩ = some (.int .i64 c0.price) := by rw [hW, Fk.cellTop _ _ _ _ _ rfl]; rfl
  have p5 : W0.cell? ⟨w.heap.size, 5, none⟩ = some (.int .i64 c0.amount) := by rw [hW, Fk.cellTop _ _ _ _ _ rfl]; rfl
  have p6 : W0.cell? ⟨w.heap.size, 6, none⟩ = some (.int .i64 c0.life) := by rw [hW, Fk.cellTop _ _ _ _ _ rfl]; rfl
  have p7 : W0.cell? ⟨w.heap.size, 7, none⟩ = some (.bool c0.post) := by rw [hW, Fk.cellTop _ _ _ _ _ rfl]; rfl
  have p8 : W0.cell? ⟨w.heap.size, 8, none⟩ = some (.int .i64 c0.peak) := by rw [hW, Fk.cellTop _ _ _ _ _ rfl]; rfl
  have p9 : W0.cell? ⟨w.heap.size, 9, none⟩ = some (.bool c0.guard) := by rw [hW, Fk.cellTop _ _ _ _ _ rfl]; rfl
  have HW := Fk.hide hW
  have HB0 := Fk.hide B0
  clear hW B0
  go_enter Try.func5, Try.ntmps5
  go_wp2_with fail
  rw [← HW.out]
  refine (toCmd_any c0 _).mono ?_
  rintro e W1 ⟨rfl, k1⟩
  have HB1 : Hid (Below w.heap.size w W1) := HB0.out.trans (k1.mono HB0.out.size)
  have hz1 : W0.heap.size ≤ W1.heap.size := k1.size
  have d0 := (k1.cell (p := ⟨w.heap.size, 0, none⟩) (by show w.heap.size < _; omega)).trans p0
  have d1 := (k1.cell (p := ⟨w.heap.size, 1, none⟩) (by show w.heap.size < _; omega)).trans p1
  have d2 := (k1.cell (p := ⟨w.heap.size, 2, none⟩) (by show w.heap.size < _; omega)).trans p2
  have d3 := (k1.cell (p := ⟨w.heap.size, 3, none⟩) (by show w.heap.size < _; omega)).trans p3
  have d4 := (k1.cell (p := ⟨w.heap.size, 4, none⟩) (by show w.heap.size < _; omega)).trans p4
  have d5 := (k1.cell (p := ⟨w.heap.size, 5, none⟩) (by show w.heap.size < _; omega)).trans p5
  have d6 := (k1.cell (p := ⟨w.heap.size, 6, none⟩) (by show w.heap.size < _; omega)).trans p6
  have d7 := (k1.cell (p := ⟨w.heap.size, 7, none⟩) (by show w.heap.size < _; omega)).trans p7
  have d8 := (k1.cell (p := ⟨w.heap.size, 8, none⟩) (by show w.heap.size < _; omega)).trans p8
  have d9 := (k1.cell (p := ⟨w.heap.size, 9, none⟩) (by show w.heap.size < _; omega)).trans p9
  clear p0 p1 p2 p3 p4 p5 p6 p7 p8 p9
  go_wp2_with fail
  refine (cmdOld_spec c0 _).mono ?_
  rintro e W2 ⟨rfl, k2⟩
  have HB2 : Hid (Below w.heap.size w W2) := HB1.out.trans (k2.mono HB1.out.size)
  have hz2 : W1.heap.size ≤ W2.heap.size := k2.size
  have f0 := (k2.cell (p := ⟨w.heap.size, 0, none⟩) (by show w.heap.size < _; omega)).trans d0
  have f1 := (k2.cell (p := ⟨w.heap.size, 1, none⟩) (by show w.heap.size < _; omega)).trans d1
  have f2 := (k2.cell (p := ⟨w.heap.size, 2, none⟩) (by show w.heap.size < _; omega)).trans d2
  have f3 := (k2.cell (p := ⟨w.heap.size, 3, none⟩) (by show w.heap.size < _; omega)).trans d3
  have f4 := (k2.cell (p := ⟨w.heap.size, 4, none⟩) (by show w.heap.size < _; omega)).trans d4
  have f5 := (k2.cell (p := ⟨w.heap.size, 5, none⟩) (by show w.heap.size < _; omega)).trans d5
  have f6 := (k2.cell (p := ⟨w.heap.size, 6, none⟩) (by show w.heap.size < _; omega)).trans d6
  have f7 := (k2.cell (p := ⟨w.heap.size, 7, none⟩) (by show w.heap.size < _; omega)).trans d7
  have f8 := (k2.cell (p := ⟨w.heap.size, 8, none⟩) (by show w.heap.size < _; omega)).trans d8
  have f9 := (k2.cell (p := ⟨w.heap.size, 9, none⟩) (by show w.heap.size < _; omega)).trans d9
  clear d0 d1 d2 d3 d4 d5 d6 d7 d8 d9
  obtain ⟨r, hr⟩ : ∃ r, r = Cm.old c0 := ⟨_, rfl⟩
  have HR := Fk.hide hr
  rw [← hr]
  clear hr
  go_wp2_with fail
  refine (toCmd_any c0 _).mono ?_
  rintro e W3 ⟨rfl, k3⟩
  have HB3 : Hid (Below w.heap.size w W3) := HB2.out.trans (k3.mono HB2.out.size)
  clear f0 f1 f2 f3 f4 f5 f6 f7 f8 f9
  go_wp2_with fail
  refine (cmdOld_impl c0 _).mono ?_
  rintro e W4 ⟨rfl, k4⟩
  have HB4 : Hid (Below w.heap.size w W4) := HB3.out.trans (k4.mono HB3.out.size)
  rw [← HR.out]
  clear k1 k2 k3 k4
  cases r
  all_goals
    go_wp2_with fail
    go_ret
    exact ⟨rfl, HB4.out⟩

set_option maxRecDepth 100000 in
theorem lifted (os : Os) (started : os.Started) (H : Type) (enc : TypeId × Value → H) :
    ReturnsInHanded {} Try.checked os 5 .any (Rows.fnExactCmdOldSpec.pre6 enc Try.prog Try.f5 Rows.fnExactCmdOldRow.domain false) (Rows.fnExactCmdOldSpec.post enc Try.prog Try.f5 false true false false) := by
  refine returnsInHanded_of_change (C := Try.checked) own started (by kernel_rfl) Try.func5
    (ChangeSpec.witness6 (enc := enc) (C := Try.checked) false ⟨#[], #[.agg #[.int .i64 0, .int .i64 0, .int .i64 0, .bool false, .int .i64 0, .int .i64 0, .int .i64 0, .bool false, .int .i64 0, .bool false]], []⟩ 8 (by kernel_rfl) (by kernel_rfl) (by kernel_rfl) (by kernel_rfl)) ?_
  intro W base args ds gs before hval0 hW hcnd _
  have hval : ∀ (j : Nat) t v, Try.f5.params[j]? = some t → args[j]? = some v → Value.okWide Try.prog W .any base t v := hval0
  have hW' := hW
  obtain ⟨p, q, hA0, hV, rfl, hfz, hnd⟩ := hW
  have hA : DataW.TrodAll enc Try.prog W 0 (fun _ => true) true Try.f5.params.toList args.toList ds p := hA0
  rw [Try.params5] at hA hval
  obtain ⟨v0, vs0, d0, ds0, p0, q0, hargs, rfl, rfl, h0, r0⟩ := trodAll_cons hA
  obtain ⟨rfl, rfl, rfl⟩ := trodAll_nil r0
  obtain rfl : args = #[v0] := by cases args; simp_all
  obtain ⟨rfl, rfl⟩ := trodVars_none hV
  have hlt : ∀ x ∈ p0 ++ ([]), x.block < W.heap.size := fun x hx => hW'.lt x (by simpa using hx)
  have k0 := h0
  obtain ⟨c0, rfl⟩ := Cm.open_cmd (hval 0 33 v0 rfl rfl) h0
  clear hA0 hval0
  have e1 : Rows.fnExactCmdOldSpec.fn H ([d0] ++ []) = { results := [.lit (.bool true)], args := [d0] } := by simp [Rows.fnExactCmdOldSpec]
  refine (walk c0 W).mono fun e W' ⟨he, bel⟩ => ?_
  subst he
  refine ⟨_, rfl, _, _, _, [], p0 ++ ([]), [], hW', ?_, ?_, ?_, bel.frame _, fun h => by cases h⟩
  · rw [e1]; exact trodAll_mk1 (shut_bool Try.underlying4 true)
  · rw [e1]; exact (trodAll_cons_mk (Below.trod laidOut (by kernel_rfl) (of_decide_eq_true (by kernel_rfl)) k0 bel (fun x hx => hlt x (by simp [hx]))) trodAll_mk0)
  · rw [e1]; rfl

theorem over : Rows.fnExactCmdOldRow.holds Try.pinned (OpenSpec.ofChange Rows.fnExactCmdOldSpec) :=
  OpenClaim.holds_of_wide 5 Try.f5 rfl rfl rfl rfl rfl rfl rfl ⟨rfl, rfl, rfl, rfl, rfl⟩ rfl rfl rfl rfl rfl (by kernel_rfl) Try.func5 (by kernel_rfl)
    (of_decide_eq_true (by kernel_rfl)) (by unfold Func.isWrapper; rw [if_neg (of_decide_eq_false (by kernel_rfl))]; exact ⟨rfl, rfl⟩)
    (fun os started H enc _ => lifted os started H enc)

/-- the statement -/
theorem proved : Rows.FnExactCmdOldSaid :=
  over
#print axioms proved
end Go.Proofs.Ytijlanpnngbciaa.fnExactCmdOld

/- Proved: for every list of files the exact law of FsRight returns true: impl.FsRight answers as the specification's FsRight, writes into no argument, and the argument reads as before. No condition. -/
import Derived.Test.YtmemlfpmmkdhmaaRows
import Derived.Test.YtmemlfpmmkdhmaaFsSz
import Derived.Test.YtmemlfpmmkdhmaaFsTo
import Derived.Test.YtmemlfpmmkdhmaaFsEq
import Derived.Test.YtmemlfpmmkdhmaaFsRightImpl
import Derived.Test.YtmemlfpmmkdhmaaFsRightSpec
import Derived.WalkKit
import Derived.ProofKit
import Derived.OpenShut
import Derived.ShutString
import Derived.Below
namespace Go.Proofs.Ytmemlfpmmkdhmaa.fnExactFsRight
open Go.ChangeShapes Go.WideShapes Go.ChangeAt Go.RowKit
open Go.ChangeMaps (open_string shut_string)
set_option linter.unusedVariables false

theorem own : ownKnob Try.prog.godebug = none := by kernel_rfl
theorem laidOut : laidOutB Try.prog = true := by kernel_rfl

set_option maxHeartbeats 2000000 in
theorem walk (a0 : Value) (L0 : List Fk.Fl) (x0 : Fk.Fits L0) (n0 : L0.length ≤ maxLen) (w : World) (g0 : Fk.View w a0 L0) :
    Calls Try.prog 3 #[.agg #[a0]] w fun e w' => e = .returned (.bool true) ∧ Below w.heap.size w w' := by
  have b0 : Below w.heap.size w (w.alloc (.cells #[a0] 24)) := (Below.refl _ _).alloc (Nat.le_refl _) _
  have hcell : (w.alloc (.cells #[a0] 24)).cell? ⟨w.heap.size, 0, none⟩ = some a0 := by rw [Fk.cellTop _ _ _ _ _ rfl]; rfl
  have hsz : w.heap.size < (w.alloc (.cells #[a0] 24)).heap.size := by simp
  obtain ⟨W, hW⟩ : ∃ W, W = w.alloc (.cells #[a0] 24) := ⟨_, rfl⟩
  have v0 := g0.below b0
  rw [← hW] at b0 v0 hcell hsz
  have HW : Hid (W = w.alloc (.cells #[a0] 24)) := hW
  clear hW
  obtain ⟨a, cap, rfl, _⟩ := g0
  go_enter Try.func3, Try.ntmps3
  go_wp2_with fail
  rw [← HW.out]
  refine (szFs_any _ _ _ _ v0 x0 n0 (by decide) (by decide)).mono ?_
  rintro e w1 ⟨⟨r, rfl, hr⟩, b1⟩
  have v1 := v0.below b1
  have c1 : w1.cell? ⟨w.heap.size, 0, none⟩ = some (.slice a L0.length cap) := (b1.cell (by exact hsz)).trans hcell
  have HB1 : Hid (Below w.heap.size w w1) := b0.trans (b1.mono b0.size)
  have hsz1 : w.heap.size < w1.heap.size := Nat.lt_of_lt_of_le hsz b1.size
  clear b1 v0 hcell
  rcases hr with rfl | ⟨hr0, hr⟩
  · go_wp2_with fail
    go_ret
    exact ⟨rfl, HB1.out⟩
  have hl : L0.length ≤ 1048576 := by omega
  clear hr
  go_wp2_with fail
  refine (toFs_any _ _ _ v1 hl).mono ?_
  rintro e w2 ⟨⟨u2, rfl, o2⟩, b2⟩
  obtain ⟨a2, k2, rfl⟩ := o2.slice
  have v2 := v1.below b2
  have c2 : w2.cell? ⟨w.heap.size, 0, none⟩ = some (.slice a L0.length cap) := (b2.cell (by exact hsz1)).trans c1
  have HB2 : Hid (Below w.heap.size w w2) := HB1.out.trans (b2.mono HB1.out.size)
  have hsz2 : w.heap.size < w2.heap.size := Nat.lt_of_lt_of_le hsz1 b2.size
  clear b2 v1 c1 HB1
  go_wp2_with fail
  refine (fsRight_spec _ _ _ o2.view x0 n0).mono ?_
  rintro e w3 ⟨rfl, b3⟩
  have v3 := v2.below b3
  have c3 : w3.cell? ⟨w.heap.size, 0, none⟩ = some (.slice a L0.length cap) := (b3.cell (by exact hsz2)).trans c2
  have HB3 : Hid (Below w.heap.size w w3) := HB2.out.trans (b3.mono HB2.out.size)
  have hsz3 : w.heap.size < w3.heap.size := Nat.lt_of_lt_of_le hsz2 b3.size
  clear b3 v2 c2 o2 HB2
  go_wp2_with fail
  refine (toFs_any _ _ _ v3 hl).mono ?_
  rintro e w4 ⟨⟨u4, rfl, o4⟩, b4⟩
  obtain ⟨a4, k4, rfl⟩ := o4.slice
  have v4 := v3.below b4
  have c4 : w4.cell? ⟨w.heap.size, 0, none⟩ = some (.slice a L0.length cap) := (b4.cell (by exact hsz3)).trans c3
  have HB4 : Hid (Below w.heap.size w w4) := HB3.out.trans (b4.mono HB3.out.size)
  have hsz4 : w.heap.size < w4.heap.size := Nat.lt_of_lt_of_le hsz3 b4.size
  clear b4 v3 c3 HB3
  go_wp2_with fail
  obtain ⟨W5, hW5⟩ : ∃ W5, W5 = w4.alloc (.cells #[.slice a4 L0.length k4] 29) := ⟨_, rfl⟩
  rw [← hW5]
  have b5 : Below w4.heap.size w4 W5 := by rw [hW5]; exact (Below.refl _ _).alloc (Nat.le_refl _) _
  have d5 : W5.cell? ⟨w4.heap.size, 0, none⟩ = some (.slice a4 L0.length k4) := by rw [hW5, Fk.cellTop _ _ _ _ _ rfl]; rfl
  have hsz5 : w4.heap.size < W5.heap.size := by rw [hW5]; simp
  clear hW5
  have v5 := v4.below b5
  have o5 := o4.below b5
  have c5 : W5.cell? ⟨w.heap.size, 0, none⟩ = some (.slice a L0.length cap) := (b5.cell (by exact hsz4)).trans c4
  have HB5 : Hid (Below w.heap.size w W5) := HB4.out.trans (b5.mono HB4.out.size)
  clear b5 v4 o4 c4 HB4
  refine (fsRight_impl _ _ _ o5.view x0 n0).mono ?_
  rintro e w6 ⟨rfl, b6⟩
  have v6 := v5.below b6
  have o6 := o5.below b6
  have c6 : w6.cell? ⟨w.heap.size, 0, none⟩ = some (.slice a L0.length cap) := (b6.cell (by show w.heap.size < _; omega)).trans c5
  have d6 : w6.cell? ⟨w4.heap.size, 0, none⟩ = some (.slice a4 L0.length k4) := (b6.cell (by exact hsz5)).trans d5
  have HB6 : Hid (Below w.heap.size w w6) := HB5.out.trans (b6.mono HB5.out.size)
  have hsz6 : W5.heap.size ≤ w6.heap.size := b6.size
  clear b6 v5 o5 c5 d5 HB5
  go_wp2_with fail
  have vd : Fk.View w6.drew (.slice a L0.length cap) L0 := v6.below (Below.drew (Below.refl _ _))
  have od : Fk.Own w6.drew w3.heap.size 46 (.slice a4 L0.length k4) L0 := o6.below (Below.drew (Below.refl _ _))
  go_region_with (first
    | (go_at_call 8; refine (toFs_any _ _ _ vd hl).mono ?_; rintro e w7 ⟨⟨u7, rfl, o7⟩, b7⟩; obtain ⟨a7, k7, rfl⟩ := o7.slice; have d7 : w7.cell? ⟨w4.heap.size, 0, none⟩ = some (.slice a4 L0.length k4) := (b7.cell (by show w4.heap.size < w6.heap.size; omega)).trans d6)
    | (go_at_call 10; refine (eqFs_same _ _ L0 _ (od.below b7).view o7.view hl).mono ?_; rintro e w8 ⟨rfl, b8⟩))
  all_goals
    have HB7 : Hid (Below w.heap.size w w7) := HB6.out.trans ((Below.trans (Below.drew (Below.refl _ _)) b7).mono HB6.out.size)
    have HB8 : Hid (Below w.heap.size w w8) := HB7.out.trans (b8.mono HB7.out.size)
    clear b7 b8
    go_wp2_with fail
    go_ret
    exact ⟨rfl, HB8.out⟩

set_option maxRecDepth 100000 in
theorem lifted (os : Os) (started : os.Started) (H : Type) (enc : TypeId × Value → H) :
    ReturnsInHanded {} Try.checked os 3 .any (Rows.fnExactFsRightSpec.pre6 enc Try.prog Try.f3 Rows.fnExactFsRightRow.domain false) (Rows.fnExactFsRightSpec.post enc Try.prog Try.f3 false true false false) := by
  refine returnsInHanded_of_change (C := Try.checked) own started (by kernel_rfl) Try.func3
    (ChangeSpec.witness6 (enc := enc) (C := Try.checked) false ⟨#[], #[.agg #[.slice none 0 0]], []⟩ 8 (by kernel_rfl) (by kernel_rfl) (by kernel_rfl) (by kernel_rfl)) ?_
  intro W base args ds gs before hval0 hW hcnd _
  have hval : ∀ (j : Nat) t v, Try.f3.params[j]? = some t → args[j]? = some v → Value.okWide Try.prog W .any base t v := hval0
  have hW' := hW
  obtain ⟨p, q, hA0, hV, rfl, hfz, hnd⟩ := hW
  have hA : DataW.TrodAll enc Try.prog W 0 (fun _ => true) true Try.f3.params.toList args.toList ds p := hA0
  rw [Try.params3] at hA hval
  obtain ⟨v0, vs0, d0, ds0, p0, q0, hargs, rfl, rfl, h0, r0⟩ := trodAll_cons hA
  obtain ⟨rfl, rfl, rfl⟩ := trodAll_nil r0
  obtain rfl : args = #[v0] := by cases args; simp_all
  obtain ⟨rfl, rfl⟩ := trodVars_none hV
  have hlt : ∀ x ∈ p0 ++ ([]), x.block < W.heap.size := fun x hx => hW'.lt x (by simpa using hx)
  have k0 := h0
  obtain ⟨a0, L0, rfl, x0, n0, g0⟩ := Fk.open_fs Try.underlying24 (by kernel_rfl) rfl rfl (by kernel_rfl) Try.underlying22 Try.underlying61 (by kernel_rfl) rfl rfl rfl rfl rfl rfl (by kernel_rfl) (by kernel_rfl) Try.underlying9 Try.underlying2 (hval 0 24 v0 rfl rfl) h0
  clear hA0 hval0
  have e1 : Rows.fnExactFsRightSpec.fn H ([d0] ++ []) = { results := [.lit (.bool true)], args := [d0] } := by simp [Rows.fnExactFsRightSpec]
  refine (walk a0 L0 x0 n0 W g0).mono fun e W' ⟨he, bel⟩ => ?_
  subst he
  refine ⟨_, rfl, _, _, _, [], p0 ++ ([]), [], hW', ?_, ?_, ?_, bel.frame _, fun h => by cases h⟩
  · rw [e1]; exact trodAll_mk1 (shut_bool Try.underlying4 true)
  · rw [e1]; exact (trodAll_cons_mk (Below.trod laidOut (by kernel_rfl) (of_decide_eq_true (by kernel_rfl)) k0 bel (fun x hx => hlt x (by simp [hx]))) trodAll_mk0)
  · rw [e1]; rfl

theorem over : Rows.fnExactFsRightRow.holds Try.pinned (OpenSpec.ofChange Rows.fnExactFsRightSpec) :=
  OpenClaim.holds_of_wide 3 Try.f3 rfl rfl rfl rfl rfl rfl rfl ⟨rfl, rfl, rfl, rfl, rfl⟩ rfl rfl rfl rfl rfl (by kernel_rfl) Try.func3 (by kernel_rfl)
    (of_decide_eq_true (by kernel_rfl)) (by unfold Func.isWrapper; rw [if_neg (of_decide_eq_false (by kernel_rfl))]; exact ⟨rfl, rfl⟩)
    (fun os started H enc _ => lifted os started H enc)

/-- the statement -/
theorem proved : Rows.FnExactFsRightSaid :=
  over
#print axioms proved
end Go.Proofs.Ytmemlfpmmkdhmaa.fnExactFsRight

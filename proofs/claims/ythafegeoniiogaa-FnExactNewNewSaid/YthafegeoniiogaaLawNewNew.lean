/- Proved: the exact law of NewNew returns true: impl.NewNew answers as the specification's NewNew, and its answer owns its memory. No condition. -/
import Derived.Test.YthafegeoniiogaaRows
import Derived.Test.YthafegeoniiogaaNewNewBoth
import Derived.Test.YthafegeoniiogaaNewEq
import Derived.WalkKit
import Derived.ProofKit
import Derived.OpenShut
import Derived.ShutString
import Derived.Below
import Derived.ChangeSame
namespace Go.Proofs.Ythafegeoniiogaa.fnExactNewNew
open Go.ChangeShapes Go.WideShapes Go.ChangeAt Go.RowKit
open Go.ChangeMaps (open_string shut_string)
set_option linter.unusedVariables false

theorem own : ownKnob Try.prog.godebug = none := by kernel_rfl
theorem laidOut : laidOutB Try.prog = true := by kernel_rfl

set_option maxHeartbeats 8000000 in
theorem walk (w : World) :
    Calls Try.prog 8 #[] w fun e w' => e = .returned (.bool true) ∧ Below w.heap.size w w' := by
  have HV : Hid (∀ W : World, Lv.View W (.slice none 0 0) []) := fun W => Lv.view_none W
  obtain ⟨W0, hW⟩ : ∃ W, W = w := ⟨_, rfl⟩
  have HB0 : Hid (Below w.heap.size w W0) := by rw [hW]; exact Below.refl _ _
  have HW := Fk.hide hW
  clear hW
  go_enter Try.func8, Try.ntmps8
  go_wp2_with fail
  rw [← HW.out]
  refine (newNew_spec _).mono ?_
  rintro e W1 ⟨rfl, k1⟩
  have HB1 : Hid (Below w.heap.size w W1) := HB0.out.trans (k1.mono HB0.out.size)
  have hz1 : W0.heap.size ≤ W1.heap.size := k1.size
  clear k1 
  go_wp2_with fail
  obtain ⟨W2, hW2⟩ : ∃ W, W = (W1.alloc (.cells #[.slice none 0 0, .slice none 0 0, .int .i64 1] 61)) := ⟨_, rfl⟩
  have k2 : Below W1.heap.size W1 W2 := by rw [hW2]; exact (Below.refl _ _).alloc (Nat.le_refl _) _
  have hy2 : W1.heap.size < W2.heap.size := by rw [hW2]; simp
  have swa_2 : W2.cell? ⟨W1.heap.size, 0, none⟩ = some (.slice none 0 0) := by rw [hW2, Fk.cellTop _ _ _ _ _ rfl]; rfl
  have swb_2 : W2.cell? ⟨W1.heap.size, 1, none⟩ = some (.slice none 0 0) := by rw [hW2, Fk.cellTop _ _ _ _ _ rfl]; rfl
  have swc_2 : W2.cell? ⟨W1.heap.size, 2, none⟩ = some (.int .i64 1) := by rw [hW2, Fk.cellTop _ _ _ _ _ rfl]; rfl
  have HW2 := Fk.hide hW2
  clear hW2
  have HB2 : Hid (Below w.heap.size w W2) := HB1.out.trans (k2.mono HB1.out.size)
  have hz2 : W1.heap.size ≤ W2.heap.size := k2.size
  clear k2 
  rw [← HW2.out]
  refine (newNew_impl _).mono ?_
  rintro e W3 ⟨rfl, k3⟩
  have HB3 : Hid (Below w.heap.size w W3) := HB2.out.trans (k3.mono HB2.out.size)
  have hz3 : W2.heap.size ≤ W3.heap.size := k3.size
  have swa_3 : W3.cell? ⟨W1.heap.size, 0, none⟩ = some (.slice none 0 0) := (k3.cell (by show W1.heap.size < _; omega)).trans swa_2
  have swb_3 : W3.cell? ⟨W1.heap.size, 1, none⟩ = some (.slice none 0 0) := (k3.cell (by show W1.heap.size < _; omega)).trans swb_2
  have swc_3 : W3.cell? ⟨W1.heap.size, 2, none⟩ = some (.int .i64 1) := (k3.cell (by show W1.heap.size < _; omega)).trans swc_2
  clear k3 swa_2 swb_2 swc_2
  have lswa_ : (W3.alloc (.cells #[.slice none 0 0, .slice none 0 0, .int .i64 1] 61)).cell? ⟨W1.heap.size, 0, none⟩ = some (.slice none 0 0) := by rw [Fk.cellOld _ _ _ _ (by omega)]; exact swa_3
  have lswb_ : (W3.alloc (.cells #[.slice none 0 0, .slice none 0 0, .int .i64 1] 61)).cell? ⟨W1.heap.size, 1, none⟩ = some (.slice none 0 0) := by rw [Fk.cellOld _ _ _ _ (by omega)]; exact swb_3
  have lswc_ : (W3.alloc (.cells #[.slice none 0 0, .slice none 0 0, .int .i64 1] 61)).cell? ⟨W1.heap.size, 2, none⟩ = some (.int .i64 1) := by rw [Fk.cellOld _ _ _ _ (by omega)]; exact swc_3
  go_wp2_with fail
  clear lswa_ lswb_ lswc_
  obtain ⟨W4, hW4⟩ : ∃ W, W = (W3.alloc (.cells #[.slice none 0 0, .slice none 0 0, .int .i64 1] 61)) := ⟨_, rfl⟩
  have k4 : Below W3.heap.size W3 W4 := by rw [hW4]; exact (Below.refl _ _).alloc (Nat.le_refl _) _
  have hy4 : W3.heap.size < W4.heap.size := by rw [hW4]; simp
  have sga_4 : W4.cell? ⟨W3.heap.size, 0, none⟩ = some (.slice none 0 0) := by rw [hW4, Fk.cellTop _ _ _ _ _ rfl]; rfl
  have sgb_4 : W4.cell? ⟨W3.heap.size, 1, none⟩ = some (.slice none 0 0) := by rw [hW4, Fk.cellTop _ _ _ _ _ rfl]; rfl
  have sgc_4 : W4.cell? ⟨W3.heap.size, 2, none⟩ = some (.int .i64 1) := by rw [hW4, Fk.cellTop _ _ _ _ _ rfl]; rfl
  have HW4 := Fk.hide hW4
  clear hW4
  have HB4 : Hid (Below w.heap.size w W4) := HB3.out.trans (k4.mono HB3.out.size)
  have hz4 : W3.heap.size ≤ W4.heap.size := k4.size
  have swa_4 : W4.cell? ⟨W1.heap.size, 0, none⟩ = some (.slice none 0 0) := (k4.cell (by show W1.heap.size < _; omega)).trans swa_3
  have swb_4 : W4.cell? ⟨W1.heap.size, 1, none⟩ = some (.slice none 0 0) := (k4.cell (by show W1.heap.size < _; omega)).trans swb_3
  have swc_4 : W4.cell? ⟨W1.heap.size, 2, none⟩ = some (.int .i64 1) := (k4.cell (by show W1.heap.size < _; omega)).trans swc_3
  clear k4 swa_3 swb_3 swc_3
  rw [← HW4.out]
  refine (eqNew_same _ _ _ _ _ [] [] _ (HV.out _) (HV.out _) (HV.out _) (HV.out _) (by decide) (by decide) (fun i hi => absurd hi (by simp)) (fun i hi => absurd hi (by simp))).mono ?_
  rintro e W5 ⟨rfl, k5⟩
  have HB5 : Hid (Below w.heap.size w W5) := HB4.out.trans (k5.mono HB4.out.size)
  have hz5 : W4.heap.size ≤ W5.heap.size := k5.size
  have swa_5 : W5.cell? ⟨W1.heap.size, 0, none⟩ = some (.slice none 0 0) := (k5.cell (by show W1.heap.size < _; omega)).trans swa_4
  have swb_5 : W5.cell? ⟨W1.heap.size, 1, none⟩ = some (.slice none 0 0) := (k5.cell (by show W1.heap.size < _; omega)).trans swb_4
  have swc_5 : W5.cell? ⟨W1.heap.size, 2, none⟩ = some (.int .i64 1) := (k5.cell (by show W1.heap.size < _; omega)).trans swc_4
  have sga_5 : W5.cell? ⟨W3.heap.size, 0, none⟩ = some (.slice none 0 0) := (k5.cell (by show W3.heap.size < _; omega)).trans sga_4
  have sgb_5 : W5.cell? ⟨W3.heap.size, 1, none⟩ = some (.slice none 0 0) := (k5.cell (by show W3.heap.size < _; omega)).trans sgb_4
  have sgc_5 : W5.cell? ⟨W3.heap.size, 2, none⟩ = some (.int .i64 1) := (k5.cell (by show W3.heap.size < _; omega)).trans sgc_4
  clear k5 swa_4 swb_4 swc_4 sga_4 sgb_4 sgc_4
  go_wp2_with fail
  refine (markNew_nil _ _).mono ?_
  rintro e W6 ⟨rfl, k6⟩
  have HB6 : Hid (Below w.heap.size w W6) := HB5.out.trans (k6.mono HB5.out.size)
  have hz6 : W5.heap.size ≤ W6.heap.size := k6.size
  have swa_6 : W6.cell? ⟨W1.heap.size, 0, none⟩ = some (.slice none 0 0) := (k6.cell (by show W1.heap.size < _; omega)).trans swa_5
  have swb_6 : W6.cell? ⟨W1.heap.size, 1, none⟩ = some (.slice none 0 0) := (k6.cell (by show W1.heap.size < _; omega)).trans swb_5
  have swc_6 : W6.cell? ⟨W1.heap.size, 2, none⟩ = some (.int .i64 1) := (k6.cell (by show W1.heap.size < _; omega)).trans swc_5
  have sga_6 : W6.cell? ⟨W3.heap.size, 0, none⟩ = some (.slice none 0 0) := (k6.cell (by show W3.heap.size < _; omega)).trans sga_5
  have sgb_6 : W6.cell? ⟨W3.heap.size, 1, none⟩ = some (.slice none 0 0) := (k6.cell (by show W3.heap.size < _; omega)).trans sgb_5
  have sgc_6 : W6.cell? ⟨W3.heap.size, 2, none⟩ = some (.int .i64 1) := (k6.cell (by show W3.heap.size < _; omega)).trans sgc_5
  clear k6 swa_5 swb_5 swc_5 sga_5 sgb_5 sgc_5
  go_wp2_with fail
  refine (heldNew_nil _ _).mono ?_
  rintro e W7 ⟨rfl, k7⟩
  have HB7 : Hid (Below w.heap.size w W7) := HB6.out.trans (k7.mono HB6.out.size)
  have hz7 : W6.heap.size ≤ W7.heap.size := k7.size
  have swa_7 : W7.cell? ⟨W1.heap.size, 0, none⟩ = some (.slice none 0 0) := (k7.cell (by show W1.heap.size < _; omega)).trans swa_6
  have swb_7 : W7.cell? ⟨W1.heap.size, 1, none⟩ = some (.slice none 0 0) := (k7.cell (by show W1.heap.size < _; omega)).trans swb_6
  have swc_7 : W7.cell? ⟨W1.heap.size, 2, none⟩ = some (.int .i64 1) := (k7.cell (by show W1.heap.size < _; omega)).trans swc_6
  have sga_7 : W7.cell? ⟨W3.heap.size, 0, none⟩ = some (.slice none 0 0) := (k7.cell (by show W3.heap.size < _; omega)).trans sga_6
  have sgb_7 : W7.cell? ⟨W3.heap.size, 1, none⟩ = some (.slice none 0 0) := (k7.cell (by show W3.heap.size < _; omega)).trans sgb_6
  have sgc_7 : W7.cell? ⟨W3.heap.size, 2, none⟩ = some (.int .i64 1) := (k7.cell (by show W3.heap.size < _; omega)).trans sgc_6
  clear k7 swa_6 swb_6 swc_6 sga_6 sgb_6 sgc_6
  go_wp2_with fail
  refine (newNew_impl _).mono ?_
  rintro e W8 ⟨rfl, k8⟩
  have HB8 : Hid (Below w.heap.size w W8) := HB7.out.trans (k8.mono HB7.out.size)
  have hz8 : W7.heap.size ≤ W8.heap.size := k8.size
  have swa_8 : W8.cell? ⟨W1.heap.size, 0, none⟩ = some (.slice none 0 0) := (k8.cell (by show W1.heap.size < _; omega)).trans swa_7
  have swb_8 : W8.cell? ⟨W1.heap.size, 1, none⟩ = some (.slice none 0 0) := (k8.cell (by show W1.heap.size < _; omega)).trans swb_7
  have swc_8 : W8.cell? ⟨W1.heap.size, 2, none⟩ = some (.int .i64 1) := (k8.cell (by show W1.heap.size < _; omega)).trans swc_7
  have sga_8 : W8.cell? ⟨W3.heap.size, 0, none⟩ = some (.slice none 0 0) := (k8.cell (by show W3.heap.size < _; omega)).trans sga_7
  have sgb_8 : W8.cell? ⟨W3.heap.size, 1, none⟩ = some (.slice none 0 0) := (k8.cell (by show W3.heap.size < _; omega)).trans sgb_7
  have sgc_8 : W8.cell? ⟨W3.heap.size, 2, none⟩ = some (.int .i64 1) := (k8.cell (by show W3.heap.size < _; omega)).trans sgc_7
  clear k8 swa_7 swb_7 swc_7 sga_7 sgb_7 sgc_7
  have lswa_ : (W8.alloc (.cells #[.slice none 0 0, .slice none 0 0, .int .i64 1] 61)).cell? ⟨W1.heap.size, 0, none⟩ = some (.slice none 0 0) := by rw [Fk.cellOld _ _ _ _ (by omega)]; exact swa_8
  have lswb_ : (W8.alloc (.cells #[.slice none 0 0, .slice none 0 0, .int .i64 1] 61)).cell? ⟨W1.heap.size, 1, none⟩ = some (.slice none 0 0) := by rw [Fk.cellOld _ _ _ _ (by omega)]; exact swb_8
  have lswc_ : (W8.alloc (.cells #[.slice none 0 0, .slice none 0 0, .int .i64 1] 61)).cell? ⟨W1.heap.size, 2, none⟩ = some (.int .i64 1) := by rw [Fk.cellOld _ _ _ _ (by omega)]; exact swc_8
  have lsga_ : (W8.alloc (.cells #[.slice none 0 0, .slice none 0 0, .int .i64 1] 61)).cell? ⟨W3.heap.size, 0, none⟩ = some (.slice none 0 0) := by rw [Fk.cellOld _ _ _ _ (by omega)]; exact sga_8
  have lsgb_ : (W8.alloc (.cells #[.slice none 0 0, .slice none 0 0, .int .i64 1] 61)).cell? ⟨W3.heap.size, 1, none⟩ = some (.slice none 0 0) := by rw [Fk.cellOld _ _ _ _ (by omega)]; exact sgb_8
  have lsgc_ : (W8.alloc (.cells #[.slice none 0 0, .slice none 0 0, .int .i64 1] 61)).cell? ⟨W3.heap.size, 2, none⟩ = some (.int .i64 1) := by rw [Fk.cellOld _ _ _ _ (by omega)]; exact sgc_8
  go_wp2_with fail
  clear lswa_ lswb_ lswc_ lsga_ lsgb_ lsgc_
  obtain ⟨W9, hW9⟩ : ∃ W, W = (W8.alloc (.cells #[.slice none 0 0, .slice none 0 0, .int .i64 1] 61)) := ⟨_, rfl⟩
  have k9 : Below W8.heap.size W8 W9 := by rw [hW9]; exact (Below.refl _ _).alloc (Nat.le_refl _) _
  have hy9 : W8.heap.size < W9.heap.size := by rw [hW9]; simp
  have sha_9 : W9.cell? ⟨W8.heap.size, 0, none⟩ = some (.slice none 0 0) := by rw [hW9, Fk.cellTop _ _ _ _ _ rfl]; rfl
  have shb_9 : W9.cell? ⟨W8.heap.size, 1, none⟩ = some (.slice none 0 0) := by rw [hW9, Fk.cellTop _ _ _ _ _ rfl]; rfl
  have shc_9 : W9.cell? ⟨W8.heap.size, 2, none⟩ = some (.int .i64 1) := by rw [hW9, Fk.cellTop _ _ _ _ _ rfl]; rfl
  have HW9 := Fk.hide hW9
  clear hW9
  have HB9 : Hid (Below w.heap.size w W9) := HB8.out.trans (k9.mono HB8.out.size)
  have hz9 : W8.heap.size ≤ W9.heap.size := k9.size
  have swa_9 : W9.cell? ⟨W1.heap.size, 0, none⟩ = some (.slice none 0 0) := (k9.cell (by show W1.heap.size < _; omega)).trans swa_8
  have swb_9 : W9.cell? ⟨W1.heap.size, 1, none⟩ = some (.slice none 0 0) := (k9.cell (by show W1.heap.size < _; omega)).trans swb_8
  have swc_9 : W9.cell? ⟨W1.heap.size, 2, none⟩ = some (.int .i64 1) := (k9.cell (by show W1.heap.size < _; omega)).trans swc_8
  have sga_9 : W9.cell? ⟨W3.heap.size, 0, none⟩ = some (.slice none 0 0) := (k9.cell (by show W3.heap.size < _; omega)).trans sga_8
  have sgb_9 : W9.cell? ⟨W3.heap.size, 1, none⟩ = some (.slice none 0 0) := (k9.cell (by show W3.heap.size < _; omega)).trans sgb_8
  have sgc_9 : W9.cell? ⟨W3.heap.size, 2, none⟩ = some (.int .i64 1) := (k9.cell (by show W3.heap.size < _; omega)).trans sgc_8
  clear k9 swa_8 swb_8 swc_8 sga_8 sgb_8 sgc_8
  rw [← HW9.out]
  refine (eqNew_same _ _ _ _ _ [] [] _ (HV.out _) (HV.out _) (HV.out _) (HV.out _) (by decide) (by decide) (fun i hi => absurd hi (by simp)) (fun i hi => absurd hi (by simp))).mono ?_
  rintro e W10 ⟨rfl, k10⟩
  have HB10 : Hid (Below w.heap.size w W10) := HB9.out.trans (k10.mono HB9.out.size)
  have hz10 : W9.heap.size ≤ W10.heap.size := k10.size
  have swa_10 : W10.cell? ⟨W1.heap.size, 0, none⟩ = some (.slice none 0 0) := (k10.cell (by show W1.heap.size < _; omega)).trans swa_9
  have swb_10 : W10.cell? ⟨W1.heap.size, 1, none⟩ = some (.slice none 0 0) := (k10.cell (by show W1.heap.size < _; omega)).trans swb_9
  have swc_10 : W10.cell? ⟨W1.heap.size, 2, none⟩ = some (.int .i64 1) := (k10.cell (by show W1.heap.size < _; omega)).trans swc_9
  have sga_10 : W10.cell? ⟨W3.heap.size, 0, none⟩ = some (.slice none 0 0) := (k10.cell (by show W3.heap.size < _; omega)).trans sga_9
  have sgb_10 : W10.cell? ⟨W3.heap.size, 1, none⟩ = some (.slice none 0 0) := (k10.cell (by show W3.heap.size < _; omega)).trans sgb_9
  have sgc_10 : W10.cell? ⟨W3.heap.size, 2, none⟩ = some (.int .i64 1) := (k10.cell (by show W3.heap.size < _; omega)).trans sgc_9
  have sha_10 : W10.cell? ⟨W8.heap.size, 0, none⟩ = some (.slice none 0 0) := (k10.cell (by show W8.heap.size < _; omega)).trans sha_9
  have shb_10 : W10.cell? ⟨W8.heap.size, 1, none⟩ = some (.slice none 0 0) := (k10.cell (by show W8.heap.size < _; omega)).trans shb_9
  have shc_10 : W10.cell? ⟨W8.heap.size, 2, none⟩ = some (.int .i64 1) := (k10.cell (by show W8.heap.size < _; omega)).trans shc_9
  clear k10 swa_9 swb_9 swc_9 sga_9 sgb_9 sgc_9 sha_9 shb_9 shc_9
  go_wp2_with fail
  refine (heldNew_nil _ _).mono ?_
  rintro e W11 ⟨rfl, k11⟩
  have HB11 : Hid (Below w.heap.size w W11) := HB10.out.trans (k11.mono HB10.out.size)
  have hz11 : W10.heap.size ≤ W11.heap.size := k11.size
  have swa_11 : W11.cell? ⟨W1.heap.size, 0, none⟩ = some (.slice none 0 0) := (k11.cell (by show W1.heap.size < _; omega)).trans swa_10
  have swb_11 : W11.cell? ⟨W1.heap.size, 1, none⟩ = some (.slice none 0 0) := (k11.cell (by show W1.heap.size < _; omega)).trans swb_10
  have swc_11 : W11.cell? ⟨W1.heap.size, 2, none⟩ = some (.int .i64 1) := (k11.cell (by show W1.heap.size < _; omega)).trans swc_10
  have sga_11 : W11.cell? ⟨W3.heap.size, 0, none⟩ = some (.slice none 0 0) := (k11.cell (by show W3.heap.size < _; omega)).trans sga_10
  have sgb_11 : W11.cell? ⟨W3.heap.size, 1, none⟩ = some (.slice none 0 0) := (k11.cell (by show W3.heap.size < _; omega)).trans sgb_10
  have sgc_11 : W11.cell? ⟨W3.heap.size, 2, none⟩ = some (.int .i64 1) := (k11.cell (by show W3.heap.size < _; omega)).trans sgc_10
  have sha_11 : W11.cell? ⟨W8.heap.size, 0, none⟩ = some (.slice none 0 0) := (k11.cell (by show W8.heap.size < _; omega)).trans sha_10
  have shb_11 : W11.cell? ⟨W8.heap.size, 1, none⟩ = some (.slice none 0 0) := (k11.cell (by show W8.heap.size < _; omega)).trans shb_10
  have shc_11 : W11.cell? ⟨W8.heap.size, 2, none⟩ = some (.int .i64 1) := (k11.cell (by show W8.heap.size < _; omega)).trans shc_10
  clear k11 swa_10 swb_10 swc_10 sga_10 sgb_10 sgc_10 sha_10 shb_10 shc_10
  go_wp2_with fail
  go_ret
  exact ⟨rfl, HB11.out⟩

set_option maxRecDepth 100000 in
theorem lifted (os : Os) (started : os.Started) (H : Type) (enc : TypeId × Value → H) :
    ReturnsInHanded {} Try.checked os 8 .any (Rows.fnExactNewNewSpec.pre6 enc Try.prog Try.f8 Rows.fnExactNewNewRow.domain false) (Rows.fnExactNewNewSpec.post enc Try.prog Try.f8 false true false false) := by
  refine returnsInHanded_of_change (C := Try.checked) own started (by kernel_rfl) Try.func8
    (ChangeSpec.witness6 (enc := enc) (C := Try.checked) false ⟨#[], #[], []⟩ 8 (by kernel_rfl) (by kernel_rfl) (by kernel_rfl) (by kernel_rfl)) ?_
  intro W base args ds gs before hval0 hW hcnd _
  have hval : ∀ (j : Nat) t v, Try.f8.params[j]? = some t → args[j]? = some v → Value.okWide Try.prog W .any base t v := hval0
  have hW' := hW
  obtain ⟨p, q, hA0, hV, rfl, hfz, hnd⟩ := hW
  have hA : DataW.TrodAll enc Try.prog W 0 (fun _ => true) true Try.f8.params.toList args.toList ds p := hA0
  rw [Try.params8] at hA hval
  obtain ⟨hargs, rfl, rfl⟩ := trodAll_nil hA
  obtain rfl : args = #[] := by cases args; simp_all
  obtain ⟨rfl, rfl⟩ := trodVars_none hV
  clear hA0 hval0
  have e1 : Rows.fnExactNewNewSpec.fn H ([] ++ []) = { results := [.lit (.bool true)], args := [] } := by simp [Rows.fnExactNewNewSpec]
  refine (walk W).mono fun e W' ⟨he, bel⟩ => ?_
  subst he
  refine ⟨_, rfl, _, _, _, [], [], [], hW', ?_, ?_, ?_, bel.frame _, fun h => by cases h⟩
  · rw [e1]; exact trodAll_mk1 (shut_bool Try.underlying4 true)
  · rw [e1]; exact trodAll_mk0
  · rw [e1]; rfl

theorem over : Rows.fnExactNewNewRow.holds Try.pinned (OpenSpec.ofChange Rows.fnExactNewNewSpec) :=
  OpenClaim.holds_of_wide 8 Try.f8 rfl rfl rfl rfl rfl rfl rfl ⟨rfl, rfl, rfl, rfl, rfl⟩ rfl rfl rfl rfl rfl (by kernel_rfl) Try.func8 (by kernel_rfl)
    (of_decide_eq_true (by kernel_rfl)) (by unfold Func.isWrapper; rw [if_neg (of_decide_eq_false (by kernel_rfl))]; exact ⟨rfl, rfl⟩)
    (fun os started H enc _ => lifted os started H enc)

/-- the statement -/
theorem proved : Rows.FnExactNewNewSaid :=
  over
#print axioms proved
end Go.Proofs.Ythafegeoniiogaa.fnExactNewNew

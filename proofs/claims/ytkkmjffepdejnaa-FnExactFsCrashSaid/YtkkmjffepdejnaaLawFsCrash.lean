/- Proved: for every argument the exact law of FsCrash returns true: impl.FsCrash answers as the specification's FsCrash, writes into no argument and keeps nothing of one, its answer owns its memory, and the arguments read as before. No condition. -/
import Derived.Test.YtkkmjffepdejnaaRows
import Derived.Test.YtkkmjffepdejnaaFsSz
import Derived.Test.YtkkmjffepdejnaaFsCrashMore
import Derived.Test.YtkkmjffepdejnaaNumOpen
import Derived.Test.YtkkmjffepdejnaaNumKit
import Derived.Test.YtkkmjffepdejnaaFsCrashImpl
import Derived.Test.YtkkmjffepdejnaaFsCrashSpec
import Derived.Test.YtkkmjffepdejnaaFsTo
import Derived.Test.YtkkmjffepdejnaaFsEq
import Derived.Test.YtkkmjffepdejnaaFsMark
import Derived.WalkKit
import Derived.ProofKit
import Derived.OpenShut
import Derived.ShutString
import Derived.Below
import Derived.ChangeSame
namespace Go.Proofs.Ytkkmjffepdejnaa.fnExactFsCrash
open Go.ChangeShapes Go.WideShapes Go.ChangeAt Go.RowKit
open Go.ChangeMaps (open_string shut_string)
set_option linter.unusedVariables false

theorem own : ownKnob Try.prog.godebug = none := by kernel_rfl
theorem laidOut : laidOutB Try.prog = true := by kernel_rfl

set_option maxHeartbeats 8000000 in
theorem walk (a0 : Value) (L0 : List Fk.Fl) (x0 : Fk.Fits L0) (n0 : L0.length ≤ maxLen) (a1 : Value) (T1 : List Int) (x1 : ∀ i ∈ T1, -9223372036854775808 ≤ i ∧ i ≤ 9223372036854775807) (n1 : T1.length ≤ maxLen) (s1 : Rk.Shut a1) (w : World) (g0 : Fk.View w a0 L0) (g1 : Ik.View w a1 T1) :
    Calls Try.prog 3 #[.agg #[a0], a1] w fun e w' => e = .returned (.bool true) ∧ Below w.heap.size w w' := by
  have HG0 := Fk.hide g0
  obtain ⟨sa0, sc0, rfl, _⟩ := g0
  have HG1 := Fk.hide g1
  obtain ⟨sa1, sc1, rfl, _⟩ := g1
  by_cases hbig1 : (1048576 : Int) < (T1.length : Int)
  · have hal1 := n1
    unfold maxLen at hal1
    go_enter Try.func3, Try.ntmps3
    go_wp2_with fail
    go_ret
    exact ⟨rfl, by repeat (first | exact Below.refl _ _ | refine Below.alloc ?_ (by simp <;> omega) _)⟩
  have hl1 : T1.length ≤ 1048576 := by omega
  obtain ⟨W0, hW⟩ : ∃ W, W = (w.alloc (.cells #[.slice sa0 L0.length sc0] 24)) := ⟨_, rfl⟩
  have B0 : Below w.heap.size w W0 := by rw [hW]; exact by repeat (first | exact Below.refl _ _ | refine Below.alloc ?_ (by simp <;> omega) _)
  have hz0 : W0.heap.size = w.heap.size + 1 := by rw [hW]; simp
  have cA0a_0 : W0.cell? ⟨w.heap.size, 0, none⟩ = some (.slice sa0 L0.length sc0) := by rw [hW, Fk.cellTop _ _ _ _ _ (by simp)]; rfl
  have HW := Fk.hide hW
  have HB0 := Fk.hide B0
  clear hW B0
  go_enter Try.func3, Try.ntmps3
  go_wp2_with fail
  rw [← HW.out]
  refine (szFs_any _ _ _ _ (HG0.out.below HB0.out) x0 n0 (by decide) (by decide)).mono ?_
  rintro e W1 ⟨⟨r0, rfl, hr0⟩, k1⟩
  have HB1 : Hid (Below w.heap.size w W1) := HB0.out.trans (k1.mono HB0.out.size)
  have hz1 : W0.heap.size ≤ W1.heap.size := k1.size
  have cA0a_1 : W1.cell? ⟨w.heap.size, 0, none⟩ = some (.slice sa0 L0.length sc0) := (k1.cell (by show w.heap.size < _; omega)).trans cA0a_0
  clear k1 cA0a_0
  rcases hr0 with rfl | ⟨hr00, hr0⟩
  · go_wp2_with fail
    go_ret
    exact ⟨rfl, HB1.out⟩
  have hl0 : L0.length ≤ 1048576 := by omega
  have htot : Fk.tot L0 L0.length ≤ 1048576 := by omega
  clear hr0
  have hsm : Hid (∀ i, (Fk.nm L0 i).size ≤ 1048576 ∧ (Fk.dt L0 i).size ≤ 1048576) := fun i => Fk.part_small L0 i htot
  clear htot
  obtain ⟨RL, hRL⟩ : ∃ x, x = Ik.crash L0 T1 := ⟨_, rfl⟩
  have FS : Hid (∀ w' v b vt b2, Fk.Own w' b 62 v L0 → Ik.Own w' b2 2 vt T1 → Calls Try.prog 8 #[.agg #[v], vt] w' fun e w'' => (∃ u, e = .returned (.agg #[u]) ∧ Fk.Own w'' w'.heap.size 62 u RL) ∧ Below w'.heap.size w' w'') := fun w' v b vt b2 hv ht => by rw [hRL]; exact fsCrash_spec v vt L0 T1 w' hv.view hv.shut x0 hl0 ht.view hl1
  have FI : Hid (∀ w' v vt, Fk.View w' v L0 → Ik.View w' vt T1 → Calls Try.prog 11 #[.agg #[v], vt] w' fun e w'' => (∃ u, e = .returned (.agg #[u]) ∧ Fk.Own w'' w'.heap.size 62 u RL) ∧ Below w'.heap.size w' w'') := fun w' v vt hv ht => by rw [hRL]; exact fsCrash_impl v vt L0 T1 w' hv x0 hl0 hsm.out ht hl1
  have hRl : RL.length ≤ 1048576 := by rw [hRL]; exact Nat.le_trans (Ik.crash_length L0 T1) hl0
  clear hRL
  go_wp2_with fail
  refine (toFs_any _ _ _ (HG0.out.below HB1.out) hl0).mono ?_
  rintro e W2 ⟨⟨up0, rfl, p0_2⟩, k2⟩
  obtain ⟨ap0, cp0, rfl⟩ := p0_2.slice
  have HXp0 : Hid (∀ k, (Value.slice ap0 L0.length cp0).ownBlock = some k → W1.heap.size ≤ k ∧ k < W2.heap.size) := fun k hk => World.ownsRow.lt p0_2 k hk
  have HB2 : Hid (Below w.heap.size w W2) := HB1.out.trans (k2.mono HB1.out.size)
  have hz2 : W1.heap.size ≤ W2.heap.size := k2.size
  have cA0a_2 : W2.cell? ⟨w.heap.size, 0, none⟩ = some (.slice sa0 L0.length sc0) := (k2.cell (by show w.heap.size < _; omega)).trans cA0a_1
  clear k2 cA0a_1
  go_wp2_with fail
  refine (toInt64S_any _ _ _ (HG1.out.below HB2.out) hl1).mono ?_
  rintro e W3 ⟨⟨up1, rfl, p1_3⟩, k3⟩
  obtain ⟨ap1, cp1, rfl⟩ := p1_3.slice
  have HXp1 : Hid (∀ k, (Value.slice ap1 T1.length cp1).ownBlock = some k → W2.heap.size ≤ k ∧ k < W3.heap.size) := fun k hk => World.ownsRow.lt p1_3 k hk
  have HB3 : Hid (Below w.heap.size w W3) := HB2.out.trans (k3.mono HB2.out.size)
  have hz3 : W2.heap.size ≤ W3.heap.size := k3.size
  have cA0a_3 : W3.cell? ⟨w.heap.size, 0, none⟩ = some (.slice sa0 L0.length sc0) := (k3.cell (by show w.heap.size < _; omega)).trans cA0a_2
  have p0_3 := p0_2.below k3
  clear k3 cA0a_2 p0_2
  go_wp2_with fail
  refine (FS.out _ _ _ _ _ p0_3 p1_3).mono ?_
  rintro e W4 ⟨⟨uow, rfl, ow_4⟩, k4⟩
  obtain ⟨aow, cow, rfl⟩ := ow_4.slice
  have HXow : Hid (∀ k, (Value.slice aow RL.length cow).ownBlock = some k → W3.heap.size ≤ k ∧ k < W4.heap.size) := fun k hk => World.ownsRow.lt ow_4 k hk
  have HB4 : Hid (Below w.heap.size w W4) := HB3.out.trans (k4.mono HB3.out.size)
  have hz4 : W3.heap.size ≤ W4.heap.size := k4.size
  have cA0a_4 : W4.cell? ⟨w.heap.size, 0, none⟩ = some (.slice sa0 L0.length sc0) := (k4.cell (by show w.heap.size < _; omega)).trans cA0a_3
  have p0_4 := p0_3.below k4
  have p1_4 := p1_3.below k4
  clear k4 cA0a_3 p0_3 p1_3
  clear p0_4
  clear p1_4
  have lcA0a_ : (W4.alloc (.cells #[.slice aow RL.length cow] 29)).cell? ⟨w.heap.size, 0, none⟩ = some (.slice sa0 L0.length sc0) := by rw [Fk.cellOld _ _ _ _ (by omega)]; exact cA0a_4
  go_wp2_with fail
  clear lcA0a_
  obtain ⟨W5, hW5⟩ : ∃ W, W = (W4.alloc (.cells #[.slice aow RL.length cow] 29)) := ⟨_, rfl⟩
  have k5 : Below W4.heap.size W4 W5 := by rw [hW5]; exact (Below.refl _ _).alloc (Nat.le_refl _) _
  have hy5 : W4.heap.size < W5.heap.size := by rw [hW5]; simp
  have swa_5 : W5.cell? ⟨W4.heap.size, 0, none⟩ = some (.slice aow RL.length cow) := by rw [hW5, Fk.cellTop _ _ _ _ _ rfl]; rfl
  have HW5 := Fk.hide hW5
  clear hW5
  have HB5 : Hid (Below w.heap.size w W5) := HB4.out.trans (k5.mono HB4.out.size)
  have hz5 : W4.heap.size ≤ W5.heap.size := k5.size
  have cA0a_5 : W5.cell? ⟨w.heap.size, 0, none⟩ = some (.slice sa0 L0.length sc0) := (k5.cell (by show w.heap.size < _; omega)).trans cA0a_4
  have ow_5 := ow_4.below k5
  clear k5 cA0a_4 ow_4
  rw [← HW5.out]
  refine (toFs_any _ _ _ (HG0.out.below HB5.out) hl0).mono ?_
  rintro e W6 ⟨⟨uox0, rfl, ox0_6⟩, k6⟩
  obtain ⟨aox0, cox0, rfl⟩ := ox0_6.slice
  have HXox0 : Hid (∀ k, (Value.slice aox0 L0.length cox0).ownBlock = some k → W5.heap.size ≤ k ∧ k < W6.heap.size) := fun k hk => World.ownsRow.lt ox0_6 k hk
  have HB6 : Hid (Below w.heap.size w W6) := HB5.out.trans (k6.mono HB5.out.size)
  have hz6 : W5.heap.size ≤ W6.heap.size := k6.size
  have cA0a_6 : W6.cell? ⟨w.heap.size, 0, none⟩ = some (.slice sa0 L0.length sc0) := (k6.cell (by show w.heap.size < _; omega)).trans cA0a_5
  have swa_6 : W6.cell? ⟨W4.heap.size, 0, none⟩ = some (.slice aow RL.length cow) := (k6.cell (by show W4.heap.size < _; omega)).trans swa_5
  have ow_6 := ow_5.below k6
  clear k6 cA0a_5 swa_5 ow_5
  have lcA0a_ : (W6.alloc (.cells #[.slice aox0 L0.length cox0] 29)).cell? ⟨w.heap.size, 0, none⟩ = some (.slice sa0 L0.length sc0) := by rw [Fk.cellOld _ _ _ _ (by omega)]; exact cA0a_6
  have lswa_ : (W6.alloc (.cells #[.slice aox0 L0.length cox0] 29)).cell? ⟨W4.heap.size, 0, none⟩ = some (.slice aow RL.length cow) := by rw [Fk.cellOld _ _ _ _ (by omega)]; exact swa_6
  go_wp2_with fail
  clear lcA0a_ lswa_
  obtain ⟨W7, hW7⟩ : ∃ W, W = (W6.alloc (.cells #[.slice aox0 L0.length cox0] 29)) := ⟨_, rfl⟩
  have k7 : Below W6.heap.size W6 W7 := by rw [hW7]; exact (Below.refl _ _).alloc (Nat.le_refl _) _
  have hy7 : W6.heap.size < W7.heap.size := by rw [hW7]; simp
  have sx0a_7 : W7.cell? ⟨W6.heap.size, 0, none⟩ = some (.slice aox0 L0.length cox0) := by rw [hW7, Fk.cellTop _ _ _ _ _ rfl]; rfl
  have HW7 := Fk.hide hW7
  clear hW7
  have HB7 : Hid (Below w.heap.size w W7) := HB6.out.trans (k7.mono HB6.out.size)
  have hz7 : W6.heap.size ≤ W7.heap.size := k7.size
  have cA0a_7 : W7.cell? ⟨w.heap.size, 0, none⟩ = some (.slice sa0 L0.length sc0) := (k7.cell (by show w.heap.size < _; omega)).trans cA0a_6
  have swa_7 : W7.cell? ⟨W4.heap.size, 0, none⟩ = some (.slice aow RL.length cow) := (k7.cell (by show W4.heap.size < _; omega)).trans swa_6
  have ow_7 := ow_6.below k7
  have ox0_7 := ox0_6.below k7
  clear k7 cA0a_6 swa_6 ow_6 ox0_6
  rw [← HW7.out]
  refine (toInt64S_any _ _ _ (HG1.out.below HB7.out) hl1).mono ?_
  rintro e W8 ⟨⟨uox1, rfl, ox1_8⟩, k8⟩
  obtain ⟨aox1, cox1, rfl⟩ := ox1_8.slice
  have HXox1 : Hid (∀ k, (Value.slice aox1 T1.length cox1).ownBlock = some k → W7.heap.size ≤ k ∧ k < W8.heap.size) := fun k hk => World.ownsRow.lt ox1_8 k hk
  have HB8 : Hid (Below w.heap.size w W8) := HB7.out.trans (k8.mono HB7.out.size)
  have hz8 : W7.heap.size ≤ W8.heap.size := k8.size
  have cA0a_8 : W8.cell? ⟨w.heap.size, 0, none⟩ = some (.slice sa0 L0.length sc0) := (k8.cell (by show w.heap.size < _; omega)).trans cA0a_7
  have swa_8 : W8.cell? ⟨W4.heap.size, 0, none⟩ = some (.slice aow RL.length cow) := (k8.cell (by show W4.heap.size < _; omega)).trans swa_7
  have sx0a_8 : W8.cell? ⟨W6.heap.size, 0, none⟩ = some (.slice aox0 L0.length cox0) := (k8.cell (by show W6.heap.size < _; omega)).trans sx0a_7
  have ow_8 := ow_7.below k8
  have ox0_8 := ox0_7.below k8
  clear k8 cA0a_7 swa_7 sx0a_7 ow_7 ox0_7
  go_wp2_with fail
  refine (FI.out _ _ _ (ox0_8.view) (ox1_8.view)).mono ?_
  rintro e W9 ⟨⟨uog, rfl, og_9⟩, k9⟩
  obtain ⟨aog, cog, rfl⟩ := og_9.slice
  have HXog : Hid (∀ k, (Value.slice aog RL.length cog).ownBlock = some k → W8.heap.size ≤ k ∧ k < W9.heap.size) := fun k hk => World.ownsRow.lt og_9 k hk
  have HB9 : Hid (Below w.heap.size w W9) := HB8.out.trans (k9.mono HB8.out.size)
  have hz9 : W8.heap.size ≤ W9.heap.size := k9.size
  have cA0a_9 : W9.cell? ⟨w.heap.size, 0, none⟩ = some (.slice sa0 L0.length sc0) := (k9.cell (by show w.heap.size < _; omega)).trans cA0a_8
  have swa_9 : W9.cell? ⟨W4.heap.size, 0, none⟩ = some (.slice aow RL.length cow) := (k9.cell (by show W4.heap.size < _; omega)).trans swa_8
  have sx0a_9 : W9.cell? ⟨W6.heap.size, 0, none⟩ = some (.slice aox0 L0.length cox0) := (k9.cell (by show W6.heap.size < _; omega)).trans sx0a_8
  have ow_9 := ow_8.below k9
  have ox0_9 := ox0_8.below k9
  have ox1_9 := ox1_8.below k9
  clear k9 cA0a_8 swa_8 sx0a_8 ow_8 ox0_8 ox1_8
  have lcA0a_ : (W9.alloc (.cells #[.slice aog RL.length cog] 29)).cell? ⟨w.heap.size, 0, none⟩ = some (.slice sa0 L0.length sc0) := by rw [Fk.cellOld _ _ _ _ (by omega)]; exact cA0a_9
  have lswa_ : (W9.alloc (.cells #[.slice aog RL.length cog] 29)).cell? ⟨W4.heap.size, 0, none⟩ = some (.slice aow RL.length cow) := by rw [Fk.cellOld _ _ _ _ (by omega)]; exact swa_9
  have lsx0a_ : (W9.alloc (.cells #[.slice aog RL.length cog] 29)).cell? ⟨W6.heap.size, 0, none⟩ = some (.slice aox0 L0.length cox0) := by rw [Fk.cellOld _ _ _ _ (by omega)]; exact sx0a_9
  go_wp2_with fail
  clear lcA0a_ lswa_ lsx0a_
  obtain ⟨W10, hW10⟩ : ∃ W, W = (W9.alloc (.cells #[.slice aog RL.length cog] 29)) := ⟨_, rfl⟩
  have k10 : Below W9.heap.size W9 W10 := by rw [hW10]; exact (Below.refl _ _).alloc (Nat.le_refl _) _
  have hy10 : W9.heap.size < W10.heap.size := by rw [hW10]; simp
  have sga_10 : W10.cell? ⟨W9.heap.size, 0, none⟩ = some (.slice aog RL.length cog) := by rw [hW10, Fk.cellTop _ _ _ _ _ rfl]; rfl
  have HW10 := Fk.hide hW10
  clear hW10
  have HB10 : Hid (Below w.heap.size w W10) := HB9.out.trans (k10.mono HB9.out.size)
  have hz10 : W9.heap.size ≤ W10.heap.size := k10.size
  have cA0a_10 : W10.cell? ⟨w.heap.size, 0, none⟩ = some (.slice sa0 L0.length sc0) := (k10.cell (by show w.heap.size < _; omega)).trans cA0a_9
  have swa_10 : W10.cell? ⟨W4.heap.size, 0, none⟩ = some (.slice aow RL.length cow) := (k10.cell (by show W4.heap.size < _; omega)).trans swa_9
  have sx0a_10 : W10.cell? ⟨W6.heap.size, 0, none⟩ = some (.slice aox0 L0.length cox0) := (k10.cell (by show W6.heap.size < _; omega)).trans sx0a_9
  have ow_10 := ow_9.below k10
  have ox0_10 := ox0_9.below k10
  have ox1_10 := ox1_9.below k10
  have og_10 := og_9.below k10
  clear k10 cA0a_9 swa_9 sx0a_9 ow_9 ox0_9 ox1_9 og_9
  rw [← HW10.out]
  refine (eqFs_same _ _ RL _ (og_10.view) (ow_10.view) hRl).mono ?_
  rintro e W11 ⟨rfl, k11⟩
  have HB11 : Hid (Below w.heap.size w W11) := HB10.out.trans (k11.mono HB10.out.size)
  have hz11 : W10.heap.size ≤ W11.heap.size := k11.size
  have cA0a_11 : W11.cell? ⟨w.heap.size, 0, none⟩ = some (.slice sa0 L0.length sc0) := (k11.cell (by show w.heap.size < _; omega)).trans cA0a_10
  have swa_11 : W11.cell? ⟨W4.heap.size, 0, none⟩ = some (.slice aow RL.length cow) := (k11.cell (by show W4.heap.size < _; omega)).trans swa_10
  have sx0a_11 : W11.cell? ⟨W6.heap.size, 0, none⟩ = some (.slice aox0 L0.length cox0) := (k11.cell (by show W6.heap.size < _; omega)).trans sx0a_10
  have sga_11 : W11.cell? ⟨W9.heap.size, 0, none⟩ = some (.slice aog RL.length cog) := (k11.cell (by show W9.heap.size < _; omega)).trans sga_10
  have ow_11 := ow_10.below k11
  have ox0_11 := ox0_10.below k11
  have ox1_11 := ox1_10.below k11
  have og_11 := og_10.below k11
  clear k11 cA0a_10 swa_10 sx0a_10 sga_10 ow_10 ox0_10 ox1_10 og_10
  go_wp2_with fail
  have vd0 := (HG0.out.below HB11.out).below (Below.drew (Below.refl W11.heap.size W11))
  have od0 := ox0_11.below (Below.drew (Below.refl W11.heap.size W11))
  go_region_with (first
    | (go_at_call 9; refine (toFs_any _ _ _ (vd0) hl0).mono ?_; rintro e X1 ⟨⟨ux, rfl, oxx⟩, m1⟩; obtain ⟨ax, jx, rfl⟩ := oxx.slice; have dxa : X1.cell? ⟨W6.heap.size, 0, none⟩ = some (.slice aox0 L0.length cox0) := (m1.cell (by show W6.heap.size < W11.heap.size; omega)).trans sx0a_11)
    | (go_at_call 12; refine (eqFs_same _ _ L0 _ ((od0.below m1).view) (oxx.view) hl0).mono ?_; rintro e W12 ⟨rfl, m2⟩))
  all_goals
    have k12 : Below W11.heap.size W11 W12 := (Below.trans (Below.drew (Below.refl _ _)) m1).trans (m2.mono m1.size)
    clear m1 m2 vd0 od0 oxx dxa
    have HB12 : Hid (Below w.heap.size w W12) := HB11.out.trans (k12.mono HB11.out.size)
    have hz12 : W11.heap.size ≤ W12.heap.size := k12.size
    have cA0a_12 : W12.cell? ⟨w.heap.size, 0, none⟩ = some (.slice sa0 L0.length sc0) := (k12.cell (by show w.heap.size < _; omega)).trans cA0a_11
    have swa_12 : W12.cell? ⟨W4.heap.size, 0, none⟩ = some (.slice aow RL.length cow) := (k12.cell (by show W4.heap.size < _; omega)).trans swa_11
    have sx0a_12 : W12.cell? ⟨W6.heap.size, 0, none⟩ = some (.slice aox0 L0.length cox0) := (k12.cell (by show W6.heap.size < _; omega)).trans sx0a_11
    have sga_12 : W12.cell? ⟨W9.heap.size, 0, none⟩ = some (.slice aog RL.length cog) := (k12.cell (by show W9.heap.size < _; omega)).trans sga_11
    have ow_12 := ow_11.below k12
    have ox0_12 := ox0_11.below k12
    have ox1_12 := ox1_11.below k12
    have og_12 := og_11.below k12
    clear k12 cA0a_11 swa_11 sx0a_11 sga_11 ow_11 ox0_11 ox1_11 og_11
    go_wp2_with fail
    refine (toInt64S_any _ _ _ (HG1.out.below HB12.out) hl1).mono ?_
    rintro e W13 ⟨⟨uoy1, rfl, oy1_13⟩, k13⟩
    obtain ⟨aoy1, coy1, rfl⟩ := oy1_13.slice
    have HXoy1 : Hid (∀ k, (Value.slice aoy1 T1.length coy1).ownBlock = some k → W12.heap.size ≤ k ∧ k < W13.heap.size) := fun k hk => World.ownsRow.lt oy1_13 k hk
    have HB13 : Hid (Below w.heap.size w W13) := HB12.out.trans (k13.mono HB12.out.size)
    have hz13 : W12.heap.size ≤ W13.heap.size := k13.size
    have cA0a_13 : W13.cell? ⟨w.heap.size, 0, none⟩ = some (.slice sa0 L0.length sc0) := (k13.cell (by show w.heap.size < _; omega)).trans cA0a_12
    have swa_13 : W13.cell? ⟨W4.heap.size, 0, none⟩ = some (.slice aow RL.length cow) := (k13.cell (by show W4.heap.size < _; omega)).trans swa_12
    have sx0a_13 : W13.cell? ⟨W6.heap.size, 0, none⟩ = some (.slice aox0 L0.length cox0) := (k13.cell (by show W6.heap.size < _; omega)).trans sx0a_12
    have sga_13 : W13.cell? ⟨W9.heap.size, 0, none⟩ = some (.slice aog RL.length cog) := (k13.cell (by show W9.heap.size < _; omega)).trans sga_12
    have ow_13 := ow_12.below k13
    have ox0_13 := ox0_12.below k13
    have ox1_13 := ox1_12.below k13
    have og_13 := og_12.below k13
    clear k13 cA0a_12 swa_12 sx0a_12 sga_12 ow_12 ox0_12 ox1_12 og_12
    go_wp2_with fail
    refine (eqInt64S_same _ _ T1 _ (ox1_13.view) (oy1_13.view) hl1).mono ?_
    rintro e W14 ⟨rfl, k14⟩
    have HB14 : Hid (Below w.heap.size w W14) := HB13.out.trans (k14.mono HB13.out.size)
    have hz14 : W13.heap.size ≤ W14.heap.size := k14.size
    have cA0a_14 : W14.cell? ⟨w.heap.size, 0, none⟩ = some (.slice sa0 L0.length sc0) := (k14.cell (by show w.heap.size < _; omega)).trans cA0a_13
    have swa_14 : W14.cell? ⟨W4.heap.size, 0, none⟩ = some (.slice aow RL.length cow) := (k14.cell (by show W4.heap.size < _; omega)).trans swa_13
    have sx0a_14 : W14.cell? ⟨W6.heap.size, 0, none⟩ = some (.slice aox0 L0.length cox0) := (k14.cell (by show W6.heap.size < _; omega)).trans sx0a_13
    have sga_14 : W14.cell? ⟨W9.heap.size, 0, none⟩ = some (.slice aog RL.length cog) := (k14.cell (by show W9.heap.size < _; omega)).trans sga_13
    have ow_14 := ow_13.below k14
    have ox0_14 := ox0_13.below k14
    have ox1_14 := ox1_13.below k14
    have og_14 := og_13.below k14
    have oy1_14 := oy1_13.below k14
    clear k14 cA0a_13 swa_13 sx0a_13 sga_13 ow_13 ox0_13 ox1_13 og_13 oy1_13
    clear oy1_14
    go_wp2_with fail
    refine (markFs_any _ L0 1 _ _ ox0_14 hl0 (by omega) (by omega)).mono ?_
    rintro e W15 ⟨⟨rfl, _⟩, k15⟩
    have HB15 : Hid (Below w.heap.size w W15) := HB14.out.grown k15 HB14.out.size (fun k hk => by have := HXox0.out k hk; omega)
    have hz15 : W14.heap.size ≤ W15.heap.size := k15.size
    have cA0a_15 : W15.cell? ⟨w.heap.size, 0, none⟩ = some (.slice sa0 L0.length sc0) := k15.cell cA0a_14 (fun e => by have := HXox0.out _ e.symm; simp only at this; omega)
    have swa_15 : W15.cell? ⟨W4.heap.size, 0, none⟩ = some (.slice aow RL.length cow) := k15.cell swa_14 (fun e => by have := HXox0.out _ e.symm; simp only at this; omega)
    have sx0a_15 : W15.cell? ⟨W6.heap.size, 0, none⟩ = some (.slice aox0 L0.length cox0) := k15.cell sx0a_14 (fun e => by have := HXox0.out _ e.symm; simp only at this; omega)
    have sga_15 : W15.cell? ⟨W9.heap.size, 0, none⟩ = some (.slice aog RL.length cog) := k15.cell sga_14 (fun e => by have := HXox0.out _ e.symm; simp only at this; omega)
    have ow_15 := ow_14.kept k15 (fun k hk e => by have h1 := HXow.out k hk; have h2 := HXox0.out k e.symm; omega)
    have ox1_15 := ox1_14.kept k15 (fun k hk e => by have h1 := HXox1.out k hk; have h2 := HXox0.out k e.symm; omega)
    have og_15 := og_14.kept k15 (fun k hk e => by have h1 := HXog.out k hk; have h2 := HXox0.out k e.symm; omega)
    clear k15 cA0a_14 swa_14 sx0a_14 sga_14 ow_14 ox0_14 ox1_14 og_14
    obtain ⟨mk0, hmk0⟩ : ∃ q : Nat, q = 1 + 3 * L0.length := ⟨_, rfl⟩
    have hmp0 : 0 < mk0 ∧ mk0 ≤ 3145729 := by omega
    rw [← hmk0]
    clear hmk0
    go_wp2_with fail
    refine (markInt64S_any _ T1 _ _ _ ox1_15 hl1 (by omega) (by omega)).mono ?_
    rintro e W16 ⟨⟨rfl, _⟩, k16⟩
    have HB16 : Hid (Below w.heap.size w W16) := HB15.out.grown k16 HB15.out.size (fun k hk => by have := HXox1.out k hk; omega)
    have hz16 : W15.heap.size ≤ W16.heap.size := k16.size
    have cA0a_16 : W16.cell? ⟨w.heap.size, 0, none⟩ = some (.slice sa0 L0.length sc0) := k16.cell cA0a_15 (fun e => by have := HXox1.out _ e.symm; simp only at this; omega)
    have swa_16 : W16.cell? ⟨W4.heap.size, 0, none⟩ = some (.slice aow RL.length cow) := k16.cell swa_15 (fun e => by have := HXox1.out _ e.symm; simp only at this; omega)
    have sx0a_16 : W16.cell? ⟨W6.heap.size, 0, none⟩ = some (.slice aox0 L0.length cox0) := k16.cell sx0a_15 (fun e => by have := HXox1.out _ e.symm; simp only at this; omega)
    have sga_16 : W16.cell? ⟨W9.heap.size, 0, none⟩ = some (.slice aog RL.length cog) := k16.cell sga_15 (fun e => by have := HXox1.out _ e.symm; simp only at this; omega)
    have ow_16 := ow_15.kept k16 (fun k hk e => by have h1 := HXow.out k hk; have h2 := HXox1.out k e.symm; omega)
    have og_16 := og_15.kept k16 (fun k hk e => by have h1 := HXog.out k hk; have h2 := HXox1.out k e.symm; omega)
    clear k16 cA0a_15 swa_15 sx0a_15 sga_15 ow_15 ox1_15 og_15
    obtain ⟨mk1, hmk1⟩ : ∃ q : Nat, q = mk0 + T1.length := ⟨_, rfl⟩
    have hmp1 : 0 < mk1 ∧ mk1 ≤ 4194305 := by omega
    rw [← hmk1]
    clear hmk1
    have hq10 : (0 : Int) ≤ (mk1 : Int) := by omega
    go_wp2_with fail
    refine (eqFs_same _ _ RL _ (og_16.view) (ow_16.view) hRl).mono ?_
    rintro e W17 ⟨rfl, k17⟩
    have HB17 : Hid (Below w.heap.size w W17) := HB16.out.trans (k17.mono HB16.out.size)
    have hz17 : W16.heap.size ≤ W17.heap.size := k17.size
    have cA0a_17 : W17.cell? ⟨w.heap.size, 0, none⟩ = some (.slice sa0 L0.length sc0) := (k17.cell (by show w.heap.size < _; omega)).trans cA0a_16
    have swa_17 : W17.cell? ⟨W4.heap.size, 0, none⟩ = some (.slice aow RL.length cow) := (k17.cell (by show W4.heap.size < _; omega)).trans swa_16
    have sx0a_17 : W17.cell? ⟨W6.heap.size, 0, none⟩ = some (.slice aox0 L0.length cox0) := (k17.cell (by show W6.heap.size < _; omega)).trans sx0a_16
    have sga_17 : W17.cell? ⟨W9.heap.size, 0, none⟩ = some (.slice aog RL.length cog) := (k17.cell (by show W9.heap.size < _; omega)).trans sga_16
    have ow_17 := ow_16.below k17
    have og_17 := og_16.below k17
    clear k17 cA0a_16 swa_16 sx0a_16 sga_16 ow_16 og_16
    go_wp2_with fail
    refine (markFs_any _ RL 1 W8.heap.size _ og_17 hRl (by decide) (by decide)).mono ?_
    rintro e W18 ⟨⟨rfl, oG_18⟩, k18⟩
    have HB18 : Hid (Below w.heap.size w W18) := HB17.out.grown k18 HB17.out.size (fun k hk => by have := HXog.out k hk; omega)
    have hz18 : W17.heap.size ≤ W18.heap.size := k18.size
    have cA0a_18 : W18.cell? ⟨w.heap.size, 0, none⟩ = some (.slice sa0 L0.length sc0) := k18.cell cA0a_17 (fun e => by have := HXog.out _ e.symm; simp only at this; omega)
    have swa_18 : W18.cell? ⟨W4.heap.size, 0, none⟩ = some (.slice aow RL.length cow) := k18.cell swa_17 (fun e => by have := HXog.out _ e.symm; simp only at this; omega)
    have sx0a_18 : W18.cell? ⟨W6.heap.size, 0, none⟩ = some (.slice aox0 L0.length cox0) := k18.cell sx0a_17 (fun e => by have := HXog.out _ e.symm; simp only at this; omega)
    have sga_18 : W18.cell? ⟨W9.heap.size, 0, none⟩ = some (.slice aog RL.length cog) := k18.cell sga_17 (fun e => by have := HXog.out _ e.symm; simp only at this; omega)
    have ow_18 := ow_17.kept k18 (fun k hk e => by have h1 := HXow.out k hk; have h2 := HXog.out k e.symm; omega)
    clear k18 cA0a_17 swa_17 sx0a_17 sga_17 ow_17 og_17
    obtain ⟨q2, hq2⟩ : ∃ q : Int, q = ((1 + 3 * RL.length : Nat) : Int) := ⟨_, rfl⟩
    have hq20 : 0 ≤ q2 := by omega
    rw [← hq2]
    have HQ2 := Fk.hide hq2
    clear hq2
    go_wp2_with fail
    refine (heldFs_any _ RL.length 1 _ (oG_18.view) hRl (by decide) (by decide)).mono ?_
    rintro e W19 ⟨rfl, k19⟩
    rw [← HQ2.out]
    have HB19 : Hid (Below w.heap.size w W19) := HB18.out.trans (k19.mono HB18.out.size)
    have hz19 : W18.heap.size ≤ W19.heap.size := k19.size
    have cA0a_19 : W19.cell? ⟨w.heap.size, 0, none⟩ = some (.slice sa0 L0.length sc0) := (k19.cell (by show w.heap.size < _; omega)).trans cA0a_18
    have swa_19 : W19.cell? ⟨W4.heap.size, 0, none⟩ = some (.slice aow RL.length cow) := (k19.cell (by show W4.heap.size < _; omega)).trans swa_18
    have sx0a_19 : W19.cell? ⟨W6.heap.size, 0, none⟩ = some (.slice aox0 L0.length cox0) := (k19.cell (by show W6.heap.size < _; omega)).trans sx0a_18
    have sga_19 : W19.cell? ⟨W9.heap.size, 0, none⟩ = some (.slice aog RL.length cog) := (k19.cell (by show W9.heap.size < _; omega)).trans sga_18
    have ow_19 := ow_18.below k19
    have oG_19 := oG_18.below k19
    clear k19 cA0a_18 swa_18 sx0a_18 sga_18 ow_18 oG_18
    go_wp2_with fail
    refine (toFs_any _ _ _ (HG0.out.below HB19.out) hl0).mono ?_
    rintro e W20 ⟨⟨ut0, rfl, t0_20⟩, k20⟩
    obtain ⟨at0, ct0, rfl⟩ := t0_20.slice
    have HXt0 : Hid (∀ k, (Value.slice at0 L0.length ct0).ownBlock = some k → W19.heap.size ≤ k ∧ k < W20.heap.size) := fun k hk => World.ownsRow.lt t0_20 k hk
    have HB20 : Hid (Below w.heap.size w W20) := HB19.out.trans (k20.mono HB19.out.size)
    have hz20 : W19.heap.size ≤ W20.heap.size := k20.size
    have cA0a_20 : W20.cell? ⟨w.heap.size, 0, none⟩ = some (.slice sa0 L0.length sc0) := (k20.cell (by show w.heap.size < _; omega)).trans cA0a_19
    have swa_20 : W20.cell? ⟨W4.heap.size, 0, none⟩ = some (.slice aow RL.length cow) := (k20.cell (by show W4.heap.size < _; omega)).trans swa_19
    have sx0a_20 : W20.cell? ⟨W6.heap.size, 0, none⟩ = some (.slice aox0 L0.length cox0) := (k20.cell (by show W6.heap.size < _; omega)).trans sx0a_19
    have sga_20 : W20.cell? ⟨W9.heap.size, 0, none⟩ = some (.slice aog RL.length cog) := (k20.cell (by show W9.heap.size < _; omega)).trans sga_19
    have ow_20 := ow_19.below k20
    have oG_20 := oG_19.below k20
    clear k20 cA0a_19 swa_19 sx0a_19 sga_19 ow_19 oG_19
    go_wp2_with fail
    refine (toInt64S_any _ _ _ (HG1.out.below HB20.out) hl1).mono ?_
    rintro e W21 ⟨⟨ut1, rfl, t1_21⟩, k21⟩
    obtain ⟨at1, ct1, rfl⟩ := t1_21.slice
    have HXt1 : Hid (∀ k, (Value.slice at1 T1.length ct1).ownBlock = some k → W20.heap.size ≤ k ∧ k < W21.heap.size) := fun k hk => World.ownsRow.lt t1_21 k hk
    have HB21 : Hid (Below w.heap.size w W21) := HB20.out.trans (k21.mono HB20.out.size)
    have hz21 : W20.heap.size ≤ W21.heap.size := k21.size
    have cA0a_21 : W21.cell? ⟨w.heap.size, 0, none⟩ = some (.slice sa0 L0.length sc0) := (k21.cell (by show w.heap.size < _; omega)).trans cA0a_20
    have swa_21 : W21.cell? ⟨W4.heap.size, 0, none⟩ = some (.slice aow RL.length cow) := (k21.cell (by show W4.heap.size < _; omega)).trans swa_20
    have sx0a_21 : W21.cell? ⟨W6.heap.size, 0, none⟩ = some (.slice aox0 L0.length cox0) := (k21.cell (by show W6.heap.size < _; omega)).trans sx0a_20
    have sga_21 : W21.cell? ⟨W9.heap.size, 0, none⟩ = some (.slice aog RL.length cog) := (k21.cell (by show W9.heap.size < _; omega)).trans sga_20
    have ow_21 := ow_20.below k21
    have oG_21 := oG_20.below k21
    have t0_21 := t0_20.below k21
    clear k21 cA0a_20 swa_20 sx0a_20 sga_20 ow_20 oG_20 t0_20
    go_wp2_with fail
    refine (FI.out _ _ _ (t0_21.view) (t1_21.view)).mono ?_
    rintro e W22 ⟨⟨uoh, rfl, oh_22⟩, k22⟩
    obtain ⟨aoh, coh, rfl⟩ := oh_22.slice
    have HXoh : Hid (∀ k, (Value.slice aoh RL.length coh).ownBlock = some k → W21.heap.size ≤ k ∧ k < W22.heap.size) := fun k hk => World.ownsRow.lt oh_22 k hk
    have HB22 : Hid (Below w.heap.size w W22) := HB21.out.trans (k22.mono HB21.out.size)
    have hz22 : W21.heap.size ≤ W22.heap.size := k22.size
    have cA0a_22 : W22.cell? ⟨w.heap.size, 0, none⟩ = some (.slice sa0 L0.length sc0) := (k22.cell (by show w.heap.size < _; omega)).trans cA0a_21
    have swa_22 : W22.cell? ⟨W4.heap.size, 0, none⟩ = some (.slice aow RL.length cow) := (k22.cell (by show W4.heap.size < _; omega)).trans swa_21
    have sx0a_22 : W22.cell? ⟨W6.heap.size, 0, none⟩ = some (.slice aox0 L0.length cox0) := (k22.cell (by show W6.heap.size < _; omega)).trans sx0a_21
    have sga_22 : W22.cell? ⟨W9.heap.size, 0, none⟩ = some (.slice aog RL.length cog) := (k22.cell (by show W9.heap.size < _; omega)).trans sga_21
    have ow_22 := ow_21.below k22
    have oG_22 := oG_21.below k22
    have t0_22 := t0_21.below k22
    have t1_22 := t1_21.below k22
    clear k22 cA0a_21 swa_21 sx0a_21 sga_21 ow_21 oG_21 t0_21 t1_21
    clear t0_22
    clear t1_22
    have lcA0a_ : (W22.alloc (.cells #[.slice aoh RL.length coh] 29)).cell? ⟨w.heap.size, 0, none⟩ = some (.slice sa0 L0.length sc0) := by rw [Fk.cellOld _ _ _ _ (by omega)]; exact cA0a_22
    have lswa_ : (W22.alloc (.cells #[.slice aoh RL.length coh] 29)).cell? ⟨W4.heap.size, 0, none⟩ = some (.slice aow RL.length cow) := by rw [Fk.cellOld _ _ _ _ (by omega)]; exact swa_22
    have lsx0a_ : (W22.alloc (.cells #[.slice aoh RL.length coh] 29)).cell? ⟨W6.heap.size, 0, none⟩ = some (.slice aox0 L0.length cox0) := by rw [Fk.cellOld _ _ _ _ (by omega)]; exact sx0a_22
    have lsga_ : (W22.alloc (.cells #[.slice aoh RL.length coh] 29)).cell? ⟨W9.heap.size, 0, none⟩ = some (.slice aog RL.length cog) := by rw [Fk.cellOld _ _ _ _ (by omega)]; exact sga_22
    go_wp2_with fail
    clear lcA0a_ lswa_ lsx0a_ lsga_
    obtain ⟨W23, hW23⟩ : ∃ W, W = (W22.alloc (.cells #[.slice aoh RL.length coh] 29)) := ⟨_, rfl⟩
    have k23 : Below W22.heap.size W22 W23 := by rw [hW23]; exact (Below.refl _ _).alloc (Nat.le_refl _) _
    have hy23 : W22.heap.size < W23.heap.size := by rw [hW23]; simp
    have sha_23 : W23.cell? ⟨W22.heap.size, 0, none⟩ = some (.slice aoh RL.length coh) := by rw [hW23, Fk.cellTop _ _ _ _ _ rfl]; rfl
    have HW23 := Fk.hide hW23
    clear hW23
    have HB23 : Hid (Below w.heap.size w W23) := HB22.out.trans (k23.mono HB22.out.size)
    have hz23 : W22.heap.size ≤ W23.heap.size := k23.size
    have cA0a_23 : W23.cell? ⟨w.heap.size, 0, none⟩ = some (.slice sa0 L0.length sc0) := (k23.cell (by show w.heap.size < _; omega)).trans cA0a_22
    have swa_23 : W23.cell? ⟨W4.heap.size, 0, none⟩ = some (.slice aow RL.length cow) := (k23.cell (by show W4.heap.size < _; omega)).trans swa_22
    have sx0a_23 : W23.cell? ⟨W6.heap.size, 0, none⟩ = some (.slice aox0 L0.length cox0) := (k23.cell (by show W6.heap.size < _; omega)).trans sx0a_22
    have sga_23 : W23.cell? ⟨W9.heap.size, 0, none⟩ = some (.slice aog RL.length cog) := (k23.cell (by show W9.heap.size < _; omega)).trans sga_22
    have ow_23 := ow_22.below k23
    have oG_23 := oG_22.below k23
    have oh_23 := oh_22.below k23
    clear k23 cA0a_22 swa_22 sx0a_22 sga_22 ow_22 oG_22 oh_22
    rw [← HW23.out]
    refine (eqFs_same _ _ RL _ (oh_23.view) (ow_23.view) hRl).mono ?_
    rintro e W24 ⟨rfl, k24⟩
    have HB24 : Hid (Below w.heap.size w W24) := HB23.out.trans (k24.mono HB23.out.size)
    have hz24 : W23.heap.size ≤ W24.heap.size := k24.size
    have cA0a_24 : W24.cell? ⟨w.heap.size, 0, none⟩ = some (.slice sa0 L0.length sc0) := (k24.cell (by show w.heap.size < _; omega)).trans cA0a_23
    have swa_24 : W24.cell? ⟨W4.heap.size, 0, none⟩ = some (.slice aow RL.length cow) := (k24.cell (by show W4.heap.size < _; omega)).trans swa_23
    have sx0a_24 : W24.cell? ⟨W6.heap.size, 0, none⟩ = some (.slice aox0 L0.length cox0) := (k24.cell (by show W6.heap.size < _; omega)).trans sx0a_23
    have sga_24 : W24.cell? ⟨W9.heap.size, 0, none⟩ = some (.slice aog RL.length cog) := (k24.cell (by show W9.heap.size < _; omega)).trans sga_23
    have sha_24 : W24.cell? ⟨W22.heap.size, 0, none⟩ = some (.slice aoh RL.length coh) := (k24.cell (by show W22.heap.size < _; omega)).trans sha_23
    have ow_24 := ow_23.below k24
    have oG_24 := oG_23.below k24
    have oh_24 := oh_23.below k24
    clear k24 cA0a_23 swa_23 sx0a_23 sga_23 sha_23 ow_23 oG_23 oh_23
    go_wp2_with fail
    refine (heldFs_any _ RL.length 1 _ (oG_24.view) hRl (by decide) (by decide)).mono ?_
    rintro e W25 ⟨rfl, k25⟩
    rw [← HQ2.out]
    have HB25 : Hid (Below w.heap.size w W25) := HB24.out.trans (k25.mono HB24.out.size)
    have hz25 : W24.heap.size ≤ W25.heap.size := k25.size
    have cA0a_25 : W25.cell? ⟨w.heap.size, 0, none⟩ = some (.slice sa0 L0.length sc0) := (k25.cell (by show w.heap.size < _; omega)).trans cA0a_24
    have swa_25 : W25.cell? ⟨W4.heap.size, 0, none⟩ = some (.slice aow RL.length cow) := (k25.cell (by show W4.heap.size < _; omega)).trans swa_24
    have sx0a_25 : W25.cell? ⟨W6.heap.size, 0, none⟩ = some (.slice aox0 L0.length cox0) := (k25.cell (by show W6.heap.size < _; omega)).trans sx0a_24
    have sga_25 : W25.cell? ⟨W9.heap.size, 0, none⟩ = some (.slice aog RL.length cog) := (k25.cell (by show W9.heap.size < _; omega)).trans sga_24
    have sha_25 : W25.cell? ⟨W22.heap.size, 0, none⟩ = some (.slice aoh RL.length coh) := (k25.cell (by show W22.heap.size < _; omega)).trans sha_24
    have ow_25 := ow_24.below k25
    have oG_25 := oG_24.below k25
    have oh_25 := oh_24.below k25
    clear k25 cA0a_24 swa_24 sx0a_24 sga_24 sha_24 ow_24 oG_24 oh_24
    go_wp2_with fail
    go_ret
    exact ⟨rfl, HB25.out⟩

set_option maxRecDepth 100000 in
theorem lifted (os : Os) (started : os.Started) (H : Type) (enc : TypeId × Value → H) :
    ReturnsInHanded {} Try.checked os 3 .any (Rows.fnExactFsCrashSpec.pre6 enc Try.prog Try.f3 Rows.fnExactFsCrashRow.domain false) (Rows.fnExactFsCrashSpec.post enc Try.prog Try.f3 false true false false) := by
  refine returnsInHanded_of_change (C := Try.checked) own started (by kernel_rfl) Try.func3
    (ChangeSpec.witness6 (enc := enc) (C := Try.checked) false ⟨#[], #[.agg #[.slice none 0 0], .slice none 0 0], []⟩ 8 (by kernel_rfl) (by kernel_rfl) (by kernel_rfl) (by kernel_rfl)) ?_
  intro W base args ds gs before hval0 hW hcnd _
  have hval : ∀ (j : Nat) t v, Try.f3.params[j]? = some t → args[j]? = some v → Value.okWide Try.prog W .any base t v := hval0
  have hW' := hW
  obtain ⟨p, q, hA0, hV, rfl, hfz, hnd⟩ := hW
  have hA : DataW.TrodAll enc Try.prog W 0 (fun _ => true) true Try.f3.params.toList args.toList ds p := hA0
  rw [Try.params3] at hA hval
  obtain ⟨v0, vs0, d0, ds0, p0, q0, hargs, rfl, rfl, h0, r0⟩ := trodAll_cons hA
  obtain ⟨v1, vs1, d1, ds1, p1, q1, rfl, rfl, rfl, h1, r1⟩ := trodAll_cons r0
  obtain ⟨rfl, rfl, rfl⟩ := trodAll_nil r1
  obtain rfl : args = #[v0, v1] := by cases args; simp_all
  obtain ⟨rfl, rfl⟩ := trodVars_none hV
  have hlt : ∀ x ∈ p0 ++ (p1 ++ ([])), x.block < W.heap.size := fun x hx => hW'.lt x (by simpa using hx)
  have k0 := h0
  obtain ⟨a0, L0, rfl, x0, n0, g0⟩ := Fk.open_fs Try.underlying24 (by kernel_rfl) rfl rfl (by kernel_rfl) Try.underlying22 Try.underlying93 (by kernel_rfl) rfl rfl rfl rfl rfl rfl (by kernel_rfl) (by kernel_rfl) Try.underlying9 Try.underlying2 (hval 0 24 v0 rfl rfl) h0
  have k1 := h1
  obtain ⟨T1, x1, n1, s1, g1⟩ := Ik.open_nums Try.underlying25 Try.underlying2 (by kernel_rfl) (hval 1 25 v1 rfl rfl) h1
  clear hA0 hval0
  have e1 : Rows.fnExactFsCrashSpec.fn H ([d0, d1] ++ []) = { results := [.lit (.bool true)], args := [d0, d1] } := by simp [Rows.fnExactFsCrashSpec]
  refine (walk a0 L0 x0 n0 v1 T1 x1 n1 s1 W g0 g1).mono fun e W' ⟨he, bel⟩ => ?_
  subst he
  refine ⟨_, rfl, _, _, _, [], p0 ++ (p1 ++ ([])), [], hW', ?_, ?_, ?_, bel.frame _, fun h => by cases h⟩
  · rw [e1]; exact trodAll_mk1 (shut_bool Try.underlying4 true)
  · rw [e1]; exact (trodAll_cons_mk (Below.trod laidOut (by kernel_rfl) (of_decide_eq_true (by kernel_rfl)) k0 bel (fun x hx => hlt x (by simp [hx]))) (trodAll_cons_mk (Below.trod laidOut (by kernel_rfl) (of_decide_eq_true (by kernel_rfl)) k1 bel (fun x hx => hlt x (by simp [hx]))) trodAll_mk0))
  · rw [e1]; rfl

theorem over : Rows.fnExactFsCrashRow.holds Try.pinned (OpenSpec.ofChange Rows.fnExactFsCrashSpec) :=
  OpenClaim.holds_of_wide 3 Try.f3 rfl rfl rfl rfl rfl rfl rfl ⟨rfl, rfl, rfl, rfl, rfl⟩ rfl rfl rfl rfl rfl (by kernel_rfl) Try.func3 (by kernel_rfl)
    (of_decide_eq_true (by kernel_rfl)) (by unfold Func.isWrapper; rw [if_neg (of_decide_eq_false (by kernel_rfl))]; exact ⟨rfl, rfl⟩)
    (fun os started H enc _ => lifted os started H enc)

/-- the statement -/
theorem proved : Rows.FnExactFsCrashSaid :=
  over
#print axioms proved
end Go.Proofs.Ytkkmjffepdejnaa.fnExactFsCrash

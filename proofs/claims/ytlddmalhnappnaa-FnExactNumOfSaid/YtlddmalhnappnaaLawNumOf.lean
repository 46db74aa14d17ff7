/- Proved: for every argument the exact law of NumOf returns true: impl.NumOf answers as the specification's NumOf, writes into no argument, and the argument reads as before. No condition. -/
import Derived.Test.YtlddmalhnappnaaRows
import Derived.Test.YtlddmalhnappnaaRecOpen
import Derived.Test.YtlddmalhnappnaaRecLaw
import Derived.Test.YtlddmalhnappnaaNumOfWalks
import Derived.WalkKit
import Derived.ProofKit
import Derived.OpenShut
import Derived.ShutString
import Derived.Below
import Derived.ChangeSame
namespace Go.Proofs.Ytlddmalhnappnaa.fnExactNumOf
open Go.ChangeShapes Go.WideShapes Go.ChangeAt Go.RowKit
open Go.ChangeMaps (open_string shut_string)
set_option linter.unusedVariables false

theorem own : ownKnob Try.prog.godebug = none := by kernel_rfl
theorem laidOut : laidOutB Try.prog = true := by kernel_rfl

set_option maxHeartbeats 4000000 in
theorem walk (a0 : Value) (K0 : Int) (L0 : List Fd.E) (w0 : (Lit.int .i64 K0).wf = true) (x0 : ∀ f ∈ L0, Fd.Fit f) (n0 : L0.length ≤ maxLen) (s0 : Rk.Shut a0) (a1 : Int) (w1 : (Lit.int .i64 a1).wf = true) (w : World) (g0 : Rk.View Fd.S w a0 L0) :
    Calls Try.prog 6 #[.agg #[.int .i64 K0, a0], .int .i64 a1] w fun e w' => e = .returned (.bool true) ∧ Below w.heap.size w w' := by
  obtain ⟨W0, hW⟩ : ∃ W, W = w.alloc (.cells #[.int .i64 K0, a0] 24) := ⟨_, rfl⟩
  have B0 : Below w.heap.size w W0 := by rw [hW]; exact (Below.refl _ _).alloc (Nat.le_refl _) _
  have cA0 : W0.cell? ⟨w.heap.size, 0, none⟩ = some (.int .i64 K0) := by rw [hW, Fk.cellTop _ _ _ _ _ rfl]; rfl
  have cB0 : W0.cell? ⟨w.heap.size, 1, none⟩ = some a0 := by rw [hW, Fk.cellTop _ _ _ _ _ rfl]; rfl
  have hz0 : w.heap.size < W0.heap.size := by rw [hW]; simp
  have HW := Fk.hide hW
  have HB0 := Fk.hide B0
  clear hW B0
  have HG := Fk.hide g0
  have HL := Fk.hide x0
  obtain ⟨a, cap, rfl, _⟩ := g0
  go_enter Try.func6, Try.ntmps6
  go_wp2_with fail
  rw [← HW.out]
  refine (szRec_any _ _ _ _ _ (HG.out.below HB0.out) x0 n0 (by decide) (by decide)).mono ?_
  rintro e W1 ⟨⟨r, rfl, hr⟩, k1⟩
  have HB1 : Hid (Below w.heap.size w W1) := HB0.out.trans (k1.mono HB0.out.size)
  have hz1 : W0.heap.size ≤ W1.heap.size := k1.size
  have cA1 : W1.cell? ⟨w.heap.size, 0, none⟩ = some (.int .i64 K0) := (k1.cell (by show w.heap.size < _; omega)).trans cA0
  have cB1 : W1.cell? ⟨w.heap.size, 1, none⟩ = some (.slice a L0.length cap) := (k1.cell (by show w.heap.size < _; omega)).trans cB0
  clear k1 cA0 cB0
  rcases hr with rfl | ⟨hr0, hr⟩
  · go_wp2_with fail
    go_ret
    exact ⟨rfl, HB1.out⟩
  have hl : L0.length ≤ 1048576 := by omega
  clear hr
  obtain ⟨tx, htx⟩ : ∃ t, t = (Rc.numOf K0 L0 a1).1 := ⟨_, rfl⟩
  obtain ⟨cd, hcd⟩ : ∃ c, c = (Rc.numOf K0 L0 a1).2 := ⟨_, rfl⟩
  have FS : Hid (∀ w' v, Rk.View Fd.S w' v L0 → Calls Try.prog 19 #[.agg #[.int .i64 K0, v], .int .i64 a1] w' fun e w'' => e = .returned (.agg #[.int .i64 tx, .int .i64 0, .int .i64 cd]) ∧ Below w'.heap.size w' w'') := fun w' v hv => by rw [htx, hcd]; exact numOf_spec K0 a1 v L0 w' hv HL.out n0
  have FI : Hid (∀ w' v, Rk.View Fd.S w' v L0 → Calls Try.prog 20 #[.agg #[.int .i64 K0, v], .int .i64 a1] w' fun e w'' => e = .returned (.agg #[.int .i64 tx, .int .i64 0, .int .i64 cd]) ∧ Below w'.heap.size w' w'') := fun w' v hv => by rw [htx, hcd]; exact numOf_impl K0 a1 v L0 w' hv HL.out n0
  clear htx hcd
  go_wp2_with fail
  refine (toRec_any _ _ _ _ (HG.out.below HB1.out) hl).mono ?_
  rintro e W2 ⟨⟨u2, rfl, ou2⟩, k2⟩
  obtain ⟨au2, ju2, rfl⟩ := ou2.slice
  have HB2 : Hid (Below w.heap.size w W2) := HB1.out.trans (k2.mono HB1.out.size)
  have hz2 : W1.heap.size ≤ W2.heap.size := k2.size
  have cA2 : W2.cell? ⟨w.heap.size, 0, none⟩ = some (.int .i64 K0) := (k2.cell (by show w.heap.size < _; omega)).trans cA1
  have cB2 : W2.cell? ⟨w.heap.size, 1, none⟩ = some (.slice a L0.length cap) := (k2.cell (by show w.heap.size < _; omega)).trans cB1
  clear k2 cA1 cB1
  go_wp2_with fail
  refine (FS.out _ _ (ou2.view)).mono ?_
  rintro e W3 ⟨rfl, k3⟩
  clear ou2
  have HB3 : Hid (Below w.heap.size w W3) := HB2.out.trans (k3.mono HB2.out.size)
  have hz3 : W2.heap.size ≤ W3.heap.size := k3.size
  have cA3 : W3.cell? ⟨w.heap.size, 0, none⟩ = some (.int .i64 K0) := (k3.cell (by show w.heap.size < _; omega)).trans cA2
  have cB3 : W3.cell? ⟨w.heap.size, 1, none⟩ = some (.slice a L0.length cap) := (k3.cell (by show w.heap.size < _; omega)).trans cB2
  clear k3 cA2 cB2
  have lcA : (W3.alloc (.cells #[.int .i64 tx, .int .i64 0, .int .i64 cd] 40)).cell? ⟨w.heap.size, 0, none⟩ = some (.int .i64 K0) := by rw [Fk.cellOld _ _ _ _ (by omega)]; exact cA3
  have lcB : (W3.alloc (.cells #[.int .i64 tx, .int .i64 0, .int .i64 cd] 40)).cell? ⟨w.heap.size, 1, none⟩ = some (.slice a L0.length cap) := by rw [Fk.cellOld _ _ _ _ (by omega)]; exact cB3
  go_wp2_with fail
  clear lcA lcB
  obtain ⟨W4, hW4⟩ : ∃ W, W = W3.alloc (.cells #[.int .i64 tx, .int .i64 0, .int .i64 cd] 40) := ⟨_, rfl⟩
  have k4 : Below W3.heap.size W3 W4 := by rw [hW4]; exact (Below.refl _ _).alloc (Nat.le_refl _) _
  have hy4 : W3.heap.size < W4.heap.size := by rw [hW4]; simp
  have swa4 : W4.cell? ⟨W3.heap.size, 0, none⟩ = some (.int .i64 tx) := by rw [hW4, Fk.cellTop _ _ _ _ _ rfl]; rfl
  have swb4 : W4.cell? ⟨W3.heap.size, 1, none⟩ = some (.int .i64 0) := by rw [hW4, Fk.cellTop _ _ _ _ _ rfl]; rfl
  have swc4 : W4.cell? ⟨W3.heap.size, 2, none⟩ = some (.int .i64 cd) := by rw [hW4, Fk.cellTop _ _ _ _ _ rfl]; rfl
  have HW4 := Fk.hide hW4
  clear hW4
  have HB4 : Hid (Below w.heap.size w W4) := HB3.out.trans (k4.mono HB3.out.size)
  have hz4 : W3.heap.size ≤ W4.heap.size := k4.size
  have cA4 : W4.cell? ⟨w.heap.size, 0, none⟩ = some (.int .i64 K0) := (k4.cell (by show w.heap.size < _; omega)).trans cA3
  have cB4 : W4.cell? ⟨w.heap.size, 1, none⟩ = some (.slice a L0.length cap) := (k4.cell (by show w.heap.size < _; omega)).trans cB3
  clear k4 cA3 cB3
  rw [← HW4.out]
  refine (toRec_any _ _ _ _ (HG.out.below HB4.out) hl).mono ?_
  rintro e W5 ⟨⟨ux, rfl, oux⟩, k5⟩
  obtain ⟨aux, jux, rfl⟩ := oux.slice
  have HB5 : Hid (Below w.heap.size w W5) := HB4.out.trans (k5.mono HB4.out.size)
  have hz5 : W4.heap.size ≤ W5.heap.size := k5.size
  have cA5 : W5.cell? ⟨w.heap.size, 0, none⟩ = some (.int .i64 K0) := (k5.cell (by show w.heap.size < _; omega)).trans cA4
  have cB5 : W5.cell? ⟨w.heap.size, 1, none⟩ = some (.slice a L0.length cap) := (k5.cell (by show w.heap.size < _; omega)).trans cB4
  have swa5 : W5.cell? ⟨W3.heap.size, 0, none⟩ = some (.int .i64 tx) := (k5.cell (by show W3.heap.size < _; omega)).trans swa4
  have swb5 : W5.cell? ⟨W3.heap.size, 1, none⟩ = some (.int .i64 0) := (k5.cell (by show W3.heap.size < _; omega)).trans swb4
  have swc5 : W5.cell? ⟨W3.heap.size, 2, none⟩ = some (.int .i64 cd) := (k5.cell (by show W3.heap.size < _; omega)).trans swc4
  clear k5 cA4 cB4 swa4 swb4 swc4
  have ox5 := oux
  clear oux
  obtain ⟨W6, hW6⟩ : ∃ W, W = W5.alloc (.cells #[.int .i64 K0, .slice aux L0.length jux] 29) := ⟨_, rfl⟩
  have k6 : Below W5.heap.size W5 W6 := by rw [hW6]; exact (Below.refl _ _).alloc (Nat.le_refl _) _
  have hy6 : W5.heap.size < W6.heap.size := by rw [hW6]; simp
  have sxa6 : W6.cell? ⟨W5.heap.size, 0, none⟩ = some (.int .i64 K0) := by rw [hW6, Fk.cellTop _ _ _ _ _ rfl]; rfl
  have sxb6 : W6.cell? ⟨W5.heap.size, 1, none⟩ = some (.slice aux L0.length jux) := by rw [hW6, Fk.cellTop _ _ _ _ _ rfl]; rfl
  have HW6 := Fk.hide hW6
  clear hW6
  have HB6 : Hid (Below w.heap.size w W6) := HB5.out.trans (k6.mono HB5.out.size)
  have hz6 : W5.heap.size ≤ W6.heap.size := k6.size
  have cA6 : W6.cell? ⟨w.heap.size, 0, none⟩ = some (.int .i64 K0) := (k6.cell (by show w.heap.size < _; omega)).trans cA5
  have cB6 : W6.cell? ⟨w.heap.size, 1, none⟩ = some (.slice a L0.length cap) := (k6.cell (by show w.heap.size < _; omega)).trans cB5
  have swa6 : W6.cell? ⟨W3.heap.size, 0, none⟩ = some (.int .i64 tx) := (k6.cell (by show W3.heap.size < _; omega)).trans swa5
  have swb6 : W6.cell? ⟨W3.heap.size, 1, none⟩ = some (.int .i64 0) := (k6.cell (by show W3.heap.size < _; omega)).trans swb5
  have swc6 : W6.cell? ⟨W3.heap.size, 2, none⟩ = some (.int .i64 cd) := (k6.cell (by show W3.heap.size < _; omega)).trans swc5
  have ox6 := ox5.below k6
  clear k6 cA5 cB5 swa5 swb5 swc5 ox5
  go_wp2_with fail
  rw [← HW6.out]
  refine (FI.out _ _ (ox6.view)).mono ?_
  rintro e W7 ⟨rfl, k7⟩
  have HB7 : Hid (Below w.heap.size w W7) := HB6.out.trans (k7.mono HB6.out.size)
  have hz7 : W6.heap.size ≤ W7.heap.size := k7.size
  have cA7 : W7.cell? ⟨w.heap.size, 0, none⟩ = some (.int .i64 K0) := (k7.cell (by show w.heap.size < _; omega)).trans cA6
  have cB7 : W7.cell? ⟨w.heap.size, 1, none⟩ = some (.slice a L0.length cap) := (k7.cell (by show w.heap.size < _; omega)).trans cB6
  have swa7 : W7.cell? ⟨W3.heap.size, 0, none⟩ = some (.int .i64 tx) := (k7.cell (by show W3.heap.size < _; omega)).trans swa6
  have swb7 : W7.cell? ⟨W3.heap.size, 1, none⟩ = some (.int .i64 0) := (k7.cell (by show W3.heap.size < _; omega)).trans swb6
  have swc7 : W7.cell? ⟨W3.heap.size, 2, none⟩ = some (.int .i64 cd) := (k7.cell (by show W3.heap.size < _; omega)).trans swc6
  have sxa7 : W7.cell? ⟨W5.heap.size, 0, none⟩ = some (.int .i64 K0) := (k7.cell (by show W5.heap.size < _; omega)).trans sxa6
  have sxb7 : W7.cell? ⟨W5.heap.size, 1, none⟩ = some (.slice aux L0.length jux) := (k7.cell (by show W5.heap.size < _; omega)).trans sxb6
  have ox7 := ox6.below k7
  clear k7 cA6 cB6 swa6 swb6 swc6 sxa6 sxb6 ox6
  have lcA : (W7.alloc (.cells #[.int .i64 tx, .int .i64 0, .int .i64 cd] 40)).cell? ⟨w.heap.size, 0, none⟩ = some (.int .i64 K0) := by rw [Fk.cellOld _ _ _ _ (by omega)]; exact cA7
  have lcB : (W7.alloc (.cells #[.int .i64 tx, .int .i64 0, .int .i64 cd] 40)).cell? ⟨w.heap.size, 1, none⟩ = some (.slice a L0.length cap) := by rw [Fk.cellOld _ _ _ _ (by omega)]; exact cB7
  have lswa : (W7.alloc (.cells #[.int .i64 tx, .int .i64 0, .int .i64 cd] 40)).cell? ⟨W3.heap.size, 0, none⟩ = some (.int .i64 tx) := by rw [Fk.cellOld _ _ _ _ (by omega)]; exact swa7
  have lswb : (W7.alloc (.cells #[.int .i64 tx, .int .i64 0, .int .i64 cd] 40)).cell? ⟨W3.heap.size, 1, none⟩ = some (.int .i64 0) := by rw [Fk.cellOld _ _ _ _ (by omega)]; exact swb7
  have lswc : (W7.alloc (.cells #[.int .i64 tx, .int .i64 0, .int .i64 cd] 40)).cell? ⟨W3.heap.size, 2, none⟩ = some (.int .i64 cd) := by rw [Fk.cellOld _ _ _ _ (by omega)]; exact swc7
  have lsxa : (W7.alloc (.cells #[.int .i64 tx, .int .i64 0, .int .i64 cd] 40)).cell? ⟨W5.heap.size, 0, none⟩ = some (.int .i64 K0) := by rw [Fk.cellOld _ _ _ _ (by omega)]; exact sxa7
  have lsxb : (W7.alloc (.cells #[.int .i64 tx, .int .i64 0, .int .i64 cd] 40)).cell? ⟨W5.heap.size, 1, none⟩ = some (.slice aux L0.length jux) := by rw [Fk.cellOld _ _ _ _ (by omega)]; exact sxb7
  go_wp2_with fail
  clear lcA lcB lswa lswb lswc lsxa lsxb
  obtain ⟨W8, hW8⟩ : ∃ W, W = W7.alloc (.cells #[.int .i64 tx, .int .i64 0, .int .i64 cd] 40) := ⟨_, rfl⟩
  have k8 : Below W7.heap.size W7 W8 := by rw [hW8]; exact (Below.refl _ _).alloc (Nat.le_refl _) _
  have hy8 : W7.heap.size < W8.heap.size := by rw [hW8]; simp
  have sga8 : W8.cell? ⟨W7.heap.size, 0, none⟩ = some (.int .i64 tx) := by rw [hW8, Fk.cellTop _ _ _ _ _ rfl]; rfl
  have sgb8 : W8.cell? ⟨W7.heap.size, 1, none⟩ = some (.int .i64 0) := by rw [hW8, Fk.cellTop _ _ _ _ _ rfl]; rfl
  have sgc8 : W8.cell? ⟨W7.heap.size, 2, none⟩ = some (.int .i64 cd) := by rw [hW8, Fk.cellTop _ _ _ _ _ rfl]; rfl
  have HW8 := Fk.hide hW8
  clear hW8
  have HB8 : Hid (Below w.heap.size w W8) := HB7.out.trans (k8.mono HB7.out.size)
  have hz8 : W7.heap.size ≤ W8.heap.size := k8.size
  have cA8 : W8.cell? ⟨w.heap.size, 0, none⟩ = some (.int .i64 K0) := (k8.cell (by show w.heap.size < _; omega)).trans cA7
  have cB8 : W8.cell? ⟨w.heap.size, 1, none⟩ = some (.slice a L0.length cap) := (k8.cell (by show w.heap.size < _; omega)).trans cB7
  have swa8 : W8.cell? ⟨W3.heap.size, 0, none⟩ = some (.int .i64 tx) := (k8.cell (by show W3.heap.size < _; omega)).trans swa7
  have swb8 : W8.cell? ⟨W3.heap.size, 1, none⟩ = some (.int .i64 0) := (k8.cell (by show W3.heap.size < _; omega)).trans swb7
  have swc8 : W8.cell? ⟨W3.heap.size, 2, none⟩ = some (.int .i64 cd) := (k8.cell (by show W3.heap.size < _; omega)).trans swc7
  have sxa8 : W8.cell? ⟨W5.heap.size, 0, none⟩ = some (.int .i64 K0) := (k8.cell (by show W5.heap.size < _; omega)).trans sxa7
  have sxb8 : W8.cell? ⟨W5.heap.size, 1, none⟩ = some (.slice aux L0.length jux) := (k8.cell (by show W5.heap.size < _; omega)).trans sxb7
  have ox8 := ox7.below k8
  clear k8 cA7 cB7 swa7 swb7 swc7 sxa7 sxb7 ox7
  rw [← HW8.out]
  refine (eqNumOut_same (tx, 0, cd) _).mono ?_
  rintro e W9 ⟨rfl, k9⟩
  have HB9 : Hid (Below w.heap.size w W9) := HB8.out.trans (k9.mono HB8.out.size)
  have hz9 : W8.heap.size ≤ W9.heap.size := k9.size
  have cA9 : W9.cell? ⟨w.heap.size, 0, none⟩ = some (.int .i64 K0) := (k9.cell (by show w.heap.size < _; omega)).trans cA8
  have cB9 : W9.cell? ⟨w.heap.size, 1, none⟩ = some (.slice a L0.length cap) := (k9.cell (by show w.heap.size < _; omega)).trans cB8
  have swa9 : W9.cell? ⟨W3.heap.size, 0, none⟩ = some (.int .i64 tx) := (k9.cell (by show W3.heap.size < _; omega)).trans swa8
  have swb9 : W9.cell? ⟨W3.heap.size, 1, none⟩ = some (.int .i64 0) := (k9.cell (by show W3.heap.size < _; omega)).trans swb8
  have swc9 : W9.cell? ⟨W3.heap.size, 2, none⟩ = some (.int .i64 cd) := (k9.cell (by show W3.heap.size < _; omega)).trans swc8
  have sxa9 : W9.cell? ⟨W5.heap.size, 0, none⟩ = some (.int .i64 K0) := (k9.cell (by show W5.heap.size < _; omega)).trans sxa8
  have sxb9 : W9.cell? ⟨W5.heap.size, 1, none⟩ = some (.slice aux L0.length jux) := (k9.cell (by show W5.heap.size < _; omega)).trans sxb8
  have sga9 : W9.cell? ⟨W7.heap.size, 0, none⟩ = some (.int .i64 tx) := (k9.cell (by show W7.heap.size < _; omega)).trans sga8
  have sgb9 : W9.cell? ⟨W7.heap.size, 1, none⟩ = some (.int .i64 0) := (k9.cell (by show W7.heap.size < _; omega)).trans sgb8
  have sgc9 : W9.cell? ⟨W7.heap.size, 2, none⟩ = some (.int .i64 cd) := (k9.cell (by show W7.heap.size < _; omega)).trans sgc8
  have ox9 := ox8.below k9
  clear k9 cA8 cB8 swa8 swb8 swc8 sxa8 sxb8 sga8 sgb8 sgc8 ox8
  go_wp2_with fail
  have vd : Rk.View Fd.S W9.drew (.slice a L0.length cap) L0 := (HG.out.below HB9.out).below (Below.drew (Below.refl _ _))
  have od := ox9.below (Below.drew (Below.refl W9.heap.size W9))
  go_region_with (first
    | (go_at_call 11; refine (toRec_any _ _ _ _ vd hl).mono ?_; rintro e X1 ⟨⟨ux, rfl, oxx⟩, m1⟩; obtain ⟨ax, jx, rfl⟩ := oxx.slice; have dx : X1.cell? ⟨W5.heap.size, 0, none⟩ = some (.int .i64 K0) := (m1.cell (by show W5.heap.size < W9.heap.size; omega)).trans sxa9; have dy : X1.cell? ⟨W5.heap.size, 1, none⟩ = some (.slice aux L0.length jux) := (m1.cell (by show W5.heap.size < W9.heap.size; omega)).trans sxb9)
    | (go_at_call 13; refine (eqRec_same _ _ _ L0 _ (od.below m1).view oxx.view hl).mono ?_; rintro e X2 ⟨rfl, m2⟩))
  all_goals
    have HB9 : Hid (Below w.heap.size w X2) := HB9.out.trans (((Below.trans (Below.drew (Below.refl _ _)) m1).trans (m2.mono m1.size)).mono HB9.out.size)
    clear m1 m2 vd od oxx dx dy
    go_wp2_with fail
    go_ret
    exact ⟨rfl, HB9.out⟩

set_option maxRecDepth 100000 in
theorem lifted (os : Os) (started : os.Started) (H : Type) (enc : TypeId × Value → H) :
    ReturnsInHanded {} Try.checked os 6 .any (Rows.fnExactNumOfSpec.pre6 enc Try.prog Try.f6 Rows.fnExactNumOfRow.domain false) (Rows.fnExactNumOfSpec.post enc Try.prog Try.f6 false true false false) := by
  refine returnsInHanded_of_change (C := Try.checked) own started (by kernel_rfl) Try.func6
    (ChangeSpec.witness6 (enc := enc) (C := Try.checked) false ⟨#[], #[.agg #[.int .i64 0, .slice none 0 0], .int .i64 0], []⟩ 8 (by kernel_rfl) (by kernel_rfl) (by kernel_rfl) (by kernel_rfl)) ?_
  intro W base args ds gs before hval0 hW hcnd _
  have hval : ∀ (j : Nat) t v, Try.f6.params[j]? = some t → args[j]? = some v → Value.okWide Try.prog W .any base t v := hval0
  have hW' := hW
  obtain ⟨p, q, hA0, hV, rfl, hfz, hnd⟩ := hW
  have hA : DataW.TrodAll enc Try.prog W 0 (fun _ => true) true Try.f6.params.toList args.toList ds p := hA0
  rw [Try.params6] at hA hval
  obtain ⟨v0, vs0, d0, ds0, p0, q0, hargs, rfl, rfl, h0, r0⟩ := trodAll_cons hA
  obtain ⟨v1, vs1, d1, ds1, p1, q1, rfl, rfl, rfl, h1, r1⟩ := trodAll_cons r0
  obtain ⟨rfl, rfl, rfl⟩ := trodAll_nil r1
  obtain rfl : args = #[v0, v1] := by cases args; simp_all
  obtain ⟨rfl, rfl⟩ := trodVars_none hV
  have hlt : ∀ x ∈ p0 ++ (p1 ++ ([])), x.block < W.heap.size := fun x hx => hW'.lt x (by simpa using hx)
  have k0 := h0
  obtain ⟨a0, K0, L0, rfl, w0, x0, n0, s0, g0⟩ := Rk.open_rec Try.underlying24 (by kernel_rfl) rfl rfl rfl rfl (by kernel_rfl) Try.underlying22 (by kernel_rfl) Try.underlying84 rfl rfl rfl rfl (by kernel_rfl) (by kernel_rfl) Try.underlying9 Try.underlying2 (hval 0 24 v0 rfl rfl) h0
  have k1 := h1
  obtain ⟨a1, rfl, rfl, rfl, w1⟩ := open_int Try.underlying2 (hval 1 2 v1 rfl rfl) h1
  clear hA0 hval0
  have e1 : Rows.fnExactNumOfSpec.fn H ([d0, .lit (.int .i64 a1)] ++ []) = { results := [.lit (.bool true)], args := [d0, .lit (.int .i64 a1)] } := by simp [Rows.fnExactNumOfSpec]
  refine (walk a0 K0 L0 w0 x0 n0 s0 a1 w1 W g0).mono fun e W' ⟨he, bel⟩ => ?_
  subst he
  refine ⟨_, rfl, _, _, _, [], p0 ++ ([] ++ ([])), [], hW', ?_, ?_, ?_, bel.frame _, fun h => by cases h⟩
  · rw [e1]; exact trodAll_mk1 (shut_bool Try.underlying4 true)
  · rw [e1]; exact (trodAll_cons_mk (Below.trod laidOut (by kernel_rfl) (of_decide_eq_true (by kernel_rfl)) k0 bel (fun x hx => hlt x (by simp [hx]))) (trodAll_cons_mk (shut_int Try.underlying2 w1) trodAll_mk0))
  · rw [e1]; rfl

theorem over : Rows.fnExactNumOfRow.holds Try.pinned (OpenSpec.ofChange Rows.fnExactNumOfSpec) :=
  OpenClaim.holds_of_wide 6 Try.f6 rfl rfl rfl rfl rfl rfl rfl ⟨rfl, rfl, rfl, rfl, rfl⟩ rfl rfl rfl rfl rfl (by kernel_rfl) Try.func6 (by kernel_rfl)
    (of_decide_eq_true (by kernel_rfl)) (by unfold Func.isWrapper; rw [if_neg (of_decide_eq_false (by kernel_rfl))]; exact ⟨rfl, rfl⟩)
    (fun os started H enc _ => lifted os started H enc)

/-- the statement -/
theorem proved : Rows.FnExactNumOfSaid :=
  over
#print axioms proved
end Go.Proofs.Ytlddmalhnappnaa.fnExactNumOf

/- Proved: for every list of files the exact law of JournalClean returns true: impl.JournalClean answers as the specification's JournalClean, writes into no argument and keeps nothing of one, its answer owns its memory, and the arguments read as before. The program's five errors are laid as its text lays them (the card ties that). -/
import Derived.Test.YtfefafmcaepoiaaGreatDoorRows
import Derived.Test.YtfefafmcaepoiaaGreatDoorTie
import Derived.Test.YtfefafmcaepoiaaGreatDoorCards
import Derived.Test.YtfefafmcaepoiaaGreatDoorFsSz
import Derived.Test.YtfefafmcaepoiaaGreatDoorJournalCleanSpec
import Derived.Test.YtfefafmcaepoiaaGreatDoorJournalCleanImpl
import Derived.WalkKit
import Derived.ProofKit
import Derived.OpenShut
import Derived.ShutString
import Derived.Below
import Derived.OpenVars
import Derived.Stop.LaidTwo
import Derived.SevenTiedAt
import Derived.Handed
import Derived.ChangeSame
import Derived.ChangeVars
import Derived.JoinedOf
import Derived.LaidLaws
import Derived.LaidHandle
import Derived.Stop.Joined
namespace Go.Proofs.YtfefafmcaepoiaaGreatDoor.fnExactJournalClean
open Go.ChangeShapes Go.WideShapes Go.ChangeAt Go.RowKit
open Go.ChangeMaps (open_string shut_string)
set_option linter.unusedVariables false

theorem own : ownKnob Tryz.prog.godebug = none := by kernel_rfl
theorem laidOut : laidOutB Tryz.prog = true := by kernel_rfl
theorem g0 : Tryz.prog.globalNamed "loop.example/g00446/impl.errTooLong" = some 0 := by kernel_rfl
theorem g0t : (Tryz.prog.globals[0]?).map (·.type) = some 49 := by kernel_rfl
theorem g1 : Tryz.prog.globalNamed "loop.example/g00446/impl.errNotRight" = some 1 := by kernel_rfl
theorem g1t : (Tryz.prog.globals[1]?).map (·.type) = some 49 := by kernel_rfl
theorem g2 : Tryz.prog.globalNamed "loop.example/g00446/impl.errNoFile" = some 2 := by kernel_rfl
theorem g2t : (Tryz.prog.globals[2]?).map (·.type) = some 49 := by kernel_rfl
theorem g3 : Tryz.prog.globalNamed "loop.example/g00446/impl.errOutside" = some 3 := by kernel_rfl
theorem g3t : (Tryz.prog.globals[3]?).map (·.type) = some 49 := by kernel_rfl
theorem g4 : Tryz.prog.globalNamed "loop.example/g00446/impl.errNoRoom" = some 4 := by kernel_rfl
theorem g4t : (Tryz.prog.globals[4]?).map (·.type) = some 49 := by kernel_rfl
theorem star : "*" ++ "errors.errorString" = "*errors.errorString" := by decide
theorem row1 (u : TypeId) (h : Tryz.prog.typeName? 3 u = some "*errors.errorString") : u = 166 :=
  typeName_ptr_named (nm := "errors.errorString") (by rw [star]; kernel_rfl) (by kernel_rfl) (by decide) u (by rw [star]; exact h)

set_option maxHeartbeats 4000000 in
theorem walk (a0 : Value) (L0 : List Fk.Fl) (x0 : Fk.Fits L0) (n0 : L0.length ≤ maxLen) (w : World) (g0 : Fk.View w a0 L0) (b0 b1 b2 b3 b4 : Addr) (hE : Is.Errs w b0 b1 b2 b3 b4) :
    Calls Tryz.prog 4 #[.agg #[a0]] w fun e w' => e = .returned (.bool true) ∧ Below w.heap.size w w' := by
  have B0 : Below w.heap.size w (w.alloc (.cells #[a0] 24)) := (Below.refl _ _).alloc (Nat.le_refl _) _
  have cA0 : (w.alloc (.cells #[a0] 24)).cell? ⟨w.heap.size, 0, none⟩ = some a0 := by rw [Fk.cellTop _ _ _ _ _ rfl]; rfl
  have hz0 : w.heap.size < (w.alloc (.cells #[a0] 24)).heap.size := by simp
  obtain ⟨W0, hW⟩ : ∃ W, W = w.alloc (.cells #[a0] 24) := ⟨_, rfl⟩
  rw [← hW] at B0 cA0 hz0
  have HW := Fk.hide hW
  have HB0 := Fk.hide B0
  have HE := Fk.hide hE
  clear hW hE B0
  have HG := Fk.hide g0
  obtain ⟨a, cap, rfl, _⟩ := g0
  go_enter Tryz.func4, Tryz.ntmps4
  go_wp2_with fail
  rw [← HW.out]
  refine (szFs_any _ _ _ _ (HG.out.below HB0.out) x0 n0 (by decide) (by decide)).mono ?_
  rintro e W1 ⟨⟨r, rfl, hr⟩, k1⟩
  have HB1 : Hid (Below w.heap.size w W1) := HB0.out.trans (k1.mono HB0.out.size)
  have hz1 : W0.heap.size ≤ W1.heap.size := k1.size
  have cA1 : W1.cell? ⟨w.heap.size, 0, none⟩ = some (.slice a L0.length cap) := (k1.cell (by show w.heap.size < _; omega)).trans cA0
  clear cA0 
  clear k1
  rcases hr with rfl | ⟨hr0, hr⟩
  · go_wp2_with fail
    go_ret
    exact ⟨rfl, HB1.out⟩
  have hl : L0.length ≤ 1048576 := by omega
  clear hr
  go_wp2_with fail
  refine (toFs_any _ _ _ (HG.out.below HB1.out) hl).mono ?_
  rintro e W2 ⟨⟨u2, rfl, ou2⟩, k2⟩
  obtain ⟨au2, ju2, rfl⟩ := ou2.slice
  have HB2 : Hid (Below w.heap.size w W2) := HB1.out.trans (k2.mono HB1.out.size)
  have hz2 : W1.heap.size ≤ W2.heap.size := k2.size
  have cA2 : W2.cell? ⟨w.heap.size, 0, none⟩ = some (.slice a L0.length cap) := (k2.cell (by show w.heap.size < _; omega)).trans cA1
  clear cA1 
  clear k2
  go_wp2_with fail
  refine (journalClean_spec _ L0  _ _ ou2 x0 n0  ).mono ?_
  rintro e W3 ⟨⟨uw, R, c, rfl, ow3, hA⟩, k3⟩
  obtain ⟨aw, jw, rfl⟩ := ow3.slice
  have HB3 : Hid (Below w.heap.size w W3) := HB2.out.trans (k3.mono HB2.out.size)
  have hz3 : W2.heap.size ≤ W3.heap.size := k3.size
  have cA3 : W3.cell? ⟨w.heap.size, 0, none⟩ = some (.slice a L0.length cap) := (k3.cell (by show w.heap.size < _; omega)).trans cA2
  clear cA2 
  clear k3 ou2
  have HWb : Hid (∀ k, (Value.slice aw R.length jw).ownBlock = some k → k < W3.heap.size) := fun k hk => (World.ownsRow.lt ow3 k hk).2
  have HA := Fk.hide hA
  clear hA
  obtain ⟨W4, hW4⟩ : ∃ W, W = W3.alloc (.cells #[.slice aw R.length jw, .int .i64 c] 30) := ⟨_, rfl⟩
  have k4 : Below W3.heap.size W3 W4 := by rw [hW4]; exact (Below.refl _ _).alloc (Nat.le_refl _) _
  have hy4 : W3.heap.size < W4.heap.size := by rw [hW4]; simp
  have sw4 : W4.cell? ⟨W3.heap.size, 0, none⟩ = some (.slice aw R.length jw) := by rw [hW4, Fk.cellTop _ _ _ _ _ rfl]; rfl
  have tw4 : W4.cell? ⟨W3.heap.size, 1, none⟩ = some (.int .i64 c) := by rw [hW4, Fk.cellTop _ _ _ _ _ rfl]; rfl
  have HB4 : Hid (Below w.heap.size w W4) := HB3.out.trans (k4.mono HB3.out.size)
  have hz4 : W3.heap.size ≤ W4.heap.size := k4.size
  have cA4 : W4.cell? ⟨w.heap.size, 0, none⟩ = some (.slice a L0.length cap) := (k4.cell (by show w.heap.size < _; omega)).trans cA3
  have ow4 := ow3.below k4
  clear cA3 ow3
  have HW4 := Fk.hide hW4
  clear hW4 k4
  have cAx : (W3.alloc (.cells #[.slice aw R.length jw, .int .i64 c] 30)).cell? ⟨w.heap.size, 0, none⟩ = some (.slice a L0.length cap) := by rw [← HW4.out]; exact cA4
  go_wp2_with fail
  rw [← HW4.out]
  clear cAx
  refine (toFs_any _ _ _ (HG.out.below HB4.out) hl).mono ?_
  rintro e W5 ⟨⟨u5, rfl, ox5⟩, k5⟩
  obtain ⟨a5, j5, rfl⟩ := ox5.slice
  have HB5 : Hid (Below w.heap.size w W5) := HB4.out.trans (k5.mono HB4.out.size)
  have hz5 : W4.heap.size ≤ W5.heap.size := k5.size
  have cA5 : W5.cell? ⟨w.heap.size, 0, none⟩ = some (.slice a L0.length cap) := (k5.cell (by show w.heap.size < _; omega)).trans cA4
  have sw5 : W5.cell? ⟨W3.heap.size, 0, none⟩ = some (.slice aw R.length jw) := (k5.cell (by show W3.heap.size < _; omega)).trans sw4
  have tw5 : W5.cell? ⟨W3.heap.size, 1, none⟩ = some (.int .i64 c) := (k5.cell (by show W3.heap.size < _; omega)).trans tw4
  have ow5 := ow4.below k5
  clear cA4 sw4 tw4 ow4
  clear k5
  have HXb : Hid (∀ k, (Value.slice a5 L0.length j5).ownBlock = some k → W4.heap.size ≤ k ∧ k < W5.heap.size) := fun k hk => World.ownsRow.lt ox5 k hk
  obtain ⟨W6, hW6⟩ : ∃ W, W = W5.alloc (.cells #[.slice a5 L0.length j5] 28) := ⟨_, rfl⟩
  have k6 : Below W5.heap.size W5 W6 := by rw [hW6]; exact (Below.refl _ _).alloc (Nat.le_refl _) _
  have hy6 : W5.heap.size < W6.heap.size := by rw [hW6]; simp
  have sx6 : W6.cell? ⟨W5.heap.size, 0, none⟩ = some (.slice a5 L0.length j5) := by rw [hW6, Fk.cellTop _ _ _ _ _ rfl]; rfl
  have HB6 : Hid (Below w.heap.size w W6) := HB5.out.trans (k6.mono HB5.out.size)
  have hz6 : W5.heap.size ≤ W6.heap.size := k6.size
  have cA6 : W6.cell? ⟨w.heap.size, 0, none⟩ = some (.slice a L0.length cap) := (k6.cell (by show w.heap.size < _; omega)).trans cA5
  have sw6 : W6.cell? ⟨W3.heap.size, 0, none⟩ = some (.slice aw R.length jw) := (k6.cell (by show W3.heap.size < _; omega)).trans sw5
  have tw6 : W6.cell? ⟨W3.heap.size, 1, none⟩ = some (.int .i64 c) := (k6.cell (by show W3.heap.size < _; omega)).trans tw5
  have ow6 := ow5.below k6
  have ox6 := ox5.below k6
  clear cA5 sw5 tw5 ow5 ox5
  have HW6 := Fk.hide hW6
  clear hW6 k6
  go_wp2_with fail
  rw [← HW6.out]
  refine (journalClean_impl _ L0  b0 b1 b2 b3 b4 _ ox6.view x0 n0  (HE.out.below HB6.out) ).mono ?_
  rintro e W7 ⟨⟨ug, R', c', rfl, og7, hA'⟩, k7⟩
  have hone := hA'.one HA.out
  rw [hone.1] at og7
  rw [hone.2]
  clear hA' hone
  obtain ⟨ag, jg, rfl⟩ := og7.slice
  have HB7 : Hid (Below w.heap.size w W7) := HB6.out.trans (k7.mono HB6.out.size)
  have hz7 : W6.heap.size ≤ W7.heap.size := k7.size
  have cA7 : W7.cell? ⟨w.heap.size, 0, none⟩ = some (.slice a L0.length cap) := (k7.cell (by show w.heap.size < _; omega)).trans cA6
  have sw7 : W7.cell? ⟨W3.heap.size, 0, none⟩ = some (.slice aw R.length jw) := (k7.cell (by show W3.heap.size < _; omega)).trans sw6
  have tw7 : W7.cell? ⟨W3.heap.size, 1, none⟩ = some (.int .i64 c) := (k7.cell (by show W3.heap.size < _; omega)).trans tw6
  have sx7 : W7.cell? ⟨W5.heap.size, 0, none⟩ = some (.slice a5 L0.length j5) := (k7.cell (by show W5.heap.size < _; omega)).trans sx6
  have ow7 := ow6.below k7
  have ox7 := ox6.below k7
  clear cA6 sw6 tw6 sx6 ow6 ox6
  clear k7
  have HGb : Hid (∀ k, (Value.slice ag _ jg).ownBlock = some k → W6.heap.size ≤ k ∧ k < W7.heap.size) := fun k hk => World.ownsRow.lt og7 k hk
  obtain ⟨W8, hW8⟩ : ∃ W, W = W7.alloc (.cells #[.slice ag R.length jg, .int .i64 c] 30) := ⟨_, rfl⟩
  have k8 : Below W7.heap.size W7 W8 := by rw [hW8]; exact (Below.refl _ _).alloc (Nat.le_refl _) _
  have hy8 : W7.heap.size < W8.heap.size := by rw [hW8]; simp
  have sg8 : W8.cell? ⟨W7.heap.size, 0, none⟩ = some (.slice ag R.length jg) := by rw [hW8, Fk.cellTop _ _ _ _ _ rfl]; rfl
  have tg8 : W8.cell? ⟨W7.heap.size, 1, none⟩ = some (.int .i64 c) := by rw [hW8, Fk.cellTop _ _ _ _ _ rfl]; rfl
  have HB8 : Hid (Below w.heap.size w W8) := HB7.out.trans (k8.mono HB7.out.size)
  have hz8 : W7.heap.size ≤ W8.heap.size := k8.size
  have e80 : (W7.alloc (.cells #[.slice ag R.length jg, .int .i64 c] 30)).cell? ⟨W3.heap.size, 0, none⟩ = some (.slice aw R.length jw) := by rw [Fk.cellOld _ _ _ _ (by omega)]; exact sw7
  have e81 : (W7.alloc (.cells #[.slice ag R.length jg, .int .i64 c] 30)).cell? ⟨W3.heap.size, 1, none⟩ = some (.int .i64 c) := by rw [Fk.cellOld _ _ _ _ (by omega)]; exact tw7
  have cA8 : W8.cell? ⟨w.heap.size, 0, none⟩ = some (.slice a L0.length cap) := (k8.cell (by show w.heap.size < _; omega)).trans cA7
  have sw8 : W8.cell? ⟨W3.heap.size, 0, none⟩ = some (.slice aw R.length jw) := (k8.cell (by show W3.heap.size < _; omega)).trans sw7
  have tw8 : W8.cell? ⟨W3.heap.size, 1, none⟩ = some (.int .i64 c) := (k8.cell (by show W3.heap.size < _; omega)).trans tw7
  have sx8 : W8.cell? ⟨W5.heap.size, 0, none⟩ = some (.slice a5 L0.length j5) := (k8.cell (by show W5.heap.size < _; omega)).trans sx7
  have ow8 := ow7.below k8
  have ox8 := ox7.below k8
  have og8 := og7.below k8
  clear cA7 sw7 tw7 sx7 ow7 ox7 og7
  have HW8 := Fk.hide hW8
  clear hW8 k8
  go_wp2_with fail
  rw [← HW8.out]
  clear e80 e81
  have hRl : R.length ≤ 1048576 := Fk.ans_short HA.out (Jn.clean_short L0 )
  refine (eqFsOut_same _ _ R c _ og8.view ow8.view hRl).mono ?_
  rintro e W9 ⟨rfl, k9⟩
  have HB9 : Hid (Below w.heap.size w W9) := HB8.out.trans (k9.mono HB8.out.size)
  have hz9 : W8.heap.size ≤ W9.heap.size := k9.size
  have cA9 : W9.cell? ⟨w.heap.size, 0, none⟩ = some (.slice a L0.length cap) := (k9.cell (by show w.heap.size < _; omega)).trans cA8
  have sw9 : W9.cell? ⟨W3.heap.size, 0, none⟩ = some (.slice aw R.length jw) := (k9.cell (by show W3.heap.size < _; omega)).trans sw8
  have tw9 : W9.cell? ⟨W3.heap.size, 1, none⟩ = some (.int .i64 c) := (k9.cell (by show W3.heap.size < _; omega)).trans tw8
  have sx9 : W9.cell? ⟨W5.heap.size, 0, none⟩ = some (.slice a5 L0.length j5) := (k9.cell (by show W5.heap.size < _; omega)).trans sx8
  have sg9 : W9.cell? ⟨W7.heap.size, 0, none⟩ = some (.slice ag R.length jg) := (k9.cell (by show W7.heap.size < _; omega)).trans sg8
  have tg9 : W9.cell? ⟨W7.heap.size, 1, none⟩ = some (.int .i64 c) := (k9.cell (by show W7.heap.size < _; omega)).trans tg8
  have ow9 := ow8.below k9
  have ox9 := ox8.below k9
  have og9 := og8.below k9
  clear cA8 sw8 tw8 sx8 sg8 tg8 ow8 ox8 og8
  clear k9
  go_wp2_with fail
  have vd : Fk.View W9.drew (.slice a L0.length cap) L0 := (HG.out.below HB9.out).below (Below.drew (Below.refl _ _))
  have od := ox9.below (Below.drew (Below.refl W9.heap.size W9))
  go_region_with (first
    | (go_at_call 7; refine (toFs_any _ _ _ vd hl).mono ?_; rintro e X1 ⟨⟨ux, rfl, oxx⟩, m1⟩; obtain ⟨ax, jx, rfl⟩ := oxx.slice; have dx : X1.cell? ⟨W5.heap.size, 0, none⟩ = some (.slice a5 L0.length j5) := (m1.cell (by show W5.heap.size < W9.heap.size; omega)).trans sx9)
    | (go_at_call 10; refine (eqFs_same _ _ L0 _ (od.below m1).view oxx.view hl).mono ?_; rintro e W10 ⟨rfl, m2⟩))
  all_goals
    have k10 : Below W9.heap.size W9 W10 := (Below.trans (Below.drew (Below.refl _ _)) m1).trans (m2.mono m1.size)
    have HB10 : Hid (Below w.heap.size w W10) := HB9.out.trans (k10.mono HB9.out.size)
    have hz10 : W9.heap.size ≤ W10.heap.size := k10.size
    have cA10 : W10.cell? ⟨w.heap.size, 0, none⟩ = some (.slice a L0.length cap) := (k10.cell (by show w.heap.size < _; omega)).trans cA9
    have sw10 : W10.cell? ⟨W3.heap.size, 0, none⟩ = some (.slice aw R.length jw) := (k10.cell (by show W3.heap.size < _; omega)).trans sw9
    have tw10 : W10.cell? ⟨W3.heap.size, 1, none⟩ = some (.int .i64 c) := (k10.cell (by show W3.heap.size < _; omega)).trans tw9
    have sx10 : W10.cell? ⟨W5.heap.size, 0, none⟩ = some (.slice a5 L0.length j5) := (k10.cell (by show W5.heap.size < _; omega)).trans sx9
    have sg10 : W10.cell? ⟨W7.heap.size, 0, none⟩ = some (.slice ag R.length jg) := (k10.cell (by show W7.heap.size < _; omega)).trans sg9
    have tg10 : W10.cell? ⟨W7.heap.size, 1, none⟩ = some (.int .i64 c) := (k10.cell (by show W7.heap.size < _; omega)).trans tg9
    have ow10 := ow9.below k10
    have ox10 := ox9.below k10
    have og10 := og9.below k10
    clear cA9 sw9 tw9 sx9 sg9 tg9 ow9 ox9 og9
    clear k10 m1 m2 vd od oxx dx
    go_wp2_with fail
    refine (markFs_any _ L0 1 W4.heap.size _ ox10 hl (by decide) (by decide)).mono ?_
    rintro e W11 ⟨⟨rfl, _⟩, k11⟩
    have HB11 : Hid (Below w.heap.size w W11) := HB10.out.grown k11 HB10.out.size (fun k hk => by have := HXb.out k hk; omega)
    have hz11 : W10.heap.size ≤ W11.heap.size := k11.size
    have ow11 := ow10.kept k11 (fun k hk e => by have h1 := HWb.out k hk; have h2 := HXb.out k e.symm; omega)
    have og11 := og10.kept k11 (fun k hk e => by have h1 := HGb.out k hk; have h2 := HXb.out k e.symm; omega)
    have cA11 : W11.cell? ⟨w.heap.size, 0, none⟩ = some (.slice a L0.length cap) := k11.cell cA10 (fun e => by have := HXb.out _ e.symm; simp only at this; omega)
    have sw11 : W11.cell? ⟨W3.heap.size, 0, none⟩ = some (.slice aw R.length jw) := k11.cell sw10 (fun e => by have := HXb.out _ e.symm; simp only at this; omega)
    have tw11 : W11.cell? ⟨W3.heap.size, 1, none⟩ = some (.int .i64 c) := k11.cell tw10 (fun e => by have := HXb.out _ e.symm; simp only at this; omega)
    have sx11 : W11.cell? ⟨W5.heap.size, 0, none⟩ = some (.slice a5 L0.length j5) := k11.cell sx10 (fun e => by have := HXb.out _ e.symm; simp only at this; omega)
    have sg11 : W11.cell? ⟨W7.heap.size, 0, none⟩ = some (.slice ag R.length jg) := k11.cell sg10 (fun e => by have := HXb.out _ e.symm; simp only at this; omega)
    have tg11 : W11.cell? ⟨W7.heap.size, 1, none⟩ = some (.int .i64 c) := k11.cell tg10 (fun e => by have := HXb.out _ e.symm; simp only at this; omega)
    clear cA10 sw10 tw10 sx10 sg10 tg10
    clear k11 ow10 og10 ox10
    obtain ⟨q1, hq1⟩ : ∃ q : Int, q = ((1 + 3 * L0.length : Nat) : Int) := ⟨_, rfl⟩
    have hq10 : 0 ≤ q1 := by omega
    rw [← hq1]
    clear hq1
    go_wp2_with fail
    refine (eqFsOut_same _ _ R c _ og11.view ow11.view hRl).mono ?_
    rintro e W12 ⟨rfl, k12⟩
    have HB12 : Hid (Below w.heap.size w W12) := HB11.out.trans (k12.mono HB11.out.size)
    have hz12 : W11.heap.size ≤ W12.heap.size := k12.size
    have cA12 : W12.cell? ⟨w.heap.size, 0, none⟩ = some (.slice a L0.length cap) := (k12.cell (by show w.heap.size < _; omega)).trans cA11
    have sw12 : W12.cell? ⟨W3.heap.size, 0, none⟩ = some (.slice aw R.length jw) := (k12.cell (by show W3.heap.size < _; omega)).trans sw11
    have tw12 : W12.cell? ⟨W3.heap.size, 1, none⟩ = some (.int .i64 c) := (k12.cell (by show W3.heap.size < _; omega)).trans tw11
    have sx12 : W12.cell? ⟨W5.heap.size, 0, none⟩ = some (.slice a5 L0.length j5) := (k12.cell (by show W5.heap.size < _; omega)).trans sx11
    have sg12 : W12.cell? ⟨W7.heap.size, 0, none⟩ = some (.slice ag R.length jg) := (k12.cell (by show W7.heap.size < _; omega)).trans sg11
    have tg12 : W12.cell? ⟨W7.heap.size, 1, none⟩ = some (.int .i64 c) := (k12.cell (by show W7.heap.size < _; omega)).trans tg11
    have ow12 := ow11.below k12
    have og12 := og11.below k12
    clear cA11 sw11 tw11 sx11 sg11 tg11 ow11 og11
    clear k12
    go_wp2_with fail
    refine (markFsOut_any _ R c 1 W6.heap.size _ og12 hRl (by decide) (by decide)).mono ?_
    rintro e W13 ⟨⟨rfl, og13⟩, k13⟩
    have HB13 : Hid (Below w.heap.size w W13) := HB12.out.grown k13 HB12.out.size (fun k hk => by have := HGb.out k hk; omega)
    have hz13 : W12.heap.size ≤ W13.heap.size := k13.size
    have ow13 := ow12.kept k13 (fun k hk e => by have h1 := HWb.out k hk; have h2 := HGb.out k e.symm; omega)
    have cA13 : W13.cell? ⟨w.heap.size, 0, none⟩ = some (.slice a L0.length cap) := k13.cell cA12 (fun e => by have := HGb.out _ e.symm; simp only at this; omega)
    have sw13 : W13.cell? ⟨W3.heap.size, 0, none⟩ = some (.slice aw R.length jw) := k13.cell sw12 (fun e => by have := HGb.out _ e.symm; simp only at this; omega)
    have tw13 : W13.cell? ⟨W3.heap.size, 1, none⟩ = some (.int .i64 c) := k13.cell tw12 (fun e => by have := HGb.out _ e.symm; simp only at this; omega)
    have sx13 : W13.cell? ⟨W5.heap.size, 0, none⟩ = some (.slice a5 L0.length j5) := k13.cell sx12 (fun e => by have := HGb.out _ e.symm; simp only at this; omega)
    have sg13 : W13.cell? ⟨W7.heap.size, 0, none⟩ = some (.slice ag R.length jg) := k13.cell sg12 (fun e => by have := HGb.out _ e.symm; simp only at this; omega)
    have tg13 : W13.cell? ⟨W7.heap.size, 1, none⟩ = some (.int .i64 c) := k13.cell tg12 (fun e => by have := HGb.out _ e.symm; simp only at this; omega)
    clear cA12 sw12 tw12 sx12 sg12 tg12
    clear k13 ow12 og12
    obtain ⟨q2, hq2⟩ : ∃ q : Int, q = ((1 + 3 * R.length : Nat) : Int) := ⟨_, rfl⟩
    have hq20 : 0 ≤ q2 := by omega
    rw [← hq2]
    have HQ2 := Fk.hide hq2
    clear hq2
    go_wp2_with fail
    refine (heldFsOut_any _ R.length 1 c _ og13.view hRl (by decide) (by decide)).mono ?_
    rintro e W14 ⟨rfl, k14⟩
    rw [← HQ2.out]
    have HB14 : Hid (Below w.heap.size w W14) := HB13.out.trans (k14.mono HB13.out.size)
    have hz14 : W13.heap.size ≤ W14.heap.size := k14.size
    have cA14 : W14.cell? ⟨w.heap.size, 0, none⟩ = some (.slice a L0.length cap) := (k14.cell (by show w.heap.size < _; omega)).trans cA13
    have sw14 : W14.cell? ⟨W3.heap.size, 0, none⟩ = some (.slice aw R.length jw) := (k14.cell (by show W3.heap.size < _; omega)).trans sw13
    have tw14 : W14.cell? ⟨W3.heap.size, 1, none⟩ = some (.int .i64 c) := (k14.cell (by show W3.heap.size < _; omega)).trans tw13
    have sx14 : W14.cell? ⟨W5.heap.size, 0, none⟩ = some (.slice a5 L0.length j5) := (k14.cell (by show W5.heap.size < _; omega)).trans sx13
    have sg14 : W14.cell? ⟨W7.heap.size, 0, none⟩ = some (.slice ag R.length jg) := (k14.cell (by show W7.heap.size < _; omega)).trans sg13
    have tg14 : W14.cell? ⟨W7.heap.size, 1, none⟩ = some (.int .i64 c) := (k14.cell (by show W7.heap.size < _; omega)).trans tg13
    have ow14 := ow13.below k14
    have og14 := og13.below k14
    clear cA13 sw13 tw13 sx13 sg13 tg13 ow13 og13
    clear k14
    go_wp2_with fail
    refine (toFs_any _ _ _ (HG.out.below HB14.out) hl).mono ?_
    rintro e W15 ⟨⟨u15, rfl, ou15⟩, k15⟩
    obtain ⟨au15, ju15, rfl⟩ := ou15.slice
    have HB15 : Hid (Below w.heap.size w W15) := HB14.out.trans (k15.mono HB14.out.size)
    have hz15 : W14.heap.size ≤ W15.heap.size := k15.size
    have cA15 : W15.cell? ⟨w.heap.size, 0, none⟩ = some (.slice a L0.length cap) := (k15.cell (by show w.heap.size < _; omega)).trans cA14
    have sw15 : W15.cell? ⟨W3.heap.size, 0, none⟩ = some (.slice aw R.length jw) := (k15.cell (by show W3.heap.size < _; omega)).trans sw14
    have tw15 : W15.cell? ⟨W3.heap.size, 1, none⟩ = some (.int .i64 c) := (k15.cell (by show W3.heap.size < _; omega)).trans tw14
    have sx15 : W15.cell? ⟨W5.heap.size, 0, none⟩ = some (.slice a5 L0.length j5) := (k15.cell (by show W5.heap.size < _; omega)).trans sx14
    have sg15 : W15.cell? ⟨W7.heap.size, 0, none⟩ = some (.slice ag R.length jg) := (k15.cell (by show W7.heap.size < _; omega)).trans sg14
    have tg15 : W15.cell? ⟨W7.heap.size, 1, none⟩ = some (.int .i64 c) := (k15.cell (by show W7.heap.size < _; omega)).trans tg14
    have ow15 := ow14.below k15
    have og15 := og14.below k15
    clear cA14 sw14 tw14 sx14 sg14 tg14 ow14 og14
    clear k15
    go_wp2_with fail
    refine (journalClean_impl _ L0  b0 b1 b2 b3 b4 _ ou15.view x0 n0  (HE.out.below HB15.out) ).mono ?_
    rintro e W16 ⟨⟨uh, Rh, ch, rfl, oh16, hAh⟩, k16⟩
    have hone := hAh.one HA.out
    rw [hone.1] at oh16
    rw [hone.2]
    clear hAh hone
    obtain ⟨ah, jh, rfl⟩ := oh16.slice
    have HB16 : Hid (Below w.heap.size w W16) := HB15.out.trans (k16.mono HB15.out.size)
    have hz16 : W15.heap.size ≤ W16.heap.size := k16.size
    have cA16 : W16.cell? ⟨w.heap.size, 0, none⟩ = some (.slice a L0.length cap) := (k16.cell (by show w.heap.size < _; omega)).trans cA15
    have sw16 : W16.cell? ⟨W3.heap.size, 0, none⟩ = some (.slice aw R.length jw) := (k16.cell (by show W3.heap.size < _; omega)).trans sw15
    have tw16 : W16.cell? ⟨W3.heap.size, 1, none⟩ = some (.int .i64 c) := (k16.cell (by show W3.heap.size < _; omega)).trans tw15
    have sx16 : W16.cell? ⟨W5.heap.size, 0, none⟩ = some (.slice a5 L0.length j5) := (k16.cell (by show W5.heap.size < _; omega)).trans sx15
    have sg16 : W16.cell? ⟨W7.heap.size, 0, none⟩ = some (.slice ag R.length jg) := (k16.cell (by show W7.heap.size < _; omega)).trans sg15
    have tg16 : W16.cell? ⟨W7.heap.size, 1, none⟩ = some (.int .i64 c) := (k16.cell (by show W7.heap.size < _; omega)).trans tg15
    have ow16 := ow15.below k16
    have og16 := og15.below k16
    clear cA15 sw15 tw15 sx15 sg15 tg15 ow15 og15
    clear k16 ou15
    obtain ⟨W17, hW17⟩ : ∃ W, W = W16.alloc (.cells #[.slice ah R.length jh, .int .i64 c] 30) := ⟨_, rfl⟩
    have k17 : Below W16.heap.size W16 W17 := by rw [hW17]; exact (Below.refl _ _).alloc (Nat.le_refl _) _
    have hy17 : W16.heap.size < W17.heap.size := by rw [hW17]; simp
    have HB17 : Hid (Below w.heap.size w W17) := HB16.out.trans (k17.mono HB16.out.size)
    have hz17 : W16.heap.size ≤ W17.heap.size := k17.size
    have e80 : (W16.alloc (.cells #[.slice ah R.length jh, .int .i64 c] 30)).cell? ⟨W3.heap.size, 0, none⟩ = some (.slice aw R.length jw) := by rw [Fk.cellOld _ _ _ _ (by omega)]; exact sw16
    have e81 : (W16.alloc (.cells #[.slice ah R.length jh, .int .i64 c] 30)).cell? ⟨W3.heap.size, 1, none⟩ = some (.int .i64 c) := by rw [Fk.cellOld _ _ _ _ (by omega)]; exact tw16
    have cA17 : W17.cell? ⟨w.heap.size, 0, none⟩ = some (.slice a L0.length cap) := (k17.cell (by show w.heap.size < _; omega)).trans cA16
    have sw17 : W17.cell? ⟨W3.heap.size, 0, none⟩ = some (.slice aw R.length jw) := (k17.cell (by show W3.heap.size < _; omega)).trans sw16
    have tw17 : W17.cell? ⟨W3.heap.size, 1, none⟩ = some (.int .i64 c) := (k17.cell (by show W3.heap.size < _; omega)).trans tw16
    have sx17 : W17.cell? ⟨W5.heap.size, 0, none⟩ = some (.slice a5 L0.length j5) := (k17.cell (by show W5.heap.size < _; omega)).trans sx16
    have sg17 : W17.cell? ⟨W7.heap.size, 0, none⟩ = some (.slice ag R.length jg) := (k17.cell (by show W7.heap.size < _; omega)).trans sg16
    have tg17 : W17.cell? ⟨W7.heap.size, 1, none⟩ = some (.int .i64 c) := (k17.cell (by show W7.heap.size < _; omega)).trans tg16
    have ow17 := ow16.below k17
    have og17 := og16.below k17
    have oh17 := oh16.below k17
    clear cA16 sw16 tw16 sx16 sg16 tg16 ow16 og16 oh16
    have HW17 := Fk.hide hW17
    clear hW17 k17
    go_wp2_with fail
    rw [← HW17.out]
    clear e80 e81
    refine (eqFsOut_same _ _ R c _ oh17.view ow17.view hRl).mono ?_
    rintro e W18 ⟨rfl, k18⟩
    have HB18 : Hid (Below w.heap.size w W18) := HB17.out.trans (k18.mono HB17.out.size)
    have hz18 : W17.heap.size ≤ W18.heap.size := k18.size
    have cA18 : W18.cell? ⟨w.heap.size, 0, none⟩ = some (.slice a L0.length cap) := (k18.cell (by show w.heap.size < _; omega)).trans cA17
    have sw18 : W18.cell? ⟨W3.heap.size, 0, none⟩ = some (.slice aw R.length jw) := (k18.cell (by show W3.heap.size < _; omega)).trans sw17
    have tw18 : W18.cell? ⟨W3.heap.size, 1, none⟩ = some (.int .i64 c) := (k18.cell (by show W3.heap.size < _; omega)).trans tw17
    have sx18 : W18.cell? ⟨W5.heap.size, 0, none⟩ = some (.slice a5 L0.length j5) := (k18.cell (by show W5.heap.size < _; omega)).trans sx17
    have sg18 : W18.cell? ⟨W7.heap.size, 0, none⟩ = some (.slice ag R.length jg) := (k18.cell (by show W7.heap.size < _; omega)).trans sg17
    have tg18 : W18.cell? ⟨W7.heap.size, 1, none⟩ = some (.int .i64 c) := (k18.cell (by show W7.heap.size < _; omega)).trans tg17
    have ow18 := ow17.below k18
    have og18 := og17.below k18
    have oh18 := oh17.below k18
    clear cA17 sw17 tw17 sx17 sg17 tg17 ow17 og17 oh17
    clear k18
    go_wp2_with fail
    refine (heldFsOut_any _ R.length 1 c _ og18.view hRl (by decide) (by decide)).mono ?_
    rintro e W19 ⟨rfl, k19⟩
    rw [← HQ2.out]
    have HB19 : Hid (Below w.heap.size w W19) := HB18.out.trans (k19.mono HB18.out.size)
    have hz19 : W18.heap.size ≤ W19.heap.size := k19.size
    go_wp2_with fail
    go_ret
    exact ⟨rfl, HB19.out⟩

theorem ne_text {W : World} {a b : Addr} {s t : ByteArray} {x y : List UInt8} (h1 : W.cell? a = some (.string s)) (h2 : W.cell? b = some (.string t)) (e1 : s.data.toList = x) (e2 : t.data.toList = y) (hne : x ≠ y) : a ≠ b := by
  rintro rfl
  rw [h1] at h2
  simp only [Option.some.injEq, Value.string.injEq] at h2
  subst h2
  exact hne (e1.symm.trans e2)

/-- what the condition gives the walk: the five errors -/
theorem errs_of_laid {W : World} (h : laidMetH Tryz.prog Rows.fnExactJournalCleanRow.laid W) : ∃ b0 b1 b2 b3 b4, Is.Errs W b0 b1 b2 b3 b4 := by
  have h0 : laidMet Tryz.prog Rows.fnExactJournalCleanRow.laid W := h
  obtain ⟨q0, q1, s0, s1, _, _, _, _, hv0, hv1, hc0, hs0, _, hc1, hs1, _, _, hb0, hb1⟩ := laid_sentinels2 h0 g0 g0t g1 g1t Tryz.underlying49 row1 Tryz.underlying166 Tryz.underlying191 rfl rfl Tryz.underlying9 (by kernel_rfl) (by kernel_rfl)
  obtain ⟨q2, q3, s2, s3, _, _, _, _, hv2, hv3, hc2, hs2, _, hc3, hs3, _, _, hb2, hb3⟩ := laid_sentinels2 h0.tail.tail g2 g2t g3 g3t Tryz.underlying49 row1 Tryz.underlying166 Tryz.underlying191 rfl rfl Tryz.underlying9 (by kernel_rfl) (by kernel_rfl)
  obtain ⟨_, q4, _, s4, _, _, _, _, _, hv4, _, _, _, hc4, hs4, _, _, _, hb4⟩ := laid_sentinels2 h0.tail.tail.tail g3 g3t g4 g4t Tryz.underlying49 row1 Tryz.underlying166 Tryz.underlying191 rfl rfl Tryz.underlying9 (by kernel_rfl) (by kernel_rfl)
  refine ⟨q0, q1, q2, q3, q4, ?_, ?_, ?_, ?_, ?_, ⟨_, _, hb0⟩, ⟨_, _, hb1⟩, ⟨_, _, hb2⟩, ⟨_, _, hb3⟩, ⟨_, _, hb4⟩, ?_⟩
  · simpa [Is.ev] using World.var?_cell g0 hv0 0
  · simpa [Is.ev] using World.var?_cell g1 hv1 0
  · simpa [Is.ev] using World.var?_cell g2 hv2 0
  · simpa [Is.ev] using World.var?_cell g3 hv3 0
  · simpa [Is.ev] using World.var?_cell g4 hv4 0
  · simp only [List.pairwise_cons, List.mem_cons, List.not_mem_nil, or_false, forall_eq_or_imp, forall_eq, List.Pairwise.nil, and_true, false_implies, implies_true]
    exact ⟨⟨ne_text hc0 hc1 hs0 hs1 (by decide), ne_text hc0 hc2 hs0 hs2 (by decide), ne_text hc0 hc3 hs0 hs3 (by decide), ne_text hc0 hc4 hs0 hs4 (by decide)⟩,
      ⟨ne_text hc1 hc2 hs1 hs2 (by decide), ne_text hc1 hc3 hs1 hs3 (by decide), ne_text hc1 hc4 hs1 hs4 (by decide)⟩,
      ⟨ne_text hc2 hc3 hs2 hs3 (by decide), ne_text hc2 hc4 hs2 hs4 (by decide)⟩, ne_text hc3 hc4 hs3 hs4 (by decide)⟩

theorem vars_len {H : Type} {enc : TypeId × Value → H} {P : Program} {w : World} {sp : Nat → Bool} : ∀ {ns : List String} {gs : List (DataW H)} {ps : List MemPlace}, DataW.TrodVars enc P w sp ns gs ps → gs.length = ns.length
  | [], [], _, _ => rfl
  | [], _ :: _, _, h => h.elim
  | _ :: _, [], _, h => h.elim
  | _ :: _, _ :: _, _, h => by
    obtain ⟨_, _, _, _, _, _, _, _, _, _, hr, _⟩ := h
    simp [vars_len hr]

set_option maxRecDepth 100000 in
theorem lifted (os : Os) (started : os.Started) (H : Type) (enc : TypeId × Value → H) :
    ReturnsInHanded {} Tryz.checked os 4 .any (fun w args => (Rows.fnExactJournalCleanSpec.pre enc Tryz.prog Tryz.f4 [] false w args ∧ laidMetH Tryz.prog Rows.fnExactJournalCleanRow.laid w) ∧ sizedMet enc Tryz.prog Tryz.f4 (OpenSpec.ofChange Rows.fnExactJournalCleanSpec) false w args)
      (Rows.fnExactJournalCleanSpec.post enc Tryz.prog Tryz.f4 false true false false) := by
  refine returnsInHanded_of_change_and (C := Tryz.checked) (X := fun w _ => laidMetH Tryz.prog Rows.fnExactJournalCleanRow.laid w) (fun _ _ _ hh h => h.of_heap hh) own started (by kernel_rfl) Tryz.func4
    (ChangeSpec.witness_at (enc := enc) (C := Tryz.checked) (os := os) (X := fun w _ => laidMetH Tryz.prog Rows.fnExactJournalCleanRow.laid w) false
      { World.holding Tryz.prog os ⟨#[.cells #[.string { data := #[97, 32, 116, 101, 120, 116, 32, 105, 115, 32, 116, 111, 111, 32, 108, 111, 110, 103] }] 191, .cells #[.string { data := #[116, 104, 101, 32, 102, 105, 108, 101, 115, 32, 111, 114, 32, 97, 32, 110, 97, 109, 101, 32, 97, 114, 101, 32, 110, 111, 116, 32, 114, 105, 103, 104, 116] }] 191, .cells #[.string { data := #[116, 104, 101, 114, 101, 32, 105, 115, 32, 110, 111, 32, 102, 105, 108, 101, 32, 111, 102, 32, 116, 104, 97, 116, 32, 110, 97, 109, 101] }] 191, .cells #[.string { data := #[116, 104, 101, 32, 102, 105, 108, 101, 32, 100, 111, 101, 115, 32, 110, 111, 116, 32, 104, 97, 118, 101, 32, 116, 104, 97, 116, 32, 115, 105, 122, 101] }] 191, .cells #[.string { data := #[116, 104, 101, 114, 101, 32, 105, 115, 32, 110, 111, 32, 114, 111, 111, 109, 32, 102, 111, 114, 32, 105, 116] }] 191], #[], []⟩ with heap := ((((((World.holding Tryz.prog os ⟨#[.cells #[.string { data := #[97, 32, 116, 101, 120, 116, 32, 105, 115, 32, 116, 111, 111, 32, 108, 111, 110, 103] }] 191, .cells #[.string { data := #[116, 104, 101, 32, 102, 105, 108, 101, 115, 32, 111, 114, 32, 97, 32, 110, 97, 109, 101, 32, 97, 114, 101, 32, 110, 111, 116, 32, 114, 105, 103, 104, 116] }] 191, .cells #[.string { data := #[116, 104, 101, 114, 101, 32, 105, 115, 32, 110, 111, 32, 102, 105, 108, 101, 32, 111, 102, 32, 116, 104, 97, 116, 32, 110, 97, 109, 101] }] 191, .cells #[.string { data := #[116, 104, 101, 32, 102, 105, 108, 101, 32, 100, 111, 101, 115, 32, 110, 111, 116, 32, 104, 97, 118, 101, 32, 116, 104, 97, 116, 32, 115, 105, 122, 101] }] 191, .cells #[.string { data := #[116, 104, 101, 114, 101, 32, 105, 115, 32, 110, 111, 32, 114, 111, 111, 109, 32, 102, 111, 114, 32, 105, 116] }] 191], #[], []⟩).heap.modify 0 fun
        | .cells _ t frozen => .cells #[.iface 166 (.pointer (some ⟨10, 0, none⟩))] t frozen
        | o => o).modify 1 fun
        | .cells _ t frozen => .cells #[.iface 166 (.pointer (some ⟨11, 0, none⟩))] t frozen
        | o => o).modify 2 fun
        | .cells _ t frozen => .cells #[.iface 166 (.pointer (some ⟨12, 0, none⟩))] t frozen
        | o => o).modify 3 fun
        | .cells _ t frozen => .cells #[.iface 166 (.pointer (some ⟨13, 0, none⟩))] t frozen
        | o => o).modify 4 fun
        | .cells _ t frozen => .cells #[.iface 166 (.pointer (some ⟨14, 0, none⟩))] t frozen
        | o => o) }
      #[.agg #[.slice none 0 0]] 8 rfl (by kernel_rfl) (by kernel_rfl) (by kernel_rfl) (by kernel_rfl) (by kernel_rfl)
      (show laidMet Tryz.prog Rows.fnExactJournalCleanRow.laid _ from laidMet_of_run (ps := [.cell 0 0, .cell 10 0, .cell 1 0, .cell 11 0, .cell 2 0, .cell 12 0, .cell 3 0, .cell 13 0, .cell 4 0, .cell 14 0]) 8 (by kernel_rfl) (by kernel_rfl) (by kernel_rfl))) ?_
  intro W base args ds gs before hval0 hW _ _ hL _
  have hval : ∀ (j : Nat) t v, Tryz.f4.params[j]? = some t → args[j]? = some v → Value.okWide Tryz.prog W .any base t v := hval0
  have hW' := hW
  obtain ⟨p, q, hA0, hV0, rfl, hfz, hnd⟩ := hW
  have hA : DataW.TrodAll enc Tryz.prog W 0 (fun _ => true) true Tryz.f4.params.toList args.toList ds p := hA0
  have hV : DataW.TrodVars enc Tryz.prog W (fun _ => true) ["loop.example/g00446/impl.errTooLong", "loop.example/g00446/impl.errNotRight", "loop.example/g00446/impl.errNoFile", "loop.example/g00446/impl.errOutside", "loop.example/g00446/impl.errNoRoom"] gs q := hV0
  rw [Tryz.params4] at hA hval
  obtain ⟨v0, vs0, d0, ds0, p0, q0, hargs, rfl, rfl, h0, r0⟩ := trodAll_cons hA
  obtain ⟨rfl, rfl, rfl⟩ := trodAll_nil r0
  obtain rfl : args = #[v0] := by cases args; simp_all
  have hlt : ∀ x ∈ p0 ++ ([]), x.block < W.heap.size := fun x hx => hW'.lt x (by rw [List.mem_append]; exact .inl (by simpa using hx))
  have k0 := h0
  obtain ⟨a0, L0, rfl, x0, n0, g0⟩ := Fk.open_fs Tryz.underlying24 (by kernel_rfl) rfl rfl (by kernel_rfl) Tryz.underlying22 Tryz.underlying72 (by kernel_rfl) rfl rfl rfl rfl rfl rfl (by kernel_rfl) (by kernel_rfl) Tryz.underlying9 Tryz.underlying2 (hval 0 24 v0 rfl rfl) h0
  clear hA0 hval0
  obtain ⟨b0, b1, b2, b3, b4, hE⟩ := errs_of_laid hL
  have hlen := vars_len hV
  obtain ⟨y1, y2, y3, y4, y5, rfl⟩ : ∃ y1 y2 y3 y4 y5, gs = [y1, y2, y3, y4, y5] := by
    match gs, hlen with
    | [y1, y2, y3, y4, y5], _ => exact ⟨_, _, _, _, _, rfl⟩
  have e1 : Rows.fnExactJournalCleanSpec.fn H ([d0] ++ [y1, y2, y3, y4, y5]) = { results := [.lit (.bool true)], args := [d0], vars := [y1, y2, y3, y4, y5] } := by simp [Rows.fnExactJournalCleanSpec]
  refine (walk a0 L0 x0 n0 W g0 b0 b1 b2 b3 b4 hE).mono fun e W' ⟨he, bel⟩ => ?_
  subst he
  refine ⟨_, rfl, _, _, _, [], p0 ++ ([]), q, hW', ?_, ?_, ?_, bel.frame _, fun h => by cases h⟩
  · rw [e1]; exact trodAll_mk1 (shut_bool Tryz.underlying4 true)
  · rw [e1]; exact (trodAll_cons_mk (Below.trod laidOut (by kernel_rfl) (of_decide_eq_true (by kernel_rfl)) k0 bel (fun x hx => hlt x (by simp [hx]))) trodAll_mk0)
  · rw [e1]; exact Below.trodVars laidOut bel (by kernel_rfl) hV

theorem over : Rows.FnExactJournalCleanSaid :=
  OpenClaim.holds_of_wide 4 Tryz.f4 rfl rfl rfl rfl rfl rfl rfl ⟨rfl, rfl, rfl, rfl, rfl⟩ rfl rfl rfl rfl rfl (by kernel_rfl) Tryz.func4 (by kernel_rfl)
    (of_decide_eq_true (by kernel_rfl)) (by unfold Func.isWrapper; rw [if_neg (of_decide_eq_false (by kernel_rfl))]; exact ⟨rfl, rfl⟩)
    (fun os started H enc _ => lifted os started H enc)

/-- the tied card -/
theorem proved : Rows.FnExactJournalCleanCardSaid :=
  Claim7.holds_tied_plain_at .later [] [.sentinel, .sentinel, .sentinel, .sentinel, .sentinel] true (true, "9960613572f33c0c94eec84dde44109c8333c10a457c46380d86f57432a813d1") true
    over (fun _ h => by cases h) (by kernel_rfl) (fun _ h => by cases h) fnExactJournalClean_row_tie rfl ⟨rfl, rfl⟩ (by kernel_rfl) rfl
    (fun f fn hf hfn => by
      obtain rfl : f = 4 := Option.some.inj ((show Tryz.prog.funcNamed "loop.example/g00446/laws.FnExactJournalClean" = some 4 by kernel_rfl).symm.trans hf) |>.symm
      obtain rfl : fn = Tryz.f4 := (Option.some.inj (Tryz.func4.symm.trans hfn)).symm
      exact ⟨by kernel_rfl, fun j t ht => by
        rw [Tryz.params4] at ht
        rcases j with _ | j
        · obtain rfl : t = 24 := by simpa using ht.symm
          exact (show Tryz.prog.wantsStandIn 24 = false by kernel_rfl)
        ·
          simp at ht
      ⟩)
    (by kernel_rfl)
#print axioms proved
end Go.Proofs.YtfefafmcaepoiaaGreatDoor.fnExactJournalClean

/- Proved: for every argument the exact law of JournalRead returns true: impl.JournalRead answers as the specification's JournalRead, writes into no argument and keeps nothing of one, its answer owns its memory, and the arguments read as before. The program's five errors are laid as its text lays them (the card ties that). -/
import Derived.Test.YtfefafmcaepoiaaDoorRows
import Derived.Test.YtfefafmcaepoiaaDoorTie
import Derived.Test.YtfefafmcaepoiaaDoorCards
import Derived.Test.YtfefafmcaepoiaaDoorFsSz
import Derived.Test.YtfefafmcaepoiaaDoorJournalReadFaces
import Derived.Test.YtfefafmcaepoiaaDoorJoined3
import Derived.Test.YtfefafmcaepoiaaDoorFsTo
import Derived.Test.YtfefafmcaepoiaaDoorFsEq
import Derived.Test.YtfefafmcaepoiaaDoorFsMark
import Derived.Test.YtfefafmcaepoiaaDoorFsCopy
import Derived.WalkKit
import Derived.ProofKit
import Derived.OpenShut
import Derived.ShutString
import Derived.Below
import Derived.OpenVars
import Derived.Stop.LaidTwo
import Derived.SevenTiedAt
import Derived.Handed
import Derived.ChangeSame
import Derived.ChangeVars
import Derived.JoinedOf
import Derived.LaidLaws
import Derived.LaidHandle
import Derived.Stop.Joined
namespace Go.Proofs.YtfefafmcaepoiaaDoor.fnExactJournalRead
open Go.ChangeShapes Go.WideShapes Go.ChangeAt Go.RowKit
open Go.ChangeMaps (open_string shut_string)
set_option linter.unusedVariables false

theorem own : ownKnob Tryd.prog.godebug = none := by kernel_rfl
theorem laidOut : laidOutB Tryd.prog = true := by kernel_rfl
theorem g0 : Tryd.prog.globalNamed "loop.example/g00446/impl.errTooLong" = some 0 := by kernel_rfl
theorem g0t : (Tryd.prog.globals[0]?).map (·.type) = some 55 := by kernel_rfl
theorem g1 : Tryd.prog.globalNamed "loop.example/g00446/impl.errNotRight" = some 1 := by kernel_rfl
theorem g1t : (Tryd.prog.globals[1]?).map (·.type) = some 55 := by kernel_rfl
theorem g2 : Tryd.prog.globalNamed "loop.example/g00446/impl.errNoFile" = some 2 := by kernel_rfl
theorem g2t : (Tryd.prog.globals[2]?).map (·.type) = some 55 := by kernel_rfl
theorem g3 : Tryd.prog.globalNamed "loop.example/g00446/impl.errOutside" = some 3 := by kernel_rfl
theorem g3t : (Tryd.prog.globals[3]?).map (·.type) = some 55 := by kernel_rfl
theorem g4 : Tryd.prog.globalNamed "loop.example/g00446/impl.errNoRoom" = some 4 := by kernel_rfl
theorem g4t : (Tryd.prog.globals[4]?).map (·.type) = some 55 := by kernel_rfl
theorem star : "*" ++ "errors.errorString" = "*errors.errorString" := by decide
theorem row1 (u : TypeId) (h : Tryd.prog.typeName? 3 u = some "*errors.errorString") : u = 163 :=
  typeName_ptr_named (nm := "errors.errorString") (by rw [star]; kernel_rfl) (by kernel_rfl) (by decide) u (by rw [star]; exact h)

set_option maxHeartbeats 8000000 in
theorem walk (a0 : Value) (L0 : List Fk.Fl) (x0 : Fk.Fits L0) (n0 : L0.length ≤ maxLen) (w : World) (g0 : Fk.View w a0 L0) (b0 b1 b2 b3 b4 : Addr) (hE : Is.Errs w b0 b1 b2 b3 b4) :
    Calls Tryd.prog 3 #[.agg #[a0]] w fun e w' => e = .returned (.bool true) ∧ Below w.heap.size w w' := by
  have HE := Fk.hide hE
  clear hE
  have HG0 := Fk.hide g0
  obtain ⟨sa0, sc0, rfl, _⟩ := g0
  obtain ⟨W0, hW⟩ : ∃ W, W = (w.alloc (.cells #[.slice sa0 L0.length sc0] 24)) := ⟨_, rfl⟩
  have B0 : Below w.heap.size w W0 := by rw [hW]; exact by repeat (first | exact Below.refl _ _ | refine Below.alloc ?_ (by simp <;> omega) _)
  have hz0 : W0.heap.size = w.heap.size + 1 := by rw [hW]; simp
  have cA0a_0 : W0.cell? ⟨w.heap.size, 0, none⟩ = some (.slice sa0 L0.length sc0) := by rw [hW, Fk.cellTop _ _ _ _ _ (by simp)]; rfl
  have HW := Fk.hide hW
  have HB0 := Fk.hide B0
  clear hW B0
  go_enter Tryd.func3, Tryd.ntmps3
  go_wp2_with fail
  rw [← HW.out]
  refine (szFs_any _ _ _ _ (HG0.out.below HB0.out) x0 n0 (by decide) (by decide)).mono ?_
  rintro e W1 ⟨⟨r0, rfl, hr0⟩, k1⟩
  have HB1 : Hid (Below w.heap.size w W1) := HB0.out.trans (k1.mono HB0.out.size)
  have hz1 : W0.heap.size ≤ W1.heap.size := k1.size
  have cA0a_1 : W1.cell? ⟨w.heap.size, 0, none⟩ = some (.slice sa0 L0.length sc0) := (k1.cell (by show w.heap.size < _; omega)).trans cA0a_0
  clear k1 cA0a_0
  rcases hr0 with rfl | ⟨hr00, hr0⟩
  · go_wp2_with fail
    go_ret
    exact ⟨rfl, HB1.out⟩
  have hl0 : L0.length ≤ 1048576 := by omega
  clear hr0
  obtain ⟨RL, hRL⟩ : ∃ x, x = Jn.rdT L0 := ⟨_, rfl⟩
  obtain ⟨RA, hRA⟩ : ∃ x, x = Jn.rdA L0 := ⟨_, rfl⟩
  obtain ⟨RC, hRC⟩ : ∃ x, x = Jn.rdC L0 := ⟨_, rfl⟩
  have FS : Hid (∀ w' v, Fk.View w' v L0 → Calls Tryd.prog 6 #[.agg #[v]] w' fun e w'' => (∃ u, e = .returned (.agg #[u, .int .i64 RA, .int .i64 RC]) ∧ Sk.Own w'' w'.heap.size 9 u RL) ∧ Below w'.heap.size w' w'') := fun w' v hv => by rw [hRA, hRL, hRC]; exact journalRead_spec v L0 w' hv x0 n0
  have FI : Hid (∀ w' v, Fk.View w' v L0 → Is.Errs w' b0 b1 b2 b3 b4 → Calls Tryd.prog 8 #[.agg #[v]] w' fun e w'' => (∃ u, e = .returned (.agg #[u, .int .i64 RA, .int .i64 RC]) ∧ Sk.Own w'' w'.heap.size 9 u RL) ∧ Below w'.heap.size w' w'') := fun w' v hv hE' => by rw [hRA, hRL, hRC]; exact journalRead_impl v L0 b0 b1 b2 b3 b4 w' hv x0 n0 hE'
  have hRl : RL.length ≤ 1048576 := by rw [hRL]; exact Jn.rdT_len L0
  clear hRL hRA hRC
  go_wp2_with fail
  refine (toFs_any _ _ _ (HG0.out.below HB1.out) hl0).mono ?_
  rintro e W2 ⟨⟨up0, rfl, p0_2⟩, k2⟩
  obtain ⟨ap0, cp0, rfl⟩ := p0_2.slice
  have HXp0 : Hid (∀ k, (Value.slice ap0 L0.length cp0).ownBlock = some k → W1.heap.size ≤ k ∧ k < W2.heap.size) := fun k hk => World.ownsRow.lt p0_2 k hk
  have HB2 : Hid (Below w.heap.size w W2) := HB1.out.trans (k2.mono HB1.out.size)
  have hz2 : W1.heap.size ≤ W2.heap.size := k2.size
  have cA0a_2 : W2.cell? ⟨w.heap.size, 0, none⟩ = some (.slice sa0 L0.length sc0) := (k2.cell (by show w.heap.size < _; omega)).trans cA0a_1
  clear k2 cA0a_1
  go_wp2_with fail
  refine (FS.out _ _ (p0_2.view)).mono ?_
  rintro e W3 ⟨⟨uow, rfl, ow_3⟩, k3⟩
  obtain ⟨aow, cow, rfl⟩ := ow_3.slice
  have HXow : Hid (∀ k, (Value.slice aow RL.length cow).ownBlock = some k → W2.heap.size ≤ k ∧ k < W3.heap.size) := fun k hk => World.ownsRow.lt ow_3 k hk
  have HB3 : Hid (Below w.heap.size w W3) := HB2.out.trans (k3.mono HB2.out.size)
  have hz3 : W2.heap.size ≤ W3.heap.size := k3.size
  have cA0a_3 : W3.cell? ⟨w.heap.size, 0, none⟩ = some (.slice sa0 L0.length sc0) := (k3.cell (by show w.heap.size < _; omega)).trans cA0a_2
  have p0_3 := p0_2.below k3
  clear k3 cA0a_2 p0_2
  clear p0_3
  have lcA0a_ : (W3.alloc (.cells #[.slice aow RL.length cow, .int .i64 RA, .int .i64 RC] 28)).cell? ⟨w.heap.size, 0, none⟩ = some (.slice sa0 L0.length sc0) := by rw [Fk.cellOld _ _ _ _ (by omega)]; exact cA0a_3
  go_wp2_with fail
  clear lcA0a_
  obtain ⟨W4, hW4⟩ : ∃ W, W = (W3.alloc (.cells #[.slice aow RL.length cow, .int .i64 RA, .int .i64 RC] 28)) := ⟨_, rfl⟩
  have k4 : Below W3.heap.size W3 W4 := by rw [hW4]; exact (Below.refl _ _).alloc (Nat.le_refl _) _
  have hy4 : W3.heap.size < W4.heap.size := by rw [hW4]; simp
  have swa_4 : W4.cell? ⟨W3.heap.size, 0, none⟩ = some (.slice aow RL.length cow) := by rw [hW4, Fk.cellTop _ _ _ _ _ rfl]; rfl
  have swb_4 : W4.cell? ⟨W3.heap.size, 1, none⟩ = some (.int .i64 RA) := by rw [hW4, Fk.cellTop _ _ _ _ _ rfl]; rfl
  have swc_4 : W4.cell? ⟨W3.heap.size, 2, none⟩ = some (.int .i64 RC) := by rw [hW4, Fk.cellTop _ _ _ _ _ rfl]; rfl
  have HW4 := Fk.hide hW4
  clear hW4
  have HB4 : Hid (Below w.heap.size w W4) := HB3.out.trans (k4.mono HB3.out.size)
  have hz4 : W3.heap.size ≤ W4.heap.size := k4.size
  have cA0a_4 : W4.cell? ⟨w.heap.size, 0, none⟩ = some (.slice sa0 L0.length sc0) := (k4.cell (by show w.heap.size < _; omega)).trans cA0a_3
  have ow_4 := ow_3.below k4
  clear k4 cA0a_3 ow_3
  rw [← HW4.out]
  refine (toFs_any _ _ _ (HG0.out.below HB4.out) hl0).mono ?_
  rintro e W5 ⟨⟨uox0, rfl, ox0_5⟩, k5⟩
  obtain ⟨aox0, cox0, rfl⟩ := ox0_5.slice
  have HXox0 : Hid (∀ k, (Value.slice aox0 L0.length cox0).ownBlock = some k → W4.heap.size ≤ k ∧ k < W5.heap.size) := fun k hk => World.ownsRow.lt ox0_5 k hk
  have HB5 : Hid (Below w.heap.size w W5) := HB4.out.trans (k5.mono HB4.out.size)
  have hz5 : W4.heap.size ≤ W5.heap.size := k5.size
  have cA0a_5 : W5.cell? ⟨w.heap.size, 0, none⟩ = some (.slice sa0 L0.length sc0) := (k5.cell (by show w.heap.size < _; omega)).trans cA0a_4
  have swa_5 : W5.cell? ⟨W3.heap.size, 0, none⟩ = some (.slice aow RL.length cow) := (k5.cell (by show W3.heap.size < _; omega)).trans swa_4
  have swb_5 : W5.cell? ⟨W3.heap.size, 1, none⟩ = some (.int .i64 RA) := (k5.cell (by show W3.heap.size < _; omega)).trans swb_4
  have swc_5 : W5.cell? ⟨W3.heap.size, 2, none⟩ = some (.int .i64 RC) := (k5.cell (by show W3.heap.size < _; omega)).trans swc_4
  have ow_5 := ow_4.below k5
  clear k5 cA0a_4 swa_4 swb_4 swc_4 ow_4
  have lcA0a_ : (W5.alloc (.cells #[.slice aox0 L0.length cox0] 32)).cell? ⟨w.heap.size, 0, none⟩ = some (.slice sa0 L0.length sc0) := by rw [Fk.cellOld _ _ _ _ (by omega)]; exact cA0a_5
  have lswa_ : (W5.alloc (.cells #[.slice aox0 L0.length cox0] 32)).cell? ⟨W3.heap.size, 0, none⟩ = some (.slice aow RL.length cow) := by rw [Fk.cellOld _ _ _ _ (by omega)]; exact swa_5
  have lswb_ : (W5.alloc (.cells #[.slice aox0 L0.length cox0] 32)).cell? ⟨W3.heap.size, 1, none⟩ = some (.int .i64 RA) := by rw [Fk.cellOld _ _ _ _ (by omega)]; exact swb_5
  have lswc_ : (W5.alloc (.cells #[.slice aox0 L0.length cox0] 32)).cell? ⟨W3.heap.size, 2, none⟩ = some (.int .i64 RC) := by rw [Fk.cellOld _ _ _ _ (by omega)]; exact swc_5
  go_wp2_with fail
  clear lcA0a_ lswa_ lswb_ lswc_
  obtain ⟨W6, hW6⟩ : ∃ W, W = (W5.alloc (.cells #[.slice aox0 L0.length cox0] 32)) := ⟨_, rfl⟩
  have k6 : Below W5.heap.size W5 W6 := by rw [hW6]; exact (Below.refl _ _).alloc (Nat.le_refl _) _
  have hy6 : W5.heap.size < W6.heap.size := by rw [hW6]; simp
  have sx0a_6 : W6.cell? ⟨W5.heap.size, 0, none⟩ = some (.slice aox0 L0.length cox0) := by rw [hW6, Fk.cellTop _ _ _ _ _ rfl]; rfl
  have HW6 := Fk.hide hW6
  clear hW6
  have HB6 : Hid (Below w.heap.size w W6) := HB5.out.trans (k6.mono HB5.out.size)
  have hz6 : W5.heap.size ≤ W6.heap.size := k6.size
  have cA0a_6 : W6.cell? ⟨w.heap.size, 0, none⟩ = some (.slice sa0 L0.length sc0) := (k6.cell (by show w.heap.size < _; omega)).trans cA0a_5
  have swa_6 : W6.cell? ⟨W3.heap.size, 0, none⟩ = some (.slice aow RL.length cow) := (k6.cell (by show W3.heap.size < _; omega)).trans swa_5
  have swb_6 : W6.cell? ⟨W3.heap.size, 1, none⟩ = some (.int .i64 RA) := (k6.cell (by show W3.heap.size < _; omega)).trans swb_5
  have swc_6 : W6.cell? ⟨W3.heap.size, 2, none⟩ = some (.int .i64 RC) := (k6.cell (by show W3.heap.size < _; omega)).trans swc_5
  have ow_6 := ow_5.below k6
  have ox0_6 := ox0_5.below k6
  clear k6 cA0a_5 swa_5 swb_5 swc_5 ow_5 ox0_5
  rw [← HW6.out]
  refine (FI.out _ _ (ox0_6.view) (HE.out.below HB6.out)).mono ?_
  rintro e W7 ⟨⟨uog, rfl, og_7⟩, k7⟩
  obtain ⟨aog, cog, rfl⟩ := og_7.slice
  have HXog : Hid (∀ k, (Value.slice aog RL.length cog).ownBlock = some k → W6.heap.size ≤ k ∧ k < W7.heap.size) := fun k hk => World.ownsRow.lt og_7 k hk
  have HB7 : Hid (Below w.heap.size w W7) := HB6.out.trans (k7.mono HB6.out.size)
  have hz7 : W6.heap.size ≤ W7.heap.size := k7.size
  have cA0a_7 : W7.cell? ⟨w.heap.size, 0, none⟩ = some (.slice sa0 L0.length sc0) := (k7.cell (by show w.heap.size < _; omega)).trans cA0a_6
  have swa_7 : W7.cell? ⟨W3.heap.size, 0, none⟩ = some (.slice aow RL.length cow) := (k7.cell (by show W3.heap.size < _; omega)).trans swa_6
  have swb_7 : W7.cell? ⟨W3.heap.size, 1, none⟩ = some (.int .i64 RA) := (k7.cell (by show W3.heap.size < _; omega)).trans swb_6
  have swc_7 : W7.cell? ⟨W3.heap.size, 2, none⟩ = some (.int .i64 RC) := (k7.cell (by show W3.heap.size < _; omega)).trans swc_6
  have sx0a_7 : W7.cell? ⟨W5.heap.size, 0, none⟩ = some (.slice aox0 L0.length cox0) := (k7.cell (by show W5.heap.size < _; omega)).trans sx0a_6
  have ow_7 := ow_6.below k7
  have ox0_7 := ox0_6.below k7
  clear k7 cA0a_6 swa_6 swb_6 swc_6 sx0a_6 ow_6 ox0_6
  have lcA0a_ : (W7.alloc (.cells #[.slice aog RL.length cog, .int .i64 RA, .int .i64 RC] 28)).cell? ⟨w.heap.size, 0, none⟩ = some (.slice sa0 L0.length sc0) := by rw [Fk.cellOld _ _ _ _ (by omega)]; exact cA0a_7
  have lswa_ : (W7.alloc (.cells #[.slice aog RL.length cog, .int .i64 RA, .int .i64 RC] 28)).cell? ⟨W3.heap.size, 0, none⟩ = some (.slice aow RL.length cow) := by rw [Fk.cellOld _ _ _ _ (by omega)]; exact swa_7
  have lswb_ : (W7.alloc (.cells #[.slice aog RL.length cog, .int .i64 RA, .int .i64 RC] 28)).cell? ⟨W3.heap.size, 1, none⟩ = some (.int .i64 RA) := by rw [Fk.cellOld _ _ _ _ (by omega)]; exact swb_7
  have lswc_ : (W7.alloc (.cells #[.slice aog RL.length cog, .int .i64 RA, .int .i64 RC] 28)).cell? ⟨W3.heap.size, 2, none⟩ = some (.int .i64 RC) := by rw [Fk.cellOld _ _ _ _ (by omega)]; exact swc_7
  have lsx0a_ : (W7.alloc (.cells #[.slice aog RL.length cog, .int .i64 RA, .int .i64 RC] 28)).cell? ⟨W5.heap.size, 0, none⟩ = some (.slice aox0 L0.length cox0) := by rw [Fk.cellOld _ _ _ _ (by omega)]; exact sx0a_7
  go_wp2_with fail
  clear lcA0a_ lswa_ lswb_ lswc_ lsx0a_
  obtain ⟨W8, hW8⟩ : ∃ W, W = (W7.alloc (.cells #[.slice aog RL.length cog, .int .i64 RA, .int .i64 RC] 28)) := ⟨_, rfl⟩
  have k8 : Below W7.heap.size W7 W8 := by rw [hW8]; exact (Below.refl _ _).alloc (Nat.le_refl _) _
  have hy8 : W7.heap.size < W8.heap.size := by rw [hW8]; simp
  have sga_8 : W8.cell? ⟨W7.heap.size, 0, none⟩ = some (.slice aog RL.length cog) := by rw [hW8, Fk.cellTop _ _ _ _ _ rfl]; rfl
  have sgb_8 : W8.cell? ⟨W7.heap.size, 1, none⟩ = some (.int .i64 RA) := by rw [hW8, Fk.cellTop _ _ _ _ _ rfl]; rfl
  have sgc_8 : W8.cell? ⟨W7.heap.size, 2, none⟩ = some (.int .i64 RC) := by rw [hW8, Fk.cellTop _ _ _ _ _ rfl]; rfl
  have HW8 := Fk.hide hW8
  clear hW8
  have HB8 : Hid (Below w.heap.size w W8) := HB7.out.trans (k8.mono HB7.out.size)
  have hz8 : W7.heap.size ≤ W8.heap.size := k8.size
  have cA0a_8 : W8.cell? ⟨w.heap.size, 0, none⟩ = some (.slice sa0 L0.length sc0) := (k8.cell (by show w.heap.size < _; omega)).trans cA0a_7
  have swa_8 : W8.cell? ⟨W3.heap.size, 0, none⟩ = some (.slice aow RL.length cow) := (k8.cell (by show W3.heap.size < _; omega)).trans swa_7
  have swb_8 : W8.cell? ⟨W3.heap.size, 1, none⟩ = some (.int .i64 RA) := (k8.cell (by show W3.heap.size < _; omega)).trans swb_7
  have swc_8 : W8.cell? ⟨W3.heap.size, 2, none⟩ = some (.int .i64 RC) := (k8.cell (by show W3.heap.size < _; omega)).trans swc_7
  have sx0a_8 : W8.cell? ⟨W5.heap.size, 0, none⟩ = some (.slice aox0 L0.length cox0) := (k8.cell (by show W5.heap.size < _; omega)).trans sx0a_7
  have ow_8 := ow_7.below k8
  have ox0_8 := ox0_7.below k8
  have og_8 := og_7.below k8
  clear k8 cA0a_7 swa_7 swb_7 swc_7 sx0a_7 ow_7 ox0_7 og_7
  rw [← HW8.out]
  refine (eqJournalOut_same _ _ RL RA RC _ (og_8.view) (ow_8.view) hRl).mono ?_
  rintro e W9 ⟨rfl, k9⟩
  have HB9 : Hid (Below w.heap.size w W9) := HB8.out.trans (k9.mono HB8.out.size)
  have hz9 : W8.heap.size ≤ W9.heap.size := k9.size
  have cA0a_9 : W9.cell? ⟨w.heap.size, 0, none⟩ = some (.slice sa0 L0.length sc0) := (k9.cell (by show w.heap.size < _; omega)).trans cA0a_8
  have swa_9 : W9.cell? ⟨W3.heap.size, 0, none⟩ = some (.slice aow RL.length cow) := (k9.cell (by show W3.heap.size < _; omega)).trans swa_8
  have swb_9 : W9.cell? ⟨W3.heap.size, 1, none⟩ = some (.int .i64 RA) := (k9.cell (by show W3.heap.size < _; omega)).trans swb_8
  have swc_9 : W9.cell? ⟨W3.heap.size, 2, none⟩ = some (.int .i64 RC) := (k9.cell (by show W3.heap.size < _; omega)).trans swc_8
  have sx0a_9 : W9.cell? ⟨W5.heap.size, 0, none⟩ = some (.slice aox0 L0.length cox0) := (k9.cell (by show W5.heap.size < _; omega)).trans sx0a_8
  have sga_9 : W9.cell? ⟨W7.heap.size, 0, none⟩ = some (.slice aog RL.length cog) := (k9.cell (by show W7.heap.size < _; omega)).trans sga_8
  have sgb_9 : W9.cell? ⟨W7.heap.size, 1, none⟩ = some (.int .i64 RA) := (k9.cell (by show W7.heap.size < _; omega)).trans sgb_8
  have sgc_9 : W9.cell? ⟨W7.heap.size, 2, none⟩ = some (.int .i64 RC) := (k9.cell (by show W7.heap.size < _; omega)).trans sgc_8
  have ow_9 := ow_8.below k9
  have ox0_9 := ox0_8.below k9
  have og_9 := og_8.below k9
  clear k9 cA0a_8 swa_8 swb_8 swc_8 sx0a_8 sga_8 sgb_8 sgc_8 ow_8 ox0_8 og_8
  go_wp2_with fail
  have vd0 := (HG0.out.below HB9.out).below (Below.drew (Below.refl W9.heap.size W9))
  have od0 := ox0_9.below (Below.drew (Below.refl W9.heap.size W9))
  go_region_with (first
    | (go_at_call 7; refine (toFs_any _ _ _ (vd0) hl0).mono ?_; rintro e X1 ⟨⟨ux, rfl, oxx⟩, m1⟩; obtain ⟨ax, jx, rfl⟩ := oxx.slice; have dxa : X1.cell? ⟨W5.heap.size, 0, none⟩ = some (.slice aox0 L0.length cox0) := (m1.cell (by show W5.heap.size < W9.heap.size; omega)).trans sx0a_9)
    | (go_at_call 10; refine (eqFs_same _ _ L0 _ ((od0.below m1).view) (oxx.view) hl0).mono ?_; rintro e W10 ⟨rfl, m2⟩))
  all_goals
    have k10 : Below W9.heap.size W9 W10 := (Below.trans (Below.drew (Below.refl _ _)) m1).trans (m2.mono m1.size)
    clear m1 m2 vd0 od0 oxx dxa
    have HB10 : Hid (Below w.heap.size w W10) := HB9.out.trans (k10.mono HB9.out.size)
    have hz10 : W9.heap.size ≤ W10.heap.size := k10.size
    have cA0a_10 : W10.cell? ⟨w.heap.size, 0, none⟩ = some (.slice sa0 L0.length sc0) := (k10.cell (by show w.heap.size < _; omega)).trans cA0a_9
    have swa_10 : W10.cell? ⟨W3.heap.size, 0, none⟩ = some (.slice aow RL.length cow) := (k10.cell (by show W3.heap.size < _; omega)).trans swa_9
    have swb_10 : W10.cell? ⟨W3.heap.size, 1, none⟩ = some (.int .i64 RA) := (k10.cell (by show W3.heap.size < _; omega)).trans swb_9
    have swc_10 : W10.cell? ⟨W3.heap.size, 2, none⟩ = some (.int .i64 RC) := (k10.cell (by show W3.heap.size < _; omega)).trans swc_9
    have sx0a_10 : W10.cell? ⟨W5.heap.size, 0, none⟩ = some (.slice aox0 L0.length cox0) := (k10.cell (by show W5.heap.size < _; omega)).trans sx0a_9
    have sga_10 : W10.cell? ⟨W7.heap.size, 0, none⟩ = some (.slice aog RL.length cog) := (k10.cell (by show W7.heap.size < _; omega)).trans sga_9
    have sgb_10 : W10.cell? ⟨W7.heap.size, 1, none⟩ = some (.int .i64 RA) := (k10.cell (by show W7.heap.size < _; omega)).trans sgb_9
    have sgc_10 : W10.cell? ⟨W7.heap.size, 2, none⟩ = some (.int .i64 RC) := (k10.cell (by show W7.heap.size < _; omega)).trans sgc_9
    have ow_10 := ow_9.below k10
    have ox0_10 := ox0_9.below k10
    have og_10 := og_9.below k10
    clear k10 cA0a_9 swa_9 swb_9 swc_9 sx0a_9 sga_9 sgb_9 sgc_9 ow_9 ox0_9 og_9
    go_wp2_with fail
    refine (markFs_any _ L0 1 _ _ ox0_10 hl0 (by omega) (by omega)).mono ?_
    rintro e W11 ⟨⟨rfl, _⟩, k11⟩
    have HB11 : Hid (Below w.heap.size w W11) := HB10.out.grown k11 HB10.out.size (fun k hk => by have := HXox0.out k hk; omega)
    have hz11 : W10.heap.size ≤ W11.heap.size := k11.size
    have cA0a_11 : W11.cell? ⟨w.heap.size, 0, none⟩ = some (.slice sa0 L0.length sc0) := k11.cell cA0a_10 (fun e => by have := HXox0.out _ e.symm; simp only at this; omega)
    have swa_11 : W11.cell? ⟨W3.heap.size, 0, none⟩ = some (.slice aow RL.length cow) := k11.cell swa_10 (fun e => by have := HXox0.out _ e.symm; simp only at this; omega)
    have swb_11 : W11.cell? ⟨W3.heap.size, 1, none⟩ = some (.int .i64 RA) := k11.cell swb_10 (fun e => by have := HXox0.out _ e.symm; simp only at this; omega)
    have swc_11 : W11.cell? ⟨W3.heap.size, 2, none⟩ = some (.int .i64 RC) := k11.cell swc_10 (fun e => by have := HXox0.out _ e.symm; simp only at this; omega)
    have sx0a_11 : W11.cell? ⟨W5.heap.size, 0, none⟩ = some (.slice aox0 L0.length cox0) := k11.cell sx0a_10 (fun e => by have := HXox0.out _ e.symm; simp only at this; omega)
    have sga_11 : W11.cell? ⟨W7.heap.size, 0, none⟩ = some (.slice aog RL.length cog) := k11.cell sga_10 (fun e => by have := HXox0.out _ e.symm; simp only at this; omega)
    have sgb_11 : W11.cell? ⟨W7.heap.size, 1, none⟩ = some (.int .i64 RA) := k11.cell sgb_10 (fun e => by have := HXox0.out _ e.symm; simp only at this; omega)
    have sgc_11 : W11.cell? ⟨W7.heap.size, 2, none⟩ = some (.int .i64 RC) := k11.cell sgc_10 (fun e => by have := HXox0.out _ e.symm; simp only at this; omega)
    have ow_11 := ow_10.kept k11 (fun k hk e => by have h1 := HXow.out k hk; have h2 := HXox0.out k e.symm; omega)
    have og_11 := og_10.kept k11 (fun k hk e => by have h1 := HXog.out k hk; have h2 := HXox0.out k e.symm; omega)
    clear k11 cA0a_10 swa_10 swb_10 swc_10 sx0a_10 sga_10 sgb_10 sgc_10 ow_10 ox0_10 og_10
    obtain ⟨mk0, hmk0⟩ : ∃ q : Nat, q = 1 + 3 * L0.length := ⟨_, rfl⟩
    have hmp0 : 0 < mk0 ∧ mk0 ≤ 3145729 := by omega
    rw [← hmk0]
    clear hmk0
    have hq10 : (0 : Int) ≤ (mk0 : Int) := by omega
    go_wp2_with fail
    refine (eqJournalOut_same _ _ RL RA RC _ (og_11.view) (ow_11.view) hRl).mono ?_
    rintro e W12 ⟨rfl, k12⟩
    have HB12 : Hid (Below w.heap.size w W12) := HB11.out.trans (k12.mono HB11.out.size)
    have hz12 : W11.heap.size ≤ W12.heap.size := k12.size
    have cA0a_12 : W12.cell? ⟨w.heap.size, 0, none⟩ = some (.slice sa0 L0.length sc0) := (k12.cell (by show w.heap.size < _; omega)).trans cA0a_11
    have swa_12 : W12.cell? ⟨W3.heap.size, 0, none⟩ = some (.slice aow RL.length cow) := (k12.cell (by show W3.heap.size < _; omega)).trans swa_11
    have swb_12 : W12.cell? ⟨W3.heap.size, 1, none⟩ = some (.int .i64 RA) := (k12.cell (by show W3.heap.size < _; omega)).trans swb_11
    have swc_12 : W12.cell? ⟨W3.heap.size, 2, none⟩ = some (.int .i64 RC) := (k12.cell (by show W3.heap.size < _; omega)).trans swc_11
    have sx0a_12 : W12.cell? ⟨W5.heap.size, 0, none⟩ = some (.slice aox0 L0.length cox0) := (k12.cell (by show W5.heap.size < _; omega)).trans sx0a_11
    have sga_12 : W12.cell? ⟨W7.heap.size, 0, none⟩ = some (.slice aog RL.length cog) := (k12.cell (by show W7.heap.size < _; omega)).trans sga_11
    have sgb_12 : W12.cell? ⟨W7.heap.size, 1, none⟩ = some (.int .i64 RA) := (k12.cell (by show W7.heap.size < _; omega)).trans sgb_11
    have sgc_12 : W12.cell? ⟨W7.heap.size, 2, none⟩ = some (.int .i64 RC) := (k12.cell (by show W7.heap.size < _; omega)).trans sgc_11
    have ow_12 := ow_11.below k12
    have og_12 := og_11.below k12
    clear k12 cA0a_11 swa_11 swb_11 swc_11 sx0a_11 sga_11 sgb_11 sgc_11 ow_11 og_11
    go_wp2_with fail
    refine (markJournalOut_any _ RL RA RC 1 W6.heap.size _ og_12 hRl (by decide) (by decide)).mono ?_
    rintro e W13 ⟨⟨rfl, oG_13⟩, k13⟩
    have HB13 : Hid (Below w.heap.size w W13) := HB12.out.grown k13 HB12.out.size (fun k hk => by have := HXog.out k hk; omega)
    have hz13 : W12.heap.size ≤ W13.heap.size := k13.size
    have cA0a_13 : W13.cell? ⟨w.heap.size, 0, none⟩ = some (.slice sa0 L0.length sc0) := k13.cell cA0a_12 (fun e => by have := HXog.out _ e.symm; simp only at this; omega)
    have swa_13 : W13.cell? ⟨W3.heap.size, 0, none⟩ = some (.slice aow RL.length cow) := k13.cell swa_12 (fun e => by have := HXog.out _ e.symm; simp only at this; omega)
    have swb_13 : W13.cell? ⟨W3.heap.size, 1, none⟩ = some (.int .i64 RA) := k13.cell swb_12 (fun e => by have := HXog.out _ e.symm; simp only at this; omega)
    have swc_13 : W13.cell? ⟨W3.heap.size, 2, none⟩ = some (.int .i64 RC) := k13.cell swc_12 (fun e => by have := HXog.out _ e.symm; simp only at this; omega)
    have sx0a_13 : W13.cell? ⟨W5.heap.size, 0, none⟩ = some (.slice aox0 L0.length cox0) := k13.cell sx0a_12 (fun e => by have := HXog.out _ e.symm; simp only at this; omega)
    have sga_13 : W13.cell? ⟨W7.heap.size, 0, none⟩ = some (.slice aog RL.length cog) := k13.cell sga_12 (fun e => by have := HXog.out _ e.symm; simp only at this; omega)
    have sgb_13 : W13.cell? ⟨W7.heap.size, 1, none⟩ = some (.int .i64 RA) := k13.cell sgb_12 (fun e => by have := HXog.out _ e.symm; simp only at this; omega)
    have sgc_13 : W13.cell? ⟨W7.heap.size, 2, none⟩ = some (.int .i64 RC) := k13.cell sgc_12 (fun e => by have := HXog.out _ e.symm; simp only at this; omega)
    have ow_13 := ow_12.kept k13 (fun k hk e => by have h1 := HXow.out k hk; have h2 := HXog.out k e.symm; omega)
    clear k13 cA0a_12 swa_12 swb_12 swc_12 sx0a_12 sga_12 sgb_12 sgc_12 ow_12 og_12
    obtain ⟨q2, hq2⟩ : ∃ q : Int, q = ((1 + RL.length : Nat) : Int) := ⟨_, rfl⟩
    have hq20 : 0 ≤ q2 := by omega
    rw [← hq2]
    have HQ2 := Fk.hide hq2
    clear hq2
    go_wp2_with fail
    refine (heldJournalOut_any _ RL.length 1 RA RC _ (oG_13.view) hRl (by decide) (by decide)).mono ?_
    rintro e W14 ⟨rfl, k14⟩
    rw [← HQ2.out]
    have HB14 : Hid (Below w.heap.size w W14) := HB13.out.trans (k14.mono HB13.out.size)
    have hz14 : W13.heap.size ≤ W14.heap.size := k14.size
    have cA0a_14 : W14.cell? ⟨w.heap.size, 0, none⟩ = some (.slice sa0 L0.length sc0) := (k14.cell (by show w.heap.size < _; omega)).trans cA0a_13
    have swa_14 : W14.cell? ⟨W3.heap.size, 0, none⟩ = some (.slice aow RL.length cow) := (k14.cell (by show W3.heap.size < _; omega)).trans swa_13
    have swb_14 : W14.cell? ⟨W3.heap.size, 1, none⟩ = some (.int .i64 RA) := (k14.cell (by show W3.heap.size < _; omega)).trans swb_13
    have swc_14 : W14.cell? ⟨W3.heap.size, 2, none⟩ = some (.int .i64 RC) := (k14.cell (by show W3.heap.size < _; omega)).trans swc_13
    have sx0a_14 : W14.cell? ⟨W5.heap.size, 0, none⟩ = some (.slice aox0 L0.length cox0) := (k14.cell (by show W5.heap.size < _; omega)).trans sx0a_13
    have sga_14 : W14.cell? ⟨W7.heap.size, 0, none⟩ = some (.slice aog RL.length cog) := (k14.cell (by show W7.heap.size < _; omega)).trans sga_13
    have sgb_14 : W14.cell? ⟨W7.heap.size, 1, none⟩ = some (.int .i64 RA) := (k14.cell (by show W7.heap.size < _; omega)).trans sgb_13
    have sgc_14 : W14.cell? ⟨W7.heap.size, 2, none⟩ = some (.int .i64 RC) := (k14.cell (by show W7.heap.size < _; omega)).trans sgc_13
    have ow_14 := ow_13.below k14
    have oG_14 := oG_13.below k14
    clear k14 cA0a_13 swa_13 swb_13 swc_13 sx0a_13 sga_13 sgb_13 sgc_13 ow_13 oG_13
    go_wp2_with fail
    refine (toFs_any _ _ _ (HG0.out.below HB14.out) hl0).mono ?_
    rintro e W15 ⟨⟨ut0, rfl, t0_15⟩, k15⟩
    obtain ⟨at0, ct0, rfl⟩ := t0_15.slice
    have HXt0 : Hid (∀ k, (Value.slice at0 L0.length ct0).ownBlock = some k → W14.heap.size ≤ k ∧ k < W15.heap.size) := fun k hk => World.ownsRow.lt t0_15 k hk
    have HB15 : Hid (Below w.heap.size w W15) := HB14.out.trans (k15.mono HB14.out.size)
    have hz15 : W14.heap.size ≤ W15.heap.size := k15.size
    have cA0a_15 : W15.cell? ⟨w.heap.size, 0, none⟩ = some (.slice sa0 L0.length sc0) := (k15.cell (by show w.heap.size < _; omega)).trans cA0a_14
    have swa_15 : W15.cell? ⟨W3.heap.size, 0, none⟩ = some (.slice aow RL.length cow) := (k15.cell (by show W3.heap.size < _; omega)).trans swa_14
    have swb_15 : W15.cell? ⟨W3.heap.size, 1, none⟩ = some (.int .i64 RA) := (k15.cell (by show W3.heap.size < _; omega)).trans swb_14
    have swc_15 : W15.cell? ⟨W3.heap.size, 2, none⟩ = some (.int .i64 RC) := (k15.cell (by show W3.heap.size < _; omega)).trans swc_14
    have sx0a_15 : W15.cell? ⟨W5.heap.size, 0, none⟩ = some (.slice aox0 L0.length cox0) := (k15.cell (by show W5.heap.size < _; omega)).trans sx0a_14
    have sga_15 : W15.cell? ⟨W7.heap.size, 0, none⟩ = some (.slice aog RL.length cog) := (k15.cell (by show W7.heap.size < _; omega)).trans sga_14
    have sgb_15 : W15.cell? ⟨W7.heap.size, 1, none⟩ = some (.int .i64 RA) := (k15.cell (by show W7.heap.size < _; omega)).trans sgb_14
    have sgc_15 : W15.cell? ⟨W7.heap.size, 2, none⟩ = some (.int .i64 RC) := (k15.cell (by show W7.heap.size < _; omega)).trans sgc_14
    have ow_15 := ow_14.below k15
    have oG_15 := oG_14.below k15
    clear k15 cA0a_14 swa_14 swb_14 swc_14 sx0a_14 sga_14 sgb_14 sgc_14 ow_14 oG_14
    go_wp2_with fail
    refine (FI.out _ _ (t0_15.view) (HE.out.below HB15.out)).mono ?_
    rintro e W16 ⟨⟨uoh, rfl, oh_16⟩, k16⟩
    obtain ⟨aoh, coh, rfl⟩ := oh_16.slice
    have HXoh : Hid (∀ k, (Value.slice aoh RL.length coh).ownBlock = some k → W15.heap.size ≤ k ∧ k < W16.heap.size) := fun k hk => World.ownsRow.lt oh_16 k hk
    have HB16 : Hid (Below w.heap.size w W16) := HB15.out.trans (k16.mono HB15.out.size)
    have hz16 : W15.heap.size ≤ W16.heap.size := k16.size
    have cA0a_16 : W16.cell? ⟨w.heap.size, 0, none⟩ = some (.slice sa0 L0.length sc0) := (k16.cell (by show w.heap.size < _; omega)).trans cA0a_15
    have swa_16 : W16.cell? ⟨W3.heap.size, 0, none⟩ = some (.slice aow RL.length cow) := (k16.cell (by show W3.heap.size < _; omega)).trans swa_15
    have swb_16 : W16.cell? ⟨W3.heap.size, 1, none⟩ = some (.int .i64 RA) := (k16.cell (by show W3.heap.size < _; omega)).trans swb_15
    have swc_16 : W16.cell? ⟨W3.heap.size, 2, none⟩ = some (.int .i64 RC) := (k16.cell (by show W3.heap.size < _; omega)).trans swc_15
    have sx0a_16 : W16.cell? ⟨W5.heap.size, 0, none⟩ = some (.slice aox0 L0.length cox0) := (k16.cell (by show W5.heap.size < _; omega)).trans sx0a_15
    have sga_16 : W16.cell? ⟨W7.heap.size, 0, none⟩ = some (.slice aog RL.length cog) := (k16.cell (by show W7.heap.size < _; omega)).trans sga_15
    have sgb_16 : W16.cell? ⟨W7.heap.size, 1, none⟩ = some (.int .i64 RA) := (k16.cell (by show W7.heap.size < _; omega)).trans sgb_15
    have sgc_16 : W16.cell? ⟨W7.heap.size, 2, none⟩ = some (.int .i64 RC) := (k16.cell (by show W7.heap.size < _; omega)).trans sgc_15
    have ow_16 := ow_15.below k16
    have oG_16 := oG_15.below k16
    have t0_16 := t0_15.below k16
    clear k16 cA0a_15 swa_15 swb_15 swc_15 sx0a_15 sga_15 sgb_15 sgc_15 ow_15 oG_15 t0_15
    clear t0_16
    have lcA0a_ : (W16.alloc (.cells #[.slice aoh RL.length coh, .int .i64 RA, .int .i64 RC] 28)).cell? ⟨w.heap.size, 0, none⟩ = some (.slice sa0 L0.length sc0) := by rw [Fk.cellOld _ _ _ _ (by omega)]; exact cA0a_16
    have lswa_ : (W16.alloc (.cells #[.slice aoh RL.length coh, .int .i64 RA, .int .i64 RC] 28)).cell? ⟨W3.heap.size, 0, none⟩ = some (.slice aow RL.length cow) := by rw [Fk.cellOld _ _ _ _ (by omega)]; exact swa_16
    have lswb_ : (W16.alloc (.cells #[.slice aoh RL.length coh, .int .i64 RA, .int .i64 RC] 28)).cell? ⟨W3.heap.size, 1, none⟩ = some (.int .i64 RA) := by rw [Fk.cellOld _ _ _ _ (by omega)]; exact swb_16
    have lswc_ : (W16.alloc (.cells #[.slice aoh RL.length coh, .int .i64 RA, .int .i64 RC] 28)).cell? ⟨W3.heap.size, 2, none⟩ = some (.int .i64 RC) := by rw [Fk.cellOld _ _ _ _ (by omega)]; exact swc_16
    have lsx0a_ : (W16.alloc (.cells #[.slice aoh RL.length coh, .int .i64 RA, .int .i64 RC] 28)).cell? ⟨W5.heap.size, 0, none⟩ = some (.slice aox0 L0.length cox0) := by rw [Fk.cellOld _ _ _ _ (by omega)]; exact sx0a_16
    have lsga_ : (W16.alloc (.cells #[.slice aoh RL.length coh, .int .i64 RA, .int .i64 RC] 28)).cell? ⟨W7.heap.size, 0, none⟩ = some (.slice aog RL.length cog) := by rw [Fk.cellOld _ _ _ _ (by omega)]; exact sga_16
    have lsgb_ : (W16.alloc (.cells #[.slice aoh RL.length coh, .int .i64 RA, .int .i64 RC] 28)).cell? ⟨W7.heap.size, 1, none⟩ = some (.int .i64 RA) := by rw [Fk.cellOld _ _ _ _ (by omega)]; exact sgb_16
    have lsgc_ : (W16.alloc (.cells #[.slice aoh RL.length coh, .int .i64 RA, .int .i64 RC] 28)).cell? ⟨W7.heap.size, 2, none⟩ = some (.int .i64 RC) := by rw [Fk.cellOld _ _ _ _ (by omega)]; exact sgc_16
    go_wp2_with fail
    clear lcA0a_ lswa_ lswb_ lswc_ lsx0a_ lsga_ lsgb_ lsgc_
    obtain ⟨W17, hW17⟩ : ∃ W, W = (W16.alloc (.cells #[.slice aoh RL.length coh, .int .i64 RA, .int .i64 RC] 28)) := ⟨_, rfl⟩
    have k17 : Below W16.heap.size W16 W17 := by rw [hW17]; exact (Below.refl _ _).alloc (Nat.le_refl _) _
    have hy17 : W16.heap.size < W17.heap.size := by rw [hW17]; simp
    have sha_17 : W17.cell? ⟨W16.heap.size, 0, none⟩ = some (.slice aoh RL.length coh) := by rw [hW17, Fk.cellTop _ _ _ _ _ rfl]; rfl
    have shb_17 : W17.cell? ⟨W16.heap.size, 1, none⟩ = some (.int .i64 RA) := by rw [hW17, Fk.cellTop _ _ _ _ _ rfl]; rfl
    have shc_17 : W17.cell? ⟨W16.heap.size, 2, none⟩ = some (.int .i64 RC) := by rw [hW17, Fk.cellTop _ _ _ _ _ rfl]; rfl
    have HW17 := Fk.hide hW17
    clear hW17
    have HB17 : Hid (Below w.heap.size w W17) := HB16.out.trans (k17.mono HB16.out.size)
    have hz17 : W16.heap.size ≤ W17.heap.size := k17.size
    have cA0a_17 : W17.cell? ⟨w.heap.size, 0, none⟩ = some (.slice sa0 L0.length sc0) := (k17.cell (by show w.heap.size < _; omega)).trans cA0a_16
    have swa_17 : W17.cell? ⟨W3.heap.size, 0, none⟩ = some (.slice aow RL.length cow) := (k17.cell (by show W3.heap.size < _; omega)).trans swa_16
    have swb_17 : W17.cell? ⟨W3.heap.size, 1, none⟩ = some (.int .i64 RA) := (k17.cell (by show W3.heap.size < _; omega)).trans swb_16
    have swc_17 : W17.cell? ⟨W3.heap.size, 2, none⟩ = some (.int .i64 RC) := (k17.cell (by show W3.heap.size < _; omega)).trans swc_16
    have sx0a_17 : W17.cell? ⟨W5.heap.size, 0, none⟩ = some (.slice aox0 L0.length cox0) := (k17.cell (by show W5.heap.size < _; omega)).trans sx0a_16
    have sga_17 : W17.cell? ⟨W7.heap.size, 0, none⟩ = some (.slice aog RL.length cog) := (k17.cell (by show W7.heap.size < _; omega)).trans sga_16
    have sgb_17 : W17.cell? ⟨W7.heap.size, 1, none⟩ = some (.int .i64 RA) := (k17.cell (by show W7.heap.size < _; omega)).trans sgb_16
    have sgc_17 : W17.cell? ⟨W7.heap.size, 2, none⟩ = some (.int .i64 RC) := (k17.cell (by show W7.heap.size < _; omega)).trans sgc_16
    have ow_17 := ow_16.below k17
    have oG_17 := oG_16.below k17
    have oh_17 := oh_16.below k17
    clear k17 cA0a_16 swa_16 swb_16 swc_16 sx0a_16 sga_16 sgb_16 sgc_16 ow_16 oG_16 oh_16
    rw [← HW17.out]
    refine (eqJournalOut_same _ _ RL RA RC _ (oh_17.view) (ow_17.view) hRl).mono ?_
    rintro e W18 ⟨rfl, k18⟩
    have HB18 : Hid (Below w.heap.size w W18) := HB17.out.trans (k18.mono HB17.out.size)
    have hz18 : W17.heap.size ≤ W18.heap.size := k18.size
    have cA0a_18 : W18.cell? ⟨w.heap.size, 0, none⟩ = some (.slice sa0 L0.length sc0) := (k18.cell (by show w.heap.size < _; omega)).trans cA0a_17
    have swa_18 : W18.cell? ⟨W3.heap.size, 0, none⟩ = some (.slice aow RL.length cow) := (k18.cell (by show W3.heap.size < _; omega)).trans swa_17
    have swb_18 : W18.cell? ⟨W3.heap.size, 1, none⟩ = some (.int .i64 RA) := (k18.cell (by show W3.heap.size < _; omega)).trans swb_17
    have swc_18 : W18.cell? ⟨W3.heap.size, 2, none⟩ = some (.int .i64 RC) := (k18.cell (by show W3.heap.size < _; omega)).trans swc_17
    have sx0a_18 : W18.cell? ⟨W5.heap.size, 0, none⟩ = some (.slice aox0 L0.length cox0) := (k18.cell (by show W5.heap.size < _; omega)).trans sx0a_17
    have sga_18 : W18.cell? ⟨W7.heap.size, 0, none⟩ = some (.slice aog RL.length cog) := (k18.cell (by show W7.heap.size < _; omega)).trans sga_17
    have sgb_18 : W18.cell? ⟨W7.heap.size, 1, none⟩ = some (.int .i64 RA) := (k18.cell (by show W7.heap.size < _; omega)).trans sgb_17
    have sgc_18 : W18.cell? ⟨W7.heap.size, 2, none⟩ = some (.int .i64 RC) := (k18.cell (by show W7.heap.size < _; omega)).trans sgc_17
    have sha_18 : W18.cell? ⟨W16.heap.size, 0, none⟩ = some (.slice aoh RL.length coh) := (k18.cell (by show W16.heap.size < _; omega)).trans sha_17
    have shb_18 : W18.cell? ⟨W16.heap.size, 1, none⟩ = some (.int .i64 RA) := (k18.cell (by show W16.heap.size < _; omega)).trans shb_17
    have shc_18 : W18.cell? ⟨W16.heap.size, 2, none⟩ = some (.int .i64 RC) := (k18.cell (by show W16.heap.size < _; omega)).trans shc_17
    have ow_18 := ow_17.below k18
    have oG_18 := oG_17.below k18
    have oh_18 := oh_17.below k18
    clear k18 cA0a_17 swa_17 swb_17 swc_17 sx0a_17 sga_17 sgb_17 sgc_17 sha_17 shb_17 shc_17 ow_17 oG_17 oh_17
    go_wp2_with fail
    refine (heldJournalOut_any _ RL.length 1 RA RC _ (oG_18.view) hRl (by decide) (by decide)).mono ?_
    rintro e W19 ⟨rfl, k19⟩
    rw [← HQ2.out]
    have HB19 : Hid (Below w.heap.size w W19) := HB18.out.trans (k19.mono HB18.out.size)
    have hz19 : W18.heap.size ≤ W19.heap.size := k19.size
    have cA0a_19 : W19.cell? ⟨w.heap.size, 0, none⟩ = some (.slice sa0 L0.length sc0) := (k19.cell (by show w.heap.size < _; omega)).trans cA0a_18
    have swa_19 : W19.cell? ⟨W3.heap.size, 0, none⟩ = some (.slice aow RL.length cow) := (k19.cell (by show W3.heap.size < _; omega)).trans swa_18
    have swb_19 : W19.cell? ⟨W3.heap.size, 1, none⟩ = some (.int .i64 RA) := (k19.cell (by show W3.heap.size < _; omega)).trans swb_18
    have swc_19 : W19.cell? ⟨W3.heap.size, 2, none⟩ = some (.int .i64 RC) := (k19.cell (by show W3.heap.size < _; omega)).trans swc_18
    have sx0a_19 : W19.cell? ⟨W5.heap.size, 0, none⟩ = some (.slice aox0 L0.length cox0) := (k19.cell (by show W5.heap.size < _; omega)).trans sx0a_18
    have sga_19 : W19.cell? ⟨W7.heap.size, 0, none⟩ = some (.slice aog RL.length cog) := (k19.cell (by show W7.heap.size < _; omega)).trans sga_18
    have sgb_19 : W19.cell? ⟨W7.heap.size, 1, none⟩ = some (.int .i64 RA) := (k19.cell (by show W7.heap.size < _; omega)).trans sgb_18
    have sgc_19 : W19.cell? ⟨W7.heap.size, 2, none⟩ = some (.int .i64 RC) := (k19.cell (by show W7.heap.size < _; omega)).trans sgc_18
    have sha_19 : W19.cell? ⟨W16.heap.size, 0, none⟩ = some (.slice aoh RL.length coh) := (k19.cell (by show W16.heap.size < _; omega)).trans sha_18
    have shb_19 : W19.cell? ⟨W16.heap.size, 1, none⟩ = some (.int .i64 RA) := (k19.cell (by show W16.heap.size < _; omega)).trans shb_18
    have shc_19 : W19.cell? ⟨W16.heap.size, 2, none⟩ = some (.int .i64 RC) := (k19.cell (by show W16.heap.size < _; omega)).trans shc_18
    have ow_19 := ow_18.below k19
    have oG_19 := oG_18.below k19
    have oh_19 := oh_18.below k19
    clear k19 cA0a_18 swa_18 swb_18 swc_18 sx0a_18 sga_18 sgb_18 sgc_18 sha_18 shb_18 shc_18 ow_18 oG_18 oh_18
    go_wp2_with fail
    go_ret
    exact ⟨rfl, HB19.out⟩

theorem ne_text {W : World} {a b : Addr} {s t : ByteArray} {x y : List UInt8} (h1 : W.cell? a = some (.string s)) (h2 : W.cell? b = some (.string t)) (e1 : s.data.toList = x) (e2 : t.data.toList = y) (hne : x ≠ y) : a ≠ b := by
  rintro rfl
  rw [h1] at h2
  simp only [Option.some.injEq, Value.string.injEq] at h2
  subst h2
  exact hne (e1.symm.trans e2)

/-- what the condition gives the walk: the five errors -/
theorem errs_of_laid {W : World} (h : laidMetH Tryd.prog Rows.fnExactJournalReadRow.laid W) : ∃ b0 b1 b2 b3 b4, Is.Errs W b0 b1 b2 b3 b4 := by
  have h0 : laidMet Tryd.prog Rows.fnExactJournalReadRow.laid W := h
  obtain ⟨q0, q1, s0, s1, _, _, _, _, hv0, hv1, hc0, hs0, _, hc1, hs1, _, _, hb0, hb1⟩ := laid_sentinels2 h0 g0 g0t g1 g1t Tryd.underlying55 row1 Tryd.underlying163 Tryd.underlying188 rfl rfl Tryd.underlying9 (by kernel_rfl) (by kernel_rfl)
  obtain ⟨q2, q3, s2, s3, _, _, _, _, hv2, hv3, hc2, hs2, _, hc3, hs3, _, _, hb2, hb3⟩ := laid_sentinels2 h0.tail.tail g2 g2t g3 g3t Tryd.underlying55 row1 Tryd.underlying163 Tryd.underlying188 rfl rfl Tryd.underlying9 (by kernel_rfl) (by kernel_rfl)
  obtain ⟨_, q4, _, s4, _, _, _, _, _, hv4, _, _, _, hc4, hs4, _, _, _, hb4⟩ := laid_sentinels2 h0.tail.tail.tail g3 g3t g4 g4t Tryd.underlying55 row1 Tryd.underlying163 Tryd.underlying188 rfl rfl Tryd.underlying9 (by kernel_rfl) (by kernel_rfl)
  refine ⟨q0, q1, q2, q3, q4, ?_, ?_, ?_, ?_, ?_, ⟨_, _, hb0⟩, ⟨_, _, hb1⟩, ⟨_, _, hb2⟩, ⟨_, _, hb3⟩, ⟨_, _, hb4⟩, ?_⟩
  · simpa [Is.ev] using World.var?_cell g0 hv0 0
  · simpa [Is.ev] using World.var?_cell g1 hv1 0
  · simpa [Is.ev] using World.var?_cell g2 hv2 0
  · simpa [Is.ev] using World.var?_cell g3 hv3 0
  · simpa [Is.ev] using World.var?_cell g4 hv4 0
  · simp only [List.pairwise_cons, List.mem_cons, List.not_mem_nil, or_false, forall_eq_or_imp, forall_eq, List.Pairwise.nil, and_true, false_implies, implies_true]
    exact ⟨⟨ne_text hc0 hc1 hs0 hs1 (by decide), ne_text hc0 hc2 hs0 hs2 (by decide), ne_text hc0 hc3 hs0 hs3 (by decide), ne_text hc0 hc4 hs0 hs4 (by decide)⟩,
      ⟨ne_text hc1 hc2 hs1 hs2 (by decide), ne_text hc1 hc3 hs1 hs3 (by decide), ne_text hc1 hc4 hs1 hs4 (by decide)⟩,
      ⟨ne_text hc2 hc3 hs2 hs3 (by decide), ne_text hc2 hc4 hs2 hs4 (by decide)⟩, ne_text hc3 hc4 hs3 hs4 (by decide)⟩

theorem vars_len {H : Type} {enc : TypeId × Value → H} {P : Program} {w : World} {sp : Nat → Bool} : ∀ {ns : List String} {gs : List (DataW H)} {ps : List MemPlace}, DataW.TrodVars enc P w sp ns gs ps → gs.length = ns.length
  | [], [], _, _ => rfl
  | [], _ :: _, _, h => h.elim
  | _ :: _, [], _, h => h.elim
  | _ :: _, _ :: _, _, h => by
    obtain ⟨_, _, _, _, _, _, _, _, _, _, hr, _⟩ := h
    simp [vars_len hr]

set_option maxRecDepth 100000 in
theorem lifted (os : Os) (started : os.Started) (H : Type) (enc : TypeId × Value → H) :
    ReturnsInHanded {} Tryd.checked os 3 .any (fun w args => (Rows.fnExactJournalReadSpec.pre enc Tryd.prog Tryd.f3 [] false w args ∧ laidMetH Tryd.prog Rows.fnExactJournalReadRow.laid w) ∧ sizedMet enc Tryd.prog Tryd.f3 (OpenSpec.ofChange Rows.fnExactJournalReadSpec) false w args)
      (Rows.fnExactJournalReadSpec.post enc Tryd.prog Tryd.f3 false true false false) := by
  refine returnsInHanded_of_change_and (C := Tryd.checked) (X := fun w _ => laidMetH Tryd.prog Rows.fnExactJournalReadRow.laid w) (fun _ _ _ hh h => h.of_heap hh) own started (by kernel_rfl) Tryd.func3
    (ChangeSpec.witness_at (enc := enc) (C := Tryd.checked) (os := os) (X := fun w _ => laidMetH Tryd.prog Rows.fnExactJournalReadRow.laid w) false
      { World.holding Tryd.prog os ⟨#[.cells #[.string { data := #[97, 32, 116, 101, 120, 116, 32, 105, 115, 32, 116, 111, 111, 32, 108, 111, 110, 103] }] 188, .cells #[.string { data := #[116, 104, 101, 32, 102, 105, 108, 101, 115, 32, 111, 114, 32, 97, 32, 110, 97, 109, 101, 32, 97, 114, 101, 32, 110, 111, 116, 32, 114, 105, 103, 104, 116] }] 188, .cells #[.string { data := #[116, 104, 101, 114, 101, 32, 105, 115, 32, 110, 111, 32, 102, 105, 108, 101, 32, 111, 102, 32, 116, 104, 97, 116, 32, 110, 97, 109, 101] }] 188, .cells #[.string { data := #[116, 104, 101, 32, 102, 105, 108, 101, 32, 100, 111, 101, 115, 32, 110, 111, 116, 32, 104, 97, 118, 101, 32, 116, 104, 97, 116, 32, 115, 105, 122, 101] }] 188, .cells #[.string { data := #[116, 104, 101, 114, 101, 32, 105, 115, 32, 110, 111, 32, 114, 111, 111, 109, 32, 102, 111, 114, 32, 105, 116] }] 188], #[], []⟩ with heap := ((((((World.holding Tryd.prog os ⟨#[.cells #[.string { data := #[97, 32, 116, 101, 120, 116, 32, 105, 115, 32, 116, 111, 111, 32, 108, 111, 110, 103] }] 188, .cells #[.string { data := #[116, 104, 101, 32, 102, 105, 108, 101, 115, 32, 111, 114, 32, 97, 32, 110, 97, 109, 101, 32, 97, 114, 101, 32, 110, 111, 116, 32, 114, 105, 103, 104, 116] }] 188, .cells #[.string { data := #[116, 104, 101, 114, 101, 32, 105, 115, 32, 110, 111, 32, 102, 105, 108, 101, 32, 111, 102, 32, 116, 104, 97, 116, 32, 110, 97, 109, 101] }] 188, .cells #[.string { data := #[116, 104, 101, 32, 102, 105, 108, 101, 32, 100, 111, 101, 115, 32, 110, 111, 116, 32, 104, 97, 118, 101, 32, 116, 104, 97, 116, 32, 115, 105, 122, 101] }] 188, .cells #[.string { data := #[116, 104, 101, 114, 101, 32, 105, 115, 32, 110, 111, 32, 114, 111, 111, 109, 32, 102, 111, 114, 32, 105, 116] }] 188], #[], []⟩).heap.modify 0 fun
        | .cells _ t frozen => .cells #[.iface 163 (.pointer (some ⟨10, 0, none⟩))] t frozen
        | o => o).modify 1 fun
        | .cells _ t frozen => .cells #[.iface 163 (.pointer (some ⟨11, 0, none⟩))] t frozen
        | o => o).modify 2 fun
        | .cells _ t frozen => .cells #[.iface 163 (.pointer (some ⟨12, 0, none⟩))] t frozen
        | o => o).modify 3 fun
        | .cells _ t frozen => .cells #[.iface 163 (.pointer (some ⟨13, 0, none⟩))] t frozen
        | o => o).modify 4 fun
        | .cells _ t frozen => .cells #[.iface 163 (.pointer (some ⟨14, 0, none⟩))] t frozen
        | o => o) }
      #[.agg #[.slice none 0 0]] 8 rfl (by kernel_rfl) (by kernel_rfl) (by kernel_rfl) (by kernel_rfl) (by kernel_rfl)
      (show laidMet Tryd.prog Rows.fnExactJournalReadRow.laid _ from laidMet_of_run (ps := [.cell 0 0, .cell 10 0, .cell 1 0, .cell 11 0, .cell 2 0, .cell 12 0, .cell 3 0, .cell 13 0, .cell 4 0, .cell 14 0]) 8 (by kernel_rfl) (by kernel_rfl) (by kernel_rfl))) ?_
  intro W base args ds gs before hval0 hW _ _ hL _
  have hval : ∀ (j : Nat) t v, Tryd.f3.params[j]? = some t → args[j]? = some v → Value.okWide Tryd.prog W .any base t v := hval0
  have hW' := hW
  obtain ⟨p, q, hA0, hV0, rfl, hfz, hnd⟩ := hW
  have hA : DataW.TrodAll enc Tryd.prog W 0 (fun _ => true) true Tryd.f3.params.toList args.toList ds p := hA0
  have hV : DataW.TrodVars enc Tryd.prog W (fun _ => true) ["loop.example/g00446/impl.errTooLong", "loop.example/g00446/impl.errNotRight", "loop.example/g00446/impl.errNoFile", "loop.example/g00446/impl.errOutside", "loop.example/g00446/impl.errNoRoom"] gs q := hV0
  rw [Tryd.params3] at hA hval
  obtain ⟨v0, vs0, d0, ds0, p0, q0, hargs, rfl, rfl, h0, r0⟩ := trodAll_cons hA
  obtain ⟨rfl, rfl, rfl⟩ := trodAll_nil r0
  obtain rfl : args = #[v0] := by cases args; simp_all
  have hlt : ∀ x ∈ p0 ++ ([]), x.block < W.heap.size := fun x hx => hW'.lt x (by rw [List.mem_append]; exact .inl (by simpa using hx))
  have k0 := h0
  obtain ⟨a0, L0, rfl, x0, n0, g0⟩ := Fk.open_fs Tryd.underlying24 (by kernel_rfl) rfl rfl (by kernel_rfl) Tryd.underlying22 Tryd.underlying73 (by kernel_rfl) rfl rfl rfl rfl rfl rfl (by kernel_rfl) (by kernel_rfl) Tryd.underlying9 Tryd.underlying2 (hval 0 24 v0 rfl rfl) h0
  clear hA0 hval0
  obtain ⟨b0, b1, b2, b3, b4, hE⟩ := errs_of_laid hL
  have hlen := vars_len hV
  obtain ⟨y1, y2, y3, y4, y5, rfl⟩ : ∃ y1 y2 y3 y4 y5, gs = [y1, y2, y3, y4, y5] := by
    match gs, hlen with
    | [y1, y2, y3, y4, y5], _ => exact ⟨_, _, _, _, _, rfl⟩
  have e1 : Rows.fnExactJournalReadSpec.fn H ([d0] ++ [y1, y2, y3, y4, y5]) = { results := [.lit (.bool true)], args := [d0], vars := [y1, y2, y3, y4, y5] } := by simp [Rows.fnExactJournalReadSpec]
  refine (walk a0 L0 x0 n0 W g0 b0 b1 b2 b3 b4 hE).mono fun e W' ⟨he, bel⟩ => ?_
  subst he
  refine ⟨_, rfl, _, _, _, [], p0 ++ ([]), q, hW', ?_, ?_, ?_, bel.frame _, fun h => by cases h⟩
  · rw [e1]; exact trodAll_mk1 (shut_bool Tryd.underlying4 true)
  · rw [e1]; exact (trodAll_cons_mk (Below.trod laidOut (by kernel_rfl) (of_decide_eq_true (by kernel_rfl)) k0 bel (fun x hx => hlt x (by simp [hx]))) trodAll_mk0)
  · rw [e1]; exact Below.trodVars laidOut bel (by kernel_rfl) hV

theorem over : Rows.FnExactJournalReadSaid :=
  OpenClaim.holds_of_wide 3 Tryd.f3 rfl rfl rfl rfl rfl rfl rfl ⟨rfl, rfl, rfl, rfl, rfl⟩ rfl rfl rfl rfl rfl (by kernel_rfl) Tryd.func3 (by kernel_rfl)
    (of_decide_eq_true (by kernel_rfl)) (by unfold Func.isWrapper; rw [if_neg (of_decide_eq_false (by kernel_rfl))]; exact ⟨rfl, rfl⟩)
    (fun os started H enc _ => lifted os started H enc)

/-- the tied card -/
theorem proved : Rows.FnExactJournalReadCardSaid :=
  Claim7.holds_tied_plain_at .later [] [.sentinel, .sentinel, .sentinel, .sentinel, .sentinel] true (true, "bc7151db616a863e956f9d5571b9448a7abfd5d1c8aca7964cface6d145323ce") true
    over (fun _ h => by cases h) (by kernel_rfl) (fun _ h => by cases h) fnExactJournalRead_row_tie rfl ⟨rfl, rfl⟩ (by kernel_rfl) rfl
    (fun f fn hf hfn => by
      obtain rfl : f = 3 := Option.some.inj ((show Tryd.prog.funcNamed "loop.example/g00446/laws.FnExactJournalRead" = some 3 by kernel_rfl).symm.trans hf) |>.symm
      obtain rfl : fn = Tryd.f3 := (Option.some.inj (Tryd.func3.symm.trans hfn)).symm
      exact ⟨by kernel_rfl, fun j t ht => by
        rw [Tryd.params3] at ht
        rcases j with _ | j
        · obtain rfl : t = 24 := by simpa using ht.symm
          exact (show Tryd.prog.wantsStandIn 24 = false by kernel_rfl)
        ·
          simp at ht
      ⟩)
    (by kernel_rfl)
#print axioms proved
end Go.Proofs.YtfefafmcaepoiaaDoor.fnExactJournalRead

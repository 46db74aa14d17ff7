/- Proved: for every argument the exact law of EntryOf returns true: impl.EntryOf answers as the specification's EntryOf, writes into no argument, and the argument reads as before. No condition. -/
import Derived.Test.YtemhhmcedghcdaaRows
import Derived.Test.YtemhhmcedghcdaaEntriesOpen
import Derived.Test.YtemhhmcedghcdaaEntriesLaw
import Derived.Test.YtemhhmcedghcdaaLedgerEntry
import Derived.Test.YtemhhmcedghcdaaLedgerEq
import Derived.WalkKit
import Derived.ProofKit
import Derived.OpenShut
import Derived.ShutString
import Derived.Below
import Derived.ChangeSame
namespace Go.Proofs.Ytemhhmcedghcdaa.fnExactEntryOf
open Go.ChangeShapes Go.WideShapes Go.ChangeAt Go.RowKit
open Go.ChangeMaps (open_string shut_string)
set_option linter.unusedVariables false

theorem own : ownKnob Try.prog.godebug = none := by kernel_rfl
theorem laidOut : laidOutB Try.prog = true := by kernel_rfl

set_option maxHeartbeats 8000000 in
theorem walk (v0 : Value) (L0 : List En.E) (x0 : ∀ f ∈ L0, En.Fit f) (n0 : L0.length ≤ maxLen) (s0 : Rk.Shut v0) (a1 : Int) (w1 : (Lit.int .i64 a1).wf = true) (w : World) (g0 : Rk.View En.S w v0 L0) :
    Calls Try.prog 5 #[v0, .int .i64 a1] w fun e w' => e = .returned (.bool true) ∧ Below w.heap.size w w' := by
  have HG0 := Fk.hide g0
  have HFIT := Fk.hide x0
  obtain ⟨sa, sc, rfl, _⟩ := g0
  clear x0 s0
  obtain ⟨W0, hW⟩ : ∃ W, W = w := ⟨_, rfl⟩
  have HB0 : Hid (Below w.heap.size w W0) := by show Below _ _ _; rw [hW]; exact Below.refl _ _
  have HW := Fk.hide hW
  clear hW
  go_enter Try.func5, Try.ntmps5
  rw [← HW.out]
  go_wp2_with fail
  refine (szEntryS_any _ L0 _ _ (HG0.out.below HB0.out) n0 (by decide) (by decide)).mono ?_
  rintro e W1 ⟨⟨r, rfl, hr⟩, k1⟩
  have HB1 : Hid (Below w.heap.size w W1) := HB0.out.trans (k1.mono HB0.out.size)
  have hz1 : W0.heap.size ≤ W1.heap.size := k1.size
  clear k1 
  rcases hr with rfl | ⟨hr0, hr⟩
  · go_wp2_with fail
    go_ret
    exact ⟨rfl, HW.out ▸ HB1.out⟩
  have hl0 : L0.length ≤ 1048576 := by omega
  clear hr
  obtain ⟨rs, hrs⟩ : ∃ r, r = Lg.entry L0 a1 := ⟨_, rfl⟩
  have FS : Hid (∀ w' v, Rk.View En.S w' v L0 → Calls Try.prog 25 #[v, .int .i64 a1] w' fun e w'' => e = .returned (.agg #[.int .i64 rs.1, .int .i64 rs.2.1, .bool rs.2.2.1, .int .i64 rs.2.2.2.1, .int .i64 rs.2.2.2.2.1, .int .i64 rs.2.2.2.2.2.1, .int .i64 rs.2.2.2.2.2.2]) ∧ Below w'.heap.size w' w'') := fun w' v hv => by rw [hrs]; exact entryOf_spec v a1 L0 w' hv hl0
  have FI : Hid (∀ w' v, Rk.View En.S w' v L0 → Calls Try.prog 26 #[v, .int .i64 a1] w' fun e w'' => e = .returned (.agg #[.int .i64 rs.1, .int .i64 rs.2.1, .bool rs.2.2.1, .int .i64 rs.2.2.2.1, .int .i64 rs.2.2.2.2.1, .int .i64 rs.2.2.2.2.2.1, .int .i64 rs.2.2.2.2.2.2]) ∧ Below w'.heap.size w' w'') := fun w' v hv => by rw [hrs]; exact entryOf_impl v a1 L0 w' hv hl0
  clear hrs
  go_wp2_with fail
  refine (toEntryS_any _ L0 _ (HG0.out.below HB1.out) hl0).mono ?_
  rintro e W2 ⟨⟨up, rfl, p_2⟩, k2⟩
  obtain ⟨ap, cp, rfl⟩ := p_2.slice
  have HB2 : Hid (Below w.heap.size w W2) := HB1.out.trans (k2.mono HB1.out.size)
  have hz2 : W1.heap.size ≤ W2.heap.size := k2.size
  clear k2 
  go_wp2_with fail
  refine (FS.out _ _ (p_2.view)).mono ?_
  rintro e W3 ⟨rfl, k3⟩
  have HB3 : Hid (Below w.heap.size w W3) := HB2.out.trans (k3.mono HB2.out.size)
  have hz3 : W2.heap.size ≤ W3.heap.size := k3.size
  have p_3 := p_2.below k3
  clear k3 p_2
  clear p_3
  go_wp2_with fail
  obtain ⟨W4, hW4⟩ : ∃ W, W = (W3.alloc (.cells #[.int .i64 rs.1, .int .i64 rs.2.1, .bool rs.2.2.1, .int .i64 rs.2.2.2.1, .int .i64 rs.2.2.2.2.1, .int .i64 rs.2.2.2.2.2.1, .int .i64 rs.2.2.2.2.2.2] 47)) := ⟨_, rfl⟩
  have k4 : Below W3.heap.size W3 W4 := by rw [hW4]; exact (Below.refl _ _).alloc (Nat.le_refl _) _
  have hy4 : W3.heap.size < W4.heap.size := by rw [hW4]; simp
  have swa_4 : W4.cell? ⟨W3.heap.size, 0, none⟩ = some (.int .i64 rs.1) := by rw [hW4, Fk.cellTop _ _ _ _ _ rfl]; rfl
  have swb_4 : W4.cell? ⟨W3.heap.size, 1, none⟩ = some (.int .i64 rs.2.1) := by rw [hW4, Fk.cellTop _ _ _ _ _ rfl]; rfl
  have swc_4 : W4.cell? ⟨W3.heap.size, 2, none⟩ = some (.bool rs.2.2.1) := by rw [hW4, Fk.cellTop _ _ _ _ _ rfl]; rfl
  have swd_4 : W4.cell? ⟨W3.heap.size, 3, none⟩ = some (.int .i64 rs.2.2.2.1) := by rw [hW4, Fk.cellTop _ _ _ _ _ rfl]; rfl
  have swe_4 : W4.cell? ⟨W3.heap.size, 4, none⟩ = some (.int .i64 rs.2.2.2.2.1) := by rw [hW4, Fk.cellTop _ _ _ _ _ rfl]; rfl
  have swf_4 : W4.cell? ⟨W3.heap.size, 5, none⟩ = some (.int .i64 rs.2.2.2.2.2.1) := by rw [hW4, Fk.cellTop _ _ _ _ _ rfl]; rfl
  have swg_4 : W4.cell? ⟨W3.heap.size, 6, none⟩ = some (.int .i64 rs.2.2.2.2.2.2) := by rw [hW4, Fk.cellTop _ _ _ _ _ rfl]; rfl
  have HW4 := Fk.hide hW4
  clear hW4
  have HB4 : Hid (Below w.heap.size w W4) := HB3.out.trans (k4.mono HB3.out.size)
  have hz4 : W3.heap.size ≤ W4.heap.size := k4.size
  clear k4 
  rw [← HW4.out]
  refine (toEntryS_any _ L0 _ (HG0.out.below HB4.out) hl0).mono ?_
  rintro e W5 ⟨⟨ux, rfl, x_5⟩, k5⟩
  obtain ⟨ax, cx, rfl⟩ := x_5.slice
  have HB5 : Hid (Below w.heap.size w W5) := HB4.out.trans (k5.mono HB4.out.size)
  have hz5 : W4.heap.size ≤ W5.heap.size := k5.size
  have swa_5 : W5.cell? ⟨W3.heap.size, 0, none⟩ = some (.int .i64 rs.1) := (k5.cell (by show W3.heap.size < _; omega)).trans swa_4
  have swb_5 : W5.cell? ⟨W3.heap.size, 1, none⟩ = some (.int .i64 rs.2.1) := (k5.cell (by show W3.heap.size < _; omega)).trans swb_4
  have swc_5 : W5.cell? ⟨W3.heap.size, 2, none⟩ = some (.bool rs.2.2.1) := (k5.cell (by show W3.heap.size < _; omega)).trans swc_4
  have swd_5 : W5.cell? ⟨W3.heap.size, 3, none⟩ = some (.int .i64 rs.2.2.2.1) := (k5.cell (by show W3.heap.size < _; omega)).trans swd_4
  have swe_5 : W5.cell? ⟨W3.heap.size, 4, none⟩ = some (.int .i64 rs.2.2.2.2.1) := (k5.cell (by show W3.heap.size < _; omega)).trans swe_4
  have swf_5 : W5.cell? ⟨W3.heap.size, 5, none⟩ = some (.int .i64 rs.2.2.2.2.2.1) := (k5.cell (by show W3.heap.size < _; omega)).trans swf_4
  have swg_5 : W5.cell? ⟨W3.heap.size, 6, none⟩ = some (.int .i64 rs.2.2.2.2.2.2) := (k5.cell (by show W3.heap.size < _; omega)).trans swg_4
  clear k5 swa_4 swb_4 swc_4 swd_4 swe_4 swf_4 swg_4
  go_wp2_with fail
  refine (FI.out _ _ (x_5.view)).mono ?_
  rintro e W6 ⟨rfl, k6⟩
  have HB6 : Hid (Below w.heap.size w W6) := HB5.out.trans (k6.mono HB5.out.size)
  have hz6 : W5.heap.size ≤ W6.heap.size := k6.size
  have swa_6 : W6.cell? ⟨W3.heap.size, 0, none⟩ = some (.int .i64 rs.1) := (k6.cell (by show W3.heap.size < _; omega)).trans swa_5
  have swb_6 : W6.cell? ⟨W3.heap.size, 1, none⟩ = some (.int .i64 rs.2.1) := (k6.cell (by show W3.heap.size < _; omega)).trans swb_5
  have swc_6 : W6.cell? ⟨W3.heap.size, 2, none⟩ = some (.bool rs.2.2.1) := (k6.cell (by show W3.heap.size < _; omega)).trans swc_5
  have swd_6 : W6.cell? ⟨W3.heap.size, 3, none⟩ = some (.int .i64 rs.2.2.2.1) := (k6.cell (by show W3.heap.size < _; omega)).trans swd_5
  have swe_6 : W6.cell? ⟨W3.heap.size, 4, none⟩ = some (.int .i64 rs.2.2.2.2.1) := (k6.cell (by show W3.heap.size < _; omega)).trans swe_5
  have swf_6 : W6.cell? ⟨W3.heap.size, 5, none⟩ = some (.int .i64 rs.2.2.2.2.2.1) := (k6.cell (by show W3.heap.size < _; omega)).trans swf_5
  have swg_6 : W6.cell? ⟨W3.heap.size, 6, none⟩ = some (.int .i64 rs.2.2.2.2.2.2) := (k6.cell (by show W3.heap.size < _; omega)).trans swg_5
  have x_6 := x_5.below k6
  clear k6 swa_5 swb_5 swc_5 swd_5 swe_5 swf_5 swg_5 x_5
  have lswa_ : (W6.alloc (.cells #[.int .i64 rs.1, .int .i64 rs.2.1, .bool rs.2.2.1, .int .i64 rs.2.2.2.1, .int .i64 rs.2.2.2.2.1, .int .i64 rs.2.2.2.2.2.1, .int .i64 rs.2.2.2.2.2.2] 47)).cell? ⟨W3.heap.size, 0, none⟩ = some (.int .i64 rs.1) := by rw [Fk.cellOld _ _ _ _ (by omega)]; exact swa_6
  have lswb_ : (W6.alloc (.cells #[.int .i64 rs.1, .int .i64 rs.2.1, .bool rs.2.2.1, .int .i64 rs.2.2.2.1, .int .i64 rs.2.2.2.2.1, .int .i64 rs.2.2.2.2.2.1, .int .i64 rs.2.2.2.2.2.2] 47)).cell? ⟨W3.heap.size, 1, none⟩ = some (.int .i64 rs.2.1) := by rw [Fk.cellOld _ _ _ _ (by omega)]; exact swb_6
  have lswc_ : (W6.alloc (.cells #[.int .i64 rs.1, .int .i64 rs.2.1, .bool rs.2.2.1, .int .i64 rs.2.2.2.1, .int .i64 rs.2.2.2.2.1, .int .i64 rs.2.2.2.2.2.1, .int .i64 rs.2.2.2.2.2.2] 47)).cell? ⟨W3.heap.size, 2, none⟩ = some (.bool rs.2.2.1) := by rw [Fk.cellOld _ _ _ _ (by omega)]; exact swc_6
  have lswd_ : (W6.alloc (.cells #[.int .i64 rs.1, .int .i64 rs.2.1, .bool rs.2.2.1, .int .i64 rs.2.2.2.1, .int .i64 rs.2.2.2.2.1, .int .i64 rs.2.2.2.2.2.1, .int .i64 rs.2.2.2.2.2.2] 47)).cell? ⟨W3.heap.size, 3, none⟩ = some (.int .i64 rs.2.2.2.1) := by rw [Fk.cellOld _ _ _ _ (by omega)]; exact swd_6
  have lswe_ : (W6.alloc (.cells #[.int .i64 rs.1, .int .i64 rs.2.1, .bool rs.2.2.1, .int .i64 rs.2.2.2.1, .int .i64 rs.2.2.2.2.1, .int .i64 rs.2.2.2.2.2.1, .int .i64 rs.2.2.2.2.2.2] 47)).cell? ⟨W3.heap.size, 4, none⟩ = some (.int .i64 rs.2.2.2.2.1) := by rw [Fk.cellOld _ _ _ _ (by omega)]; exact swe_6
  have lswf_ : (W6.alloc (.cells #[.int .i64 rs.1, .int .i64 rs.2.1, .bool rs.2.2.1, .int .i64 rs.2.2.2.1, .int .i64 rs.2.2.2.2.1, .int .i64 rs.2.2.2.2.2.1, .int .i64 rs.2.2.2.2.2.2] 47)).cell? ⟨W3.heap.size, 5, none⟩ = some (.int .i64 rs.2.2.2.2.2.1) := by rw [Fk.cellOld _ _ _ _ (by omega)]; exact swf_6
  have lswg_ : (W6.alloc (.cells #[.int .i64 rs.1, .int .i64 rs.2.1, .bool rs.2.2.1, .int .i64 rs.2.2.2.1, .int .i64 rs.2.2.2.2.1, .int .i64 rs.2.2.2.2.2.1, .int .i64 rs.2.2.2.2.2.2] 47)).cell? ⟨W3.heap.size, 6, none⟩ = some (.int .i64 rs.2.2.2.2.2.2) := by rw [Fk.cellOld _ _ _ _ (by omega)]; exact swg_6
  go_wp2_with fail
  clear lswa_ lswb_ lswc_ lswd_ lswe_ lswf_ lswg_
  obtain ⟨W7, hW7⟩ : ∃ W, W = (W6.alloc (.cells #[.int .i64 rs.1, .int .i64 rs.2.1, .bool rs.2.2.1, .int .i64 rs.2.2.2.1, .int .i64 rs.2.2.2.2.1, .int .i64 rs.2.2.2.2.2.1, .int .i64 rs.2.2.2.2.2.2] 47)) := ⟨_, rfl⟩
  have k7 : Below W6.heap.size W6 W7 := by rw [hW7]; exact (Below.refl _ _).alloc (Nat.le_refl _) _
  have hy7 : W6.heap.size < W7.heap.size := by rw [hW7]; simp
  have sga_7 : W7.cell? ⟨W6.heap.size, 0, none⟩ = some (.int .i64 rs.1) := by rw [hW7, Fk.cellTop _ _ _ _ _ rfl]; rfl
  have sgb_7 : W7.cell? ⟨W6.heap.size, 1, none⟩ = some (.int .i64 rs.2.1) := by rw [hW7, Fk.cellTop _ _ _ _ _ rfl]; rfl
  have sgc_7 : W7.cell? ⟨W6.heap.size, 2, none⟩ = some (.bool rs.2.2.1) := by rw [hW7, Fk.cellTop _ _ _ _ _ rfl]; rfl
  have sgd_7 : W7.cell? ⟨W6.heap.size, 3, none⟩ = some (.int .i64 rs.2.2.2.1) := by rw [hW7, Fk.cellTop _ _ _ _ _ rfl]; rfl
  have sge_7 : W7.cell? ⟨W6.heap.size, 4, none⟩ = some (.int .i64 rs.2.2.2.2.1) := by rw [hW7, Fk.cellTop _ _ _ _ _ rfl]; rfl
  have sgf_7 : W7.cell? ⟨W6.heap.size, 5, none⟩ = some (.int .i64 rs.2.2.2.2.2.1) := by rw [hW7, Fk.cellTop _ _ _ _ _ rfl]; rfl
  have sgg_7 : W7.cell? ⟨W6.heap.size, 6, none⟩ = some (.int .i64 rs.2.2.2.2.2.2) := by rw [hW7, Fk.cellTop _ _ _ _ _ rfl]; rfl
  have HW7 := Fk.hide hW7
  clear hW7
  have HB7 : Hid (Below w.heap.size w W7) := HB6.out.trans (k7.mono HB6.out.size)
  have hz7 : W6.heap.size ≤ W7.heap.size := k7.size
  have swa_7 : W7.cell? ⟨W3.heap.size, 0, none⟩ = some (.int .i64 rs.1) := (k7.cell (by show W3.heap.size < _; omega)).trans swa_6
  have swb_7 : W7.cell? ⟨W3.heap.size, 1, none⟩ = some (.int .i64 rs.2.1) := (k7.cell (by show W3.heap.size < _; omega)).trans swb_6
  have swc_7 : W7.cell? ⟨W3.heap.size, 2, none⟩ = some (.bool rs.2.2.1) := (k7.cell (by show W3.heap.size < _; omega)).trans swc_6
  have swd_7 : W7.cell? ⟨W3.heap.size, 3, none⟩ = some (.int .i64 rs.2.2.2.1) := (k7.cell (by show W3.heap.size < _; omega)).trans swd_6
  have swe_7 : W7.cell? ⟨W3.heap.size, 4, none⟩ = some (.int .i64 rs.2.2.2.2.1) := (k7.cell (by show W3.heap.size < _; omega)).trans swe_6
  have swf_7 : W7.cell? ⟨W3.heap.size, 5, none⟩ = some (.int .i64 rs.2.2.2.2.2.1) := (k7.cell (by show W3.heap.size < _; omega)).trans swf_6
  have swg_7 : W7.cell? ⟨W3.heap.size, 6, none⟩ = some (.int .i64 rs.2.2.2.2.2.2) := (k7.cell (by show W3.heap.size < _; omega)).trans swg_6
  have x_7 := x_6.below k7
  clear k7 swa_6 swb_6 swc_6 swd_6 swe_6 swf_6 swg_6 x_6
  rw [← HW7.out]
  refine (eqEntry_same rs.1 rs.2.1 rs.2.2.1 rs.2.2.2.1 rs.2.2.2.2.1 rs.2.2.2.2.2.1 rs.2.2.2.2.2.2 _).mono ?_
  rintro e W8 ⟨rfl, k8⟩
  have HB8 : Hid (Below w.heap.size w W8) := HB7.out.trans (k8.mono HB7.out.size)
  have hz8 : W7.heap.size ≤ W8.heap.size := k8.size
  have swa_8 : W8.cell? ⟨W3.heap.size, 0, none⟩ = some (.int .i64 rs.1) := (k8.cell (by show W3.heap.size < _; omega)).trans swa_7
  have swb_8 : W8.cell? ⟨W3.heap.size, 1, none⟩ = some (.int .i64 rs.2.1) := (k8.cell (by show W3.heap.size < _; omega)).trans swb_7
  have swc_8 : W8.cell? ⟨W3.heap.size, 2, none⟩ = some (.bool rs.2.2.1) := (k8.cell (by show W3.heap.size < _; omega)).trans swc_7
  have swd_8 : W8.cell? ⟨W3.heap.size, 3, none⟩ = some (.int .i64 rs.2.2.2.1) := (k8.cell (by show W3.heap.size < _; omega)).trans swd_7
  have swe_8 : W8.cell? ⟨W3.heap.size, 4, none⟩ = some (.int .i64 rs.2.2.2.2.1) := (k8.cell (by show W3.heap.size < _; omega)).trans swe_7
  have swf_8 : W8.cell? ⟨W3.heap.size, 5, none⟩ = some (.int .i64 rs.2.2.2.2.2.1) := (k8.cell (by show W3.heap.size < _; omega)).trans swf_7
  have swg_8 : W8.cell? ⟨W3.heap.size, 6, none⟩ = some (.int .i64 rs.2.2.2.2.2.2) := (k8.cell (by show W3.heap.size < _; omega)).trans swg_7
  have sga_8 : W8.cell? ⟨W6.heap.size, 0, none⟩ = some (.int .i64 rs.1) := (k8.cell (by show W6.heap.size < _; omega)).trans sga_7
  have sgb_8 : W8.cell? ⟨W6.heap.size, 1, none⟩ = some (.int .i64 rs.2.1) := (k8.cell (by show W6.heap.size < _; omega)).trans sgb_7
  have sgc_8 : W8.cell? ⟨W6.heap.size, 2, none⟩ = some (.bool rs.2.2.1) := (k8.cell (by show W6.heap.size < _; omega)).trans sgc_7
  have sgd_8 : W8.cell? ⟨W6.heap.size, 3, none⟩ = some (.int .i64 rs.2.2.2.1) := (k8.cell (by show W6.heap.size < _; omega)).trans sgd_7
  have sge_8 : W8.cell? ⟨W6.heap.size, 4, none⟩ = some (.int .i64 rs.2.2.2.2.1) := (k8.cell (by show W6.heap.size < _; omega)).trans sge_7
  have sgf_8 : W8.cell? ⟨W6.heap.size, 5, none⟩ = some (.int .i64 rs.2.2.2.2.2.1) := (k8.cell (by show W6.heap.size < _; omega)).trans sgf_7
  have sgg_8 : W8.cell? ⟨W6.heap.size, 6, none⟩ = some (.int .i64 rs.2.2.2.2.2.2) := (k8.cell (by show W6.heap.size < _; omega)).trans sgg_7
  have x_8 := x_7.below k8
  clear k8 swa_7 swb_7 swc_7 swd_7 swe_7 swf_7 swg_7 sga_7 sgb_7 sgc_7 sgd_7 sge_7 sgf_7 sgg_7 x_7
  go_wp2_with fail
  refine (toEntryS_any _ L0 _ (HG0.out.below HB8.out) hl0).mono ?_
  rintro e W9 ⟨⟨uq, rfl, q_9⟩, k9⟩
  obtain ⟨aq, cq, rfl⟩ := q_9.slice
  have HB9 : Hid (Below w.heap.size w W9) := HB8.out.trans (k9.mono HB8.out.size)
  have hz9 : W8.heap.size ≤ W9.heap.size := k9.size
  have swa_9 : W9.cell? ⟨W3.heap.size, 0, none⟩ = some (.int .i64 rs.1) := (k9.cell (by show W3.heap.size < _; omega)).trans swa_8
  have swb_9 : W9.cell? ⟨W3.heap.size, 1, none⟩ = some (.int .i64 rs.2.1) := (k9.cell (by show W3.heap.size < _; omega)).trans swb_8
  have swc_9 : W9.cell? ⟨W3.heap.size, 2, none⟩ = some (.bool rs.2.2.1) := (k9.cell (by show W3.heap.size < _; omega)).trans swc_8
  have swd_9 : W9.cell? ⟨W3.heap.size, 3, none⟩ = some (.int .i64 rs.2.2.2.1) := (k9.cell (by show W3.heap.size < _; omega)).trans swd_8
  have swe_9 : W9.cell? ⟨W3.heap.size, 4, none⟩ = some (.int .i64 rs.2.2.2.2.1) := (k9.cell (by show W3.heap.size < _; omega)).trans swe_8
  have swf_9 : W9.cell? ⟨W3.heap.size, 5, none⟩ = some (.int .i64 rs.2.2.2.2.2.1) := (k9.cell (by show W3.heap.size < _; omega)).trans swf_8
  have swg_9 : W9.cell? ⟨W3.heap.size, 6, none⟩ = some (.int .i64 rs.2.2.2.2.2.2) := (k9.cell (by show W3.heap.size < _; omega)).trans swg_8
  have sga_9 : W9.cell? ⟨W6.heap.size, 0, none⟩ = some (.int .i64 rs.1) := (k9.cell (by show W6.heap.size < _; omega)).trans sga_8
  have sgb_9 : W9.cell? ⟨W6.heap.size, 1, none⟩ = some (.int .i64 rs.2.1) := (k9.cell (by show W6.heap.size < _; omega)).trans sgb_8
  have sgc_9 : W9.cell? ⟨W6.heap.size, 2, none⟩ = some (.bool rs.2.2.1) := (k9.cell (by show W6.heap.size < _; omega)).trans sgc_8
  have sgd_9 : W9.cell? ⟨W6.heap.size, 3, none⟩ = some (.int .i64 rs.2.2.2.1) := (k9.cell (by show W6.heap.size < _; omega)).trans sgd_8
  have sge_9 : W9.cell? ⟨W6.heap.size, 4, none⟩ = some (.int .i64 rs.2.2.2.2.1) := (k9.cell (by show W6.heap.size < _; omega)).trans sge_8
  have sgf_9 : W9.cell? ⟨W6.heap.size, 5, none⟩ = some (.int .i64 rs.2.2.2.2.2.1) := (k9.cell (by show W6.heap.size < _; omega)).trans sgf_8
  have sgg_9 : W9.cell? ⟨W6.heap.size, 6, none⟩ = some (.int .i64 rs.2.2.2.2.2.2) := (k9.cell (by show W6.heap.size < _; omega)).trans sgg_8
  have x_9 := x_8.below k9
  clear k9 swa_8 swb_8 swc_8 swd_8 swe_8 swf_8 swg_8 sga_8 sgb_8 sgc_8 sgd_8 sge_8 sgf_8 sgg_8 x_8
  go_wp2_with fail
  refine (eqEntryS_same _ _ L0 _ x_9.view q_9.view hl0).mono ?_
  rintro e W10 ⟨rfl, k10⟩
  have HB10 : Hid (Below w.heap.size w W10) := HB9.out.trans (k10.mono HB9.out.size)
  clear k10
  go_wp2_with fail
  go_ret
  exact ⟨rfl, HW.out ▸ HB10.out⟩

set_option maxRecDepth 100000 in
theorem lifted (os : Os) (started : os.Started) (H : Type) (enc : TypeId × Value → H) :
    ReturnsInHanded {} Try.checked os 5 .any (Rows.fnExactEntryOfSpec.pre6 enc Try.prog Try.f5 Rows.fnExactEntryOfRow.domain false) (Rows.fnExactEntryOfSpec.post enc Try.prog Try.f5 false true false false) := by
  refine returnsInHanded_of_change (C := Try.checked) own started (by kernel_rfl) Try.func5
    (ChangeSpec.witness6 (enc := enc) (C := Try.checked) false ⟨#[], #[.slice none 0 0, .int .i64 0], []⟩ 8 (by kernel_rfl) (by kernel_rfl) (by kernel_rfl) (by kernel_rfl)) ?_
  intro W base args ds gs before hval0 hW hcnd _
  have hval : ∀ (j : Nat) t v, Try.f5.params[j]? = some t → args[j]? = some v → Value.okWide Try.prog W .any base t v := hval0
  have hW' := hW
  obtain ⟨p, q, hA0, hV, rfl, hfz, hnd⟩ := hW
  have hA : DataW.TrodAll enc Try.prog W 0 (fun _ => true) true Try.f5.params.toList args.toList ds p := hA0
  rw [Try.params5] at hA hval
  obtain ⟨v0, vs0, d0, ds0, p0, q0, hargs, rfl, rfl, h0, r0⟩ := trodAll_cons hA
  obtain ⟨v1, vs1, d1, ds1, p1, q1, rfl, rfl, rfl, h1, r1⟩ := trodAll_cons r0
  obtain ⟨rfl, rfl, rfl⟩ := trodAll_nil r1
  obtain rfl : args = #[v0, v1] := by cases args; simp_all
  obtain ⟨rfl, rfl⟩ := trodVars_none hV
  have hlt : ∀ x ∈ p0 ++ (p1 ++ ([])), x.block < W.heap.size := fun x hx => hW'.lt x (by simpa using hx)
  have k0 := h0
  obtain ⟨L0, x0, n0, s0, g0⟩ := En.open_list (hval 0 22 v0 rfl rfl) h0
  have k1 := h1
  obtain ⟨a1, rfl, rfl, rfl, w1⟩ := open_int Try.underlying2 (hval 1 2 v1 rfl rfl) h1
  clear hA0 hval0
  have e1 : Rows.fnExactEntryOfSpec.fn H ([d0, .lit (.int .i64 a1)] ++ []) = { results := [.lit (.bool true)], args := [d0, .lit (.int .i64 a1)] } := by simp [Rows.fnExactEntryOfSpec]
  refine (walk v0 L0 x0 n0 s0 a1 w1 W g0).mono fun e W' ⟨he, bel⟩ => ?_
  subst he
  refine ⟨_, rfl, _, _, _, [], p0 ++ ([] ++ ([])), [], hW', ?_, ?_, ?_, bel.frame _, fun h => by cases h⟩
  · rw [e1]; exact trodAll_mk1 (shut_bool Try.underlying4 true)
  · rw [e1]; exact (trodAll_cons_mk (Below.trod laidOut (by kernel_rfl) (of_decide_eq_true (by kernel_rfl)) k0 bel (fun x hx => hlt x (by simp [hx]))) (trodAll_cons_mk (shut_int Try.underlying2 w1) trodAll_mk0))
  · rw [e1]; rfl

theorem over : Rows.fnExactEntryOfRow.holds Try.pinned (OpenSpec.ofChange Rows.fnExactEntryOfSpec) :=
  OpenClaim.holds_of_wide 5 Try.f5 rfl rfl rfl rfl rfl rfl rfl ⟨rfl, rfl, rfl, rfl, rfl⟩ rfl rfl rfl rfl rfl (by kernel_rfl) Try.func5 (by kernel_rfl)
    (of_decide_eq_true (by kernel_rfl)) (by unfold Func.isWrapper; rw [if_neg (of_decide_eq_false (by kernel_rfl))]; exact ⟨rfl, rfl⟩)
    (fun os started H enc _ => lifted os started H enc)

/-- the statement -/
theorem proved : Rows.FnExactEntryOfSaid :=
  over
#print axioms proved
end Go.Proofs.Ytemhhmcedghcdaa.fnExactEntryOf

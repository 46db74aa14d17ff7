/- The walk of the law of promise 16. -/
import Derived.Test.YtojdfdlbdpdlkaaGreatDoorJoined2
import Derived.Test.YtojdfdlbdpdlkaaGreatDoorJoined3
import Derived.Test.YtojdfdlbdpdlkaaGreatDoorJoined20
import Derived.Test.YtojdfdlbdpdlkaaGreatDoorJournalAddImpl
import Derived.Test.YtojdfdlbdpdlkaaGreatDoorJournalCleanSpec
import Derived.Test.YtojdfdlbdpdlkaaGreatDoorJournalCleanImpl
import Derived.Test.YtojdfdlbdpdlkaaGreatDoorJoined27
import Derived.Test.YtojdfdlbdpdlkaaGreatDoorJoined28
import Derived.Test.YtojdfdlbdpdlkaaGreatDoorJoined30
import Derived.Test.YtojdfdlbdpdlkaaGreatDoorFsCrashSpec
import Derived.Test.YtojdfdlbdpdlkaaGreatDoorJoined31
import Derived.Deep.RegionHeld3
namespace Go.Proofs.YtojdfdlbdpdlkaaGreatDoor
open Go.RowKit
set_option linter.unusedVariables false
set_option linter.unusedSimpArgs false
theorem Jn.field_txts (a : Option Addr) (n m : Nat) (x c : Int) (W : World) : (Instr.field 37 (.agg #[.slice a n m, .int .i64 x, .int .i64 c]) 0).run Tryz.prog W = .ok (.slice a n m) W := by kernel_rfl
set_option maxRecDepth 20000 in
set_option maxHeartbeats 8000000 in
theorem fnJournal_walk (a0 : Option Addr) (n0 c0 : Nat) (m0 : n0 ≤ maxLen) (a1 : Option Addr) (n1 c1 : Nat) (m1 : n1 ≤ maxLen) (w : World) (g0 : Dk.Bytes w.heap.size w a0 n0) (g1 : Dk.Bytes w.heap.size w a1 n1) (b0 b1 b2 b3 b4 : Addr) (hE : Is.Errs w b0 b1 b2 b3 b4) :
    Calls Tryz.prog 3 #[.slice a0 n0 c0, .slice a1 n1 c1] w fun e w' => e = .returned (.bool true) ∧ Below w.heap.size w w' := by
  unfold maxLen at m0 m1
  by_cases hb0 : (1048576 : Int) < (n0 : Int)
  · go_enter Tryz.func3, Tryz.ntmps3
    go_wp2_with fail
    go_ret
    exact ⟨rfl, Below.refl _ _⟩
  by_cases hb1 : (1048576 : Int) < (n1 : Int)
  · go_enter Tryz.func3, Tryz.ntmps3
    go_wp2_with fail
    go_ret
    exact ⟨rfl, Below.refl _ _⟩
  have HC0 : Hid ((Below w.heap.size w w) ∧ (Is.Errs w b0 b1 b2 b3 b4) ∧ (Dk.Bytes w.heap.size w a0 n0) ∧ (Dk.Bytes w.heap.size w a1 n1) ∧ True) := ⟨Below.refl _ _, hE, g0, g1, trivial⟩
  clear g0 g1 hE
  go_enter Tryz.func3, Tryz.ntmps3
  go_wp2_with fail
  refine (drawJournalAdd_any w.heap.size a0 n0 c0 w (Nat.le_refl _) (by omega) HC0.out.2.2.1).mono ?_
  rintro e w1 ⟨⟨u, Lf, tx, sy, rfl, ho, hff, hlf, htx⟩, bl⟩
  obtain ⟨fa, fn, fc, rfl⟩ := ho.slice'
  have HFf := Fk.hide hff.1
  clear hff
  have HSTX := Fk.hide htx
  clear htx
  obtain ⟨q1, hq⟩ : ∃ q, q = w1.heap.size := ⟨_, rfl⟩
  have HC1 : Hid ((Below w.heap.size w (w1.alloc (.cells #[.slice fa fn fc] 25))) ∧ (Is.Errs (w1.alloc (.cells #[.slice fa fn fc] 25)) b0 b1 b2 b3 b4) ∧ (Dk.Bytes w.heap.size (w1.alloc (.cells #[.slice fa fn fc] 25)) a0 n0) ∧ (Dk.Bytes w.heap.size (w1.alloc (.cells #[.slice fa fn fc] 25)) a1 n1) ∧ ((w1.alloc (.cells #[.slice fa fn fc] 25)).cell? ⟨q1, 0, none⟩ = some (.slice fa fn fc)) ∧ (Fk.Own (w1.alloc (.cells #[.slice fa fn fc] 25)) 0 75 (.slice fa fn fc) Lf) ∧ True) := by
    have bb : Below w.heap.size w (w1.alloc (.cells #[.slice fa fn fc] 25)) := bl.alloc bl.size _
    have bt : Below w1.heap.size w1 (w1.alloc (.cells #[.slice fa fn fc] 25)) := (Below.refl _ _).alloc (Nat.le_refl _) _
    subst hq
    exact ⟨Lw.bel_trans (HC0.out.1) bb, Is.Errs.below (HC0.out.2.1) bb, Dk.Bytes.below (HC0.out.2.2.1) bb, Dk.Bytes.below (HC0.out.2.2.2.1) bb, (by rw [Fk.cellTop _ _ _ _ _ rfl]; rfl), Fk.Own.below (Fk.Own.mono ho (Nat.zero_le _)) bt, trivial⟩
  obtain ⟨W1, hW⟩ : ∃ W, W = (w1.alloc (.cells #[.slice fa fn fc] 25)) := ⟨_, rfl⟩
  have HW1 := Fk.hide hW
  have HQ1 := Fk.hide hq
  rw [← hW] at HC1
  clear hW hq bl ho HC0
  go_wp2_with fail
  rw [← HW1.out, ← HQ1.out]
  clear HW1 HQ1
  refine (journalAdd_impl _ Lf tx sy b0 b1 b2 b3 b4 W1 (Fk.view_of_owns HC1.out.2.2.2.2.2.1) HFf.out (by unfold maxLen; omega) (by have := HSTX.out; unfold maxLen; omega) HC1.out.2.1).mono ?_
  rintro e w2 ⟨⟨u, MX, cX, rfl, ho, ha⟩, bl⟩
  obtain ⟨Xa, Xn, Xc, rfl⟩ := ho.slice'
  have HAX := Fk.hide ha
  clear ha
  obtain ⟨q2, hq⟩ : ∃ q, q = w2.heap.size := ⟨_, rfl⟩
  have HC2 : Hid ((Below w.heap.size w (w2.alloc (.cells #[.slice Xa Xn Xc, .int .i64 cX] 29))) ∧ (Is.Errs (w2.alloc (.cells #[.slice Xa Xn Xc, .int .i64 cX] 29)) b0 b1 b2 b3 b4) ∧ (Dk.Bytes w.heap.size (w2.alloc (.cells #[.slice Xa Xn Xc, .int .i64 cX] 29)) a0 n0) ∧ (Dk.Bytes w.heap.size (w2.alloc (.cells #[.slice Xa Xn Xc, .int .i64 cX] 29)) a1 n1) ∧ ((w2.alloc (.cells #[.slice Xa Xn Xc, .int .i64 cX] 29)).cell? ⟨q1, 0, none⟩ = some (.slice fa fn fc)) ∧ (Fk.Own (w2.alloc (.cells #[.slice Xa Xn Xc, .int .i64 cX] 29)) 0 75 (.slice fa fn fc) Lf) ∧ ((w2.alloc (.cells #[.slice Xa Xn Xc, .int .i64 cX] 29)).cell? ⟨q2, 0, none⟩ = some (.slice Xa Xn Xc)) ∧ ((w2.alloc (.cells #[.slice Xa Xn Xc, .int .i64 cX] 29)).cell? ⟨q2, 1, none⟩ = some (.int .i64 cX)) ∧ (Fk.Own (w2.alloc (.cells #[.slice Xa Xn Xc, .int .i64 cX] 29)) 0 75 (.slice Xa Xn Xc) MX) ∧ True) := by
    have bb : Below W1.heap.size W1 (w2.alloc (.cells #[.slice Xa Xn Xc, .int .i64 cX] 29)) := bl.alloc bl.size _
    have bt : Below w2.heap.size w2 (w2.alloc (.cells #[.slice Xa Xn Xc, .int .i64 cX] 29)) := (Below.refl _ _).alloc (Nat.le_refl _) _
    subst hq
    exact ⟨Lw.bel_trans (HC1.out.1) bb, Is.Errs.below (HC1.out.2.1) bb, Dk.Bytes.below (HC1.out.2.2.1) bb, Dk.Bytes.below (HC1.out.2.2.2.1) bb, Lw.cell_below bb (HC1.out.2.2.2.2.1), Fk.Own.below (HC1.out.2.2.2.2.2.1) bb, (by rw [Fk.cellTop _ _ _ _ _ rfl]; rfl), (by rw [Fk.cellTop _ _ _ _ _ rfl]; rfl), Fk.Own.below (Fk.Own.mono ho (Nat.zero_le _)) bt, trivial⟩
  obtain ⟨W2, hW⟩ : ∃ W, W = (w2.alloc (.cells #[.slice Xa Xn Xc, .int .i64 cX] 29)) := ⟨_, rfl⟩
  have HW2 := Fk.hide hW
  have HQ2 := Fk.hide hq
  rw [← hW] at HC2
  clear hW hq bl ho HC1
  go_wp2_with fail
  rw [← HW2.out, ← HQ2.out]
  clear HW2 HQ2
  refine (drawJournalClean_any w.heap.size a1 n1 c1 W2 (HC2.out.1).size (by omega) HC2.out.2.2.2.1).mono ?_
  rintro e w3 ⟨⟨u, Lg, rfl, ho, hfg, hlg⟩, bl⟩
  obtain ⟨ga, gn, gc, rfl⟩ := ho.slice'
  have HFg := Fk.hide hfg.1
  clear hfg
  obtain ⟨q3, hq⟩ : ∃ q, q = w3.heap.size := ⟨_, rfl⟩
  have HC3 : Hid ((Below w.heap.size w (w3.alloc (.cells #[.slice ga gn gc] 25))) ∧ (Is.Errs (w3.alloc (.cells #[.slice ga gn gc] 25)) b0 b1 b2 b3 b4) ∧ (Dk.Bytes w.heap.size (w3.alloc (.cells #[.slice ga gn gc] 25)) a0 n0) ∧ (Dk.Bytes w.heap.size (w3.alloc (.cells #[.slice ga gn gc] 25)) a1 n1) ∧ ((w3.alloc (.cells #[.slice ga gn gc] 25)).cell? ⟨q1, 0, none⟩ = some (.slice fa fn fc)) ∧ (Fk.Own (w3.alloc (.cells #[.slice ga gn gc] 25)) 0 75 (.slice fa fn fc) Lf) ∧ ((w3.alloc (.cells #[.slice ga gn gc] 25)).cell? ⟨q2, 0, none⟩ = some (.slice Xa Xn Xc)) ∧ ((w3.alloc (.cells #[.slice ga gn gc] 25)).cell? ⟨q2, 1, none⟩ = some (.int .i64 cX)) ∧ (Fk.Own (w3.alloc (.cells #[.slice ga gn gc] 25)) 0 75 (.slice Xa Xn Xc) MX) ∧ ((w3.alloc (.cells #[.slice ga gn gc] 25)).cell? ⟨q3, 0, none⟩ = some (.slice ga gn gc)) ∧ (Fk.Own (w3.alloc (.cells #[.slice ga gn gc] 25)) 0 75 (.slice ga gn gc) Lg) ∧ True) := by
    have bb : Below W2.heap.size W2 (w3.alloc (.cells #[.slice ga gn gc] 25)) := bl.alloc bl.size _
    have bt : Below w3.heap.size w3 (w3.alloc (.cells #[.slice ga gn gc] 25)) := (Below.refl _ _).alloc (Nat.le_refl _) _
    subst hq
    exact ⟨Lw.bel_trans (HC2.out.1) bb, Is.Errs.below (HC2.out.2.1) bb, Dk.Bytes.below (HC2.out.2.2.1) bb, Dk.Bytes.below (HC2.out.2.2.2.1) bb, Lw.cell_below bb (HC2.out.2.2.2.2.1), Fk.Own.below (HC2.out.2.2.2.2.2.1) bb, Lw.cell_below bb (HC2.out.2.2.2.2.2.2.1), Lw.cell_below bb (HC2.out.2.2.2.2.2.2.2.1), Fk.Own.below (HC2.out.2.2.2.2.2.2.2.2.1) bb, (by rw [Fk.cellTop _ _ _ _ _ rfl]; rfl), Fk.Own.below (Fk.Own.mono ho (Nat.zero_le _)) bt, trivial⟩
  obtain ⟨W3, hW⟩ : ∃ W, W = (w3.alloc (.cells #[.slice ga gn gc] 25)) := ⟨_, rfl⟩
  have HW3 := Fk.hide hW
  have HQ3 := Fk.hide hq
  rw [← hW] at HC3
  clear hW hq bl ho HC2
  go_wp2_with fail
  rw [← HW3.out, ← HQ3.out]
  clear HW3 HQ3
  refine (journalClean_impl _ Lg b0 b1 b2 b3 b4 W3 (Fk.view_of_owns HC3.out.2.2.2.2.2.2.2.2.2.2.1) HFg.out (by unfold maxLen; omega) HC3.out.2.1).mono ?_
  rintro e w4 ⟨⟨u, MY, cY, rfl, ho, ha⟩, bl⟩
  obtain ⟨Ya, Yn, Yc, rfl⟩ := ho.slice'
  have HAY := Fk.hide ha
  clear ha
  obtain ⟨q4, hq⟩ : ∃ q, q = w4.heap.size := ⟨_, rfl⟩
  have HC4 : Hid ((Below w.heap.size w (w4.alloc (.cells #[.slice Ya Yn Yc, .int .i64 cY] 29))) ∧ (Is.Errs (w4.alloc (.cells #[.slice Ya Yn Yc, .int .i64 cY] 29)) b0 b1 b2 b3 b4) ∧ (Dk.Bytes w.heap.size (w4.alloc (.cells #[.slice Ya Yn Yc, .int .i64 cY] 29)) a0 n0) ∧ (Dk.Bytes w.heap.size (w4.alloc (.cells #[.slice Ya Yn Yc, .int .i64 cY] 29)) a1 n1) ∧ ((w4.alloc (.cells #[.slice Ya Yn Yc, .int .i64 cY] 29)).cell? ⟨q1, 0, none⟩ = some (.slice fa fn fc)) ∧ (Fk.Own (w4.alloc (.cells #[.slice Ya Yn Yc, .int .i64 cY] 29)) 0 75 (.slice fa fn fc) Lf) ∧ ((w4.alloc (.cells #[.slice Ya Yn Yc, .int .i64 cY] 29)).cell? ⟨q2, 0, none⟩ = some (.slice Xa Xn Xc)) ∧ ((w4.alloc (.cells #[.slice Ya Yn Yc, .int .i64 cY] 29)).cell? ⟨q2, 1, none⟩ = some (.int .i64 cX)) ∧ (Fk.Own (w4.alloc (.cells #[.slice Ya Yn Yc, .int .i64 cY] 29)) 0 75 (.slice Xa Xn Xc) MX) ∧ ((w4.alloc (.cells #[.slice Ya Yn Yc, .int .i64 cY] 29)).cell? ⟨q3, 0, none⟩ = some (.slice ga gn gc)) ∧ (Fk.Own (w4.alloc (.cells #[.slice Ya Yn Yc, .int .i64 cY] 29)) 0 75 (.slice ga gn gc) Lg) ∧ ((w4.alloc (.cells #[.slice Ya Yn Yc, .int .i64 cY] 29)).cell? ⟨q4, 0, none⟩ = some (.slice Ya Yn Yc)) ∧ ((w4.alloc (.cells #[.slice Ya Yn Yc, .int .i64 cY] 29)).cell? ⟨q4, 1, none⟩ = some (.int .i64 cY)) ∧ (Fk.Own (w4.alloc (.cells #[.slice Ya Yn Yc, .int .i64 cY] 29)) 0 75 (.slice Ya Yn Yc) MY) ∧ True) := by
    have bb : Below W3.heap.size W3 (w4.alloc (.cells #[.slice Ya Yn Yc, .int .i64 cY] 29)) := bl.alloc bl.size _
    have bt : Below w4.heap.size w4 (w4.alloc (.cells #[.slice Ya Yn Yc, .int .i64 cY] 29)) := (Below.refl _ _).alloc (Nat.le_refl _) _
    subst hq
    exact ⟨Lw.bel_trans (HC3.out.1) bb, Is.Errs.below (HC3.out.2.1) bb, Dk.Bytes.below (HC3.out.2.2.1) bb, Dk.Bytes.below (HC3.out.2.2.2.1) bb, Lw.cell_below bb (HC3.out.2.2.2.2.1), Fk.Own.below (HC3.out.2.2.2.2.2.1) bb, Lw.cell_below bb (HC3.out.2.2.2.2.2.2.1), Lw.cell_below bb (HC3.out.2.2.2.2.2.2.2.1), Fk.Own.below (HC3.out.2.2.2.2.2.2.2.2.1) bb, Lw.cell_below bb (HC3.out.2.2.2.2.2.2.2.2.2.1), Fk.Own.below (HC3.out.2.2.2.2.2.2.2.2.2.2.1) bb, (by rw [Fk.cellTop _ _ _ _ _ rfl]; rfl), (by rw [Fk.cellTop _ _ _ _ _ rfl]; rfl), Fk.Own.below (Fk.Own.mono ho (Nat.zero_le _)) bt, trivial⟩
  obtain ⟨W4, hW⟩ : ∃ W, W = (w4.alloc (.cells #[.slice Ya Yn Yc, .int .i64 cY] 29)) := ⟨_, rfl⟩
  have HW4 := Fk.hide hW
  have HQ4 := Fk.hide hq
  rw [← hW] at HC4
  clear hW hq bl ho HC3
  go_wp2_with fail
  rw [← HW4.out, ← HQ4.out]
  clear HW4 HQ4
  refine (drawJournalDrop_any w.heap.size a1 n1 c1 W4 (HC4.out.1).size (by omega) HC4.out.2.2.2.1).mono ?_
  rintro e w5 ⟨⟨u, Lh_, rfl, ho, hfh_, hlh_⟩, bl⟩
  obtain ⟨h_a, h_n, h_c, rfl⟩ := ho.slice'
  have HFh_ := Fk.hide hfh_.1
  clear hfh_
  obtain ⟨q5, hq⟩ : ∃ q, q = w5.heap.size := ⟨_, rfl⟩
  have HC5 : Hid ((Below w.heap.size w (w5.alloc (.cells #[.slice h_a h_n h_c] 25))) ∧ (Is.Errs (w5.alloc (.cells #[.slice h_a h_n h_c] 25)) b0 b1 b2 b3 b4) ∧ (Dk.Bytes w.heap.size (w5.alloc (.cells #[.slice h_a h_n h_c] 25)) a0 n0) ∧ (Dk.Bytes w.heap.size (w5.alloc (.cells #[.slice h_a h_n h_c] 25)) a1 n1) ∧ ((w5.alloc (.cells #[.slice h_a h_n h_c] 25)).cell? ⟨q1, 0, none⟩ = some (.slice fa fn fc)) ∧ (Fk.Own (w5.alloc (.cells #[.slice h_a h_n h_c] 25)) 0 75 (.slice fa fn fc) Lf) ∧ ((w5.alloc (.cells #[.slice h_a h_n h_c] 25)).cell? ⟨q2, 0, none⟩ = some (.slice Xa Xn Xc)) ∧ ((w5.alloc (.cells #[.slice h_a h_n h_c] 25)).cell? ⟨q2, 1, none⟩ = some (.int .i64 cX)) ∧ (Fk.Own (w5.alloc (.cells #[.slice h_a h_n h_c] 25)) 0 75 (.slice Xa Xn Xc) MX) ∧ ((w5.alloc (.cells #[.slice h_a h_n h_c] 25)).cell? ⟨q3, 0, none⟩ = some (.slice ga gn gc)) ∧ (Fk.Own (w5.alloc (.cells #[.slice h_a h_n h_c] 25)) 0 75 (.slice ga gn gc) Lg) ∧ ((w5.alloc (.cells #[.slice h_a h_n h_c] 25)).cell? ⟨q4, 0, none⟩ = some (.slice Ya Yn Yc)) ∧ ((w5.alloc (.cells #[.slice h_a h_n h_c] 25)).cell? ⟨q4, 1, none⟩ = some (.int .i64 cY)) ∧ (Fk.Own (w5.alloc (.cells #[.slice h_a h_n h_c] 25)) 0 75 (.slice Ya Yn Yc) MY) ∧ ((w5.alloc (.cells #[.slice h_a h_n h_c] 25)).cell? ⟨q5, 0, none⟩ = some (.slice h_a h_n h_c)) ∧ (Fk.Own (w5.alloc (.cells #[.slice h_a h_n h_c] 25)) 0 75 (.slice h_a h_n h_c) Lh_) ∧ True) := by
    have bb : Below W4.heap.size W4 (w5.alloc (.cells #[.slice h_a h_n h_c] 25)) := bl.alloc bl.size _
    have bt : Below w5.heap.size w5 (w5.alloc (.cells #[.slice h_a h_n h_c] 25)) := (Below.refl _ _).alloc (Nat.le_refl _) _
    subst hq
    exact ⟨Lw.bel_trans (HC4.out.1) bb, Is.Errs.below (HC4.out.2.1) bb, Dk.Bytes.below (HC4.out.2.2.1) bb, Dk.Bytes.below (HC4.out.2.2.2.1) bb, Lw.cell_below bb (HC4.out.2.2.2.2.1), Fk.Own.below (HC4.out.2.2.2.2.2.1) bb, Lw.cell_below bb (HC4.out.2.2.2.2.2.2.1), Lw.cell_below bb (HC4.out.2.2.2.2.2.2.2.1), Fk.Own.below (HC4.out.2.2.2.2.2.2.2.2.1) bb, Lw.cell_below bb (HC4.out.2.2.2.2.2.2.2.2.2.1), Fk.Own.below (HC4.out.2.2.2.2.2.2.2.2.2.2.1) bb, Lw.cell_below bb (HC4.out.2.2.2.2.2.2.2.2.2.2.2.1), Lw.cell_below bb (HC4.out.2.2.2.2.2.2.2.2.2.2.2.2.1), Fk.Own.below (HC4.out.2.2.2.2.2.2.2.2.2.2.2.2.2.1) bb, (by rw [Fk.cellTop _ _ _ _ _ rfl]; rfl), Fk.Own.below (Fk.Own.mono ho (Nat.zero_le _)) bt, trivial⟩
  obtain ⟨W5, hW⟩ : ∃ W, W = (w5.alloc (.cells #[.slice h_a h_n h_c] 25)) := ⟨_, rfl⟩
  have HW5 := Fk.hide hW
  have HQ5 := Fk.hide hq
  rw [← hW] at HC5
  clear hW hq bl ho HC4
  go_wp2_with fail
  rw [← HW5.out, ← HQ5.out]
  clear HW5 HQ5
  refine (drawJournalRead_any w.heap.size a1 n1 c1 W5 (HC5.out.1).size (by omega) HC5.out.2.2.2.1).mono ?_
  rintro e w6 ⟨⟨u, Lj_, rfl, ho, hfj_, hlj_⟩, bl⟩
  obtain ⟨j_a, j_n, j_c, rfl⟩ := ho.slice'
  have HFj_ := Fk.hide hfj_.1
  clear hfj_
  obtain ⟨q6, hq⟩ : ∃ q, q = w6.heap.size := ⟨_, rfl⟩
  have HC6 : Hid ((Below w.heap.size w (w6.alloc (.cells #[.slice j_a j_n j_c] 25))) ∧ (Is.Errs (w6.alloc (.cells #[.slice j_a j_n j_c] 25)) b0 b1 b2 b3 b4) ∧ (Dk.Bytes w.heap.size (w6.alloc (.cells #[.slice j_a j_n j_c] 25)) a0 n0) ∧ (Dk.Bytes w.heap.size (w6.alloc (.cells #[.slice j_a j_n j_c] 25)) a1 n1) ∧ ((w6.alloc (.cells #[.slice j_a j_n j_c] 25)).cell? ⟨q1, 0, none⟩ = some (.slice fa fn fc)) ∧ (Fk.Own (w6.alloc (.cells #[.slice j_a j_n j_c] 25)) 0 75 (.slice fa fn fc) Lf) ∧ ((w6.alloc (.cells #[.slice j_a j_n j_c] 25)).cell? ⟨q2, 0, none⟩ = some (.slice Xa Xn Xc)) ∧ ((w6.alloc (.cells #[.slice j_a j_n j_c] 25)).cell? ⟨q2, 1, none⟩ = some (.int .i64 cX)) ∧ (Fk.Own (w6.alloc (.cells #[.slice j_a j_n j_c] 25)) 0 75 (.slice Xa Xn Xc) MX) ∧ ((w6.alloc (.cells #[.slice j_a j_n j_c] 25)).cell? ⟨q3, 0, none⟩ = some (.slice ga gn gc)) ∧ (Fk.Own (w6.alloc (.cells #[.slice j_a j_n j_c] 25)) 0 75 (.slice ga gn gc) Lg) ∧ ((w6.alloc (.cells #[.slice j_a j_n j_c] 25)).cell? ⟨q4, 0, none⟩ = some (.slice Ya Yn Yc)) ∧ ((w6.alloc (.cells #[.slice j_a j_n j_c] 25)).cell? ⟨q4, 1, none⟩ = some (.int .i64 cY)) ∧ (Fk.Own (w6.alloc (.cells #[.slice j_a j_n j_c] 25)) 0 75 (.slice Ya Yn Yc) MY) ∧ ((w6.alloc (.cells #[.slice j_a j_n j_c] 25)).cell? ⟨q5, 0, none⟩ = some (.slice h_a h_n h_c)) ∧ (Fk.Own (w6.alloc (.cells #[.slice j_a j_n j_c] 25)) 0 75 (.slice h_a h_n h_c) Lh_) ∧ ((w6.alloc (.cells #[.slice j_a j_n j_c] 25)).cell? ⟨q6, 0, none⟩ = some (.slice j_a j_n j_c)) ∧ (Fk.Own (w6.alloc (.cells #[.slice j_a j_n j_c] 25)) 0 75 (.slice j_a j_n j_c) Lj_) ∧ True) := by
    have bb : Below W5.heap.size W5 (w6.alloc (.cells #[.slice j_a j_n j_c] 25)) := bl.alloc bl.size _
    have bt : Below w6.heap.size w6 (w6.alloc (.cells #[.slice j_a j_n j_c] 25)) := (Below.refl _ _).alloc (Nat.le_refl _) _
    subst hq
    exact ⟨Lw.bel_trans (HC5.out.1) bb, Is.Errs.below (HC5.out.2.1) bb, Dk.Bytes.below (HC5.out.2.2.1) bb, Dk.Bytes.below (HC5.out.2.2.2.1) bb, Lw.cell_below bb (HC5.out.2.2.2.2.1), Fk.Own.below (HC5.out.2.2.2.2.2.1) bb, Lw.cell_below bb (HC5.out.2.2.2.2.2.2.1), Lw.cell_below bb (HC5.out.2.2.2.2.2.2.2.1), Fk.Own.below (HC5.out.2.2.2.2.2.2.2.2.1) bb, Lw.cell_below bb (HC5.out.2.2.2.2.2.2.2.2.2.1), Fk.Own.below (HC5.out.2.2.2.2.2.2.2.2.2.2.1) bb, Lw.cell_below bb (HC5.out.2.2.2.2.2.2.2.2.2.2.2.1), Lw.cell_below bb (HC5.out.2.2.2.2.2.2.2.2.2.2.2.2.1), Fk.Own.below (HC5.out.2.2.2.2.2.2.2.2.2.2.2.2.2.1) bb, Lw.cell_below bb (HC5.out.2.2.2.2.2.2.2.2.2.2.2.2.2.2.1), Fk.Own.below (HC5.out.2.2.2.2.2.2.2.2.2.2.2.2.2.2.2.1) bb, (by rw [Fk.cellTop _ _ _ _ _ rfl]; rfl), Fk.Own.below (Fk.Own.mono ho (Nat.zero_le _)) bt, trivial⟩
  obtain ⟨W6, hW⟩ : ∃ W, W = (w6.alloc (.cells #[.slice j_a j_n j_c] 25)) := ⟨_, rfl⟩
  have HW6 := Fk.hide hW
  have HQ6 := Fk.hide hq
  rw [← hW] at HC6
  clear hW hq bl ho HC5
  go_wp2_with fail
  rw [← HW6.out, ← HQ6.out]
  clear HW6 HQ6
  have HK : Hid (∀ w', Hid (Below W6.heap.size W6 w') → Hid (Below W6.heap.size W6 w') ∧ w'.cell? ⟨q1, 0, none⟩ = some (.slice fa fn fc) ∧ w'.cell? ⟨q2, 0, none⟩ = some (.slice Xa Xn Xc) ∧ w'.cell? ⟨q2, 1, none⟩ = some (.int .i64 cX) ∧ w'.cell? ⟨q3, 0, none⟩ = some (.slice ga gn gc) ∧ w'.cell? ⟨q4, 0, none⟩ = some (.slice Ya Yn Yc) ∧ w'.cell? ⟨q4, 1, none⟩ = some (.int .i64 cY) ∧ w'.cell? ⟨q5, 0, none⟩ = some (.slice h_a h_n h_c) ∧ w'.cell? ⟨q6, 0, none⟩ = some (.slice j_a j_n j_c)) := fun w' hb => ⟨hb, Lw.cell_below hb.out (HC6.out.2.2.2.2.1), Lw.cell_below hb.out (HC6.out.2.2.2.2.2.2.1), Lw.cell_below hb.out (HC6.out.2.2.2.2.2.2.2.1), Lw.cell_below hb.out (HC6.out.2.2.2.2.2.2.2.2.2.1), Lw.cell_below hb.out (HC6.out.2.2.2.2.2.2.2.2.2.2.2.1), Lw.cell_below hb.out (HC6.out.2.2.2.2.2.2.2.2.2.2.2.2.1), Lw.cell_below hb.out (HC6.out.2.2.2.2.2.2.2.2.2.2.2.2.2.2.1), Lw.cell_below hb.out (HC6.out.2.2.2.2.2.2.2.2.2.2.2.2.2.2.2.2.1)⟩
  have HK0 := HK.out W6 (Below.refl _ _)
  have HKD := HK.out W6.drew (Below.drew (Below.refl _ _))
  have VoF : Hid (∀ w', Below W6.heap.size W6 w' → Fk.Own w' 0 75 (.slice fa fn fc) Lf) := fun w' hb => Fk.Own.below (HC6.out.2.2.2.2.2.1) hb
  have VoX : Hid (∀ w', Below W6.heap.size W6 w' → Fk.Own w' 0 75 (.slice Xa Xn Xc) MX) := fun w' hb => Fk.Own.below (HC6.out.2.2.2.2.2.2.2.2.1) hb
  have VoG : Hid (∀ w', Below W6.heap.size W6 w' → Fk.Own w' 0 75 (.slice ga gn gc) Lg) := fun w' hb => Fk.Own.below (HC6.out.2.2.2.2.2.2.2.2.2.2.1) hb
  have VoY : Hid (∀ w', Below W6.heap.size W6 w' → Fk.Own w' 0 75 (.slice Ya Yn Yc) MY) := fun w' hb => Fk.Own.below (HC6.out.2.2.2.2.2.2.2.2.2.2.2.2.2.1) hb
  have VoH : Hid (∀ w', Below W6.heap.size W6 w' → Fk.Own w' 0 75 (.slice h_a h_n h_c) Lh_) := fun w' hb => Fk.Own.below (HC6.out.2.2.2.2.2.2.2.2.2.2.2.2.2.2.2.1) hb
  have VoJ : Hid (∀ w', Below W6.heap.size W6 w' → Fk.Own w' 0 75 (.slice j_a j_n j_c) Lj_) := fun w' hb => Fk.Own.below (HC6.out.2.2.2.2.2.2.2.2.2.2.2.2.2.2.2.2.2.1) hb
  have HE7 : Hid (∀ w', Below W6.heap.size W6 w' → Is.Errs w' b0 b1 b2 b3 b4) := fun w' hb => Is.Errs.below (HC6.out.2.1) hb
  have HB7 : Hid (Below w.heap.size w W6) := HC6.out.1
  clear HC6
  have kcF := HK0.2.1
  have kcX0 := HK0.2.2.1
  have kcX1 := HK0.2.2.2.1
  have kcG := HK0.2.2.2.2.1
  have kcY0 := HK0.2.2.2.2.2.1
  have kcY1 := HK0.2.2.2.2.2.2.1
  have kcH := HK0.2.2.2.2.2.2.2.1
  have kcJ := HK0.2.2.2.2.2.2.2.2
  have HRX := Fk.hide (Jn.add_right HAX.out)
  have HRY := Fk.hide (Jn.clean_any HAY.out)
  have HTX := Fk.hide (Fk.ans_fits HRX.out)
  have HTY := Fk.hide (Fk.ans_fits HRY.out)
  go_region_held3 (fun w' => Hid (Below W6.heap.size W6 w') ∧ w'.cell? ⟨q1, 0, none⟩ = some (.slice fa fn fc) ∧ w'.cell? ⟨q2, 0, none⟩ = some (.slice Xa Xn Xc) ∧ w'.cell? ⟨q2, 1, none⟩ = some (.int .i64 cX) ∧ w'.cell? ⟨q3, 0, none⟩ = some (.slice ga gn gc) ∧ w'.cell? ⟨q4, 0, none⟩ = some (.slice Ya Yn Yc) ∧ w'.cell? ⟨q4, 1, none⟩ = some (.int .i64 cY) ∧ w'.cell? ⟨q5, 0, none⟩ = some (.slice h_a h_n h_c) ∧ w'.cell? ⟨q6, 0, none⟩ = some (.slice j_a j_n j_c))
    (first | assumption)
    (first
      | (go_at_call 10; refine (lwFs_same (.slice Da Dn Dc) (.slice vaD vnD vcD) MD cD _ HVDb.out (HVD2.out) HTD.out.1 HTD.out.2 HRD.out.1).mono ?_; rintro e wn ⟨rfl, bn⟩; have BN := Lw.belNext bn (by assumption); have SN := HK.out _ BN; clear bn BN)
      | (go_at_call 10; refine (lwFs_same (.slice Ya Yn Yc) (.slice vaY vnY vcY) MY cY _ (Fk.view_of_owns (VoY.out _ (Lw.bel (by assumption)))) (HVY.out) HTY.out.1 HTY.out.2 HRY.out.1).mono ?_; rintro e wn ⟨rfl, bn⟩; have BN := Lw.belNext bn (by assumption); have SN := HK.out _ BN; clear bn BN)
      | (go_at_call 10; refine (lwFs_same (.slice Xa Xn Xc) (.slice vaX vnX vcX) MX cX _ (Fk.view_of_owns (VoX.out _ (Lw.bel (by assumption)))) (HVX.out) HTX.out.1 HTX.out.2 HRX.out.1).mono ?_; rintro e wn ⟨rfl, bn⟩; have BN := Lw.belNext bn (by assumption); have SN := HK.out _ BN; clear bn BN)
      | (go_at_call 11; refine (journalAdd_spec (.slice fa fn fc) Lf tx sy _ 0 (VoF.out _ (Lw.bel (by assumption))) HFf.out (by unfold maxLen; omega) (by have := HSTX.out; unfold maxLen; omega)).mono ?_; rintro e wn ⟨⟨v, MM, cc, rfl, ho, ha⟩, bn⟩; obtain ⟨rfl, rfl⟩ := Fk.Ans.one HAX.out ha; obtain ⟨vaX, vnX, vcX, rfl⟩ := ho.slice'; have HVX := Fk.hide (Fk.view_of_owns ho); clear ho ha; have BN := Lw.belNext bn (by assumption); have SN := HK.out _ BN; clear bn BN)
      | (go_at_call 12; refine (journalClean_spec (.slice ga gn gc) Lg _ 0 (VoG.out _ (Lw.bel (by assumption))) HFg.out (by unfold maxLen; omega)).mono ?_; rintro e wn ⟨⟨v, MM, cc, rfl, ho, ha⟩, bn⟩; obtain ⟨rfl, rfl⟩ := Fk.Ans.one HAY.out ha; obtain ⟨vaY, vnY, vcY, rfl⟩ := ho.slice'; have HVY := Fk.hide (Fk.view_of_owns ho); clear ho ha; have BN := Lw.belNext bn (by assumption); have SN := HK.out _ BN; clear bn BN)
      | (go_at_call 13; refine (journalDrop_impl (.slice h_a h_n h_c) Lh_ b0 b1 b2 b3 b4 _ (Fk.view_of_owns (VoH.out _ (Lw.bel (by assumption)))) HFh_.out (by unfold maxLen; omega) (HE7.out _ (Lw.bel (by assumption)))).mono ?_; rintro e wn ⟨⟨v, MD, cD, rfl, ho, ha⟩, bn⟩; obtain ⟨Da, Dn, Dc, rfl⟩ := ho.slice'; have HAD := Fk.hide ha; have HVD := Fk.hide (Fk.view_of_owns ho); have HRD := Fk.hide (Jn.drop_any ha); have HTD := Fk.hide (Fk.ans_fits HRD.out); clear ho ha; have BN := Lw.belNext bn (by assumption); have SN := HK.out _ BN; clear bn BN)
      | (go_at_call 14; refine (journalDrop_spec (.slice h_a h_n h_c) Lh_ _ 0 (VoH.out _ (Lw.bel (by assumption))) HFh_.out (by unfold maxLen; omega)).mono ?_; rintro e wn ⟨⟨v, MM, cc, rfl, ho, ha⟩, bn⟩; obtain ⟨rfl, rfl⟩ := Fk.Ans.one HAD.out ha; obtain ⟨vaD, vnD, vcD, rfl⟩ := ho.slice'; have HVDb := Fk.hide (HVD.out.below bn); have HVD2 := Fk.hide (Fk.view_of_owns ho); clear ho ha; have BN := Lw.belNext bn (by assumption); have SN := HK.out _ BN; clear bn BN)
      | (go_at_call 16; refine (journalRead_impl (.slice j_a j_n j_c) Lj_ b0 b1 b2 b3 b4 _ (Fk.view_of_owns (VoJ.out _ (Lw.bel (by assumption)))) HFj_.out (by unfold maxLen; omega) (HE7.out _ (Lw.bel (by assumption)))).mono ?_; rintro e wn ⟨⟨v, rfl, ho⟩, bn⟩; obtain ⟨ra, rc, rfl⟩ := ho.slice; have HVR := Fk.hide ho.view; clear ho; have BN := Lw.belNext bn (by assumption); have SN := HK.out _ BN; clear bn BN)
      | (go_at_call 17; refine (journalRead_spec (.slice j_a j_n j_c) Lj_ _ (Fk.view_of_owns (VoJ.out _ (Lw.bel (by assumption)))) HFj_.out (by unfold maxLen; omega)).mono ?_; rintro e wn ⟨⟨v, rfl, ho⟩, bn⟩; obtain ⟨rb, rd, rfl⟩ := ho.slice; have HVRb := Fk.hide (HVR.out.below bn); have HVS := Fk.hide ho.view; clear ho; have BN := Lw.belNext bn (by assumption); have SN := HK.out _ BN; clear bn BN)
      | (go_at_call 15; refine (lwJournal_same _ _ (Jn.rdT Lj_) (Jn.rdA Lj_) (Jn.rdC Lj_) _ HVRb.out HVS.out (Jn.rdT_len Lj_)).mono ?_; rintro e wn ⟨rfl, bn⟩; have BN := Lw.belNext bn (by assumption); have SN := HK.out _ BN; clear bn BN))
  clear HK0 HKD kcF kcX0 kcX1 kcG kcY0 kcY1 kcH kcJ
  have BW := Lw.bel_trans HB7.out SN.1.out
  by_cases hcy : ¬ cY = 0
  · have hcy' : (cY == 0) = false := by simpa using hcy
    have k1 := SN.2.2.2.2.2.2.1
    go_wp2_with fail
    go_ret
    exact ⟨rfl, BW⟩
  obtain rfl : cY = 0 := Decidable.of_not_not hcy
  clear hcy
  have HC7 : Hid ((Below w.heap.size w wn) ∧ (Is.Errs wn b0 b1 b2 b3 b4) ∧ (wn.cell? ⟨q4, 0, none⟩ = some (.slice Ya Yn Yc)) ∧ (Fk.Own wn 0 75 (.slice Ya Yn Yc) MY) ∧ True) := ⟨BW, HE7.out _ SN.1.out, SN.2.2.2.2.2.1, VoY.out _ SN.1.out, trivial⟩
  have HVG := Fk.hide (Fk.view_of_owns (VoG.out _ SN.1.out))
  have k1 := SN.2.2.2.2.2.2.1
  have k2 := SN.2.2.2.2.1
  have k3 := SN.2.2.2.2.2.1
  have HSN := Fk.hide True.intro
  clear SN
  go_wp2_with fail
  refine (journalRead_spec (.slice ga gn gc) Lg wn HVG.out HFg.out (by unfold maxLen; omega)).mono ?_
  rintro e w8 ⟨⟨u, rfl, ho⟩, bl⟩
  obtain ⟨Ta, Tc, rfl⟩ := ho.slice
  obtain ⟨Tn, hTn⟩ : ∃ n, n = (Jn.rdT Lg).length := ⟨_, rfl⟩
  rw [← hTn] at ho ⊢
  have HSHT0 : Hid (Rk.Shut (.slice Ta Tn Tc)) := Sk.Own.shut_ ho
  have HTN := Fk.hide hTn
  clear hTn k1 k2 k3
  obtain ⟨q8, hq⟩ : ∃ q, q = w8.heap.size := ⟨_, rfl⟩
  have HC8 : Hid ((Below w.heap.size w (w8.alloc (.cells #[.slice Ta Tn Tc, .int .i64 (Jn.rdA Lg), .int .i64 (Jn.rdC Lg)] 37))) ∧ (Is.Errs (w8.alloc (.cells #[.slice Ta Tn Tc, .int .i64 (Jn.rdA Lg), .int .i64 (Jn.rdC Lg)] 37)) b0 b1 b2 b3 b4) ∧ ((w8.alloc (.cells #[.slice Ta Tn Tc, .int .i64 (Jn.rdA Lg), .int .i64 (Jn.rdC Lg)] 37)).cell? ⟨q4, 0, none⟩ = some (.slice Ya Yn Yc)) ∧ (Fk.Own (w8.alloc (.cells #[.slice Ta Tn Tc, .int .i64 (Jn.rdA Lg), .int .i64 (Jn.rdC Lg)] 37)) 0 75 (.slice Ya Yn Yc) MY) ∧ ((w8.alloc (.cells #[.slice Ta Tn Tc, .int .i64 (Jn.rdA Lg), .int .i64 (Jn.rdC Lg)] 37)).cell? ⟨q8, 0, none⟩ = some (.slice Ta Tn Tc)) ∧ (Sk.View (w8.alloc (.cells #[.slice Ta Tn Tc, .int .i64 (Jn.rdA Lg), .int .i64 (Jn.rdC Lg)] 37)) (.slice Ta Tn Tc) (Jn.rdT Lg)) ∧ True) := by
    have bb : Below wn.heap.size wn (w8.alloc (.cells #[.slice Ta Tn Tc, .int .i64 (Jn.rdA Lg), .int .i64 (Jn.rdC Lg)] 37)) := bl.alloc bl.size _
    have bt : Below w8.heap.size w8 (w8.alloc (.cells #[.slice Ta Tn Tc, .int .i64 (Jn.rdA Lg), .int .i64 (Jn.rdC Lg)] 37)) := (Below.refl _ _).alloc (Nat.le_refl _) _
    subst hq
    exact ⟨Lw.bel_trans (HC7.out.1) bb, Is.Errs.below (HC7.out.2.1) bb, Lw.cell_below bb (HC7.out.2.2.1), Fk.Own.below (HC7.out.2.2.2.1) bb, (by rw [Fk.cellTop _ _ _ _ _ rfl]; rfl), Sk.View.below ho.view bt, trivial⟩
  obtain ⟨W8, hW⟩ : ∃ W, W = (w8.alloc (.cells #[.slice Ta Tn Tc, .int .i64 (Jn.rdA Lg), .int .i64 (Jn.rdC Lg)] 37)) := ⟨_, rfl⟩
  have HW8 := Fk.hide hW
  have HQ8 := Fk.hide hq
  rw [← hW] at HC8
  clear hW hq bl ho HC7
  have k3 : (w8.alloc (.cells #[.slice Ta Tn Tc, .int .i64 (Jn.rdA Lg), .int .i64 (Jn.rdC Lg)] 37)).cell? ⟨q4, 0, none⟩ = some (.slice Ya Yn Yc) := by have h := HC8.out.2.2.1; rw [HW8.out] at h; exact h
  go_wp2_with fail
  rw [← HW8.out, ← HQ8.out]
  clear HW8 HQ8 k3
  refine (journalAdd_impl _ MY tx sy b0 b1 b2 b3 b4 W8 (Fk.view_of_owns HC8.out.2.2.2.1) HTY.out.1 (by have := HTY.out.2; unfold maxLen; omega) (by have := HSTX.out; unfold maxLen; omega) HC8.out.2.1).mono ?_
  rintro e w9 ⟨⟨u, MZ, cZ, rfl, ho, ha⟩, bl⟩
  obtain ⟨Za, Zn, Zc, rfl⟩ := ho.slice'
  have HAZ := Fk.hide ha
  clear ha
  obtain ⟨q9, hq⟩ : ∃ q, q = w9.heap.size := ⟨_, rfl⟩
  have HC9 : Hid ((Below w.heap.size w (w9.alloc (.cells #[.slice Za Zn Zc, .int .i64 cZ] 29))) ∧ (Is.Errs (w9.alloc (.cells #[.slice Za Zn Zc, .int .i64 cZ] 29)) b0 b1 b2 b3 b4) ∧ ((w9.alloc (.cells #[.slice Za Zn Zc, .int .i64 cZ] 29)).cell? ⟨q4, 0, none⟩ = some (.slice Ya Yn Yc)) ∧ (Fk.Own (w9.alloc (.cells #[.slice Za Zn Zc, .int .i64 cZ] 29)) 0 75 (.slice Ya Yn Yc) MY) ∧ ((w9.alloc (.cells #[.slice Za Zn Zc, .int .i64 cZ] 29)).cell? ⟨q8, 0, none⟩ = some (.slice Ta Tn Tc)) ∧ (Sk.View (w9.alloc (.cells #[.slice Za Zn Zc, .int .i64 cZ] 29)) (.slice Ta Tn Tc) (Jn.rdT Lg)) ∧ ((w9.alloc (.cells #[.slice Za Zn Zc, .int .i64 cZ] 29)).cell? ⟨q9, 0, none⟩ = some (.slice Za Zn Zc)) ∧ ((w9.alloc (.cells #[.slice Za Zn Zc, .int .i64 cZ] 29)).cell? ⟨q9, 1, none⟩ = some (.int .i64 cZ)) ∧ (Fk.Own (w9.alloc (.cells #[.slice Za Zn Zc, .int .i64 cZ] 29)) 0 75 (.slice Za Zn Zc) MZ) ∧ True) := by
    have bb : Below W8.heap.size W8 (w9.alloc (.cells #[.slice Za Zn Zc, .int .i64 cZ] 29)) := bl.alloc bl.size _
    have bt : Below w9.heap.size w9 (w9.alloc (.cells #[.slice Za Zn Zc, .int .i64 cZ] 29)) := (Below.refl _ _).alloc (Nat.le_refl _) _
    subst hq
    exact ⟨Lw.bel_trans (HC8.out.1) bb, Is.Errs.below (HC8.out.2.1) bb, Lw.cell_below bb (HC8.out.2.2.1), Fk.Own.below (HC8.out.2.2.2.1) bb, Lw.cell_below bb (HC8.out.2.2.2.2.1), Sk.View.below (HC8.out.2.2.2.2.2.1) bb, (by rw [Fk.cellTop _ _ _ _ _ rfl]; rfl), (by rw [Fk.cellTop _ _ _ _ _ rfl]; rfl), Fk.Own.below (Fk.Own.mono ho (Nat.zero_le _)) bt, trivial⟩
  obtain ⟨W9, hW⟩ : ∃ W, W = (w9.alloc (.cells #[.slice Za Zn Zc, .int .i64 cZ] 29)) := ⟨_, rfl⟩
  have HW9 := Fk.hide hW
  have HQ9 := Fk.hide hq
  rw [← hW] at HC9
  clear hW hq bl ho HC8
  go_wp2_with fail
  rw [← HW9.out, ← HQ9.out]
  clear HW9 HQ9
  have HK : Hid (∀ w', Hid (Below W9.heap.size W9 w') → Hid (Below W9.heap.size W9 w') ∧ w'.cell? ⟨q4, 0, none⟩ = some (.slice Ya Yn Yc) ∧ w'.cell? ⟨q8, 0, none⟩ = some (.slice Ta Tn Tc) ∧ w'.cell? ⟨q9, 0, none⟩ = some (.slice Za Zn Zc) ∧ w'.cell? ⟨q9, 1, none⟩ = some (.int .i64 cZ)) := fun w' hb => ⟨hb, Lw.cell_below hb.out (HC9.out.2.2.1), Lw.cell_below hb.out (HC9.out.2.2.2.2.1), Lw.cell_below hb.out (HC9.out.2.2.2.2.2.2.1), Lw.cell_below hb.out (HC9.out.2.2.2.2.2.2.2.1)⟩
  have HK0 := HK.out W9 (Below.refl _ _)
  have HKD := HK.out W9.drew (Below.drew (Below.refl _ _))
  have VoY : Hid (∀ w', Below W9.heap.size W9 w' → Fk.Own w' 0 75 (.slice Ya Yn Yc) MY) := fun w' hb => Fk.Own.below (HC9.out.2.2.2.1) hb
  have VoZ : Hid (∀ w', Below W9.heap.size W9 w' → Fk.Own w' 0 75 (.slice Za Zn Zc) MZ) := fun w' hb => Fk.Own.below (HC9.out.2.2.2.2.2.2.2.2.1) hb
  have VvT : Hid (∀ w', Below W9.heap.size W9 w' → Sk.View w' (.slice Ta Tn Tc) (Jn.rdT Lg)) := fun w' hb => Sk.View.below (HC9.out.2.2.2.2.2.1) hb
  have HE9 : Hid (∀ w', Below W9.heap.size W9 w' → Is.Errs w' b0 b1 b2 b3 b4) := fun w' hb => Is.Errs.below (HC9.out.2.1) hb
  have HB9 : Hid (Below w.heap.size w W9) := HC9.out.1
  have HYT : Hid (Jn.rdT MY = Jn.rdT Lg) := Jn.clean_texts HAY.out
  clear HC9
  have kcY0 := HK0.2.1
  have kcT0 := HK0.2.2.1
  have kcZ0 := HK0.2.2.2.1
  have kcZ1 := HK0.2.2.2.2
  go_wp2_with fail
  have hfl := Jn.field_txts
  have hff := Jn.field_files
  by_cases hz : ¬ cZ = 0
  · have hz' : (cZ == 0) = false := by simpa using hz
    by_cases ht : (300 : Int) < (tx.size : Int)
    · have ht3 : 300 < tx.size := by omega
      have ht4 : decide ((300 : Int) < (tx.size : Int)) = true := by simpa using ht
      refine wp_region_held_drew (S := (fun w' => Hid (Below W9.heap.size W9 w') ∧ w'.cell? ⟨q4, 0, none⟩ = some (.slice Ya Yn Yc) ∧ w'.cell? ⟨q8, 0, none⟩ = some (.slice Ta Tn Tc) ∧ w'.cell? ⟨q9, 0, none⟩ = some (.slice Za Zn Zc) ∧ w'.cell? ⟨q9, 1, none⟩ = some (.int .i64 cZ))) (by kernel_rfl) ?_ (fun hH => ?_)
      · (try dsimp only); (first | assumption)
      refine wpAnyH_take (i := 0) (oi := ?_) (v := ?_) ?_ (by kernel_rfl) (by kernel_rfl) (by kernel_rfl) ?_ ?_ (by assumption) ?_
      rotate_left
      rotate_left
      · (simp only [List.getElem?_toArray, List.getElem?_cons_succ, List.getElem?_cons_zero]; rfl)
      · exact fun _ _ _ h => h
      · refine Or.inl ⟨by rfl, ?_⟩; (intro w hSw; (try dsimp only at hSw); go_simp; first | done | with_reducible rfl)
      (try simp only [Act.put, List.setIfInBounds_toArray, List.set_cons_zero, List.set_cons_succ])
      refine wpAnyH_take (i := 1) (oi := ?_) (v := ?_) ?_ (by kernel_rfl) (by kernel_rfl) (by kernel_rfl) ?_ ?_ (by assumption) ?_
      rotate_left
      rotate_left
      · (simp only [List.getElem?_toArray, List.getElem?_cons_succ, List.getElem?_cons_zero]; rfl)
      · exact fun _ _ _ h => h
      · refine Or.inl ⟨by rfl, ?_⟩; (intro w hSw; (try dsimp only at hSw); go_simp; first | done | with_reducible rfl)
      (try simp only [Act.put, List.setIfInBounds_toArray, List.set_cons_zero, List.set_cons_succ])
      refine wpAnyH_take (i := 4) (oi := ?_) (v := ?_) ?_ (by kernel_rfl) (by kernel_rfl) (by kernel_rfl) ?_ ?_ (by assumption) ?_
      rotate_left
      rotate_left
      · (simp only [List.getElem?_toArray, List.getElem?_cons_succ, List.getElem?_cons_zero]; rfl)
      · exact fun _ _ _ h => h
      · refine Or.inl ⟨by rfl, ?_⟩; (intro w hSw; (try dsimp only at hSw); go_simp; first | done | with_reducible rfl)
      (try simp only [Act.put, List.setIfInBounds_toArray, List.set_cons_zero, List.set_cons_succ])
      refine wpAnyH_take (i := 5) (oi := ?_) (v := ?_) ?_ (by kernel_rfl) (by kernel_rfl) (by kernel_rfl) ?_ ?_ (by assumption) ?_
      rotate_left
      rotate_left
      · (simp only [List.getElem?_toArray, List.getElem?_cons_succ, List.getElem?_cons_zero]; rfl)
      · exact fun _ _ _ h => h
      · refine Or.inl ⟨by rfl, ?_⟩; (intro w hSw; (try dsimp only at hSw); go_simp; first | done | with_reducible rfl)
      (try simp only [Act.put, List.setIfInBounds_toArray, List.set_cons_zero, List.set_cons_succ])
      refine wpAnyH_ready (rs := [2]) (by kernel_rfl) (by simp) ?_
      refine AllReadyH.cons (o := ?_) ?_ (fun K hK => ?_) AllReadyH.nil
      rotate_left
      · (simp only [List.getElem?_toArray, List.getElem?_cons_succ, List.getElem?_cons_zero]; rfl)
      go_simp
      go_at_call 16; refine (journalRead_impl (.slice Ya Yn Yc) MY b0 b1 b2 b3 b4 _ (Fk.view_of_owns (VoY.out _ (Lw.bel (by assumption)))) HTY.out.1 (by have := HTY.out.2; unfold maxLen; omega) (HE9.out _ (Lw.bel (by assumption)))).mono ?_; rintro e wn ⟨⟨v, rfl, ho⟩, bn⟩; rw [HYT.out] at ho; obtain ⟨ra9, rc9, rfl⟩ := ho.slice; have HVI := Fk.hide ho.view; clear ho; have BN := Lw.belNext bn (by assumption); have SN := HK.out _ BN; clear bn BN
      (try go_wp2_with fail)
      refine hK.out _ _ ?_ (fun hH2 => ?_)
      · (try dsimp only); exact SN
      clear hK K hH
      have hH := hH2
      clear hH2
      (try simp only [Act.put, List.setIfInBounds_toArray, List.set_cons_zero, List.set_cons_succ])
      refine wpAnyH_take (i := 3) (oi := ?_) (v := ?_) ?_ (by kernel_rfl) (by kernel_rfl) (by kernel_rfl) ?_ ?_ (by assumption) ?_
      rotate_left
      rotate_left
      · (simp only [List.getElem?_toArray, List.getElem?_cons_succ, List.getElem?_cons_zero]; rfl)
      · exact fun _ _ _ h => h
      · refine Or.inl ⟨by rfl, ?_⟩; (intro w hSw; (try dsimp only at hSw); go_simp; first | done | with_reducible rfl)
      (try simp only [Act.put, List.setIfInBounds_toArray, List.set_cons_zero, List.set_cons_succ])
      refine wpAnyH_ready (rs := [6]) (by kernel_rfl) (by simp) ?_
      refine AllReadyH.cons (o := ?_) ?_ (fun K hK => ?_) AllReadyH.nil
      rotate_left
      · (simp only [List.getElem?_toArray, List.getElem?_cons_succ, List.getElem?_cons_zero]; rfl)
      go_simp
      go_at_call 18; refine (lwTexts_same _ _ (Jn.rdT Lg) _ HVI.out (VvT.out _ (Lw.bel (by assumption))) (Jn.rdT_len Lg)).mono ?_; rintro e wn ⟨rfl, bn⟩; have BN := Lw.belNext bn (by assumption); have SN := HK.out _ BN; clear bn BN
      (try go_wp2_with fail)
      refine hK.out _ _ ?_ (fun hH2 => ?_)
      · (try dsimp only); exact SN
      clear hK K hH
      have hH := hH2
      clear hH2
      (try simp only [Act.put, List.setIfInBounds_toArray, List.set_cons_zero, List.set_cons_succ])
      refine wpAnyH_take (i := 7) (oi := ?_) (v := ?_) ?_ (by kernel_rfl) (by kernel_rfl) (by kernel_rfl) ?_ ?_ (by assumption) ?_
      rotate_left
      rotate_left
      · (simp only [List.getElem?_toArray, List.getElem?_cons_succ, List.getElem?_cons_zero]; rfl)
      · exact fun _ _ _ h => h
      · refine Or.inl ⟨by rfl, ?_⟩; (intro w hSw; (try dsimp only at hSw); go_simp; first | done | with_reducible rfl)
      (try simp only [Act.put, List.setIfInBounds_toArray, List.set_cons_zero, List.set_cons_succ])
      refine wpAnyH_take (i := 8) (oi := ?_) (v := ?_) ?_ (by kernel_rfl) (by kernel_rfl) (by kernel_rfl) ?_ ?_ (by assumption) ?_
      rotate_left
      rotate_left
      · (simp only [List.getElem?_toArray, List.getElem?_cons_succ, List.getElem?_cons_zero]; rfl)
      · exact fun _ _ _ h => h
      · refine Or.inl ⟨by rfl, ?_⟩; (intro w hSw; (try dsimp only at hSw); go_simp; first | done | with_reducible rfl)
      (try simp only [Act.put, List.setIfInBounds_toArray, List.set_cons_zero, List.set_cons_succ])
      refine wpAnyH_take (i := 9) (oi := ?_) (v := ?_) ?_ (by kernel_rfl) (by kernel_rfl) (by kernel_rfl) ?_ ?_ (by assumption) ?_
      rotate_left
      rotate_left
      · (simp only [List.getElem?_toArray, List.getElem?_cons_succ, List.getElem?_cons_zero]; rfl)
      · exact fun _ _ _ h => h
      · refine Or.inl ⟨by rfl, ?_⟩; (intro w hSw; (try dsimp only at hSw); go_simp; first | done | with_reducible rfl)
      (try simp only [Act.put, List.setIfInBounds_toArray, List.set_cons_zero, List.set_cons_succ])
      refine wpAnyH_take (i := 10) (oi := ?_) (v := ?_) ?_ (by kernel_rfl) (by kernel_rfl) (by kernel_rfl) ?_ ?_ (by assumption) ?_
      rotate_left
      rotate_left
      · (simp only [List.getElem?_toArray, List.getElem?_cons_succ, List.getElem?_cons_zero]; rfl)
      · exact fun _ _ _ h => h
      · refine Or.inl ⟨by rfl, ?_⟩; (intro w hSw; (try dsimp only at hSw); go_simp; first | done | with_reducible rfl)
      (try simp only [Act.put, List.setIfInBounds_toArray, List.set_cons_zero, List.set_cons_succ])
      refine wpAnyH_take (i := 11) (oi := ?_) (v := ?_) ?_ (by kernel_rfl) (by kernel_rfl) (by kernel_rfl) ?_ ?_ (by assumption) ?_
      rotate_left
      rotate_left
      · (simp only [List.getElem?_toArray, List.getElem?_cons_succ, List.getElem?_cons_zero]; rfl)
      · exact fun _ _ _ h => h
      · refine Or.inl ⟨by rfl, ?_⟩; (intro w hSw; (try dsimp only at hSw); go_simp; first | done | with_reducible rfl)
      (try simp only [Act.put, List.setIfInBounds_toArray, List.set_cons_zero, List.set_cons_succ])
      refine wpAnyH_take (i := 12) (oi := ?_) (v := ?_) ?_ (by kernel_rfl) (by kernel_rfl) (by kernel_rfl) ?_ ?_ (by assumption) ?_
      rotate_left
      rotate_left
      · (simp only [List.getElem?_toArray, List.getElem?_cons_succ, List.getElem?_cons_zero]; rfl)
      · exact fun _ _ _ h => h
      · refine Or.inl ⟨by rfl, ?_⟩; (intro w hSw; (try dsimp only at hSw); go_simp; first | done | with_reducible rfl)
      (try simp only [Act.put, List.setIfInBounds_toArray, List.set_cons_zero, List.set_cons_succ])
      refine wpAnyH_take (i := 13) (oi := ?_) (v := ?_) ?_ (by kernel_rfl) (by kernel_rfl) (by kernel_rfl) ?_ ?_ (by assumption) ?_
      rotate_left
      rotate_left
      · (simp only [List.getElem?_toArray, List.getElem?_cons_succ, List.getElem?_cons_zero]; rfl)
      · exact fun _ _ _ h => h
      · refine Or.inl ⟨by rfl, ?_⟩; (intro w hSw; (try dsimp only at hSw); go_simp; first | done | with_reducible rfl)
      (try simp only [Act.put, List.setIfInBounds_toArray, List.set_cons_zero, List.set_cons_succ])
      refine wpAnyH_take (i := 14) (oi := ?_) (v := undef) ?_ (by kernel_rfl) (by kernel_rfl) (by kernel_rfl) ?_ ?_ (by assumption) ?_
      rotate_left
      · (simp only [List.getElem?_toArray, List.getElem?_cons_succ, List.getElem?_cons_zero]; rfl)
      · exact fun _ _ _ h => h
      · exact Or.inr ⟨by rfl, rfl⟩
      (try simp only [Act.put, List.setIfInBounds_toArray, List.set_cons_zero, List.set_cons_succ])
      refine wpAnyH_take (i := 15) (oi := ?_) (v := undef) ?_ (by kernel_rfl) (by kernel_rfl) (by kernel_rfl) ?_ ?_ (by assumption) ?_
      rotate_left
      · (simp only [List.getElem?_toArray, List.getElem?_cons_succ, List.getElem?_cons_zero]; rfl)
      · exact fun _ _ _ h => h
      · exact Or.inr ⟨by rfl, rfl⟩
      (try simp only [Act.put, List.setIfInBounds_toArray, List.set_cons_zero, List.set_cons_succ])
      refine wpAnyH_take (i := 16) (oi := ?_) (v := undef) ?_ (by kernel_rfl) (by kernel_rfl) (by kernel_rfl) ?_ ?_ (by assumption) ?_
      rotate_left
      · (simp only [List.getElem?_toArray, List.getElem?_cons_succ, List.getElem?_cons_zero]; rfl)
      · exact fun _ _ _ h => h
      · exact Or.inr ⟨by rfl, rfl⟩
      (try simp only [Act.put, List.setIfInBounds_toArray, List.set_cons_zero, List.set_cons_succ])
      refine wpAnyH_take (i := 17) (oi := ?_) (v := ?_) ?_ (by kernel_rfl) (by kernel_rfl) (by kernel_rfl) ?_ ?_ (by assumption) ?_
      rotate_left
      rotate_left
      · (simp only [List.getElem?_toArray, List.getElem?_cons_succ, List.getElem?_cons_zero]; rfl)
      · exact fun _ _ _ h => h
      · refine Or.inl ⟨by rfl, ?_⟩; (intro w hSw; (try dsimp only at hSw); go_simp; first | done | with_reducible rfl)
      (try simp only [Act.put, List.setIfInBounds_toArray, List.set_cons_zero, List.set_cons_succ])
      refine wpAnyH_done (by kernel_rfl) ?_ _
      clear HK0 HKD kcY0 kcT0 kcZ0 kcZ1
      have SD := HK.out wn.drew (Below.drew SN.1.out)
      clear SN
      go_wp2_with fail
      go_region_held3 (fun w' => Hid (Below W9.heap.size W9 w') ∧ w'.cell? ⟨q4, 0, none⟩ = some (.slice Ya Yn Yc) ∧ w'.cell? ⟨q8, 0, none⟩ = some (.slice Ta Tn Tc) ∧ w'.cell? ⟨q9, 0, none⟩ = some (.slice Za Zn Zc) ∧ w'.cell? ⟨q9, 1, none⟩ = some (.int .i64 cZ))
        (first | assumption)
        (first
          | (go_at_call 18; refine (lwTexts_same _ _ (Jn.rdT Lg) _ HVI.out (VvT.out _ (Lw.bel (by assumption))) (Jn.rdT_len Lg)).mono ?_; rintro e wn ⟨rfl, bn⟩; have BN := Lw.belNext bn (by assumption); have SN := HK.out _ BN; clear bn BN)
          | (go_at_call 16; refine (journalRead_impl (.slice Ya Yn Yc) MY b0 b1 b2 b3 b4 _ (Fk.view_of_owns (VoY.out _ (Lw.bel (by assumption)))) HTY.out.1 (by have := HTY.out.2; unfold maxLen; omega) (HE9.out _ (Lw.bel (by assumption)))).mono ?_; rintro e wn ⟨⟨v, rfl, ho⟩, bn⟩; rw [HYT.out] at ho; obtain ⟨ra9, rc9, rfl⟩ := ho.slice; have HVI := Fk.hide ho.view; clear ho; have BN := Lw.belNext bn (by assumption); have SN := HK.out _ BN; clear bn BN))
      have BL := Lw.bel_trans HB9.out SN.1.out
      clear SN
      go_wp2_with fail
      go_ret
      exact ⟨rfl, BL⟩
    · have ht' : decide ((300 : Int) < (tx.size : Int)) = false := by simpa using ht
      go_region_held3 (fun w' => Hid (Below W9.heap.size W9 w') ∧ w'.cell? ⟨q4, 0, none⟩ = some (.slice Ya Yn Yc) ∧ w'.cell? ⟨q8, 0, none⟩ = some (.slice Ta Tn Tc) ∧ w'.cell? ⟨q9, 0, none⟩ = some (.slice Za Zn Zc) ∧ w'.cell? ⟨q9, 1, none⟩ = some (.int .i64 cZ))
        (first | assumption)
        (first
          | (go_at_call 18; refine (lwTexts_same _ _ (Jn.rdT Lg) _ HVI.out (VvT.out _ (Lw.bel (by assumption))) (Jn.rdT_len Lg)).mono ?_; rintro e wn ⟨rfl, bn⟩; have BN := Lw.belNext bn (by assumption); have SN := HK.out _ BN; clear bn BN)
          | (go_at_call 16; refine (journalRead_impl (.slice Ya Yn Yc) MY b0 b1 b2 b3 b4 _ (Fk.view_of_owns (VoY.out _ (Lw.bel (by assumption)))) HTY.out.1 (by have := HTY.out.2; unfold maxLen; omega) (HE9.out _ (Lw.bel (by assumption)))).mono ?_; rintro e wn ⟨⟨v, rfl, ho⟩, bn⟩; rw [HYT.out] at ho; obtain ⟨ra9, rc9, rfl⟩ := ho.slice; have HVI := Fk.hide ho.view; clear ho; have BN := Lw.belNext bn (by assumption); have SN := HK.out _ BN; clear bn BN))
      clear HK0 HKD kcY0 kcT0 kcZ0 kcZ1
      have SD := HK.out wn.drew (Below.drew SN.1.out)
      clear SN
      go_wp2_with fail
      go_region_held3 (fun w' => Hid (Below W9.heap.size W9 w') ∧ w'.cell? ⟨q4, 0, none⟩ = some (.slice Ya Yn Yc) ∧ w'.cell? ⟨q8, 0, none⟩ = some (.slice Ta Tn Tc) ∧ w'.cell? ⟨q9, 0, none⟩ = some (.slice Za Zn Zc) ∧ w'.cell? ⟨q9, 1, none⟩ = some (.int .i64 cZ))
        (first | assumption)
        (first
          | (go_at_call 18; refine (lwTexts_same _ _ (Jn.rdT Lg) _ HVI.out (VvT.out _ (Lw.bel (by assumption))) (Jn.rdT_len Lg)).mono ?_; rintro e wn ⟨rfl, bn⟩; have BN := Lw.belNext bn (by assumption); have SN := HK.out _ BN; clear bn BN)
          | (go_at_call 16; refine (journalRead_impl (.slice Ya Yn Yc) MY b0 b1 b2 b3 b4 _ (Fk.view_of_owns (VoY.out _ (Lw.bel (by assumption)))) HTY.out.1 (by have := HTY.out.2; unfold maxLen; omega) (HE9.out _ (Lw.bel (by assumption)))).mono ?_; rintro e wn ⟨⟨v, rfl, ho⟩, bn⟩; rw [HYT.out] at ho; obtain ⟨ra9, rc9, rfl⟩ := ho.slice; have HVI := Fk.hide ho.view; clear ho; have BN := Lw.belNext bn (by assumption); have SN := HK.out _ BN; clear bn BN))
      have BL := Lw.bel_trans HB9.out SN.1.out
      clear SN
      go_wp2_with fail
      go_ret
      exact ⟨rfl, BL⟩
  obtain rfl : cZ = 0 := Decidable.of_not_not hz
  clear hz
  obtain ⟨hL0, hd0, hg0⟩ := Jn.clean_read HAY.out
  have hRr0 := Jn.clean_right HAY.out
  obtain ⟨ht, hZr, hdZ, hx⟩ := Jn.add_read hRr0 hg0 HAZ.out
  have HLW := Fk.hide (Jn.law HAY.out HAZ.out)
  have HZR : Hid (Fk.right MZ = true) := hZr
  clear hL0 hd0 hg0 hRr0 hZr hdZ hx
  have ht' : decide ((300 : Int) < (tx.size : Int)) = false := by simp; omega
  have ht2 : ¬ (300 : Int) < (tx.size : Int) := by omega
  go_region_held3 (fun w' => Hid (Below W9.heap.size W9 w') ∧ w'.cell? ⟨q4, 0, none⟩ = some (.slice Ya Yn Yc) ∧ w'.cell? ⟨q8, 0, none⟩ = some (.slice Ta Tn Tc) ∧ w'.cell? ⟨q9, 0, none⟩ = some (.slice Za Zn Zc) ∧ w'.cell? ⟨q9, 1, none⟩ = some (.int .i64 0))
    (first | assumption)
    (first
      | (go_at_call 18; refine (lwTexts_same _ _ (Jn.rdT Lg) _ HVI.out (VvT.out _ (Lw.bel (by assumption))) (Jn.rdT_len Lg)).mono ?_; rintro e wn ⟨rfl, bn⟩; have BN := Lw.belNext bn (by assumption); have SN := HK.out _ BN; clear bn BN)
      | (go_at_call 16; refine (journalRead_impl (.slice Ya Yn Yc) MY b0 b1 b2 b3 b4 _ (Fk.view_of_owns (VoY.out _ (Lw.bel (by assumption)))) HTY.out.1 (by have := HTY.out.2; unfold maxLen; omega) (HE9.out _ (Lw.bel (by assumption)))).mono ?_; rintro e wn ⟨⟨v, rfl, ho⟩, bn⟩; rw [HYT.out] at ho; obtain ⟨ra9, rc9, rfl⟩ := ho.slice; have HVI := Fk.hide ho.view; clear ho; have BN := Lw.belNext bn (by assumption); have SN := HK.out _ BN; clear bn BN))
  clear HK0 HKD kcY0 kcT0 kcZ0 kcZ1
  have k0 := SN.2.2.2.1
  go_wp2_with fail
  have BX := Lw.bel_trans HB9.out SN.1.out
  have HTZ := Fk.hide (Fk.right_fits HZR.out)
  have HC10 : Hid ((Below w.heap.size w wn) ∧ (Is.Errs wn b0 b1 b2 b3 b4) ∧ (wn.cell? ⟨q8, 0, none⟩ = some (.slice Ta Tn Tc)) ∧ (Sk.View wn (.slice Ta Tn Tc) (Jn.rdT Lg)) ∧ (wn.cell? ⟨q9, 0, none⟩ = some (.slice Za Zn Zc)) ∧ (Fk.Own wn 0 75 (.slice Za Zn Zc) MZ) ∧ True) := ⟨BX, HE9.out _ SN.1.out, SN.2.2.1, VvT.out _ SN.1.out, SN.2.2.2.1, VoZ.out _ SN.1.out, trivial⟩
  clear SN k0
  refine (journalRead_impl (.slice Za Zn Zc) MZ b0 b1 b2 b3 b4 wn (Fk.view_of_owns HC10.out.2.2.2.2.2.1) HTZ.out.1 (by have := HTZ.out.2; unfold maxLen; omega) HC10.out.2.1).mono ?_
  rintro e w11 ⟨⟨u, rfl, ho⟩, bl⟩
  rw [HLW.out.2.1] at ho
  obtain ⟨Aa, Ac, rfl⟩ := ho.slice
  obtain ⟨An, hAn⟩ : ∃ n, n = (Jn.rdT Lg ++ [tx]).length := ⟨_, rfl⟩
  rw [← hAn] at ho ⊢
  obtain ⟨AB, rfl⟩ := Sk.Own.some_ ho (by simp)
  have HCAP : Hid (An ≤ Ac) := Sk.Own.cap ho
  have HAN := Fk.hide hAn
  clear hAn
  obtain ⟨q11, hq⟩ : ∃ q, q = w11.heap.size := ⟨_, rfl⟩
  have HC11 : Hid ((Below w.heap.size w (w11.alloc (.cells #[.slice (some ⟨AB, 0, none⟩) An Ac, .int .i64 (Jn.rdA MZ), .int .i64 (Jn.rdC MZ)] 37))) ∧ (Is.Errs (w11.alloc (.cells #[.slice (some ⟨AB, 0, none⟩) An Ac, .int .i64 (Jn.rdA MZ), .int .i64 (Jn.rdC MZ)] 37)) b0 b1 b2 b3 b4) ∧ ((w11.alloc (.cells #[.slice (some ⟨AB, 0, none⟩) An Ac, .int .i64 (Jn.rdA MZ), .int .i64 (Jn.rdC MZ)] 37)).cell? ⟨q8, 0, none⟩ = some (.slice Ta Tn Tc)) ∧ (Sk.View (w11.alloc (.cells #[.slice (some ⟨AB, 0, none⟩) An Ac, .int .i64 (Jn.rdA MZ), .int .i64 (Jn.rdC MZ)] 37)) (.slice Ta Tn Tc) (Jn.rdT Lg)) ∧ ((w11.alloc (.cells #[.slice (some ⟨AB, 0, none⟩) An Ac, .int .i64 (Jn.rdA MZ), .int .i64 (Jn.rdC MZ)] 37)).cell? ⟨q9, 0, none⟩ = some (.slice Za Zn Zc)) ∧ (Fk.Own (w11.alloc (.cells #[.slice (some ⟨AB, 0, none⟩) An Ac, .int .i64 (Jn.rdA MZ), .int .i64 (Jn.rdC MZ)] 37)) 0 75 (.slice Za Zn Zc) MZ) ∧ ((w11.alloc (.cells #[.slice (some ⟨AB, 0, none⟩) An Ac, .int .i64 (Jn.rdA MZ), .int .i64 (Jn.rdC MZ)] 37)).cell? ⟨q11, 0, none⟩ = some (.slice (some ⟨AB, 0, none⟩) An Ac)) ∧ (Sk.View (w11.alloc (.cells #[.slice (some ⟨AB, 0, none⟩) An Ac, .int .i64 (Jn.rdA MZ), .int .i64 (Jn.rdC MZ)] 37)) (.slice (some ⟨AB, 0, none⟩) An Ac) (Jn.rdT Lg ++ [tx])) ∧ True) := by
    have bb : Below wn.heap.size wn (w11.alloc (.cells #[.slice (some ⟨AB, 0, none⟩) An Ac, .int .i64 (Jn.rdA MZ), .int .i64 (Jn.rdC MZ)] 37)) := bl.alloc bl.size _
    have bt : Below w11.heap.size w11 (w11.alloc (.cells #[.slice (some ⟨AB, 0, none⟩) An Ac, .int .i64 (Jn.rdA MZ), .int .i64 (Jn.rdC MZ)] 37)) := (Below.refl _ _).alloc (Nat.le_refl _) _
    subst hq
    exact ⟨Lw.bel_trans (HC10.out.1) bb, Is.Errs.below (HC10.out.2.1) bb, Lw.cell_below bb (HC10.out.2.2.1), Sk.View.below (HC10.out.2.2.2.1) bb, Lw.cell_below bb (HC10.out.2.2.2.2.1), Fk.Own.below (HC10.out.2.2.2.2.2.1) bb, (by rw [Fk.cellTop _ _ _ _ _ rfl]; rfl), Sk.View.below ho.view bt, trivial⟩
  obtain ⟨W11, hW⟩ : ∃ W, W = (w11.alloc (.cells #[.slice (some ⟨AB, 0, none⟩) An Ac, .int .i64 (Jn.rdA MZ), .int .i64 (Jn.rdC MZ)] 37)) := ⟨_, rfl⟩
  have HW11 := Fk.hide hW
  have HQ11 := Fk.hide hq
  rw [← hW] at HC11
  clear hW hq bl ho HC10
  have k3 : (w11.alloc (.cells #[.slice (some ⟨AB, 0, none⟩) An Ac, .int .i64 (Jn.rdA MZ), .int .i64 (Jn.rdC MZ)] 37)).cell? ⟨q9, 0, none⟩ = some (.slice Za Zn Zc) := by have h := HC11.out.2.2.2.2.1; rw [HW11.out] at h; exact h
  go_wp2_with fail
  rw [← HW11.out, ← HQ11.out]
  clear HW11 HQ11 k3
  refine (fsCrash_spec (.slice Za Zn Zc) (.slice none 0 0) MZ [] W11 (Fk.view_of_owns HC11.out.2.2.2.2.2.1) (HC11.out.2.2.2.2.2.1).shut HTZ.out.1 (by have := HTZ.out.2; omega) (Ik.view_none _) (by simp)).mono ?_
  rintro e w12 ⟨⟨u, rfl, ho⟩, bl⟩
  obtain ⟨xa, xn, xc, rfl⟩ := ho.slice'
  have HTX2 := Fk.hide (Fk.right_fits (Jn.crash_ok HZR.out))
  have HC12 : Hid ((Below w.heap.size w w12) ∧ (Is.Errs w12 b0 b1 b2 b3 b4) ∧ (w12.cell? ⟨q8, 0, none⟩ = some (.slice Ta Tn Tc)) ∧ (Sk.View w12 (.slice Ta Tn Tc) (Jn.rdT Lg)) ∧ (w12.cell? ⟨q9, 0, none⟩ = some (.slice Za Zn Zc)) ∧ (Fk.Own w12 0 75 (.slice Za Zn Zc) MZ) ∧ (w12.cell? ⟨q11, 0, none⟩ = some (.slice (some ⟨AB, 0, none⟩) An Ac)) ∧ (Sk.View w12 (.slice (some ⟨AB, 0, none⟩) An Ac) (Jn.rdT Lg ++ [tx])) ∧ (Fk.Own w12 0 75 (.slice xa xn xc) (Ik.crash MZ [])) ∧ True) := ⟨Lw.bel_trans (HC11.out.1) bl, Is.Errs.below (HC11.out.2.1) bl, Lw.cell_below bl (HC11.out.2.2.1), Sk.View.below (HC11.out.2.2.2.1) bl, Lw.cell_below bl (HC11.out.2.2.2.2.1), Fk.Own.below (HC11.out.2.2.2.2.2.1) bl, Lw.cell_below bl (HC11.out.2.2.2.2.2.2.1), Sk.View.below (HC11.out.2.2.2.2.2.2.2.1) bl, Fk.Own.mono ho (Nat.zero_le _), trivial⟩
  clear ho bl HC11
  go_wp2_with fail
  refine (journalRead_impl (.slice xa xn xc) (Ik.crash MZ []) b0 b1 b2 b3 b4 w12 (Fk.view_of_owns HC12.out.2.2.2.2.2.2.2.2.1) HTX2.out.1 (by have := HTX2.out.2; unfold maxLen; omega) HC12.out.2.1).mono ?_
  rintro e w13 ⟨⟨u, rfl, ho⟩, bl⟩
  obtain ⟨Ca, Cc, rfl⟩ := ho.slice
  obtain ⟨Cn, hCn⟩ : ∃ n, n = (Jn.rdT (Ik.crash MZ [])).length := ⟨_, rfl⟩
  rw [← hCn] at ho ⊢
  have HCN := Fk.hide hCn
  clear hCn
  obtain ⟨q13, hq⟩ : ∃ q, q = w13.heap.size := ⟨_, rfl⟩
  have HC13 : Hid ((Below w.heap.size w (w13.alloc (.cells #[.slice Ca Cn Cc, .int .i64 (Jn.rdA (Ik.crash MZ [])), .int .i64 (Jn.rdC (Ik.crash MZ []))] 37))) ∧ (Is.Errs (w13.alloc (.cells #[.slice Ca Cn Cc, .int .i64 (Jn.rdA (Ik.crash MZ [])), .int .i64 (Jn.rdC (Ik.crash MZ []))] 37)) b0 b1 b2 b3 b4) ∧ ((w13.alloc (.cells #[.slice Ca Cn Cc, .int .i64 (Jn.rdA (Ik.crash MZ [])), .int .i64 (Jn.rdC (Ik.crash MZ []))] 37)).cell? ⟨q8, 0, none⟩ = some (.slice Ta Tn Tc)) ∧ (Sk.View (w13.alloc (.cells #[.slice Ca Cn Cc, .int .i64 (Jn.rdA (Ik.crash MZ [])), .int .i64 (Jn.rdC (Ik.crash MZ []))] 37)) (.slice Ta Tn Tc) (Jn.rdT Lg)) ∧ ((w13.alloc (.cells #[.slice Ca Cn Cc, .int .i64 (Jn.rdA (Ik.crash MZ [])), .int .i64 (Jn.rdC (Ik.crash MZ []))] 37)).cell? ⟨q9, 0, none⟩ = some (.slice Za Zn Zc)) ∧ (Fk.Own (w13.alloc (.cells #[.slice Ca Cn Cc, .int .i64 (Jn.rdA (Ik.crash MZ [])), .int .i64 (Jn.rdC (Ik.crash MZ []))] 37)) 0 75 (.slice Za Zn Zc) MZ) ∧ ((w13.alloc (.cells #[.slice Ca Cn Cc, .int .i64 (Jn.rdA (Ik.crash MZ [])), .int .i64 (Jn.rdC (Ik.crash MZ []))] 37)).cell? ⟨q11, 0, none⟩ = some (.slice (some ⟨AB, 0, none⟩) An Ac)) ∧ (Sk.View (w13.alloc (.cells #[.slice Ca Cn Cc, .int .i64 (Jn.rdA (Ik.crash MZ [])), .int .i64 (Jn.rdC (Ik.crash MZ []))] 37)) (.slice (some ⟨AB, 0, none⟩) An Ac) (Jn.rdT Lg ++ [tx])) ∧ (Fk.Own (w13.alloc (.cells #[.slice Ca Cn Cc, .int .i64 (Jn.rdA (Ik.crash MZ [])), .int .i64 (Jn.rdC (Ik.crash MZ []))] 37)) 0 75 (.slice xa xn xc) (Ik.crash MZ [])) ∧ ((w13.alloc (.cells #[.slice Ca Cn Cc, .int .i64 (Jn.rdA (Ik.crash MZ [])), .int .i64 (Jn.rdC (Ik.crash MZ []))] 37)).cell? ⟨q13, 0, none⟩ = some (.slice Ca Cn Cc)) ∧ (Sk.View (w13.alloc (.cells #[.slice Ca Cn Cc, .int .i64 (Jn.rdA (Ik.crash MZ [])), .int .i64 (Jn.rdC (Ik.crash MZ []))] 37)) (.slice Ca Cn Cc) (Jn.rdT (Ik.crash MZ []))) ∧ True) := by
    have bb : Below w12.heap.size w12 (w13.alloc (.cells #[.slice Ca Cn Cc, .int .i64 (Jn.rdA (Ik.crash MZ [])), .int .i64 (Jn.rdC (Ik.crash MZ []))] 37)) := bl.alloc bl.size _
    have bt : Below w13.heap.size w13 (w13.alloc (.cells #[.slice Ca Cn Cc, .int .i64 (Jn.rdA (Ik.crash MZ [])), .int .i64 (Jn.rdC (Ik.crash MZ []))] 37)) := (Below.refl _ _).alloc (Nat.le_refl _) _
    subst hq
    exact ⟨Lw.bel_trans (HC12.out.1) bb, Is.Errs.below (HC12.out.2.1) bb, Lw.cell_below bb (HC12.out.2.2.1), Sk.View.below (HC12.out.2.2.2.1) bb, Lw.cell_below bb (HC12.out.2.2.2.2.1), Fk.Own.below (HC12.out.2.2.2.2.2.1) bb, Lw.cell_below bb (HC12.out.2.2.2.2.2.2.1), Sk.View.below (HC12.out.2.2.2.2.2.2.2.1) bb, Fk.Own.below (HC12.out.2.2.2.2.2.2.2.2.1) bb, (by rw [Fk.cellTop _ _ _ _ _ rfl]; rfl), Sk.View.below ho.view bt, trivial⟩
  obtain ⟨W13, hW⟩ : ∃ W, W = (w13.alloc (.cells #[.slice Ca Cn Cc, .int .i64 (Jn.rdA (Ik.crash MZ [])), .int .i64 (Jn.rdC (Ik.crash MZ []))] 37)) := ⟨_, rfl⟩
  have HW13 := Fk.hide hW
  have HQ13 := Fk.hide hq
  rw [← hW] at HC13
  clear hW hq bl ho HC12
  have k3 : True := trivial
  go_wp2_with fail
  rw [← HW13.out, ← HQ13.out]
  clear HW13 HQ13 k3
  have HK : Hid (∀ w', Hid (Below W13.heap.size W13 w') → Hid (Below W13.heap.size W13 w') ∧ w'.cell? ⟨q11, 0, none⟩ = some (.slice (some ⟨AB, 0, none⟩) An Ac) ∧ w'.cell? ⟨q8, 0, none⟩ = some (.slice Ta Tn Tc) ∧ w'.cell? ⟨q13, 0, none⟩ = some (.slice Ca Cn Cc) ∧ w'.cell? ⟨q9, 0, none⟩ = some (.slice Za Zn Zc)) := fun w' hb => ⟨hb, Lw.cell_below hb.out (HC13.out.2.2.2.2.2.2.1), Lw.cell_below hb.out (HC13.out.2.2.1), Lw.cell_below hb.out (HC13.out.2.2.2.2.2.2.2.2.2.1), Lw.cell_below hb.out (HC13.out.2.2.2.2.1)⟩
  have HKD := HK.out W13.drew (Below.drew (Below.refl _ _))
  have VvT : Hid (∀ w', Below W13.heap.size W13 w' → Sk.View w' (.slice Ta Tn Tc) (Jn.rdT Lg)) := fun w' hb => Sk.View.below (HC13.out.2.2.2.1) hb
  have VvA : Hid (∀ w', Below W13.heap.size W13 w' → Sk.View w' (.slice (some ⟨AB, 0, none⟩) An Ac) (Jn.rdT Lg ++ [tx])) := fun w' hb => Sk.View.below (HC13.out.2.2.2.2.2.2.2.1) hb
  have VvC : Hid (∀ w', Below W13.heap.size W13 w' → Sk.View w' (.slice Ca Cn Cc) (Jn.rdT (Ik.crash MZ []))) := fun w' hb => Sk.View.below (HC13.out.2.2.2.2.2.2.2.2.2.2.1) hb
  have VoZ2 : Hid (∀ w', Below W13.heap.size W13 w' → Fk.Own w' 0 75 (.slice Za Zn Zc) MZ) := fun w' hb => Fk.Own.below (HC13.out.2.2.2.2.2.1) hb
  have HE13 : Hid (∀ w', Below W13.heap.size W13 w' → Is.Errs w' b0 b1 b2 b3 b4) := fun w' hb => Is.Errs.below (HC13.out.2.1) hb
  have HB13 : Hid (Below w.heap.size w W13) := HC13.out.1
  clear HC13
  have hw : HLW.out = HLW.out := rfl
  clear hw
  have nTA : An = Tn + 1 := by rw [HAN.out, HTN.out]; simp
  have nTC : Tn ≤ Cn := by rw [HTN.out, HCN.out]; exact HLW.out.2.2.2.1
  have nCA : Cn ≤ Tn + 1 := by rw [HTN.out, HCN.out]; exact HLW.out.2.2.2.2.1
  have HSY : Hid (sy = true → Cn = Tn + 1) := fun h => by rw [HTN.out, HCN.out]; exact HLW.out.2.2.2.2.2 h
  have HCT : Hid (Jn.rdT (Ik.crash MZ []) = (Jn.rdT Lg ++ [tx]).take Cn) := by show _ = _; rw [HCN.out]; exact HLW.out.2.2.1
  have nAc := HCAP.out
  have HLT : Hid ((Jn.rdT Lg ++ [tx]).length ≤ 1048576) := by show _ ≤ _; have := Jn.rdT_len MZ; rwa [HLW.out.2.1] at this
  have g1 : decide ((Cn : Int) ≤ (An : Int)) = true := decide_eq_true (by omega)
  have g2 : decide ((Tn : Int) ≤ (Cn : Int)) = true := decide_eq_true (by omega)
  have g3 : (Cn : Int) ≤ (An : Int) := by omega
  have g4 : (Tn : Int) ≤ (Cn : Int) := by omega
  have g5 : (Cn : Int) ≤ (Ac : Int) := by omega
  have g6 : ¬ Ac = 0 := by omega
  have g7 : (0 : Int) ≤ (Cn : Int) := by omega
  have g8 : ((Cn : Int)).toNat = Cn := by simp
  have g9 : Cn ≤ Ac := by omega
  have h4 : Cn ≤ An := by omega
  clear nTA nCA nAc
  have hit := infoText
  obtain ⟨i0, hi, hit⟩ := Option.map_eq_some_iff.1 hit
  have hz0 : i0.zero = some (.string ByteArray.empty) := congrArg (·.1) hit
  have hz1 : i0.size = 1 := congrArg (·.2.1) hit
  have hz2 : i0.bytes = 16 := congrArg (·.2.2) hit
  clear hit
  have hfl := Jn.field_txts
  have hff := Jn.field_files
  go_wp2_with fail
  refine wp_region_held_drew (S := (fun w' => Hid (Below W13.heap.size W13 w') ∧ w'.cell? ⟨q11, 0, none⟩ = some (.slice (some ⟨AB, 0, none⟩) An Ac) ∧ w'.cell? ⟨q8, 0, none⟩ = some (.slice Ta Tn Tc) ∧ w'.cell? ⟨q13, 0, none⟩ = some (.slice Ca Cn Cc) ∧ w'.cell? ⟨q9, 0, none⟩ = some (.slice Za Zn Zc))) (by kernel_rfl) ?_ (fun hH => ?_)
  · (try dsimp only); exact HKD
  obtain ⟨X0, hX0⟩ : ∃ X, X = W13.drew := ⟨_, rfl⟩
  rw [← hX0] at hH ⊢
  clear hX0 HKD
  have HTL : Hid ((Jn.rdT Lg).length ≤ 1048576) := Jn.rdT_len Lg
  have HSHT : Hid (Rk.Shut (.slice Ta Tn Tc)) := HSHT0.out
  refine wpAnyH_take (i := 0) (oi := ?_) (v := ?_) ?_ (by kernel_rfl) (by kernel_rfl) (by kernel_rfl) ?_ ?_ (by assumption) ?_
  rotate_left
  rotate_left
  · (simp only [List.getElem?_toArray, List.getElem?_cons_succ, List.getElem?_cons_zero]; rfl)
  · exact fun _ _ _ h => h
  · refine Or.inl ⟨by rfl, ?_⟩; (intro w hSw; (try dsimp only at hSw); go_simp; first | done | with_reducible rfl)
  (try simp only [Act.put, List.setIfInBounds_toArray, List.set_cons_zero, List.set_cons_succ])
  refine wpAnyH_take (i := 1) (oi := ?_) (v := ?_) ?_ (by kernel_rfl) (by kernel_rfl) (by kernel_rfl) ?_ ?_ (by assumption) ?_
  rotate_left
  rotate_left
  · (simp only [List.getElem?_toArray, List.getElem?_cons_succ, List.getElem?_cons_zero]; rfl)
  · exact fun _ _ _ h => h
  · refine Or.inl ⟨by rfl, ?_⟩; (intro w hSw; (try dsimp only at hSw); go_simp; first | done | with_reducible rfl)
  (try simp only [Act.put, List.setIfInBounds_toArray, List.set_cons_zero, List.set_cons_succ])
  refine wpAnyH_take (i := 3) (oi := ?_) (v := ?_) ?_ (by kernel_rfl) (by kernel_rfl) (by kernel_rfl) ?_ ?_ (by assumption) ?_
  rotate_left
  rotate_left
  · (simp only [List.getElem?_toArray, List.getElem?_cons_succ, List.getElem?_cons_zero]; rfl)
  · exact fun _ _ _ h => h
  · refine Or.inl ⟨by rfl, ?_⟩; (intro w hSw; (try dsimp only at hSw); go_simp; first | done | with_reducible rfl)
  (try simp only [Act.put, List.setIfInBounds_toArray, List.set_cons_zero, List.set_cons_succ])
  refine wpAnyH_take (i := 4) (oi := ?_) (v := ?_) ?_ (by kernel_rfl) (by kernel_rfl) (by kernel_rfl) ?_ ?_ (by assumption) ?_
  rotate_left
  rotate_left
  · (simp only [List.getElem?_toArray, List.getElem?_cons_succ, List.getElem?_cons_zero]; rfl)
  · exact fun _ _ _ h => h
  · refine Or.inl ⟨by rfl, ?_⟩; (intro w hSw; (try dsimp only at hSw); go_simp; first | done | with_reducible rfl)
  (try simp only [Act.put, List.setIfInBounds_toArray, List.set_cons_zero, List.set_cons_succ])
  refine wpAnyH_take (i := 6) (oi := ?_) (v := ?_) ?_ (by kernel_rfl) (by kernel_rfl) (by kernel_rfl) ?_ ?_ (by assumption) ?_
  rotate_left
  rotate_left
  · (simp only [List.getElem?_toArray, List.getElem?_cons_succ, List.getElem?_cons_zero]; rfl)
  · exact fun _ _ _ h => h
  · refine Or.inl ⟨by rfl, ?_⟩; (intro w hSw; (try dsimp only at hSw); go_simp; first | done | with_reducible rfl)
  (try simp only [Act.put, List.setIfInBounds_toArray, List.set_cons_zero, List.set_cons_succ])
  refine' (fun (tail : ∀ (X : World) (gE gL : Nat) (x5 : Option Addr) (m5 y5 : Nat) (x8 : Option Addr) (m8 y8 : Nat), (Hid (Below W13.heap.size W13 X) ∧ X.cell? ⟨q11, 0, none⟩ = some (.slice (some ⟨AB, 0, none⟩) An Ac) ∧ X.cell? ⟨q8, 0, none⟩ = some (.slice Ta Tn Tc) ∧ X.cell? ⟨q13, 0, none⟩ = some (.slice Ca Cn Cc) ∧ X.cell? ⟨q9, 0, none⟩ = some (.slice Za Zn Zc)) → Hid (Sk.Own X W13.heap.size 9 (.slice x8 m8 y8) (Jn.rdT Lg ++ [tx])) → wpAnyH _ _ _ _ _ _ _ ((_ : Nat → Nat → Option Addr → Nat → Nat → Option Addr → Nat → Nat → Act) gE gL x5 m5 y5 x8 m8 y8) X) => ?main) ?tailp
  case main =>
    refine wpAnyH_ready (rs := [2, 7]) (by kernel_rfl) (by simp) ?_
    refine AllReadyH.cons (o := ?_) ?_ (fun K hK => ?_) ?_
    rotate_left
    · (simp only [List.getElem?_toArray, List.getElem?_cons_succ, List.getElem?_cons_zero]; rfl)
    · skip
      go_simp
      have BN : Hid (Below W13.heap.size W13 (X0.alloc (.cells #[] 9))) := hH.1.out.alloc hH.1.out.size _
      have OE : Hid (Rk.Own Sx.S (X0.alloc (.cells #[] 9)) W13.heap.size 9 (.slice (some ⟨X0.heap.size, 0, none⟩) 0 0) []) := Rk.own_empty _ _ _ hH.1.out.size
      have HGE : Hid (X0.heap.size < (X0.alloc (.cells #[] 9)).heap.size) := by show _ < _; simp
      obtain ⟨gE, hgE⟩ : ∃ g, g = X0.heap.size := ⟨_, rfl⟩
      obtain ⟨X1, hX⟩ : ∃ X, X = X0.alloc (.cells #[] 9) := ⟨_, rfl⟩
      rw [← hX, ← hgE]
      rw [← hX] at BN OE HGE 
      rw [← hgE] at OE HGE
      have SB := HK.out _ BN
      refine hK.out _ _ ?_ (fun hH2 => ?_)
      · (try dsimp only); exact SB
      clear hK K SB BN hX hgE
      have hH := hH2
      clear hH2
      (try simp only [Act.put, List.setIfInBounds_toArray, List.set_cons_zero, List.set_cons_succ])
      refine wpAnyH_ready (rs := [5, 7]) (by kernel_rfl) (by simp) ?_
      refine AllReadyH.cons (o := ?_) ?_ (fun K hK => ?_) ?_
      rotate_left
      · (simp only [List.getElem?_toArray, List.getElem?_cons_succ, List.getElem?_cons_zero]; rfl)
      · skip
        refine Rk.step_append_view _ (by rfl) (.tmp 121) (.tmp 123) 35 (by rfl) W13.heap.size 9 i0 _ 1 16 rfl Tryz.underlying35 hi hz0 hz1 hz2 (by rfl) (by decide) (.slice (some ⟨gE, 0, none⟩) 0 0) (.slice Ta Tn Tc) [] (Jn.rdT Lg) (by rfl) (by rfl) OE.out (VvT.out _ hH.1.out).rows HSHT.out (by have := HTL.out; simp; omega) hH.1.out.size ?_
        intro u X2 o g
        have BN : Hid (Below W13.heap.size W13 X2) := hH.1.out.grown g hH.1.out.size (fun j hj => (OE.out.lt j hj).1)
        rw [List.nil_append] at o
        obtain ⟨x5, m5, y5, rfl⟩ := o.slice'
        have OM := Fk.hide o
        clear OE o g
        have SB := HK.out _ BN
        refine hK.out _ _ ?_ (fun hH2 => ?_)
        · (try dsimp only); exact SB
        clear hK K SB BN
        have hH := hH2
        clear hH2
        (try simp only [Act.put, List.setIfInBounds_toArray, List.set_cons_zero, List.set_cons_succ])
        refine wpAnyH_ready (rs := [7]) (by kernel_rfl) (by simp) ?_
        refine AllReadyH.cons (o := ?_) ?_ (fun K hK => ?_) AllReadyH.nil
        rotate_left
        · (simp only [List.getElem?_toArray, List.getElem?_cons_succ, List.getElem?_cons_zero]; rfl)
        go_simp
        have BN : Hid (Below W13.heap.size W13 (X2.alloc (.cells #[.string tx] 9))) := hH.1.out.alloc hH.1.out.size _
        have OL : Hid (Rk.Own Sx.S (X2.alloc (.cells #[.string tx] 9)) W13.heap.size 9 (.slice (some ⟨X2.heap.size, 0, none⟩) 1 1) [tx]) := Rk.own_lit1 _ _ _ hH.1.out.size _ tx rfl
        have OM := Fk.hide (OM.out.below ((Below.refl _ _).alloc (Nat.le_refl _) (.cells #[.string tx] 9)))
        have HGL : Hid (X2.heap.size < (X2.alloc (.cells #[.string tx] 9)).heap.size) := by show _ < _; simp
        obtain ⟨gL, hgL⟩ : ∃ g, g = X2.heap.size := ⟨_, rfl⟩
        obtain ⟨X3, hX⟩ : ∃ X, X = X2.alloc (.cells #[.string tx] 9) := ⟨_, rfl⟩
        rw [← hX, ← hgL]
        rw [← hX] at BN OL HGL OM
        rw [← hgL] at OL HGL
        have SB := HK.out _ BN
        refine hK.out _ _ ?_ (fun hH2 => ?_)
        · (try dsimp only); exact SB
        clear hK K SB BN hX hgL
        have hH := hH2
        clear hH2
        (try simp only [Act.put, List.setIfInBounds_toArray, List.set_cons_zero, List.set_cons_succ])
        refine wpAnyH_ready (rs := [8]) (by kernel_rfl) (by simp) ?_
        refine AllReadyH.cons (o := ?_) ?_ (fun K hK => ?_) AllReadyH.nil
        rotate_left
        · (simp only [List.getElem?_toArray, List.getElem?_cons_succ, List.getElem?_cons_zero]; rfl)
        refine Rk.step_append_view _ (by rfl) (.tmp 124) (.tmp 126) 35 (by rfl) W13.heap.size 9 i0 _ 1 16 rfl Tryz.underlying35 hi hz0 hz1 hz2 (by rfl) (by decide) (.slice x5 m5 y5) (.slice (some ⟨gL, 0, none⟩) 1 1) (Jn.rdT Lg) [tx] (by rfl) (by rfl) OM.out OL.out.view (Rk.shut_some _ _ _) (by have := HTL.out; simp; omega) hH.1.out.size ?_
        intro u X4 o g
        have BN : Hid (Below W13.heap.size W13 X4) := hH.1.out.grown g hH.1.out.size (fun j hj => (OM.out.lt j hj).1)
        obtain ⟨x8, m8, y8, rfl⟩ := o.slice'
        have OO : Hid (Sk.Own X4 W13.heap.size 9 (.slice x8 m8 y8) (Jn.rdT Lg ++ [tx])) := Sx.own_sk o
        clear OM OL o g
        have SB := HK.out _ BN
        refine hK.out _ _ ?_ (fun hH2 => ?_)
        · (try dsimp only); exact SB
        clear hK K SB BN
        have hH := hH2
        clear hH2
        (try simp only [Act.put, List.setIfInBounds_toArray, List.set_cons_zero, List.set_cons_succ])
        exact tail _ gE gL x5 m5 y5 x8 m8 y8 hH OO
      · skip
        refine AllReadyH.cons (o := ?_) ?_ (fun K hK => ?_) AllReadyH.nil
        rotate_left
        · (simp only [List.getElem?_toArray, List.getElem?_cons_succ, List.getElem?_cons_zero]; rfl)
        go_simp
        have BN : Hid (Below W13.heap.size W13 (X1.alloc (.cells #[.string tx] 9))) := hH.1.out.alloc hH.1.out.size _
        have OL : Hid (Rk.Own Sx.S (X1.alloc (.cells #[.string tx] 9)) W13.heap.size 9 (.slice (some ⟨X1.heap.size, 0, none⟩) 1 1) [tx]) := Rk.own_lit1 _ _ _ hH.1.out.size _ tx rfl
        have OE := Fk.hide (OE.out.below ((Below.refl _ _).alloc (Nat.le_refl _) (.cells #[.string tx] 9)))
        have HGL : Hid (X1.heap.size < (X1.alloc (.cells #[.string tx] 9)).heap.size) := by show _ < _; simp
        obtain ⟨gL, hgL⟩ : ∃ g, g = X1.heap.size := ⟨_, rfl⟩
        obtain ⟨X2, hX⟩ : ∃ X, X = X1.alloc (.cells #[.string tx] 9) := ⟨_, rfl⟩
        rw [← hX, ← hgL]
        rw [← hX] at BN OL HGL OE
        rw [← hgL] at OL HGL
        have HNE : Hid (gE ≠ gL) := fun h => by have h1 := HGE.out; have h2 := hgL; omega
        have SB := HK.out _ BN
        refine hK.out _ _ ?_ (fun hH2 => ?_)
        · (try dsimp only); exact SB
        clear hK K SB BN hX hgL
        have hH := hH2
        clear hH2
        (try simp only [Act.put, List.setIfInBounds_toArray, List.set_cons_zero, List.set_cons_succ])
        refine wpAnyH_ready (rs := [5]) (by kernel_rfl) (by simp) ?_
        refine AllReadyH.cons (o := ?_) ?_ (fun K hK => ?_) AllReadyH.nil
        rotate_left
        · (simp only [List.getElem?_toArray, List.getElem?_cons_succ, List.getElem?_cons_zero]; rfl)
        refine Rk.step_append_view _ (by rfl) (.tmp 121) (.tmp 123) 35 (by rfl) W13.heap.size 9 i0 _ 1 16 rfl Tryz.underlying35 hi hz0 hz1 hz2 (by rfl) (by decide) (.slice (some ⟨gE, 0, none⟩) 0 0) (.slice Ta Tn Tc) [] (Jn.rdT Lg) (by rfl) (by rfl) OE.out (VvT.out _ hH.1.out).rows HSHT.out (by have := HTL.out; simp; omega) hH.1.out.size ?_
        intro u X3 o g
        have BN : Hid (Below W13.heap.size W13 X3) := hH.1.out.grown g hH.1.out.size (fun j hj => (OE.out.lt j hj).1)
        rw [List.nil_append] at o
        have OL := Fk.hide (OL.out.kept g (fun k hk e => HNE.out (by simp [Value.ownBlock] at hk e; omega)))
        obtain ⟨x5, m5, y5, rfl⟩ := o.slice'
        have OM := Fk.hide o
        clear OE o g
        have SB := HK.out _ BN
        refine hK.out _ _ ?_ (fun hH2 => ?_)
        · (try dsimp only); exact SB
        clear hK K SB BN
        have hH := hH2
        clear hH2
        (try simp only [Act.put, List.setIfInBounds_toArray, List.set_cons_zero, List.set_cons_succ])
        refine wpAnyH_ready (rs := [8]) (by kernel_rfl) (by simp) ?_
        refine AllReadyH.cons (o := ?_) ?_ (fun K hK => ?_) AllReadyH.nil
        rotate_left
        · (simp only [List.getElem?_toArray, List.getElem?_cons_succ, List.getElem?_cons_zero]; rfl)
        refine Rk.step_append_view _ (by rfl) (.tmp 124) (.tmp 126) 35 (by rfl) W13.heap.size 9 i0 _ 1 16 rfl Tryz.underlying35 hi hz0 hz1 hz2 (by rfl) (by decide) (.slice x5 m5 y5) (.slice (some ⟨gL, 0, none⟩) 1 1) (Jn.rdT Lg) [tx] (by rfl) (by rfl) OM.out OL.out.view (Rk.shut_some _ _ _) (by have := HTL.out; simp; omega) hH.1.out.size ?_
        intro u X4 o g
        have BN : Hid (Below W13.heap.size W13 X4) := hH.1.out.grown g hH.1.out.size (fun j hj => (OM.out.lt j hj).1)
        obtain ⟨x8, m8, y8, rfl⟩ := o.slice'
        have OO : Hid (Sk.Own X4 W13.heap.size 9 (.slice x8 m8 y8) (Jn.rdT Lg ++ [tx])) := Sx.own_sk o
        clear OM OL o g
        have SB := HK.out _ BN
        refine hK.out _ _ ?_ (fun hH2 => ?_)
        · (try dsimp only); exact SB
        clear hK K SB BN
        have hH := hH2
        clear hH2
        (try simp only [Act.put, List.setIfInBounds_toArray, List.set_cons_zero, List.set_cons_succ])
        exact tail _ gE gL x5 m5 y5 x8 m8 y8 hH OO
    · skip
      refine AllReadyH.cons (o := ?_) ?_ (fun K hK => ?_) AllReadyH.nil
      rotate_left
      · (simp only [List.getElem?_toArray, List.getElem?_cons_succ, List.getElem?_cons_zero]; rfl)
      go_simp
      have BN : Hid (Below W13.heap.size W13 (X0.alloc (.cells #[.string tx] 9))) := hH.1.out.alloc hH.1.out.size _
      have OL : Hid (Rk.Own Sx.S (X0.alloc (.cells #[.string tx] 9)) W13.heap.size 9 (.slice (some ⟨X0.heap.size, 0, none⟩) 1 1) [tx]) := Rk.own_lit1 _ _ _ hH.1.out.size _ tx rfl
      have HGL : Hid (X0.heap.size < (X0.alloc (.cells #[.string tx] 9)).heap.size) := by show _ < _; simp
      obtain ⟨gL, hgL⟩ : ∃ g, g = X0.heap.size := ⟨_, rfl⟩
      obtain ⟨X1, hX⟩ : ∃ X, X = X0.alloc (.cells #[.string tx] 9) := ⟨_, rfl⟩
      rw [← hX, ← hgL]
      rw [← hX] at BN OL HGL 
      rw [← hgL] at OL HGL
      have SB := HK.out _ BN
      refine hK.out _ _ ?_ (fun hH2 => ?_)
      · (try dsimp only); exact SB
      clear hK K SB BN hX hgL
      have hH := hH2
      clear hH2
      (try simp only [Act.put, List.setIfInBounds_toArray, List.set_cons_zero, List.set_cons_succ])
      refine wpAnyH_ready (rs := [2]) (by kernel_rfl) (by simp) ?_
      refine AllReadyH.cons (o := ?_) ?_ (fun K hK => ?_) AllReadyH.nil
      rotate_left
      · (simp only [List.getElem?_toArray, List.getElem?_cons_succ, List.getElem?_cons_zero]; rfl)
      go_simp
      have BN : Hid (Below W13.heap.size W13 (X1.alloc (.cells #[] 9))) := hH.1.out.alloc hH.1.out.size _
      have OE : Hid (Rk.Own Sx.S (X1.alloc (.cells #[] 9)) W13.heap.size 9 (.slice (some ⟨X1.heap.size, 0, none⟩) 0 0) []) := Rk.own_empty _ _ _ hH.1.out.size
      have OL := Fk.hide (OL.out.below ((Below.refl _ _).alloc (Nat.le_refl _) (.cells #[] 9)))
      have HGE : Hid (X1.heap.size < (X1.alloc (.cells #[] 9)).heap.size) := by show _ < _; simp
      obtain ⟨gE, hgE⟩ : ∃ g, g = X1.heap.size := ⟨_, rfl⟩
      obtain ⟨X2, hX⟩ : ∃ X, X = X1.alloc (.cells #[] 9) := ⟨_, rfl⟩
      rw [← hX, ← hgE]
      rw [← hX] at BN OE HGE OL
      rw [← hgE] at OE HGE
      have HNE : Hid (gE ≠ gL) := fun h => by have h1 := HGL.out; have h2 := hgE; omega
      have SB := HK.out _ BN
      refine hK.out _ _ ?_ (fun hH2 => ?_)
      · (try dsimp only); exact SB
      clear hK K SB BN hX hgE
      have hH := hH2
      clear hH2
      (try simp only [Act.put, List.setIfInBounds_toArray, List.set_cons_zero, List.set_cons_succ])
      refine wpAnyH_ready (rs := [5]) (by kernel_rfl) (by simp) ?_
      refine AllReadyH.cons (o := ?_) ?_ (fun K hK => ?_) AllReadyH.nil
      rotate_left
      · (simp only [List.getElem?_toArray, List.getElem?_cons_succ, List.getElem?_cons_zero]; rfl)
      refine Rk.step_append_view _ (by rfl) (.tmp 121) (.tmp 123) 35 (by rfl) W13.heap.size 9 i0 _ 1 16 rfl Tryz.underlying35 hi hz0 hz1 hz2 (by rfl) (by decide) (.slice (some ⟨gE, 0, none⟩) 0 0) (.slice Ta Tn Tc) [] (Jn.rdT Lg) (by rfl) (by rfl) OE.out (VvT.out _ hH.1.out).rows HSHT.out (by have := HTL.out; simp; omega) hH.1.out.size ?_
      intro u X3 o g
      have BN : Hid (Below W13.heap.size W13 X3) := hH.1.out.grown g hH.1.out.size (fun j hj => (OE.out.lt j hj).1)
      rw [List.nil_append] at o
      have OL := Fk.hide (OL.out.kept g (fun k hk e => HNE.out (by simp [Value.ownBlock] at hk e; omega)))
      obtain ⟨x5, m5, y5, rfl⟩ := o.slice'
      have OM := Fk.hide o
      clear OE o g
      have SB := HK.out _ BN
      refine hK.out _ _ ?_ (fun hH2 => ?_)
      · (try dsimp only); exact SB
      clear hK K SB BN
      have hH := hH2
      clear hH2
      (try simp only [Act.put, List.setIfInBounds_toArray, List.set_cons_zero, List.set_cons_succ])
      refine wpAnyH_ready (rs := [8]) (by kernel_rfl) (by simp) ?_
      refine AllReadyH.cons (o := ?_) ?_ (fun K hK => ?_) AllReadyH.nil
      rotate_left
      · (simp only [List.getElem?_toArray, List.getElem?_cons_succ, List.getElem?_cons_zero]; rfl)
      refine Rk.step_append_view _ (by rfl) (.tmp 124) (.tmp 126) 35 (by rfl) W13.heap.size 9 i0 _ 1 16 rfl Tryz.underlying35 hi hz0 hz1 hz2 (by rfl) (by decide) (.slice x5 m5 y5) (.slice (some ⟨gL, 0, none⟩) 1 1) (Jn.rdT Lg) [tx] (by rfl) (by rfl) OM.out OL.out.view (Rk.shut_some _ _ _) (by have := HTL.out; simp; omega) hH.1.out.size ?_
      intro u X4 o g
      have BN : Hid (Below W13.heap.size W13 X4) := hH.1.out.grown g hH.1.out.size (fun j hj => (OM.out.lt j hj).1)
      obtain ⟨x8, m8, y8, rfl⟩ := o.slice'
      have OO : Hid (Sk.Own X4 W13.heap.size 9 (.slice x8 m8 y8) (Jn.rdT Lg ++ [tx])) := Sx.own_sk o
      clear OM OL o g
      have SB := HK.out _ BN
      refine hK.out _ _ ?_ (fun hH2 => ?_)
      · (try dsimp only); exact SB
      clear hK K SB BN
      have hH := hH2
      clear hH2
      (try simp only [Act.put, List.setIfInBounds_toArray, List.set_cons_zero, List.set_cons_succ])
      exact tail _ gE gL x5 m5 y5 x8 m8 y8 hH OO
  intro X gE gL x5 m5 y5 x8 m8 y8 hH OO
  refine wpAnyH_ready (rs := [9]) (by kernel_rfl) (by simp) ?_
  refine AllReadyH.cons (o := ?_) ?_ (fun K hK => ?_) AllReadyH.nil
  rotate_left
  · (simp only [List.getElem?_toArray, List.getElem?_cons_succ, List.getElem?_cons_zero]; rfl)
  go_simp
  go_at_call 18; refine (lwTexts_same _ _ (Jn.rdT Lg ++ [tx]) _ (VvA.out _ hH.1.out) OO.out.view HLT.out).mono ?_; rintro e wa ⟨rfl, bn⟩; have BN := Lw.belNext bn hH; have SN := HK.out _ BN; clear bn BN
  (try go_wp2_with fail)
  refine hK.out _ _ ?_ (fun hH2 => ?_)
  · (try dsimp only); exact SN
  clear hK K hH
  have hH := hH2
  clear hH2
  (try simp only [Act.put, List.setIfInBounds_toArray, List.set_cons_zero, List.set_cons_succ])
  clear OO
  refine wpAnyH_take (i := 10) (oi := ?_) (v := ?_) ?_ (by kernel_rfl) (by kernel_rfl) (by kernel_rfl) ?_ ?_ (by assumption) ?_
  rotate_left
  rotate_left
  · (simp only [List.getElem?_toArray, List.getElem?_cons_succ, List.getElem?_cons_zero]; rfl)
  · exact fun _ _ _ h => h
  · refine Or.inl ⟨by rfl, ?_⟩; (intro w hSw; (try dsimp only at hSw); go_simp; first | done | with_reducible rfl)
  (try simp only [Act.put, List.setIfInBounds_toArray, List.set_cons_zero, List.set_cons_succ])
  refine wpAnyH_take (i := 11) (oi := ?_) (v := ?_) ?_ (by kernel_rfl) (by kernel_rfl) (by kernel_rfl) ?_ ?_ (by assumption) ?_
  rotate_left
  rotate_left
  · (simp only [List.getElem?_toArray, List.getElem?_cons_succ, List.getElem?_cons_zero]; rfl)
  · exact fun _ _ _ h => h
  · refine Or.inl ⟨by rfl, ?_⟩; (intro w hSw; (try dsimp only at hSw); go_simp; first | done | with_reducible rfl)
  (try simp only [Act.put, List.setIfInBounds_toArray, List.set_cons_zero, List.set_cons_succ])
  refine wpAnyH_take (i := 12) (oi := ?_) (v := ?_) ?_ (by kernel_rfl) (by kernel_rfl) (by kernel_rfl) ?_ ?_ (by assumption) ?_
  rotate_left
  rotate_left
  · (simp only [List.getElem?_toArray, List.getElem?_cons_succ, List.getElem?_cons_zero]; rfl)
  · exact fun _ _ _ h => h
  · refine Or.inl ⟨by rfl, ?_⟩; (intro w hSw; (try dsimp only at hSw); go_simp; first | done | with_reducible rfl)
  (try simp only [Act.put, List.setIfInBounds_toArray, List.set_cons_zero, List.set_cons_succ])
  refine wpAnyH_take (i := 13) (oi := ?_) (v := ?_) ?_ (by kernel_rfl) (by kernel_rfl) (by kernel_rfl) ?_ ?_ (by assumption) ?_
  rotate_left
  rotate_left
  · (simp only [List.getElem?_toArray, List.getElem?_cons_succ, List.getElem?_cons_zero]; rfl)
  · exact fun _ _ _ h => h
  · refine Or.inl ⟨by rfl, ?_⟩; (intro w hSw; (try dsimp only at hSw); go_simp; first | done | with_reducible rfl)
  (try simp only [Act.put, List.setIfInBounds_toArray, List.set_cons_zero, List.set_cons_succ])
  refine wpAnyH_take (i := 14) (oi := ?_) (v := ?_) ?_ (by kernel_rfl) (by kernel_rfl) (by kernel_rfl) ?_ ?_ (by assumption) ?_
  rotate_left
  rotate_left
  · (simp only [List.getElem?_toArray, List.getElem?_cons_succ, List.getElem?_cons_zero]; rfl)
  · exact fun _ _ _ h => h
  · refine Or.inl ⟨by rfl, ?_⟩; (intro w hSw; (try dsimp only at hSw); go_simp; first | done | with_reducible rfl)
  (try simp only [Act.put, List.setIfInBounds_toArray, List.set_cons_zero, List.set_cons_succ])
  refine wpAnyH_take (i := 15) (oi := ?_) (v := ?_) ?_ (by kernel_rfl) (by kernel_rfl) (by kernel_rfl) ?_ ?_ (by assumption) ?_
  rotate_left
  rotate_left
  · (simp only [List.getElem?_toArray, List.getElem?_cons_succ, List.getElem?_cons_zero]; rfl)
  · exact fun _ _ _ h => h
  · refine Or.inl ⟨by rfl, ?_⟩; (intro w hSw; (try dsimp only at hSw); go_simp; first | done | with_reducible rfl)
  (try simp only [Act.put, List.setIfInBounds_toArray, List.set_cons_zero, List.set_cons_succ])
  refine wpAnyH_take (i := 16) (oi := ?_) (v := ?_) ?_ (by kernel_rfl) (by kernel_rfl) (by kernel_rfl) ?_ ?_ (by assumption) ?_
  rotate_left
  rotate_left
  · (simp only [List.getElem?_toArray, List.getElem?_cons_succ, List.getElem?_cons_zero]; rfl)
  · exact fun _ _ _ h => h
  · refine Or.inl ⟨by rfl, ?_⟩; (intro w hSw; (try dsimp only at hSw); go_simp; first | done | with_reducible rfl)
  (try simp only [Act.put, List.setIfInBounds_toArray, List.set_cons_zero, List.set_cons_succ])
  refine wpAnyH_take (i := 17) (oi := ?_) (v := ?_) ?_ (by kernel_rfl) (by kernel_rfl) (by kernel_rfl) ?_ ?_ (by assumption) ?_
  rotate_left
  rotate_left
  · (simp only [List.getElem?_toArray, List.getElem?_cons_succ, List.getElem?_cons_zero]; rfl)
  · exact fun _ _ _ h => h
  · refine Or.inl ⟨by rfl, ?_⟩; (intro w hSw; (try dsimp only at hSw); go_simp; first | done | with_reducible rfl)
  (try simp only [Act.put, List.setIfInBounds_toArray, List.set_cons_zero, List.set_cons_succ])
  refine wpAnyH_take (i := 18) (oi := ?_) (v := ?_) ?_ (by kernel_rfl) (by kernel_rfl) (by kernel_rfl) ?_ ?_ (by assumption) ?_
  rotate_left
  rotate_left
  · (simp only [List.getElem?_toArray, List.getElem?_cons_succ, List.getElem?_cons_zero]; rfl)
  · exact fun _ _ _ h => h
  · refine Or.inl ⟨by rfl, ?_⟩; (intro w hSw; (try dsimp only at hSw); go_simp; first | done | with_reducible rfl)
  (try simp only [Act.put, List.setIfInBounds_toArray, List.set_cons_zero, List.set_cons_succ])
  refine wpAnyH_take (i := 19) (oi := ?_) (v := ?_) ?_ (by kernel_rfl) (by kernel_rfl) (by kernel_rfl) ?_ ?_ (by assumption) ?_
  rotate_left
  rotate_left
  · (simp only [List.getElem?_toArray, List.getElem?_cons_succ, List.getElem?_cons_zero]; rfl)
  · exact fun _ _ _ h => h
  · refine Or.inl ⟨by rfl, ?_⟩; (intro w hSw; (try dsimp only at hSw); go_simp; first | done | with_reducible rfl)
  (try simp only [Act.put, List.setIfInBounds_toArray, List.set_cons_zero, List.set_cons_succ])
  refine wpAnyH_take (i := 20) (oi := ?_) (v := ?_) ?_ (by kernel_rfl) (by kernel_rfl) (by kernel_rfl) ?_ ?_ (by assumption) ?_
  rotate_left
  rotate_left
  · (simp only [List.getElem?_toArray, List.getElem?_cons_succ, List.getElem?_cons_zero]; rfl)
  · exact fun _ _ _ h => h
  · refine Or.inl ⟨by rfl, ?_⟩; (intro w hSw; (try dsimp only at hSw); go_simp; first | done | with_reducible rfl)
  (try simp only [Act.put, List.setIfInBounds_toArray, List.set_cons_zero, List.set_cons_succ])
  refine wpAnyH_take (i := 21) (oi := ?_) (v := ?_) ?_ (by kernel_rfl) (by kernel_rfl) (by kernel_rfl) ?_ ?_ (by assumption) ?_
  rotate_left
  rotate_left
  · (simp only [List.getElem?_toArray, List.getElem?_cons_succ, List.getElem?_cons_zero]; rfl)
  · exact fun _ _ _ h => h
  · refine Or.inl ⟨by rfl, ?_⟩; (intro w hSw; (try dsimp only at hSw); go_simp; first | done | with_reducible rfl)
  (try simp only [Act.put, List.setIfInBounds_toArray, List.set_cons_zero, List.set_cons_succ])
  refine wpAnyH_take (i := 22) (oi := ?_) (v := ?_) ?_ (by kernel_rfl) (by kernel_rfl) (by kernel_rfl) ?_ ?_ (by assumption) ?_
  rotate_left
  rotate_left
  · (simp only [List.getElem?_toArray, List.getElem?_cons_succ, List.getElem?_cons_zero]; rfl)
  · exact fun _ _ _ h => h
  · refine Or.inl ⟨by rfl, ?_⟩; (intro w hSw; (try dsimp only at hSw); go_simp; first | done | with_reducible rfl)
  (try simp only [Act.put, List.setIfInBounds_toArray, List.set_cons_zero, List.set_cons_succ])
  refine wpAnyH_take (i := 23) (oi := ?_) (v := ?_) ?_ (by kernel_rfl) (by kernel_rfl) (by kernel_rfl) ?_ ?_ (by assumption) ?_
  rotate_left
  rotate_left
  · (simp only [List.getElem?_toArray, List.getElem?_cons_succ, List.getElem?_cons_zero]; rfl)
  · exact fun _ _ _ h => h
  · refine Or.inl ⟨by rfl, ?_⟩; (intro w hSw; (try dsimp only at hSw); go_simp; first | done | with_reducible rfl)
  (try simp only [Act.put, List.setIfInBounds_toArray, List.set_cons_zero, List.set_cons_succ])
  refine wpAnyH_ready (rs := [24]) (by kernel_rfl) (by simp) ?_
  refine AllReadyH.cons (o := ?_) ?_ (fun K hK => ?_) AllReadyH.nil
  rotate_left
  · (simp only [List.getElem?_toArray, List.getElem?_cons_succ, List.getElem?_cons_zero]; rfl)
  go_simp
  go_at_call 18; refine (lwTexts_same _ _ (Jn.rdT (Ik.crash MZ [])) _ (VvC.out _ hH.1.out) (HCT.out ▸ (VvA.out _ hH.1.out).take Cn (by rw [← HAN.out]; exact h4)) (by have h := HCN.out; have h' := HAN.out; have := HLT.out; omega)).mono ?_; rintro e wb ⟨rfl, bn⟩; have BN := Lw.belNext bn hH; have SN2 := HK.out _ BN; clear bn BN
  (try go_wp2_with fail)
  refine hK.out _ _ ?_ (fun hH2 => ?_)
  · (try dsimp only); exact SN2
  clear hK K hH
  have hH := hH2
  clear hH2
  (try simp only [Act.put, List.setIfInBounds_toArray, List.set_cons_zero, List.set_cons_succ])
  refine wpAnyH_take (i := 25) (oi := ?_) (v := ?_) ?_ (by kernel_rfl) (by kernel_rfl) (by kernel_rfl) ?_ ?_ (by assumption) ?_
  rotate_left
  rotate_left
  · (simp only [List.getElem?_toArray, List.getElem?_cons_succ, List.getElem?_cons_zero]; rfl)
  · exact fun _ _ _ h => h
  · refine Or.inl ⟨by rfl, ?_⟩; (intro w hSw; (try dsimp only at hSw); go_simp; first | done | with_reducible rfl)
  (try simp only [Act.put, List.setIfInBounds_toArray, List.set_cons_zero, List.set_cons_succ])
  refine wpAnyH_take (i := 26) (oi := ?_) (v := ?_) ?_ (by kernel_rfl) (by kernel_rfl) (by kernel_rfl) ?_ ?_ (by assumption) ?_
  rotate_left
  rotate_left
  · (simp only [List.getElem?_toArray, List.getElem?_cons_succ, List.getElem?_cons_zero]; rfl)
  · exact fun _ _ _ h => h
  · refine Or.inl ⟨by rfl, ?_⟩; (intro w hSw; (try dsimp only at hSw); go_simp; first | done | with_reducible rfl)
  (try simp only [Act.put, List.setIfInBounds_toArray, List.set_cons_zero, List.set_cons_succ])
  refine wpAnyH_take (i := 27) (oi := ?_) (v := ?_) ?_ (by kernel_rfl) (by kernel_rfl) (by kernel_rfl) ?_ ?_ (by assumption) ?_
  rotate_left
  rotate_left
  · (simp only [List.getElem?_toArray, List.getElem?_cons_succ, List.getElem?_cons_zero]; rfl)
  · exact fun _ _ _ h => h
  · refine Or.inl ⟨by rfl, ?_⟩; (intro w hSw; (try dsimp only at hSw); go_simp; first | done | with_reducible rfl)
  (try simp only [Act.put, List.setIfInBounds_toArray, List.set_cons_zero, List.set_cons_succ])
  refine wpAnyH_take (i := 28) (oi := ?_) (v := ?_) ?_ (by kernel_rfl) (by kernel_rfl) (by kernel_rfl) ?_ ?_ (by assumption) ?_
  rotate_left
  rotate_left
  · (simp only [List.getElem?_toArray, List.getElem?_cons_succ, List.getElem?_cons_zero]; rfl)
  · exact fun _ _ _ h => h
  · refine Or.inl ⟨by rfl, ?_⟩; (intro w hSw; (try dsimp only at hSw); go_simp; first | done | with_reducible rfl)
  (try simp only [Act.put, List.setIfInBounds_toArray, List.set_cons_zero, List.set_cons_succ])
  refine wpAnyH_take (i := 29) (oi := ?_) (v := ?_) ?_ (by kernel_rfl) (by kernel_rfl) (by kernel_rfl) ?_ ?_ (by assumption) ?_
  rotate_left
  rotate_left
  · (simp only [List.getElem?_toArray, List.getElem?_cons_succ, List.getElem?_cons_zero]; rfl)
  · exact fun _ _ _ h => h
  · refine Or.inl ⟨by rfl, ?_⟩; (intro w hSw; (try dsimp only at hSw); go_simp; first | done | with_reducible rfl)
  (try simp only [Act.put, List.setIfInBounds_toArray, List.set_cons_zero, List.set_cons_succ])
  refine wpAnyH_take (i := 30) (oi := ?_) (v := ?_) ?_ (by kernel_rfl) (by kernel_rfl) (by kernel_rfl) ?_ ?_ (by assumption) ?_
  rotate_left
  rotate_left
  · (simp only [List.getElem?_toArray, List.getElem?_cons_succ, List.getElem?_cons_zero]; rfl)
  · exact fun _ _ _ h => h
  · refine Or.inl ⟨by rfl, ?_⟩; (intro w hSw; (try dsimp only at hSw); go_simp; first | done | with_reducible rfl)
  (try simp only [Act.put, List.setIfInBounds_toArray, List.set_cons_zero, List.set_cons_succ])
  refine wpAnyH_take (i := 31) (oi := ?_) (v := ?_) ?_ (by kernel_rfl) (by kernel_rfl) (by kernel_rfl) ?_ ?_ (by assumption) ?_
  rotate_left
  rotate_left
  · (simp only [List.getElem?_toArray, List.getElem?_cons_succ, List.getElem?_cons_zero]; rfl)
  · exact fun _ _ _ h => h
  · refine Or.inl ⟨by rfl, ?_⟩; (intro w hSw; (try dsimp only at hSw); go_simp; first | done | with_reducible rfl)
  (try simp only [Act.put, List.setIfInBounds_toArray, List.set_cons_zero, List.set_cons_succ])
  refine wpAnyH_take (i := 32) (oi := ?_) (v := ?_) ?_ (by kernel_rfl) (by kernel_rfl) (by kernel_rfl) ?_ ?_ (by assumption) ?_
  rotate_left
  rotate_left
  · (simp only [List.getElem?_toArray, List.getElem?_cons_succ, List.getElem?_cons_zero]; rfl)
  · exact fun _ _ _ h => h
  · refine Or.inl ⟨by rfl, ?_⟩; (intro w hSw; (try dsimp only at hSw); go_simp; first | done | with_reducible rfl)
  (try simp only [Act.put, List.setIfInBounds_toArray, List.set_cons_zero, List.set_cons_succ])
  refine wpAnyH_take (i := 33) (oi := ?_) (v := ?_) ?_ (by kernel_rfl) (by kernel_rfl) (by kernel_rfl) ?_ ?_ (by assumption) ?_
  rotate_left
  rotate_left
  · (simp only [List.getElem?_toArray, List.getElem?_cons_succ, List.getElem?_cons_zero]; rfl)
  · exact fun _ _ _ h => h
  · refine Or.inl ⟨by rfl, ?_⟩; (intro w hSw; (try dsimp only at hSw); go_simp; first | done | with_reducible rfl)
  (try simp only [Act.put, List.setIfInBounds_toArray, List.set_cons_zero, List.set_cons_succ])
  cases sy with
  | true =>
    have c0 : Cn = An := by have := HSY.out rfl; have h' := HAN.out; have h2 := HTN.out; simp at h'; omega
    have c1 : ((Cn : Int) == (An : Int)) = true := by simp [c0]
    have c2 : decide ((Cn : Int) = (An : Int)) = true := by simp [c0]
    refine wpAnyH_take (i := 34) (oi := ?_) (v := ?_) ?_ (by kernel_rfl) (by kernel_rfl) (by kernel_rfl) ?_ ?_ (by assumption) ?_
    rotate_left
    rotate_left
    · (simp only [List.getElem?_toArray, List.getElem?_cons_succ, List.getElem?_cons_zero]; rfl)
    · exact fun _ _ _ h => h
    · refine Or.inl ⟨by rfl, ?_⟩; (intro w hSw; (try dsimp only at hSw); go_simp; first | done | with_reducible rfl)
    (try simp only [Act.put, List.setIfInBounds_toArray, List.set_cons_zero, List.set_cons_succ])
    refine wpAnyH_take (i := 35) (oi := ?_) (v := ?_) ?_ (by kernel_rfl) (by kernel_rfl) (by kernel_rfl) ?_ ?_ (by assumption) ?_
    rotate_left
    rotate_left
    · (simp only [List.getElem?_toArray, List.getElem?_cons_succ, List.getElem?_cons_zero]; rfl)
    · exact fun _ _ _ h => h
    · refine Or.inl ⟨by rfl, ?_⟩; (intro w hSw; (try dsimp only at hSw); go_simp; first | done | with_reducible rfl)
    (try simp only [Act.put, List.setIfInBounds_toArray, List.set_cons_zero, List.set_cons_succ])
    refine wpAnyH_take (i := 36) (oi := ?_) (v := ?_) ?_ (by kernel_rfl) (by kernel_rfl) (by kernel_rfl) ?_ ?_ (by assumption) ?_
    rotate_left
    rotate_left
    · (simp only [List.getElem?_toArray, List.getElem?_cons_succ, List.getElem?_cons_zero]; rfl)
    · exact fun _ _ _ h => h
    · refine Or.inl ⟨by rfl, ?_⟩; (intro w hSw; (try dsimp only at hSw); go_simp; first | done | with_reducible rfl)
    (try simp only [Act.put, List.setIfInBounds_toArray, List.set_cons_zero, List.set_cons_succ])
    refine wpAnyH_take (i := 37) (oi := ?_) (v := ?_) ?_ (by kernel_rfl) (by kernel_rfl) (by kernel_rfl) ?_ ?_ (by assumption) ?_
    rotate_left
    rotate_left
    · (simp only [List.getElem?_toArray, List.getElem?_cons_succ, List.getElem?_cons_zero]; rfl)
    · exact fun _ _ _ h => h
    · refine Or.inl ⟨by rfl, ?_⟩; (intro w hSw; (try dsimp only at hSw); go_simp; first | done | with_reducible rfl)
    (try simp only [Act.put, List.setIfInBounds_toArray, List.set_cons_zero, List.set_cons_succ])
    refine wpAnyH_take (i := 38) (oi := ?_) (v := ?_) ?_ (by kernel_rfl) (by kernel_rfl) (by kernel_rfl) ?_ ?_ (by assumption) ?_
    rotate_left
    rotate_left
    · (simp only [List.getElem?_toArray, List.getElem?_cons_succ, List.getElem?_cons_zero]; rfl)
    · exact fun _ _ _ h => h
    · refine Or.inl ⟨by rfl, ?_⟩; (intro w hSw; (try dsimp only at hSw); go_simp; first | done | with_reducible rfl)
    (try simp only [Act.put, List.setIfInBounds_toArray, List.set_cons_zero, List.set_cons_succ])
    refine wpAnyH_take (i := 39) (oi := ?_) (v := ?_) ?_ (by kernel_rfl) (by kernel_rfl) (by kernel_rfl) ?_ ?_ (by assumption) ?_
    rotate_left
    rotate_left
    · (simp only [List.getElem?_toArray, List.getElem?_cons_succ, List.getElem?_cons_zero]; rfl)
    · exact fun _ _ _ h => h
    · refine Or.inl ⟨by rfl, ?_⟩; (intro w hSw; (try dsimp only at hSw); go_simp; first | done | with_reducible rfl)
    (try simp only [Act.put, List.setIfInBounds_toArray, List.set_cons_zero, List.set_cons_succ])
    refine wpAnyH_take (i := 40) (oi := ?_) (v := ?_) ?_ (by kernel_rfl) (by kernel_rfl) (by kernel_rfl) ?_ ?_ (by assumption) ?_
    rotate_left
    rotate_left
    · (simp only [List.getElem?_toArray, List.getElem?_cons_succ, List.getElem?_cons_zero]; rfl)
    · exact fun _ _ _ h => h
    · refine Or.inl ⟨by rfl, ?_⟩; (intro w hSw; (try dsimp only at hSw); go_simp; first | done | with_reducible rfl)
    (try simp only [Act.put, List.setIfInBounds_toArray, List.set_cons_zero, List.set_cons_succ])
    refine wpAnyH_take (i := 41) (oi := ?_) (v := ?_) ?_ (by kernel_rfl) (by kernel_rfl) (by kernel_rfl) ?_ ?_ (by assumption) ?_
    rotate_left
    rotate_left
    · (simp only [List.getElem?_toArray, List.getElem?_cons_succ, List.getElem?_cons_zero]; rfl)
    · exact fun _ _ _ h => h
    · refine Or.inl ⟨by rfl, ?_⟩; (intro w hSw; (try dsimp only at hSw); go_simp; first | done | with_reducible rfl)
    (try simp only [Act.put, List.setIfInBounds_toArray, List.set_cons_zero, List.set_cons_succ])
    refine wpAnyH_take (i := 42) (oi := ?_) (v := ?_) ?_ (by kernel_rfl) (by kernel_rfl) (by kernel_rfl) ?_ ?_ (by assumption) ?_
    rotate_left
    rotate_left
    · (simp only [List.getElem?_toArray, List.getElem?_cons_succ, List.getElem?_cons_zero]; rfl)
    · exact fun _ _ _ h => h
    · refine Or.inl ⟨by rfl, ?_⟩; (intro w hSw; (try dsimp only at hSw); go_simp; first | done | with_reducible rfl)
    (try simp only [Act.put, List.setIfInBounds_toArray, List.set_cons_zero, List.set_cons_succ])
    refine wpAnyH_take (i := 43) (oi := ?_) (v := ?_) ?_ (by kernel_rfl) (by kernel_rfl) (by kernel_rfl) ?_ ?_ (by assumption) ?_
    rotate_left
    rotate_left
    · (simp only [List.getElem?_toArray, List.getElem?_cons_succ, List.getElem?_cons_zero]; rfl)
    · exact fun _ _ _ h => h
    · refine Or.inl ⟨by rfl, ?_⟩; (intro w hSw; (try dsimp only at hSw); go_simp; first | done | with_reducible rfl)
    (try simp only [Act.put, List.setIfInBounds_toArray, List.set_cons_zero, List.set_cons_succ])
    refine wpAnyH_take (i := 44) (oi := ?_) (v := ?_) ?_ (by kernel_rfl) (by kernel_rfl) (by kernel_rfl) ?_ ?_ (by assumption) ?_
    rotate_left
    rotate_left
    · (simp only [List.getElem?_toArray, List.getElem?_cons_succ, List.getElem?_cons_zero]; rfl)
    · exact fun _ _ _ h => h
    · refine Or.inl ⟨by rfl, ?_⟩; (intro w hSw; (try dsimp only at hSw); go_simp; first | done | with_reducible rfl)
    (try simp only [Act.put, List.setIfInBounds_toArray, List.set_cons_zero, List.set_cons_succ])
    refine wpAnyH_take (i := 45) (oi := ?_) (v := ?_) ?_ (by kernel_rfl) (by kernel_rfl) (by kernel_rfl) ?_ ?_ (by assumption) ?_
    rotate_left
    rotate_left
    · (simp only [List.getElem?_toArray, List.getElem?_cons_succ, List.getElem?_cons_zero]; rfl)
    · exact fun _ _ _ h => h
    · refine Or.inl ⟨by rfl, ?_⟩; (intro w hSw; (try dsimp only at hSw); go_simp; first | done | with_reducible rfl)
    (try simp only [Act.put, List.setIfInBounds_toArray, List.set_cons_zero, List.set_cons_succ])
    refine wpAnyH_take (i := 46) (oi := ?_) (v := ?_) ?_ (by kernel_rfl) (by kernel_rfl) (by kernel_rfl) ?_ ?_ (by assumption) ?_
    rotate_left
    rotate_left
    · (simp only [List.getElem?_toArray, List.getElem?_cons_succ, List.getElem?_cons_zero]; rfl)
    · exact fun _ _ _ h => h
    · refine Or.inl ⟨by rfl, ?_⟩; (intro w hSw; (try dsimp only at hSw); go_simp; first | done | with_reducible rfl)
    (try simp only [Act.put, List.setIfInBounds_toArray, List.set_cons_zero, List.set_cons_succ])
    refine wpAnyH_ready (rs := [47]) (by kernel_rfl) (by simp) ?_
    refine AllReadyH.cons (o := ?_) ?_ (fun K hK => ?_) AllReadyH.nil
    rotate_left
    · (simp only [List.getElem?_toArray, List.getElem?_cons_succ, List.getElem?_cons_zero]; rfl)
    go_simp
    go_at_call 13; refine (journalDrop_impl (.slice Za Zn Zc) MZ b0 b1 b2 b3 b4 _ (Fk.view_of_owns (VoZ2.out _ hH.1.out)) HTZ.out.1 (by have := HTZ.out.2; unfold maxLen; omega) (HE13.out _ hH.1.out)).mono ?_; rintro e wc ⟨⟨v, MD2, cD2, rfl, ho, ha⟩, bn⟩; obtain ⟨Ga, Gn, Gc, rfl⟩ := ho.slice'; have HGT := Fk.hide (Fk.ans_fits (Jn.drop_any ha)); have HGN : Hid (Jn.rdT MD2 = []) := Jn.drop_texts HZR.out ha; have HGV := Fk.hide (Fk.view_of_owns ho); clear ho ha; have BN := Lw.belNext bn hH; have SN3 := HK.out _ BN; clear bn BN
    (try go_wp2_with fail)
    refine hK.out _ _ ?_ (fun hH2 => ?_)
    · (try dsimp only); exact SN3
    clear hK K hH
    have hH := hH2
    clear hH2
    (try simp only [Act.put, List.setIfInBounds_toArray, List.set_cons_zero, List.set_cons_succ])
    refine wpAnyH_take (i := 48) (oi := ?_) (v := ?_) ?_ (by kernel_rfl) (by kernel_rfl) (by kernel_rfl) ?_ ?_ (by assumption) ?_
    rotate_left
    rotate_left
    · (simp only [List.getElem?_toArray, List.getElem?_cons_succ, List.getElem?_cons_zero]; rfl)
    · exact fun _ _ _ h => h
    · refine Or.inl ⟨by rfl, ?_⟩; (intro w hSw; (try dsimp only at hSw); go_simp; first | done | with_reducible rfl)
    (try simp only [Act.put, List.setIfInBounds_toArray, List.set_cons_zero, List.set_cons_succ])
    refine wpAnyH_ready (rs := [49]) (by kernel_rfl) (by simp) ?_
    refine AllReadyH.cons (o := ?_) ?_ (fun K hK => ?_) AllReadyH.nil
    rotate_left
    · (simp only [List.getElem?_toArray, List.getElem?_cons_succ, List.getElem?_cons_zero]; rfl)
    go_simp
    go_at_call 16; refine (journalRead_impl (.slice Ga Gn Gc) MD2 b0 b1 b2 b3 b4 _ HGV.out HGT.out.1 (by have := HGT.out.2; unfold maxLen; omega) (HE13.out _ hH.1.out)).mono ?_; rintro e wd ⟨⟨v, rfl, ho⟩, bn⟩; rw [HGN.out] at ho; obtain ⟨Ja, Jc, rfl⟩ := ho.slice; clear ho; have BN := Lw.belNext bn hH; have SN4 := HK.out _ BN; clear bn BN
    (try go_wp2_with fail)
    refine hK.out _ _ ?_ (fun hH2 => ?_)
    · (try dsimp only); exact SN4
    clear hK K hH
    have hH := hH2
    clear hH2
    (try simp only [Act.put, List.setIfInBounds_toArray, List.set_cons_zero, List.set_cons_succ])
    refine wpAnyH_take (i := 50) (oi := ?_) (v := ?_) ?_ (by kernel_rfl) (by kernel_rfl) (by kernel_rfl) ?_ ?_ (by assumption) ?_
    rotate_left
    rotate_left
    · (simp only [List.getElem?_toArray, List.getElem?_cons_succ, List.getElem?_cons_zero]; rfl)
    · exact fun _ _ _ h => h
    · refine Or.inl ⟨by rfl, ?_⟩; (intro w hSw; (try dsimp only at hSw); go_simp; first | done | with_reducible rfl)
    (try simp only [Act.put, List.setIfInBounds_toArray, List.set_cons_zero, List.set_cons_succ])
    refine wpAnyH_take (i := 51) (oi := ?_) (v := ?_) ?_ (by kernel_rfl) (by kernel_rfl) (by kernel_rfl) ?_ ?_ (by assumption) ?_
    rotate_left
    rotate_left
    · (simp only [List.getElem?_toArray, List.getElem?_cons_succ, List.getElem?_cons_zero]; rfl)
    · exact fun _ _ _ h => h
    · refine Or.inl ⟨by rfl, ?_⟩; (intro w hSw; (try dsimp only at hSw); go_simp; first | done | with_reducible rfl)
    (try simp only [Act.put, List.setIfInBounds_toArray, List.set_cons_zero, List.set_cons_succ])
    refine wpAnyH_take (i := 52) (oi := ?_) (v := ?_) ?_ (by kernel_rfl) (by kernel_rfl) (by kernel_rfl) ?_ ?_ (by assumption) ?_
    rotate_left
    rotate_left
    · (simp only [List.getElem?_toArray, List.getElem?_cons_succ, List.getElem?_cons_zero]; rfl)
    · exact fun _ _ _ h => h
    · refine Or.inl ⟨by rfl, ?_⟩; (intro w hSw; (try dsimp only at hSw); go_simp; first | done | with_reducible rfl)
    (try simp only [Act.put, List.setIfInBounds_toArray, List.set_cons_zero, List.set_cons_succ])
    refine wpAnyH_take (i := 53) (oi := ?_) (v := ?_) ?_ (by kernel_rfl) (by kernel_rfl) (by kernel_rfl) ?_ ?_ (by assumption) ?_
    rotate_left
    rotate_left
    · (simp only [List.getElem?_toArray, List.getElem?_cons_succ, List.getElem?_cons_zero]; rfl)
    · exact fun _ _ _ h => h
    · refine Or.inl ⟨by rfl, ?_⟩; (intro w hSw; (try dsimp only at hSw); go_simp; first | done | with_reducible rfl)
    (try simp only [Act.put, List.setIfInBounds_toArray, List.set_cons_zero, List.set_cons_succ])
    refine wpAnyH_take (i := 54) (oi := ?_) (v := ?_) ?_ (by kernel_rfl) (by kernel_rfl) (by kernel_rfl) ?_ ?_ (by assumption) ?_
    rotate_left
    rotate_left
    · (simp only [List.getElem?_toArray, List.getElem?_cons_succ, List.getElem?_cons_zero]; rfl)
    · exact fun _ _ _ h => h
    · refine Or.inl ⟨by rfl, ?_⟩; (intro w hSw; (try dsimp only at hSw); go_simp; first | done | with_reducible rfl)
    (try simp only [Act.put, List.setIfInBounds_toArray, List.set_cons_zero, List.set_cons_succ])
    refine wpAnyH_done (by kernel_rfl) ?_ _
    have BL := Lw.bel_trans HB13.out hH.1.out
    clear hH
    go_wp2_with fail
    go_ret
    exact ⟨rfl, BL⟩
  | false =>
    refine wpAnyH_take (i := 34) (oi := ?_) (v := ?_) ?_ (by kernel_rfl) (by kernel_rfl) (by kernel_rfl) ?_ ?_ (by assumption) ?_
    rotate_left
    rotate_left
    · (simp only [List.getElem?_toArray, List.getElem?_cons_succ, List.getElem?_cons_zero]; rfl)
    · exact fun _ _ _ h => h
    · refine Or.inl ⟨by rfl, ?_⟩; (intro w hSw; (try dsimp only at hSw); go_simp; first | done | with_reducible rfl)
    (try simp only [Act.put, List.setIfInBounds_toArray, List.set_cons_zero, List.set_cons_succ])
    refine wpAnyH_take (i := 35) (oi := ?_) (v := ?_) ?_ (by kernel_rfl) (by kernel_rfl) (by kernel_rfl) ?_ ?_ (by assumption) ?_
    rotate_left
    rotate_left
    · (simp only [List.getElem?_toArray, List.getElem?_cons_succ, List.getElem?_cons_zero]; rfl)
    · exact fun _ _ _ h => h
    · refine Or.inl ⟨by rfl, ?_⟩; (intro w hSw; (try dsimp only at hSw); go_simp; first | done | with_reducible rfl)
    (try simp only [Act.put, List.setIfInBounds_toArray, List.set_cons_zero, List.set_cons_succ])
    refine wpAnyH_take (i := 36) (oi := ?_) (v := ?_) ?_ (by kernel_rfl) (by kernel_rfl) (by kernel_rfl) ?_ ?_ (by assumption) ?_
    rotate_left
    rotate_left
    · (simp only [List.getElem?_toArray, List.getElem?_cons_succ, List.getElem?_cons_zero]; rfl)
    · exact fun _ _ _ h => h
    · refine Or.inl ⟨by rfl, ?_⟩; (intro w hSw; (try dsimp only at hSw); go_simp; first | done | with_reducible rfl)
    (try simp only [Act.put, List.setIfInBounds_toArray, List.set_cons_zero, List.set_cons_succ])
    refine wpAnyH_take (i := 37) (oi := ?_) (v := undef) ?_ (by kernel_rfl) (by kernel_rfl) (by kernel_rfl) ?_ ?_ (by assumption) ?_
    rotate_left
    · (simp only [List.getElem?_toArray, List.getElem?_cons_succ, List.getElem?_cons_zero]; rfl)
    · exact fun _ _ _ h => h
    · exact Or.inr ⟨by rfl, rfl⟩
    (try simp only [Act.put, List.setIfInBounds_toArray, List.set_cons_zero, List.set_cons_succ])
    refine wpAnyH_take (i := 38) (oi := ?_) (v := undef) ?_ (by kernel_rfl) (by kernel_rfl) (by kernel_rfl) ?_ ?_ (by assumption) ?_
    rotate_left
    · (simp only [List.getElem?_toArray, List.getElem?_cons_succ, List.getElem?_cons_zero]; rfl)
    · exact fun _ _ _ h => h
    · exact Or.inr ⟨by rfl, rfl⟩
    (try simp only [Act.put, List.setIfInBounds_toArray, List.set_cons_zero, List.set_cons_succ])
    refine wpAnyH_take (i := 39) (oi := ?_) (v := undef) ?_ (by kernel_rfl) (by kernel_rfl) (by kernel_rfl) ?_ ?_ (by assumption) ?_
    rotate_left
    · (simp only [List.getElem?_toArray, List.getElem?_cons_succ, List.getElem?_cons_zero]; rfl)
    · exact fun _ _ _ h => h
    · exact Or.inr ⟨by rfl, rfl⟩
    (try simp only [Act.put, List.setIfInBounds_toArray, List.set_cons_zero, List.set_cons_succ])
    refine wpAnyH_take (i := 40) (oi := ?_) (v := undef) ?_ (by kernel_rfl) (by kernel_rfl) (by kernel_rfl) ?_ ?_ (by assumption) ?_
    rotate_left
    · (simp only [List.getElem?_toArray, List.getElem?_cons_succ, List.getElem?_cons_zero]; rfl)
    · exact fun _ _ _ h => h
    · exact Or.inr ⟨by rfl, rfl⟩
    (try simp only [Act.put, List.setIfInBounds_toArray, List.set_cons_zero, List.set_cons_succ])
    refine wpAnyH_take (i := 41) (oi := ?_) (v := undef) ?_ (by kernel_rfl) (by kernel_rfl) (by kernel_rfl) ?_ ?_ (by assumption) ?_
    rotate_left
    · (simp only [List.getElem?_toArray, List.getElem?_cons_succ, List.getElem?_cons_zero]; rfl)
    · exact fun _ _ _ h => h
    · exact Or.inr ⟨by rfl, rfl⟩
    (try simp only [Act.put, List.setIfInBounds_toArray, List.set_cons_zero, List.set_cons_succ])
    refine wpAnyH_take (i := 42) (oi := ?_) (v := ?_) ?_ (by kernel_rfl) (by kernel_rfl) (by kernel_rfl) ?_ ?_ (by assumption) ?_
    rotate_left
    rotate_left
    · (simp only [List.getElem?_toArray, List.getElem?_cons_succ, List.getElem?_cons_zero]; rfl)
    · exact fun _ _ _ h => h
    · refine Or.inl ⟨by rfl, ?_⟩; (intro w hSw; (try dsimp only at hSw); go_simp; first | done | with_reducible rfl)
    (try simp only [Act.put, List.setIfInBounds_toArray, List.set_cons_zero, List.set_cons_succ])
    refine wpAnyH_take (i := 43) (oi := ?_) (v := ?_) ?_ (by kernel_rfl) (by kernel_rfl) (by kernel_rfl) ?_ ?_ (by assumption) ?_
    rotate_left
    rotate_left
    · (simp only [List.getElem?_toArray, List.getElem?_cons_succ, List.getElem?_cons_zero]; rfl)
    · exact fun _ _ _ h => h
    · refine Or.inl ⟨by rfl, ?_⟩; (intro w hSw; (try dsimp only at hSw); go_simp; first | done | with_reducible rfl)
    (try simp only [Act.put, List.setIfInBounds_toArray, List.set_cons_zero, List.set_cons_succ])
    refine wpAnyH_take (i := 44) (oi := ?_) (v := ?_) ?_ (by kernel_rfl) (by kernel_rfl) (by kernel_rfl) ?_ ?_ (by assumption) ?_
    rotate_left
    rotate_left
    · (simp only [List.getElem?_toArray, List.getElem?_cons_succ, List.getElem?_cons_zero]; rfl)
    · exact fun _ _ _ h => h
    · refine Or.inl ⟨by rfl, ?_⟩; (intro w hSw; (try dsimp only at hSw); go_simp; first | done | with_reducible rfl)
    (try simp only [Act.put, List.setIfInBounds_toArray, List.set_cons_zero, List.set_cons_succ])
    refine wpAnyH_take (i := 45) (oi := ?_) (v := ?_) ?_ (by kernel_rfl) (by kernel_rfl) (by kernel_rfl) ?_ ?_ (by assumption) ?_
    rotate_left
    rotate_left
    · (simp only [List.getElem?_toArray, List.getElem?_cons_succ, List.getElem?_cons_zero]; rfl)
    · exact fun _ _ _ h => h
    · refine Or.inl ⟨by rfl, ?_⟩; (intro w hSw; (try dsimp only at hSw); go_simp; first | done | with_reducible rfl)
    (try simp only [Act.put, List.setIfInBounds_toArray, List.set_cons_zero, List.set_cons_succ])
    refine wpAnyH_take (i := 46) (oi := ?_) (v := ?_) ?_ (by kernel_rfl) (by kernel_rfl) (by kernel_rfl) ?_ ?_ (by assumption) ?_
    rotate_left
    rotate_left
    · (simp only [List.getElem?_toArray, List.getElem?_cons_succ, List.getElem?_cons_zero]; rfl)
    · exact fun _ _ _ h => h
    · refine Or.inl ⟨by rfl, ?_⟩; (intro w hSw; (try dsimp only at hSw); go_simp; first | done | with_reducible rfl)
    (try simp only [Act.put, List.setIfInBounds_toArray, List.set_cons_zero, List.set_cons_succ])
    refine wpAnyH_ready (rs := [47]) (by kernel_rfl) (by simp) ?_
    refine AllReadyH.cons (o := ?_) ?_ (fun K hK => ?_) AllReadyH.nil
    rotate_left
    · (simp only [List.getElem?_toArray, List.getElem?_cons_succ, List.getElem?_cons_zero]; rfl)
    go_simp
    go_at_call 13; refine (journalDrop_impl (.slice Za Zn Zc) MZ b0 b1 b2 b3 b4 _ (Fk.view_of_owns (VoZ2.out _ hH.1.out)) HTZ.out.1 (by have := HTZ.out.2; unfold maxLen; omega) (HE13.out _ hH.1.out)).mono ?_; rintro e wc ⟨⟨v, MD2, cD2, rfl, ho, ha⟩, bn⟩; obtain ⟨Ga, Gn, Gc, rfl⟩ := ho.slice'; have HGT := Fk.hide (Fk.ans_fits (Jn.drop_any ha)); have HGN : Hid (Jn.rdT MD2 = []) := Jn.drop_texts HZR.out ha; have HGV := Fk.hide (Fk.view_of_owns ho); clear ho ha; have BN := Lw.belNext bn hH; have SN3 := HK.out _ BN; clear bn BN
    (try go_wp2_with fail)
    refine hK.out _ _ ?_ (fun hH2 => ?_)
    · (try dsimp only); exact SN3
    clear hK K hH
    have hH := hH2
    clear hH2
    (try simp only [Act.put, List.setIfInBounds_toArray, List.set_cons_zero, List.set_cons_succ])
    refine wpAnyH_take (i := 48) (oi := ?_) (v := ?_) ?_ (by kernel_rfl) (by kernel_rfl) (by kernel_rfl) ?_ ?_ (by assumption) ?_
    rotate_left
    rotate_left
    · (simp only [List.getElem?_toArray, List.getElem?_cons_succ, List.getElem?_cons_zero]; rfl)
    · exact fun _ _ _ h => h
    · refine Or.inl ⟨by rfl, ?_⟩; (intro w hSw; (try dsimp only at hSw); go_simp; first | done | with_reducible rfl)
    (try simp only [Act.put, List.setIfInBounds_toArray, List.set_cons_zero, List.set_cons_succ])
    refine wpAnyH_ready (rs := [49]) (by kernel_rfl) (by simp) ?_
    refine AllReadyH.cons (o := ?_) ?_ (fun K hK => ?_) AllReadyH.nil
    rotate_left
    · (simp only [List.getElem?_toArray, List.getElem?_cons_succ, List.getElem?_cons_zero]; rfl)
    go_simp
    go_at_call 16; refine (journalRead_impl (.slice Ga Gn Gc) MD2 b0 b1 b2 b3 b4 _ HGV.out HGT.out.1 (by have := HGT.out.2; unfold maxLen; omega) (HE13.out _ hH.1.out)).mono ?_; rintro e wd ⟨⟨v, rfl, ho⟩, bn⟩; rw [HGN.out] at ho; obtain ⟨Ja, Jc, rfl⟩ := ho.slice; clear ho; have BN := Lw.belNext bn hH; have SN4 := HK.out _ BN; clear bn BN
    (try go_wp2_with fail)
    refine hK.out _ _ ?_ (fun hH2 => ?_)
    · (try dsimp only); exact SN4
    clear hK K hH
    have hH := hH2
    clear hH2
    (try simp only [Act.put, List.setIfInBounds_toArray, List.set_cons_zero, List.set_cons_succ])
    refine wpAnyH_take (i := 50) (oi := ?_) (v := ?_) ?_ (by kernel_rfl) (by kernel_rfl) (by kernel_rfl) ?_ ?_ (by assumption) ?_
    rotate_left
    rotate_left
    · (simp only [List.getElem?_toArray, List.getElem?_cons_succ, List.getElem?_cons_zero]; rfl)
    · exact fun _ _ _ h => h
    · refine Or.inl ⟨by rfl, ?_⟩; (intro w hSw; (try dsimp only at hSw); go_simp; first | done | with_reducible rfl)
    (try simp only [Act.put, List.setIfInBounds_toArray, List.set_cons_zero, List.set_cons_succ])
    refine wpAnyH_take (i := 51) (oi := ?_) (v := ?_) ?_ (by kernel_rfl) (by kernel_rfl) (by kernel_rfl) ?_ ?_ (by assumption) ?_
    rotate_left
    rotate_left
    · (simp only [List.getElem?_toArray, List.getElem?_cons_succ, List.getElem?_cons_zero]; rfl)
    · exact fun _ _ _ h => h
    · refine Or.inl ⟨by rfl, ?_⟩; (intro w hSw; (try dsimp only at hSw); go_simp; first | done | with_reducible rfl)
    (try simp only [Act.put, List.setIfInBounds_toArray, List.set_cons_zero, List.set_cons_succ])
    refine wpAnyH_take (i := 52) (oi := ?_) (v := ?_) ?_ (by kernel_rfl) (by kernel_rfl) (by kernel_rfl) ?_ ?_ (by assumption) ?_
    rotate_left
    rotate_left
    · (simp only [List.getElem?_toArray, List.getElem?_cons_succ, List.getElem?_cons_zero]; rfl)
    · exact fun _ _ _ h => h
    · refine Or.inl ⟨by rfl, ?_⟩; (intro w hSw; (try dsimp only at hSw); go_simp; first | done | with_reducible rfl)
    (try simp only [Act.put, List.setIfInBounds_toArray, List.set_cons_zero, List.set_cons_succ])
    refine wpAnyH_take (i := 53) (oi := ?_) (v := ?_) ?_ (by kernel_rfl) (by kernel_rfl) (by kernel_rfl) ?_ ?_ (by assumption) ?_
    rotate_left
    rotate_left
    · (simp only [List.getElem?_toArray, List.getElem?_cons_succ, List.getElem?_cons_zero]; rfl)
    · exact fun _ _ _ h => h
    · refine Or.inl ⟨by rfl, ?_⟩; (intro w hSw; (try dsimp only at hSw); go_simp; first | done | with_reducible rfl)
    (try simp only [Act.put, List.setIfInBounds_toArray, List.set_cons_zero, List.set_cons_succ])
    refine wpAnyH_take (i := 54) (oi := ?_) (v := ?_) ?_ (by kernel_rfl) (by kernel_rfl) (by kernel_rfl) ?_ ?_ (by assumption) ?_
    rotate_left
    rotate_left
    · (simp only [List.getElem?_toArray, List.getElem?_cons_succ, List.getElem?_cons_zero]; rfl)
    · exact fun _ _ _ h => h
    · refine Or.inl ⟨by rfl, ?_⟩; (intro w hSw; (try dsimp only at hSw); go_simp; first | done | with_reducible rfl)
    (try simp only [Act.put, List.setIfInBounds_toArray, List.set_cons_zero, List.set_cons_succ])
    refine wpAnyH_done (by kernel_rfl) ?_ _
    have BL := Lw.bel_trans HB13.out hH.1.out
    clear hH
    go_wp2_with fail
    go_ret
    exact ⟨rfl, BL⟩
end Go.Proofs.YtojdfdlbdpdlkaaGreatDoor

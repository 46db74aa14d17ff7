/- The walk of the law of promise 3. -/
import Derived.Test.YtnoanlhbfgnipaaDoorByteOpen
import Derived.Test.YtnoanlhbfgnipaaDoorJoined2
import Derived.Test.YtnoanlhbfgnipaaDoorJoined3
import Derived.Test.YtnoanlhbfgnipaaDoorJoined4
import Derived.Test.YtnoanlhbfgnipaaDoorFsRenameWalks
import Derived.Test.YtnoanlhbfgnipaaDoorFsAppendWalks
import Derived.Test.YtnoanlhbfgnipaaDoorFsRemoveWalks
import Derived.Deep.RegionHeld3
namespace Go.Proofs.YtnoanlhbfgnipaaDoor
open Go.RowKit
set_option linter.unusedVariables false
set_option linter.unusedSimpArgs false
set_option maxRecDepth 20000 in
set_option maxHeartbeats 8000000 in
theorem fnFs_walk (a0 : Option Addr) (n0 c0 : Nat) (m0 : n0 ≤ maxLen) (a1 : Option Addr) (n1 c1 : Nat) (m1 : n1 ≤ maxLen) (w : World) (g0 : Dk.Bytes w.heap.size w a0 n0) (g1 : Dk.Bytes w.heap.size w a1 n1) (b0 b1 b2 b3 b4 : Addr) (hE : Is.Errs w b0 b1 b2 b3 b4) :
    Calls Tryd.prog 3 #[.slice a0 n0 c0, .slice a1 n1 c1] w fun e w' => e = .returned (.bool true) ∧ Below w.heap.size w w' := by
  unfold maxLen at m0 m1
  by_cases hb0 : (1048576 : Int) < (n0 : Int)
  · go_enter Tryd.func3, Tryd.ntmps3
    go_wp2_with fail
    go_ret
    exact ⟨rfl, Below.refl _ _⟩
  by_cases hb1 : (1048576 : Int) < (n1 : Int)
  · go_enter Tryd.func3, Tryd.ntmps3
    go_wp2_with fail
    go_ret
    exact ⟨rfl, Below.refl _ _⟩
  have HC0 : Hid ((Below w.heap.size w w) ∧ (Is.Errs w b0 b1 b2 b3 b4) ∧ (Dk.Bytes w.heap.size w a0 n0) ∧ (Dk.Bytes w.heap.size w a1 n1) ∧ True) := ⟨Below.refl _ _, hE, g0, g1, trivial⟩
  clear g0 g1 hE
  go_enter Tryd.func3, Tryd.ntmps3
  go_wp2_with fail
  refine (drawFsAppend_any w.heap.size a0 n0 c0 w (Nat.le_refl _) (by omega) HC0.out.2.2.1).mono ?_
  rintro e w1 ⟨⟨u, Lf, nf, tf, rfl, ho, hff, hlf, hnf, htf⟩, bl⟩
  obtain ⟨fa, fn, fc, rfl⟩ := ho.slice'
  have HFf := Fk.hide hff
  clear hff
  obtain ⟨q1, hq⟩ : ∃ q, q = w1.heap.size := ⟨_, rfl⟩
  have HC1 : Hid ((Below w.heap.size w (w1.alloc (.cells #[.slice fa fn fc] 25))) ∧ (Is.Errs (w1.alloc (.cells #[.slice fa fn fc] 25)) b0 b1 b2 b3 b4) ∧ (Dk.Bytes w.heap.size (w1.alloc (.cells #[.slice fa fn fc] 25)) a0 n0) ∧ (Dk.Bytes w.heap.size (w1.alloc (.cells #[.slice fa fn fc] 25)) a1 n1) ∧ ((w1.alloc (.cells #[.slice fa fn fc] 25)).cell? ⟨q1, 0, none⟩ = some (.slice fa fn fc)) ∧ (Fk.Own (w1.alloc (.cells #[.slice fa fn fc] 25)) 0 53 (.slice fa fn fc) Lf) ∧ True) := by
    have bb : Below w.heap.size w (w1.alloc (.cells #[.slice fa fn fc] 25)) := bl.alloc bl.size _
    have bt : Below w1.heap.size w1 (w1.alloc (.cells #[.slice fa fn fc] 25)) := (Below.refl _ _).alloc (Nat.le_refl _) _
    subst hq
    exact ⟨Lw.bel_trans (HC0.out.1) bb, Is.Errs.below (HC0.out.2.1) bb, Dk.Bytes.below (HC0.out.2.2.1) bb, Dk.Bytes.below (HC0.out.2.2.2.1) bb, (by rw [Fk.cellTop _ _ _ _ _ rfl]; rfl), Fk.Own.below (Fk.Own.mono ho (Nat.zero_le _)) bt, trivial⟩
  obtain ⟨W1, hW⟩ : ∃ W, W = (w1.alloc (.cells #[.slice fa fn fc] 25)) := ⟨_, rfl⟩
  have HW1 := Fk.hide hW
  have HQ1 := Fk.hide hq
  rw [← hW] at HC1
  clear hW hq bl ho HC0
  go_wp2_with fail
  rw [← HW1.out, ← HQ1.out]
  clear HW1 HQ1
  refine (fsAppend_impl _ Lf nf tf b0 b1 b2 b3 b4 W1 (Fk.view_of_owns HC1.out.2.2.2.2.2.1) HFf.out (by unfold maxLen; omega) (by unfold maxLen; omega) (by unfold maxLen; omega) HC1.out.2.1).mono ?_
  rintro e w2 ⟨⟨u, MX, cX, rfl, ho, ha⟩, bl⟩
  obtain ⟨Xa, Xn, Xc, rfl⟩ := ho.slice'
  have HAX := Fk.hide ha
  clear ha
  obtain ⟨q2, hq⟩ : ∃ q, q = w2.heap.size := ⟨_, rfl⟩
  have HC2 : Hid ((Below w.heap.size w (w2.alloc (.cells #[.slice Xa Xn Xc, .int .i64 cX] 29))) ∧ (Is.Errs (w2.alloc (.cells #[.slice Xa Xn Xc, .int .i64 cX] 29)) b0 b1 b2 b3 b4) ∧ (Dk.Bytes w.heap.size (w2.alloc (.cells #[.slice Xa Xn Xc, .int .i64 cX] 29)) a0 n0) ∧ (Dk.Bytes w.heap.size (w2.alloc (.cells #[.slice Xa Xn Xc, .int .i64 cX] 29)) a1 n1) ∧ ((w2.alloc (.cells #[.slice Xa Xn Xc, .int .i64 cX] 29)).cell? ⟨q1, 0, none⟩ = some (.slice fa fn fc)) ∧ (Fk.Own (w2.alloc (.cells #[.slice Xa Xn Xc, .int .i64 cX] 29)) 0 53 (.slice fa fn fc) Lf) ∧ ((w2.alloc (.cells #[.slice Xa Xn Xc, .int .i64 cX] 29)).cell? ⟨q2, 0, none⟩ = some (.slice Xa Xn Xc)) ∧ ((w2.alloc (.cells #[.slice Xa Xn Xc, .int .i64 cX] 29)).cell? ⟨q2, 1, none⟩ = some (.int .i64 cX)) ∧ (Fk.Own (w2.alloc (.cells #[.slice Xa Xn Xc, .int .i64 cX] 29)) 0 53 (.slice Xa Xn Xc) MX) ∧ True) := by
    have bb : Below W1.heap.size W1 (w2.alloc (.cells #[.slice Xa Xn Xc, .int .i64 cX] 29)) := bl.alloc bl.size _
    have bt : Below w2.heap.size w2 (w2.alloc (.cells #[.slice Xa Xn Xc, .int .i64 cX] 29)) := (Below.refl _ _).alloc (Nat.le_refl _) _
    subst hq
    exact ⟨Lw.bel_trans (HC1.out.1) bb, Is.Errs.below (HC1.out.2.1) bb, Dk.Bytes.below (HC1.out.2.2.1) bb, Dk.Bytes.below (HC1.out.2.2.2.1) bb, Lw.cell_below bb (HC1.out.2.2.2.2.1), Fk.Own.below (HC1.out.2.2.2.2.2.1) bb, (by rw [Fk.cellTop _ _ _ _ _ rfl]; rfl), (by rw [Fk.cellTop _ _ _ _ _ rfl]; rfl), Fk.Own.below (Fk.Own.mono ho (Nat.zero_le _)) bt, trivial⟩
  obtain ⟨W2, hW⟩ : ∃ W, W = (w2.alloc (.cells #[.slice Xa Xn Xc, .int .i64 cX] 29)) := ⟨_, rfl⟩
  have HW2 := Fk.hide hW
  have HQ2 := Fk.hide hq
  rw [← hW] at HC2
  clear hW hq bl ho HC1
  go_wp2_with fail
  rw [← HW2.out, ← HQ2.out]
  clear HW2 HQ2
  refine (drawFsRename_any w.heap.size a1 n1 c1 W2 (HC2.out.1).size (by omega) HC2.out.2.2.2.1).mono ?_
  rintro e w3 ⟨⟨u, Lg, ng, tg, rfl, ho, hfg, hlg, hng, htg⟩, bl⟩
  obtain ⟨ga, gn, gc, rfl⟩ := ho.slice'
  have HFg := Fk.hide hfg
  clear hfg
  obtain ⟨q3, hq⟩ : ∃ q, q = w3.heap.size := ⟨_, rfl⟩
  have HC3 : Hid ((Below w.heap.size w (w3.alloc (.cells #[.slice ga gn gc] 25))) ∧ (Is.Errs (w3.alloc (.cells #[.slice ga gn gc] 25)) b0 b1 b2 b3 b4) ∧ (Dk.Bytes w.heap.size (w3.alloc (.cells #[.slice ga gn gc] 25)) a0 n0) ∧ (Dk.Bytes w.heap.size (w3.alloc (.cells #[.slice ga gn gc] 25)) a1 n1) ∧ ((w3.alloc (.cells #[.slice ga gn gc] 25)).cell? ⟨q1, 0, none⟩ = some (.slice fa fn fc)) ∧ (Fk.Own (w3.alloc (.cells #[.slice ga gn gc] 25)) 0 53 (.slice fa fn fc) Lf) ∧ ((w3.alloc (.cells #[.slice ga gn gc] 25)).cell? ⟨q2, 0, none⟩ = some (.slice Xa Xn Xc)) ∧ ((w3.alloc (.cells #[.slice ga gn gc] 25)).cell? ⟨q2, 1, none⟩ = some (.int .i64 cX)) ∧ (Fk.Own (w3.alloc (.cells #[.slice ga gn gc] 25)) 0 53 (.slice Xa Xn Xc) MX) ∧ ((w3.alloc (.cells #[.slice ga gn gc] 25)).cell? ⟨q3, 0, none⟩ = some (.slice ga gn gc)) ∧ (Fk.Own (w3.alloc (.cells #[.slice ga gn gc] 25)) 0 53 (.slice ga gn gc) Lg) ∧ True) := by
    have bb : Below W2.heap.size W2 (w3.alloc (.cells #[.slice ga gn gc] 25)) := bl.alloc bl.size _
    have bt : Below w3.heap.size w3 (w3.alloc (.cells #[.slice ga gn gc] 25)) := (Below.refl _ _).alloc (Nat.le_refl _) _
    subst hq
    exact ⟨Lw.bel_trans (HC2.out.1) bb, Is.Errs.below (HC2.out.2.1) bb, Dk.Bytes.below (HC2.out.2.2.1) bb, Dk.Bytes.below (HC2.out.2.2.2.1) bb, Lw.cell_below bb (HC2.out.2.2.2.2.1), Fk.Own.below (HC2.out.2.2.2.2.2.1) bb, Lw.cell_below bb (HC2.out.2.2.2.2.2.2.1), Lw.cell_below bb (HC2.out.2.2.2.2.2.2.2.1), Fk.Own.below (HC2.out.2.2.2.2.2.2.2.2.1) bb, (by rw [Fk.cellTop _ _ _ _ _ rfl]; rfl), Fk.Own.below (Fk.Own.mono ho (Nat.zero_le _)) bt, trivial⟩
  obtain ⟨W3, hW⟩ : ∃ W, W = (w3.alloc (.cells #[.slice ga gn gc] 25)) := ⟨_, rfl⟩
  have HW3 := Fk.hide hW
  have HQ3 := Fk.hide hq
  rw [← hW] at HC3
  clear hW hq bl ho HC2
  go_wp2_with fail
  rw [← HW3.out, ← HQ3.out]
  clear HW3 HQ3
  refine (fsRename_impl _ Lg ng tg b0 b1 b2 b3 b4 W3 (Fk.view_of_owns HC3.out.2.2.2.2.2.2.2.2.2.2.1) HFg.out (by unfold maxLen; omega) (by unfold maxLen; omega) (by unfold maxLen; omega) HC3.out.2.1).mono ?_
  rintro e w4 ⟨⟨u, MY, cY, rfl, ho, ha⟩, bl⟩
  obtain ⟨Ya, Yn, Yc, rfl⟩ := ho.slice'
  have HAY := Fk.hide ha
  clear ha
  obtain ⟨q4, hq⟩ : ∃ q, q = w4.heap.size := ⟨_, rfl⟩
  have HC4 : Hid ((Below w.heap.size w (w4.alloc (.cells #[.slice Ya Yn Yc, .int .i64 cY] 29))) ∧ (Is.Errs (w4.alloc (.cells #[.slice Ya Yn Yc, .int .i64 cY] 29)) b0 b1 b2 b3 b4) ∧ (Dk.Bytes w.heap.size (w4.alloc (.cells #[.slice Ya Yn Yc, .int .i64 cY] 29)) a0 n0) ∧ (Dk.Bytes w.heap.size (w4.alloc (.cells #[.slice Ya Yn Yc, .int .i64 cY] 29)) a1 n1) ∧ ((w4.alloc (.cells #[.slice Ya Yn Yc, .int .i64 cY] 29)).cell? ⟨q1, 0, none⟩ = some (.slice fa fn fc)) ∧ (Fk.Own (w4.alloc (.cells #[.slice Ya Yn Yc, .int .i64 cY] 29)) 0 53 (.slice fa fn fc) Lf) ∧ ((w4.alloc (.cells #[.slice Ya Yn Yc, .int .i64 cY] 29)).cell? ⟨q2, 0, none⟩ = some (.slice Xa Xn Xc)) ∧ ((w4.alloc (.cells #[.slice Ya Yn Yc, .int .i64 cY] 29)).cell? ⟨q2, 1, none⟩ = some (.int .i64 cX)) ∧ (Fk.Own (w4.alloc (.cells #[.slice Ya Yn Yc, .int .i64 cY] 29)) 0 53 (.slice Xa Xn Xc) MX) ∧ ((w4.alloc (.cells #[.slice Ya Yn Yc, .int .i64 cY] 29)).cell? ⟨q3, 0, none⟩ = some (.slice ga gn gc)) ∧ (Fk.Own (w4.alloc (.cells #[.slice Ya Yn Yc, .int .i64 cY] 29)) 0 53 (.slice ga gn gc) Lg) ∧ ((w4.alloc (.cells #[.slice Ya Yn Yc, .int .i64 cY] 29)).cell? ⟨q4, 0, none⟩ = some (.slice Ya Yn Yc)) ∧ ((w4.alloc (.cells #[.slice Ya Yn Yc, .int .i64 cY] 29)).cell? ⟨q4, 1, none⟩ = some (.int .i64 cY)) ∧ (Fk.Own (w4.alloc (.cells #[.slice Ya Yn Yc, .int .i64 cY] 29)) 0 53 (.slice Ya Yn Yc) MY) ∧ True) := by
    have bb : Below W3.heap.size W3 (w4.alloc (.cells #[.slice Ya Yn Yc, .int .i64 cY] 29)) := bl.alloc bl.size _
    have bt : Below w4.heap.size w4 (w4.alloc (.cells #[.slice Ya Yn Yc, .int .i64 cY] 29)) := (Below.refl _ _).alloc (Nat.le_refl _) _
    subst hq
    exact ⟨Lw.bel_trans (HC3.out.1) bb, Is.Errs.below (HC3.out.2.1) bb, Dk.Bytes.below (HC3.out.2.2.1) bb, Dk.Bytes.below (HC3.out.2.2.2.1) bb, Lw.cell_below bb (HC3.out.2.2.2.2.1), Fk.Own.below (HC3.out.2.2.2.2.2.1) bb, Lw.cell_below bb (HC3.out.2.2.2.2.2.2.1), Lw.cell_below bb (HC3.out.2.2.2.2.2.2.2.1), Fk.Own.below (HC3.out.2.2.2.2.2.2.2.2.1) bb, Lw.cell_below bb (HC3.out.2.2.2.2.2.2.2.2.2.1), Fk.Own.below (HC3.out.2.2.2.2.2.2.2.2.2.2.1) bb, (by rw [Fk.cellTop _ _ _ _ _ rfl]; rfl), (by rw [Fk.cellTop _ _ _ _ _ rfl]; rfl), Fk.Own.below (Fk.Own.mono ho (Nat.zero_le _)) bt, trivial⟩
  obtain ⟨W4, hW⟩ : ∃ W, W = (w4.alloc (.cells #[.slice Ya Yn Yc, .int .i64 cY] 29)) := ⟨_, rfl⟩
  have HW4 := Fk.hide hW
  have HQ4 := Fk.hide hq
  rw [← hW] at HC4
  clear hW hq bl ho HC3
  go_wp2_with fail
  rw [← HW4.out, ← HQ4.out]
  clear HW4 HQ4
  refine (drawFsRemove_any w.heap.size a1 n1 c1 W4 (HC4.out.1).size (by omega) HC4.out.2.2.2.1).mono ?_
  rintro e w5 ⟨⟨u, Lh, nh, rfl, ho, hfh, hlh, hnh⟩, bl⟩
  obtain ⟨ha_, hn_, hc_, rfl⟩ := ho.slice'
  have HFh := Fk.hide hfh
  clear hfh
  obtain ⟨q5, hq⟩ : ∃ q, q = w5.heap.size := ⟨_, rfl⟩
  have HC5 : Hid ((Below w.heap.size w (w5.alloc (.cells #[.slice ha_ hn_ hc_] 25))) ∧ (Is.Errs (w5.alloc (.cells #[.slice ha_ hn_ hc_] 25)) b0 b1 b2 b3 b4) ∧ (Dk.Bytes w.heap.size (w5.alloc (.cells #[.slice ha_ hn_ hc_] 25)) a0 n0) ∧ (Dk.Bytes w.heap.size (w5.alloc (.cells #[.slice ha_ hn_ hc_] 25)) a1 n1) ∧ ((w5.alloc (.cells #[.slice ha_ hn_ hc_] 25)).cell? ⟨q1, 0, none⟩ = some (.slice fa fn fc)) ∧ (Fk.Own (w5.alloc (.cells #[.slice ha_ hn_ hc_] 25)) 0 53 (.slice fa fn fc) Lf) ∧ ((w5.alloc (.cells #[.slice ha_ hn_ hc_] 25)).cell? ⟨q2, 0, none⟩ = some (.slice Xa Xn Xc)) ∧ ((w5.alloc (.cells #[.slice ha_ hn_ hc_] 25)).cell? ⟨q2, 1, none⟩ = some (.int .i64 cX)) ∧ (Fk.Own (w5.alloc (.cells #[.slice ha_ hn_ hc_] 25)) 0 53 (.slice Xa Xn Xc) MX) ∧ ((w5.alloc (.cells #[.slice ha_ hn_ hc_] 25)).cell? ⟨q3, 0, none⟩ = some (.slice ga gn gc)) ∧ (Fk.Own (w5.alloc (.cells #[.slice ha_ hn_ hc_] 25)) 0 53 (.slice ga gn gc) Lg) ∧ ((w5.alloc (.cells #[.slice ha_ hn_ hc_] 25)).cell? ⟨q4, 0, none⟩ = some (.slice Ya Yn Yc)) ∧ ((w5.alloc (.cells #[.slice ha_ hn_ hc_] 25)).cell? ⟨q4, 1, none⟩ = some (.int .i64 cY)) ∧ (Fk.Own (w5.alloc (.cells #[.slice ha_ hn_ hc_] 25)) 0 53 (.slice Ya Yn Yc) MY) ∧ ((w5.alloc (.cells #[.slice ha_ hn_ hc_] 25)).cell? ⟨q5, 0, none⟩ = some (.slice ha_ hn_ hc_)) ∧ (Fk.Own (w5.alloc (.cells #[.slice ha_ hn_ hc_] 25)) 0 53 (.slice ha_ hn_ hc_) Lh) ∧ True) := by
    have bb : Below W4.heap.size W4 (w5.alloc (.cells #[.slice ha_ hn_ hc_] 25)) := bl.alloc bl.size _
    have bt : Below w5.heap.size w5 (w5.alloc (.cells #[.slice ha_ hn_ hc_] 25)) := (Below.refl _ _).alloc (Nat.le_refl _) _
    subst hq
    exact ⟨Lw.bel_trans (HC4.out.1) bb, Is.Errs.below (HC4.out.2.1) bb, Dk.Bytes.below (HC4.out.2.2.1) bb, Dk.Bytes.below (HC4.out.2.2.2.1) bb, Lw.cell_below bb (HC4.out.2.2.2.2.1), Fk.Own.below (HC4.out.2.2.2.2.2.1) bb, Lw.cell_below bb (HC4.out.2.2.2.2.2.2.1), Lw.cell_below bb (HC4.out.2.2.2.2.2.2.2.1), Fk.Own.below (HC4.out.2.2.2.2.2.2.2.2.1) bb, Lw.cell_below bb (HC4.out.2.2.2.2.2.2.2.2.2.1), Fk.Own.below (HC4.out.2.2.2.2.2.2.2.2.2.2.1) bb, Lw.cell_below bb (HC4.out.2.2.2.2.2.2.2.2.2.2.2.1), Lw.cell_below bb (HC4.out.2.2.2.2.2.2.2.2.2.2.2.2.1), Fk.Own.below (HC4.out.2.2.2.2.2.2.2.2.2.2.2.2.2.1) bb, (by rw [Fk.cellTop _ _ _ _ _ rfl]; rfl), Fk.Own.below (Fk.Own.mono ho (Nat.zero_le _)) bt, trivial⟩
  obtain ⟨W5, hW⟩ : ∃ W, W = (w5.alloc (.cells #[.slice ha_ hn_ hc_] 25)) := ⟨_, rfl⟩
  have HW5 := Fk.hide hW
  have HQ5 := Fk.hide hq
  rw [← hW] at HC5
  clear hW hq bl ho HC4
  go_wp2_with fail
  rw [← HW5.out, ← HQ5.out]
  clear HW5 HQ5
  refine (fsRemove_impl _ Lh nh b0 b1 b2 b3 b4 W5 (Fk.view_of_owns HC5.out.2.2.2.2.2.2.2.2.2.2.2.2.2.2.2.1) HFh.out (by unfold maxLen; omega) (by unfold maxLen; omega) HC5.out.2.1).mono ?_
  rintro e w6 ⟨⟨u, MZ, cZ, rfl, ho, ha⟩, bl⟩
  obtain ⟨Za, Zn, Zc, rfl⟩ := ho.slice'
  have HAZ := Fk.hide ha
  clear ha
  have cf0 := HC5.out.2.2.2.2.1
  have cf := fun o => Lw.cell_below ((bl.alloc bl.size o)) cf0
  clear cf0
  obtain ⟨q6, hq⟩ : ∃ q, q = w6.heap.size := ⟨_, rfl⟩
  have HC6 : Hid ((Below w.heap.size w (w6.alloc (.cells #[.slice Za Zn Zc, .int .i64 cZ] 29))) ∧ (Is.Errs (w6.alloc (.cells #[.slice Za Zn Zc, .int .i64 cZ] 29)) b0 b1 b2 b3 b4) ∧ (Dk.Bytes w.heap.size (w6.alloc (.cells #[.slice Za Zn Zc, .int .i64 cZ] 29)) a0 n0) ∧ (Dk.Bytes w.heap.size (w6.alloc (.cells #[.slice Za Zn Zc, .int .i64 cZ] 29)) a1 n1) ∧ ((w6.alloc (.cells #[.slice Za Zn Zc, .int .i64 cZ] 29)).cell? ⟨q1, 0, none⟩ = some (.slice fa fn fc)) ∧ (Fk.Own (w6.alloc (.cells #[.slice Za Zn Zc, .int .i64 cZ] 29)) 0 53 (.slice fa fn fc) Lf) ∧ ((w6.alloc (.cells #[.slice Za Zn Zc, .int .i64 cZ] 29)).cell? ⟨q2, 0, none⟩ = some (.slice Xa Xn Xc)) ∧ ((w6.alloc (.cells #[.slice Za Zn Zc, .int .i64 cZ] 29)).cell? ⟨q2, 1, none⟩ = some (.int .i64 cX)) ∧ (Fk.Own (w6.alloc (.cells #[.slice Za Zn Zc, .int .i64 cZ] 29)) 0 53 (.slice Xa Xn Xc) MX) ∧ ((w6.alloc (.cells #[.slice Za Zn Zc, .int .i64 cZ] 29)).cell? ⟨q3, 0, none⟩ = some (.slice ga gn gc)) ∧ (Fk.Own (w6.alloc (.cells #[.slice Za Zn Zc, .int .i64 cZ] 29)) 0 53 (.slice ga gn gc) Lg) ∧ ((w6.alloc (.cells #[.slice Za Zn Zc, .int .i64 cZ] 29)).cell? ⟨q4, 0, none⟩ = some (.slice Ya Yn Yc)) ∧ ((w6.alloc (.cells #[.slice Za Zn Zc, .int .i64 cZ] 29)).cell? ⟨q4, 1, none⟩ = some (.int .i64 cY)) ∧ (Fk.Own (w6.alloc (.cells #[.slice Za Zn Zc, .int .i64 cZ] 29)) 0 53 (.slice Ya Yn Yc) MY) ∧ ((w6.alloc (.cells #[.slice Za Zn Zc, .int .i64 cZ] 29)).cell? ⟨q5, 0, none⟩ = some (.slice ha_ hn_ hc_)) ∧ (Fk.Own (w6.alloc (.cells #[.slice Za Zn Zc, .int .i64 cZ] 29)) 0 53 (.slice ha_ hn_ hc_) Lh) ∧ ((w6.alloc (.cells #[.slice Za Zn Zc, .int .i64 cZ] 29)).cell? ⟨q6, 0, none⟩ = some (.slice Za Zn Zc)) ∧ ((w6.alloc (.cells #[.slice Za Zn Zc, .int .i64 cZ] 29)).cell? ⟨q6, 1, none⟩ = some (.int .i64 cZ)) ∧ (Fk.Own (w6.alloc (.cells #[.slice Za Zn Zc, .int .i64 cZ] 29)) 0 53 (.slice Za Zn Zc) MZ) ∧ True) := by
    have bb : Below W5.heap.size W5 (w6.alloc (.cells #[.slice Za Zn Zc, .int .i64 cZ] 29)) := bl.alloc bl.size _
    have bt : Below w6.heap.size w6 (w6.alloc (.cells #[.slice Za Zn Zc, .int .i64 cZ] 29)) := (Below.refl _ _).alloc (Nat.le_refl _) _
    subst hq
    exact ⟨Lw.bel_trans (HC5.out.1) bb, Is.Errs.below (HC5.out.2.1) bb, Dk.Bytes.below (HC5.out.2.2.1) bb, Dk.Bytes.below (HC5.out.2.2.2.1) bb, Lw.cell_below bb (HC5.out.2.2.2.2.1), Fk.Own.below (HC5.out.2.2.2.2.2.1) bb, Lw.cell_below bb (HC5.out.2.2.2.2.2.2.1), Lw.cell_below bb (HC5.out.2.2.2.2.2.2.2.1), Fk.Own.below (HC5.out.2.2.2.2.2.2.2.2.1) bb, Lw.cell_below bb (HC5.out.2.2.2.2.2.2.2.2.2.1), Fk.Own.below (HC5.out.2.2.2.2.2.2.2.2.2.2.1) bb, Lw.cell_below bb (HC5.out.2.2.2.2.2.2.2.2.2.2.2.1), Lw.cell_below bb (HC5.out.2.2.2.2.2.2.2.2.2.2.2.2.1), Fk.Own.below (HC5.out.2.2.2.2.2.2.2.2.2.2.2.2.2.1) bb, Lw.cell_below bb (HC5.out.2.2.2.2.2.2.2.2.2.2.2.2.2.2.1), Fk.Own.below (HC5.out.2.2.2.2.2.2.2.2.2.2.2.2.2.2.2.1) bb, (by rw [Fk.cellTop _ _ _ _ _ rfl]; rfl), (by rw [Fk.cellTop _ _ _ _ _ rfl]; rfl), Fk.Own.below (Fk.Own.mono ho (Nat.zero_le _)) bt, trivial⟩
  obtain ⟨W6, hW⟩ : ∃ W, W = (w6.alloc (.cells #[.slice Za Zn Zc, .int .i64 cZ] 29)) := ⟨_, rfl⟩
  have HW6 := Fk.hide hW
  have HQ6 := Fk.hide hq
  rw [← hW] at HC6
  clear hW hq bl ho HC5
  go_wp2_with fail
  rw [← HW6.out, ← HQ6.out]
  clear HW6 HQ6
  clear cf
  obtain ⟨rt, ra, rc, hrd⟩ : ∃ t x c, Fk.rdOf Lf nf = (t, x, c) := ⟨_, _, _, rfl⟩
  have HRD : Hid (textOut (Fk.rdOf Lf nf) = .agg #[.string rt, .int .i64 ra, .int .i64 rc]) := by show _ = _; rw [hrd]; rfl
  have HR1 := Fk.hide hrd
  clear hrd
  refine (fsRead_impl _ Lf nf b0 b1 b2 b3 b4 W6 (Fk.view_of_owns HC6.out.2.2.2.2.2.1) HFf.out (by unfold maxLen; omega) (by unfold maxLen; omega) HC6.out.2.1).mono ?_
  rintro e w7 ⟨rfl, bl⟩
  rw [HRD.out]
  obtain ⟨q7, hq⟩ : ∃ q, q = w7.heap.size := ⟨_, rfl⟩
  have HC7 : Hid ((Below w.heap.size w (w7.alloc (.cells #[.string rt, .int .i64 ra, .int .i64 rc] 35))) ∧ (Is.Errs (w7.alloc (.cells #[.string rt, .int .i64 ra, .int .i64 rc] 35)) b0 b1 b2 b3 b4) ∧ (Dk.Bytes w.heap.size (w7.alloc (.cells #[.string rt, .int .i64 ra, .int .i64 rc] 35)) a0 n0) ∧ (Dk.Bytes w.heap.size (w7.alloc (.cells #[.string rt, .int .i64 ra, .int .i64 rc] 35)) a1 n1) ∧ ((w7.alloc (.cells #[.string rt, .int .i64 ra, .int .i64 rc] 35)).cell? ⟨q1, 0, none⟩ = some (.slice fa fn fc)) ∧ (Fk.Own (w7.alloc (.cells #[.string rt, .int .i64 ra, .int .i64 rc] 35)) 0 53 (.slice fa fn fc) Lf) ∧ ((w7.alloc (.cells #[.string rt, .int .i64 ra, .int .i64 rc] 35)).cell? ⟨q2, 0, none⟩ = some (.slice Xa Xn Xc)) ∧ ((w7.alloc (.cells #[.string rt, .int .i64 ra, .int .i64 rc] 35)).cell? ⟨q2, 1, none⟩ = some (.int .i64 cX)) ∧ (Fk.Own (w7.alloc (.cells #[.string rt, .int .i64 ra, .int .i64 rc] 35)) 0 53 (.slice Xa Xn Xc) MX) ∧ ((w7.alloc (.cells #[.string rt, .int .i64 ra, .int .i64 rc] 35)).cell? ⟨q3, 0, none⟩ = some (.slice ga gn gc)) ∧ (Fk.Own (w7.alloc (.cells #[.string rt, .int .i64 ra, .int .i64 rc] 35)) 0 53 (.slice ga gn gc) Lg) ∧ ((w7.alloc (.cells #[.string rt, .int .i64 ra, .int .i64 rc] 35)).cell? ⟨q4, 0, none⟩ = some (.slice Ya Yn Yc)) ∧ ((w7.alloc (.cells #[.string rt, .int .i64 ra, .int .i64 rc] 35)).cell? ⟨q4, 1, none⟩ = some (.int .i64 cY)) ∧ (Fk.Own (w7.alloc (.cells #[.string rt, .int .i64 ra, .int .i64 rc] 35)) 0 53 (.slice Ya Yn Yc) MY) ∧ ((w7.alloc (.cells #[.string rt, .int .i64 ra, .int .i64 rc] 35)).cell? ⟨q5, 0, none⟩ = some (.slice ha_ hn_ hc_)) ∧ (Fk.Own (w7.alloc (.cells #[.string rt, .int .i64 ra, .int .i64 rc] 35)) 0 53 (.slice ha_ hn_ hc_) Lh) ∧ ((w7.alloc (.cells #[.string rt, .int .i64 ra, .int .i64 rc] 35)).cell? ⟨q6, 0, none⟩ = some (.slice Za Zn Zc)) ∧ ((w7.alloc (.cells #[.string rt, .int .i64 ra, .int .i64 rc] 35)).cell? ⟨q6, 1, none⟩ = some (.int .i64 cZ)) ∧ (Fk.Own (w7.alloc (.cells #[.string rt, .int .i64 ra, .int .i64 rc] 35)) 0 53 (.slice Za Zn Zc) MZ) ∧ ((w7.alloc (.cells #[.string rt, .int .i64 ra, .int .i64 rc] 35)).cell? ⟨q7, 0, none⟩ = some (.string rt)) ∧ ((w7.alloc (.cells #[.string rt, .int .i64 ra, .int .i64 rc] 35)).cell? ⟨q7, 1, none⟩ = some (.int .i64 ra)) ∧ ((w7.alloc (.cells #[.string rt, .int .i64 ra, .int .i64 rc] 35)).cell? ⟨q7, 2, none⟩ = some (.int .i64 rc)) ∧ True) := by
    have bb : Below W6.heap.size W6 (w7.alloc (.cells #[.string rt, .int .i64 ra, .int .i64 rc] 35)) := bl.alloc bl.size _
    have bt : Below w7.heap.size w7 (w7.alloc (.cells #[.string rt, .int .i64 ra, .int .i64 rc] 35)) := (Below.refl _ _).alloc (Nat.le_refl _) _
    subst hq
    exact ⟨Lw.bel_trans (HC6.out.1) bb, Is.Errs.below (HC6.out.2.1) bb, Dk.Bytes.below (HC6.out.2.2.1) bb, Dk.Bytes.below (HC6.out.2.2.2.1) bb, Lw.cell_below bb (HC6.out.2.2.2.2.1), Fk.Own.below (HC6.out.2.2.2.2.2.1) bb, Lw.cell_below bb (HC6.out.2.2.2.2.2.2.1), Lw.cell_below bb (HC6.out.2.2.2.2.2.2.2.1), Fk.Own.below (HC6.out.2.2.2.2.2.2.2.2.1) bb, Lw.cell_below bb (HC6.out.2.2.2.2.2.2.2.2.2.1), Fk.Own.below (HC6.out.2.2.2.2.2.2.2.2.2.2.1) bb, Lw.cell_below bb (HC6.out.2.2.2.2.2.2.2.2.2.2.2.1), Lw.cell_below bb (HC6.out.2.2.2.2.2.2.2.2.2.2.2.2.1), Fk.Own.below (HC6.out.2.2.2.2.2.2.2.2.2.2.2.2.2.1) bb, Lw.cell_below bb (HC6.out.2.2.2.2.2.2.2.2.2.2.2.2.2.2.1), Fk.Own.below (HC6.out.2.2.2.2.2.2.2.2.2.2.2.2.2.2.2.1) bb, Lw.cell_below bb (HC6.out.2.2.2.2.2.2.2.2.2.2.2.2.2.2.2.2.1), Lw.cell_below bb (HC6.out.2.2.2.2.2.2.2.2.2.2.2.2.2.2.2.2.2.1), Fk.Own.below (HC6.out.2.2.2.2.2.2.2.2.2.2.2.2.2.2.2.2.2.2.1) bb, (by rw [Fk.cellTop _ _ _ _ _ rfl]; rfl), (by rw [Fk.cellTop _ _ _ _ _ rfl]; rfl), (by rw [Fk.cellTop _ _ _ _ _ rfl]; rfl), trivial⟩
  obtain ⟨W7, hW⟩ : ∃ W, W = (w7.alloc (.cells #[.string rt, .int .i64 ra, .int .i64 rc] 35)) := ⟨_, rfl⟩
  have HW7 := Fk.hide hW
  have HQ7 := Fk.hide hq
  rw [← hW] at HC7
  clear hW hq bl HC6
  go_wp2_with fail
  rw [← HW7.out, ← HQ7.out]
  clear HW7 HQ7
  have HK : Hid (∀ w', Hid (Below W7.heap.size W7 w') → Hid (Below W7.heap.size W7 w') ∧ w'.cell? ⟨q1, 0, none⟩ = some (.slice fa fn fc) ∧ w'.cell? ⟨q2, 0, none⟩ = some (.slice Xa Xn Xc) ∧ w'.cell? ⟨q2, 1, none⟩ = some (.int .i64 cX) ∧ w'.cell? ⟨q3, 0, none⟩ = some (.slice ga gn gc) ∧ w'.cell? ⟨q4, 0, none⟩ = some (.slice Ya Yn Yc) ∧ w'.cell? ⟨q4, 1, none⟩ = some (.int .i64 cY) ∧ w'.cell? ⟨q5, 0, none⟩ = some (.slice ha_ hn_ hc_) ∧ w'.cell? ⟨q6, 0, none⟩ = some (.slice Za Zn Zc) ∧ w'.cell? ⟨q6, 1, none⟩ = some (.int .i64 cZ) ∧ w'.cell? ⟨q7, 0, none⟩ = some (.string rt) ∧ w'.cell? ⟨q7, 1, none⟩ = some (.int .i64 ra) ∧ w'.cell? ⟨q7, 2, none⟩ = some (.int .i64 rc)) := fun w' hb => ⟨hb, Lw.cell_below hb.out (HC7.out.2.2.2.2.1), Lw.cell_below hb.out (HC7.out.2.2.2.2.2.2.1), Lw.cell_below hb.out (HC7.out.2.2.2.2.2.2.2.1), Lw.cell_below hb.out (HC7.out.2.2.2.2.2.2.2.2.2.1), Lw.cell_below hb.out (HC7.out.2.2.2.2.2.2.2.2.2.2.2.1), Lw.cell_below hb.out (HC7.out.2.2.2.2.2.2.2.2.2.2.2.2.1), Lw.cell_below hb.out (HC7.out.2.2.2.2.2.2.2.2.2.2.2.2.2.2.1), Lw.cell_below hb.out (HC7.out.2.2.2.2.2.2.2.2.2.2.2.2.2.2.2.2.1), Lw.cell_below hb.out (HC7.out.2.2.2.2.2.2.2.2.2.2.2.2.2.2.2.2.2.1), Lw.cell_below hb.out (HC7.out.2.2.2.2.2.2.2.2.2.2.2.2.2.2.2.2.2.2.2.1), Lw.cell_below hb.out (HC7.out.2.2.2.2.2.2.2.2.2.2.2.2.2.2.2.2.2.2.2.2.1), Lw.cell_below hb.out (HC7.out.2.2.2.2.2.2.2.2.2.2.2.2.2.2.2.2.2.2.2.2.2.1)⟩
  have HK0 := HK.out W7 (Below.refl _ _)
  have HKD := HK.out W7.drew (Below.drew (Below.refl _ _))
  have VoF : Hid (∀ w', Below W7.heap.size W7 w' → Fk.Own w' 0 53 (.slice fa fn fc) Lf) := fun w' hb => Fk.Own.below (HC7.out.2.2.2.2.2.1) hb
  have VoX : Hid (∀ w', Below W7.heap.size W7 w' → Fk.Own w' 0 53 (.slice Xa Xn Xc) MX) := fun w' hb => Fk.Own.below (HC7.out.2.2.2.2.2.2.2.2.1) hb
  have VoG : Hid (∀ w', Below W7.heap.size W7 w' → Fk.Own w' 0 53 (.slice ga gn gc) Lg) := fun w' hb => Fk.Own.below (HC7.out.2.2.2.2.2.2.2.2.2.2.1) hb
  have VoY : Hid (∀ w', Below W7.heap.size W7 w' → Fk.Own w' 0 53 (.slice Ya Yn Yc) MY) := fun w' hb => Fk.Own.below (HC7.out.2.2.2.2.2.2.2.2.2.2.2.2.2.1) hb
  have VoH : Hid (∀ w', Below W7.heap.size W7 w' → Fk.Own w' 0 53 (.slice ha_ hn_ hc_) Lh) := fun w' hb => Fk.Own.below (HC7.out.2.2.2.2.2.2.2.2.2.2.2.2.2.2.2.1) hb
  have VoZ : Hid (∀ w', Below W7.heap.size W7 w' → Fk.Own w' 0 53 (.slice Za Zn Zc) MZ) := fun w' hb => Fk.Own.below (HC7.out.2.2.2.2.2.2.2.2.2.2.2.2.2.2.2.2.2.2.1) hb
  have HE7 : Hid (∀ w', Below W7.heap.size W7 w' → Is.Errs w' b0 b1 b2 b3 b4) := fun w' hb => Is.Errs.below (HC7.out.2.1) hb
  have HB7 : Hid (Below w.heap.size w W7) := HC7.out.1
  clear HC7
  have kcF := HK0.2.1
  have kcX0 := HK0.2.2.1
  have kcX1 := HK0.2.2.2.1
  have kcG := HK0.2.2.2.2.1
  have kcY0 := HK0.2.2.2.2.2.1
  have kcY1 := HK0.2.2.2.2.2.2.1
  have kcH := HK0.2.2.2.2.2.2.2.1
  have kcZ0 := HK0.2.2.2.2.2.2.2.2.1
  have kcZ1 := HK0.2.2.2.2.2.2.2.2.2.1
  have kcR0 := HK0.2.2.2.2.2.2.2.2.2.2.1
  have kcR1 := HK0.2.2.2.2.2.2.2.2.2.2.2.1
  have kcR2 := HK0.2.2.2.2.2.2.2.2.2.2.2.2
  have HRX := Fk.hide (Fk.append_right HAX.out)
  have HTX := Fk.hide (Fk.ans_fits HRX.out)
  have HRY := Fk.hide (Fk.rename_right HAY.out)
  have HTY := Fk.hide (Fk.ans_fits HRY.out)
  have HRZ := Fk.hide (Fk.remove_right HAZ.out)
  have HTZ := Fk.hide (Fk.ans_fits HRZ.out)
  go_region_held3 (fun w' => Hid (Below W7.heap.size W7 w') ∧ w'.cell? ⟨q1, 0, none⟩ = some (.slice fa fn fc) ∧ w'.cell? ⟨q2, 0, none⟩ = some (.slice Xa Xn Xc) ∧ w'.cell? ⟨q2, 1, none⟩ = some (.int .i64 cX) ∧ w'.cell? ⟨q3, 0, none⟩ = some (.slice ga gn gc) ∧ w'.cell? ⟨q4, 0, none⟩ = some (.slice Ya Yn Yc) ∧ w'.cell? ⟨q4, 1, none⟩ = some (.int .i64 cY) ∧ w'.cell? ⟨q5, 0, none⟩ = some (.slice ha_ hn_ hc_) ∧ w'.cell? ⟨q6, 0, none⟩ = some (.slice Za Zn Zc) ∧ w'.cell? ⟨q6, 1, none⟩ = some (.int .i64 cZ) ∧ w'.cell? ⟨q7, 0, none⟩ = some (.string rt) ∧ w'.cell? ⟨q7, 1, none⟩ = some (.int .i64 ra) ∧ w'.cell? ⟨q7, 2, none⟩ = some (.int .i64 rc))
    (first | assumption)
    (first
      | (go_at_call 18; refine (lwFs_same (.slice Za Zn Zc) (.slice vaZ vnZ vcZ) MZ cZ _ (Fk.view_of_owns (VoZ.out _ (Lw.bel (by assumption)))) (HVZ.out) HTZ.out.1 HTZ.out.2 HRZ.out.1).mono ?_; rintro e wn ⟨rfl, bn⟩; have BN := Lw.belNext bn (by assumption); have SN := HK.out _ BN; clear bn BN)
      | (go_at_call 18; refine (lwFs_same (.slice Ya Yn Yc) (.slice vaY vnY vcY) MY cY _ (Fk.view_of_owns (VoY.out _ (Lw.bel (by assumption)))) (HVY.out) HTY.out.1 HTY.out.2 HRY.out.1).mono ?_; rintro e wn ⟨rfl, bn⟩; have BN := Lw.belNext bn (by assumption); have SN := HK.out _ BN; clear bn BN)
      | (go_at_call 18; refine (lwFs_same (.slice Xa Xn Xc) (.slice vaX vnX vcX) MX cX _ (Fk.view_of_owns (VoX.out _ (Lw.bel (by assumption)))) (HVX.out) HTX.out.1 HTX.out.2 HRX.out.1).mono ?_; rintro e wn ⟨rfl, bn⟩; have BN := Lw.belNext bn (by assumption); have SN := HK.out _ BN; clear bn BN)
      | (go_at_call 19; refine (fsAppend_spec (.slice fa fn fc) Lf nf tf _ 0 (VoF.out _ (Lw.bel (by assumption))) HFf.out (by unfold maxLen; omega) (by unfold maxLen; omega) (by unfold maxLen; omega)).mono ?_; rintro e wn ⟨⟨v, MM, cc, rfl, ho, ha⟩, bn⟩; obtain ⟨rfl, rfl⟩ := Fk.Ans.one HAX.out ha; obtain ⟨vaX, vnX, vcX, rfl⟩ := ho.slice'; have HVX := Fk.hide (Fk.view_of_owns ho); clear ho ha; have BN := Lw.belNext bn (by assumption); have SN := HK.out _ BN; clear bn BN)
      | (go_at_call 20; refine (fsRename_spec (.slice ga gn gc) Lg ng tg _ 0 (VoG.out _ (Lw.bel (by assumption))) HFg.out (by unfold maxLen; omega) (by unfold maxLen; omega) (by unfold maxLen; omega)).mono ?_; rintro e wn ⟨⟨v, MM, cc, rfl, ho, ha⟩, bn⟩; obtain ⟨rfl, rfl⟩ := Fk.Ans.one HAY.out ha; obtain ⟨vaY, vnY, vcY, rfl⟩ := ho.slice'; have HVY := Fk.hide (Fk.view_of_owns ho); clear ho ha; have BN := Lw.belNext bn (by assumption); have SN := HK.out _ BN; clear bn BN)
      | (go_at_call 21; refine (fsRemove_spec (.slice ha_ hn_ hc_) Lh nh _ 0 (VoH.out _ (Lw.bel (by assumption))) HFh.out (by unfold maxLen; omega) (by unfold maxLen; omega)).mono ?_; rintro e wn ⟨⟨v, MM, cc, rfl, ho, ha⟩, bn⟩; obtain ⟨rfl, rfl⟩ := Fk.Ans.one HAZ.out ha; obtain ⟨vaZ, vnZ, vcZ, rfl⟩ := ho.slice'; have HVZ := Fk.hide (Fk.view_of_owns ho); clear ho ha; have BN := Lw.belNext bn (by assumption); have SN := HK.out _ BN; clear bn BN)
      | (go_at_call 22; refine (fsRead_spec (.slice fa fn fc) Lf nf _ (Fk.view_of_owns (VoF.out _ (Lw.bel (by assumption)))) HFf.out (by unfold maxLen; omega) (by unfold maxLen; omega)).mono ?_; rintro e wn ⟨rfl, bn⟩; rw [HRD.out]; have BN := Lw.belNext bn (by assumption); have SN := HK.out _ BN; clear bn BN)
      | (go_at_call 23; refine (fsRight_impl (.slice fa fn fc) Lf _ (Fk.view_of_owns (VoF.out _ (Lw.bel (by assumption)))) HFf.out (by unfold maxLen; omega)).mono ?_; rintro e wn ⟨rfl, bn⟩; have BN := Lw.belNext bn (by assumption); have SN := HK.out _ BN; clear bn BN)
      | (go_at_call 24; refine (fsRight_spec (.slice fa fn fc) Lf _ (Fk.view_of_owns (VoF.out _ (Lw.bel (by assumption)))) HFf.out (by unfold maxLen; omega)).mono ?_; rintro e wn ⟨rfl, bn⟩; have BN := Lw.belNext bn (by assumption); have SN := HK.out _ BN; clear bn BN))
  clear HK0 HKD kcF kcX0 kcX1 kcG kcY0 kcY1 kcH kcZ0 kcZ1 kcR0 kcR1 kcR2
  obtain ⟨gt, gx, gk, hgd⟩ : ∃ t x c, Fk.rdOf Lg ng = (t, x, c) := ⟨_, _, _, rfl⟩
  have HGD : Hid (textOut (Fk.rdOf Lg ng) = .agg #[.string gt, .int .i64 gx, .int .i64 gk]) := by show _ = _; rw [hgd]; rfl
  have HG1 := Fk.hide hgd
  clear hgd
  by_cases hcx : cX = 0
  · have HPX : Hid (Fk.rdOf MX nf = ((Fk.rdOf Lf nf).1 ++ tf, 0, 0) ∧ Fk.but Lf nf nf = Fk.but MX nf nf) := by have h0 := HAX.out; rw [hcx] at h0; exact Fk.append_read h0
    have hcat : ¬ 9223372036854775807 < rt.size + tf.size := by
      have h9 := Fk.rd_right (HRX.out.1 hcx) nf
      rw [HPX.out.1, HR1.out] at h9
      have h8 : (rt ++ tf).size ≤ 3000 := h9
      rw [ByteArray.size_append] at h8
      omega
    have hcx' : (cX == 0) = true := by simpa using hcx
    clear hcx
    have HXD : Hid (textOut (Fk.rdOf MX nf) = .agg #[.string (rt ++ tf), .int .i64 0, .int .i64 0]) := by show _ = _; rw [HPX.out.1, HR1.out]; rfl
    have SD := HK.out wn.drew (Below.drew SN.1.out)
    go_wp2_with fail
    go_region_held3 (fun w' => Hid (Below W7.heap.size W7 w') ∧ w'.cell? ⟨q1, 0, none⟩ = some (.slice fa fn fc) ∧ w'.cell? ⟨q2, 0, none⟩ = some (.slice Xa Xn Xc) ∧ w'.cell? ⟨q2, 1, none⟩ = some (.int .i64 cX) ∧ w'.cell? ⟨q3, 0, none⟩ = some (.slice ga gn gc) ∧ w'.cell? ⟨q4, 0, none⟩ = some (.slice Ya Yn Yc) ∧ w'.cell? ⟨q4, 1, none⟩ = some (.int .i64 cY) ∧ w'.cell? ⟨q5, 0, none⟩ = some (.slice ha_ hn_ hc_) ∧ w'.cell? ⟨q6, 0, none⟩ = some (.slice Za Zn Zc) ∧ w'.cell? ⟨q6, 1, none⟩ = some (.int .i64 cZ) ∧ w'.cell? ⟨q7, 0, none⟩ = some (.string rt) ∧ w'.cell? ⟨q7, 1, none⟩ = some (.int .i64 ra) ∧ w'.cell? ⟨q7, 2, none⟩ = some (.int .i64 rc))
      (first | assumption)
      (first
        | (go_at_call 17; refine (fsRead_impl (.slice Xa Xn Xc) MX nf b0 b1 b2 b3 b4 _ (Fk.view_of_owns (VoX.out _ (Lw.bel (by assumption)))) HTX.out.1 (by have := HTX.out.2; unfold maxLen; omega) (by unfold maxLen; omega) (HE7.out _ (Lw.bel (by assumption)))).mono ?_; rintro e wn ⟨rfl, bn⟩; rw [HXD.out]; have BN := Lw.belNext bn (by assumption); have SN := HK.out _ BN; clear bn BN)
        | (go_at_call 25; refine (lwBut_same (.slice fa fn fc) (.slice Xa Xn Xc) Lf MX nf nf _ (Fk.view_of_owns (VoF.out _ (Lw.bel (by assumption)))) (Fk.view_of_owns (VoX.out _ (Lw.bel (by assumption)))) (by omega) (Nat.le_trans HTX.out.2 (by decide)) HPX.out.2).mono ?_; rintro e wn ⟨rfl, bn⟩; have BN := Lw.belNext bn (by assumption); have SN := HK.out _ BN; clear bn BN))
    clear SD hcat
    by_cases hcy : cY = 0
    · have HPY : Hid (Fk.rdOf MY tg = Fk.rdOf Lg ng ∧ Fk.but Lg ng tg = Fk.but MY ng tg) := by have h0 := HAY.out; rw [hcy] at h0; exact Fk.rename_read h0
      have hcy' : (cY == 0) = true := by simpa using hcy
      clear hcy
      have HYD : Hid (textOut (Fk.rdOf MY tg) = .agg #[.string gt, .int .i64 gx, .int .i64 gk]) := by show _ = _; rw [HPY.out.1]; exact HGD.out
      have SD := HK.out wn.drew (Below.drew SN.1.out)
      go_wp2_with fail
      go_region_held3 (fun w' => Hid (Below W7.heap.size W7 w') ∧ w'.cell? ⟨q1, 0, none⟩ = some (.slice fa fn fc) ∧ w'.cell? ⟨q2, 0, none⟩ = some (.slice Xa Xn Xc) ∧ w'.cell? ⟨q2, 1, none⟩ = some (.int .i64 cX) ∧ w'.cell? ⟨q3, 0, none⟩ = some (.slice ga gn gc) ∧ w'.cell? ⟨q4, 0, none⟩ = some (.slice Ya Yn Yc) ∧ w'.cell? ⟨q4, 1, none⟩ = some (.int .i64 cY) ∧ w'.cell? ⟨q5, 0, none⟩ = some (.slice ha_ hn_ hc_) ∧ w'.cell? ⟨q6, 0, none⟩ = some (.slice Za Zn Zc) ∧ w'.cell? ⟨q6, 1, none⟩ = some (.int .i64 cZ) ∧ w'.cell? ⟨q7, 0, none⟩ = some (.string rt) ∧ w'.cell? ⟨q7, 1, none⟩ = some (.int .i64 ra) ∧ w'.cell? ⟨q7, 2, none⟩ = some (.int .i64 rc))
        (first | assumption)
        (first
          | (go_at_call 17; have hh := HMK; clear hh; refine (fsRead_impl (.slice ga gn gc) Lg ng b0 b1 b2 b3 b4 _ (Fk.view_of_owns (VoG.out _ (Lw.bel (by assumption)))) HFg.out (by unfold maxLen; omega) (by unfold maxLen; omega) (HE7.out _ (Lw.bel (by assumption)))).mono ?_; rintro e wn ⟨rfl, bn⟩; rw [HGD.out]; have BN := Lw.belNext bn (by assumption); have SN := HK.out _ BN; clear bn BN)
          | (go_at_call 17; refine (fsRead_impl (.slice Ya Yn Yc) MY tg b0 b1 b2 b3 b4 _ (Fk.view_of_owns (VoY.out _ (Lw.bel (by assumption)))) HTY.out.1 (by have := HTY.out.2; unfold maxLen; omega) (by unfold maxLen; omega) (HE7.out _ (Lw.bel (by assumption)))).mono ?_; rintro e wn ⟨rfl, bn⟩; rw [HYD.out]; have HMK := Fk.hide True.intro; have BN := Lw.belNext bn (by assumption); have SN := HK.out _ BN; clear bn BN)
          | (go_at_call 25; refine (lwBut_same (.slice ga gn gc) (.slice Ya Yn Yc) Lg MY ng tg _ (Fk.view_of_owns (VoG.out _ (Lw.bel (by assumption)))) (Fk.view_of_owns (VoY.out _ (Lw.bel (by assumption)))) (by omega) (Nat.le_trans HTY.out.2 (by decide)) HPY.out.2).mono ?_; rintro e wn ⟨rfl, bn⟩; have BN := Lw.belNext bn (by assumption); have SN := HK.out _ BN; clear bn BN))
      clear SD
      have d0 := SN.2.2.2.2.2.2.2.2.1
      have d1 := SN.2.2.2.2.2.2.2.2.2.1
      by_cases hcz : cZ = 0
      · have HPZ : Hid (Fk.rdOf MZ nh = (ByteArray.empty, 0, 6) ∧ Fk.but Lh nh nh = Fk.but MZ nh nh) := by have h0 := HAZ.out; rw [hcz] at h0; exact Fk.remove_read h0
        have HZD : Hid (textOut (Fk.rdOf MZ nh) = .agg #[.string ByteArray.empty, .int .i64 0, .int .i64 6]) := by show _ = _; rw [HPZ.out.1]; rfl
        subst hcz
        go_wp2_with fail
        refine (fsRead_impl (.slice Za Zn Zc) MZ nh b0 b1 b2 b3 b4 wn (Fk.view_of_owns (VoZ.out _ SN.1.out)) HTZ.out.1 (by have := HTZ.out.2; unfold maxLen; omega) (by unfold maxLen; omega) (HE7.out _ SN.1.out)).mono ?_
        rintro e wz ⟨rfl, bz⟩
        rw [HZD.out]
        have SZ := HK.out _ (Lw.belNext bz SN)
        have hfl : (Instr.field 35 (.agg #[.string ByteArray.empty, .int .i64 0, .int .i64 6]) 2).run Tryd.prog wz = .ok (.int .i64 6) wz := by kernel_rfl
        have e0 := SZ.2.2.2.2.2.2.2.2.1
        have e1 := SZ.2.2.2.2.2.2.2.1
        clear d0 d1 bz SN
        go_wp2_with fail
        refine (lwBut_same (.slice ha_ hn_ hc_) (.slice Za Zn Zc) Lh MZ nh nh wz (Fk.view_of_owns (VoH.out _ SZ.1.out)) (Fk.view_of_owns (VoZ.out _ SZ.1.out)) (by omega) (Nat.le_trans HTZ.out.2 (by decide)) HPZ.out.2).mono ?_
        rintro e wf ⟨rfl, bf⟩
        have HBF := Fk.hide (Lw.bel_trans HB7.out (Lw.belNext bf SZ).out)
        clear e0 e1 bf SZ hfl
        go_wp2_with fail
        go_ret
        exact ⟨rfl, HBF.out⟩
      · have hcz' : (cZ == 0) = false := by simpa using hcz
        have HBF := Fk.hide (Lw.bel_trans HB7.out SN.1.out)
        clear SN
        go_wp2_with fail
        go_ret
        exact ⟨rfl, HBF.out⟩
    · have hcy' : (cY == 0) = false := by simpa using hcy
      have dy := SN.2.2.2.2.2.2.1
      have SD := HK.out wn.drew (Below.drew SN.1.out)
      go_wp2_with fail
      go_region
      clear dy hcy hcy'
      obtain ⟨wk, hwk⟩ : ∃ W, W = wn.drew := ⟨_, rfl⟩
      rw [← hwk] at SD ⊢
      clear hwk
      have SN := SD
      clear SD
      have d0 := SN.2.2.2.2.2.2.2.2.1
      have d1 := SN.2.2.2.2.2.2.2.2.2.1
      by_cases hcz : cZ = 0
      · have HPZ : Hid (Fk.rdOf MZ nh = (ByteArray.empty, 0, 6) ∧ Fk.but Lh nh nh = Fk.but MZ nh nh) := by have h0 := HAZ.out; rw [hcz] at h0; exact Fk.remove_read h0
        have HZD : Hid (textOut (Fk.rdOf MZ nh) = .agg #[.string ByteArray.empty, .int .i64 0, .int .i64 6]) := by show _ = _; rw [HPZ.out.1]; rfl
        subst hcz
        go_wp2_with fail
        refine (fsRead_impl (.slice Za Zn Zc) MZ nh b0 b1 b2 b3 b4 wk (Fk.view_of_owns (VoZ.out _ SN.1.out)) HTZ.out.1 (by have := HTZ.out.2; unfold maxLen; omega) (by unfold maxLen; omega) (HE7.out _ SN.1.out)).mono ?_
        rintro e wz ⟨rfl, bz⟩
        rw [HZD.out]
        have SZ := HK.out _ (Lw.belNext bz SN)
        have hfl : (Instr.field 35 (.agg #[.string ByteArray.empty, .int .i64 0, .int .i64 6]) 2).run Tryd.prog wz = .ok (.int .i64 6) wz := by kernel_rfl
        have e0 := SZ.2.2.2.2.2.2.2.2.1
        have e1 := SZ.2.2.2.2.2.2.2.1
        clear d0 d1 bz SN
        go_wp2_with fail
        refine (lwBut_same (.slice ha_ hn_ hc_) (.slice Za Zn Zc) Lh MZ nh nh wz (Fk.view_of_owns (VoH.out _ SZ.1.out)) (Fk.view_of_owns (VoZ.out _ SZ.1.out)) (by omega) (Nat.le_trans HTZ.out.2 (by decide)) HPZ.out.2).mono ?_
        rintro e wf ⟨rfl, bf⟩
        have HBF := Fk.hide (Lw.bel_trans HB7.out (Lw.belNext bf SZ).out)
        clear e0 e1 bf SZ hfl
        go_wp2_with fail
        go_ret
        exact ⟨rfl, HBF.out⟩
      · have hcz' : (cZ == 0) = false := by simpa using hcz
        have HBF := Fk.hide (Lw.bel_trans HB7.out SN.1.out)
        clear SN
        go_wp2_with fail
        go_ret
        exact ⟨rfl, HBF.out⟩
  · have hcx' : (cX == 0) = false := by simpa using hcx
    have dx := SN.2.2.2.1
    have SD := HK.out wn.drew (Below.drew SN.1.out)
    go_wp2_with fail
    go_region
    clear dx hcx hcx'
    obtain ⟨wk, hwk⟩ : ∃ W, W = wn.drew := ⟨_, rfl⟩
    rw [← hwk] at SD ⊢
    clear hwk
    have SN := SD
    clear SD
    by_cases hcy : cY = 0
    · have HPY : Hid (Fk.rdOf MY tg = Fk.rdOf Lg ng ∧ Fk.but Lg ng tg = Fk.but MY ng tg) := by have h0 := HAY.out; rw [hcy] at h0; exact Fk.rename_read h0
      have hcy' : (cY == 0) = true := by simpa using hcy
      clear hcy
      have HYD : Hid (textOut (Fk.rdOf MY tg) = .agg #[.string gt, .int .i64 gx, .int .i64 gk]) := by show _ = _; rw [HPY.out.1]; exact HGD.out
      have SD := HK.out wk.drew (Below.drew SN.1.out)
      go_wp2_with fail
      go_region_held3 (fun w' => Hid (Below W7.heap.size W7 w') ∧ w'.cell? ⟨q1, 0, none⟩ = some (.slice fa fn fc) ∧ w'.cell? ⟨q2, 0, none⟩ = some (.slice Xa Xn Xc) ∧ w'.cell? ⟨q2, 1, none⟩ = some (.int .i64 cX) ∧ w'.cell? ⟨q3, 0, none⟩ = some (.slice ga gn gc) ∧ w'.cell? ⟨q4, 0, none⟩ = some (.slice Ya Yn Yc) ∧ w'.cell? ⟨q4, 1, none⟩ = some (.int .i64 cY) ∧ w'.cell? ⟨q5, 0, none⟩ = some (.slice ha_ hn_ hc_) ∧ w'.cell? ⟨q6, 0, none⟩ = some (.slice Za Zn Zc) ∧ w'.cell? ⟨q6, 1, none⟩ = some (.int .i64 cZ) ∧ w'.cell? ⟨q7, 0, none⟩ = some (.string rt) ∧ w'.cell? ⟨q7, 1, none⟩ = some (.int .i64 ra) ∧ w'.cell? ⟨q7, 2, none⟩ = some (.int .i64 rc))
        (first | assumption)
        (first
          | (go_at_call 17; have hh := HMK; clear hh; refine (fsRead_impl (.slice ga gn gc) Lg ng b0 b1 b2 b3 b4 _ (Fk.view_of_owns (VoG.out _ (Lw.bel (by assumption)))) HFg.out (by unfold maxLen; omega) (by unfold maxLen; omega) (HE7.out _ (Lw.bel (by assumption)))).mono ?_; rintro e wn ⟨rfl, bn⟩; rw [HGD.out]; have BN := Lw.belNext bn (by assumption); have SN := HK.out _ BN; clear bn BN)
          | (go_at_call 17; refine (fsRead_impl (.slice Ya Yn Yc) MY tg b0 b1 b2 b3 b4 _ (Fk.view_of_owns (VoY.out _ (Lw.bel (by assumption)))) HTY.out.1 (by have := HTY.out.2; unfold maxLen; omega) (by unfold maxLen; omega) (HE7.out _ (Lw.bel (by assumption)))).mono ?_; rintro e wn ⟨rfl, bn⟩; rw [HYD.out]; have HMK := Fk.hide True.intro; have BN := Lw.belNext bn (by assumption); have SN := HK.out _ BN; clear bn BN)
          | (go_at_call 25; refine (lwBut_same (.slice ga gn gc) (.slice Ya Yn Yc) Lg MY ng tg _ (Fk.view_of_owns (VoG.out _ (Lw.bel (by assumption)))) (Fk.view_of_owns (VoY.out _ (Lw.bel (by assumption)))) (by omega) (Nat.le_trans HTY.out.2 (by decide)) HPY.out.2).mono ?_; rintro e wn ⟨rfl, bn⟩; have BN := Lw.belNext bn (by assumption); have SN := HK.out _ BN; clear bn BN))
      clear SD
      have d0 := SN.2.2.2.2.2.2.2.2.1
      have d1 := SN.2.2.2.2.2.2.2.2.2.1
      by_cases hcz : cZ = 0
      · have HPZ : Hid (Fk.rdOf MZ nh = (ByteArray.empty, 0, 6) ∧ Fk.but Lh nh nh = Fk.but MZ nh nh) := by have h0 := HAZ.out; rw [hcz] at h0; exact Fk.remove_read h0
        have HZD : Hid (textOut (Fk.rdOf MZ nh) = .agg #[.string ByteArray.empty, .int .i64 0, .int .i64 6]) := by show _ = _; rw [HPZ.out.1]; rfl
        subst hcz
        go_wp2_with fail
        refine (fsRead_impl (.slice Za Zn Zc) MZ nh b0 b1 b2 b3 b4 wn (Fk.view_of_owns (VoZ.out _ SN.1.out)) HTZ.out.1 (by have := HTZ.out.2; unfold maxLen; omega) (by unfold maxLen; omega) (HE7.out _ SN.1.out)).mono ?_
        rintro e wz ⟨rfl, bz⟩
        rw [HZD.out]
        have SZ := HK.out _ (Lw.belNext bz SN)
        have hfl : (Instr.field 35 (.agg #[.string ByteArray.empty, .int .i64 0, .int .i64 6]) 2).run Tryd.prog wz = .ok (.int .i64 6) wz := by kernel_rfl
        have e0 := SZ.2.2.2.2.2.2.2.2.1
        have e1 := SZ.2.2.2.2.2.2.2.1
        clear d0 d1 bz SN
        go_wp2_with fail
        refine (lwBut_same (.slice ha_ hn_ hc_) (.slice Za Zn Zc) Lh MZ nh nh wz (Fk.view_of_owns (VoH.out _ SZ.1.out)) (Fk.view_of_owns (VoZ.out _ SZ.1.out)) (by omega) (Nat.le_trans HTZ.out.2 (by decide)) HPZ.out.2).mono ?_
        rintro e wf ⟨rfl, bf⟩
        have HBF := Fk.hide (Lw.bel_trans HB7.out (Lw.belNext bf SZ).out)
        clear e0 e1 bf SZ hfl
        go_wp2_with fail
        go_ret
        exact ⟨rfl, HBF.out⟩
      · have hcz' : (cZ == 0) = false := by simpa using hcz
        have HBF := Fk.hide (Lw.bel_trans HB7.out SN.1.out)
        clear SN
        go_wp2_with fail
        go_ret
        exact ⟨rfl, HBF.out⟩
    · have hcy' : (cY == 0) = false := by simpa using hcy
      have dy := SN.2.2.2.2.2.2.1
      have SD := HK.out wk.drew (Below.drew SN.1.out)
      go_wp2_with fail
      go_region
      clear dy hcy hcy'
      obtain ⟨wk, hwk⟩ : ∃ W, W = wk.drew := ⟨_, rfl⟩
      rw [← hwk] at SD ⊢
      clear hwk
      have SN := SD
      clear SD
      have d0 := SN.2.2.2.2.2.2.2.2.1
      have d1 := SN.2.2.2.2.2.2.2.2.2.1
      by_cases hcz : cZ = 0
      · have HPZ : Hid (Fk.rdOf MZ nh = (ByteArray.empty, 0, 6) ∧ Fk.but Lh nh nh = Fk.but MZ nh nh) := by have h0 := HAZ.out; rw [hcz] at h0; exact Fk.remove_read h0
        have HZD : Hid (textOut (Fk.rdOf MZ nh) = .agg #[.string ByteArray.empty, .int .i64 0, .int .i64 6]) := by show _ = _; rw [HPZ.out.1]; rfl
        subst hcz
        go_wp2_with fail
        refine (fsRead_impl (.slice Za Zn Zc) MZ nh b0 b1 b2 b3 b4 wk (Fk.view_of_owns (VoZ.out _ SN.1.out)) HTZ.out.1 (by have := HTZ.out.2; unfold maxLen; omega) (by unfold maxLen; omega) (HE7.out _ SN.1.out)).mono ?_
        rintro e wz ⟨rfl, bz⟩
        rw [HZD.out]
        have SZ := HK.out _ (Lw.belNext bz SN)
        have hfl : (Instr.field 35 (.agg #[.string ByteArray.empty, .int .i64 0, .int .i64 6]) 2).run Tryd.prog wz = .ok (.int .i64 6) wz := by kernel_rfl
        have e0 := SZ.2.2.2.2.2.2.2.2.1
        have e1 := SZ.2.2.2.2.2.2.2.1
        clear d0 d1 bz SN
        go_wp2_with fail
        refine (lwBut_same (.slice ha_ hn_ hc_) (.slice Za Zn Zc) Lh MZ nh nh wz (Fk.view_of_owns (VoH.out _ SZ.1.out)) (Fk.view_of_owns (VoZ.out _ SZ.1.out)) (by omega) (Nat.le_trans HTZ.out.2 (by decide)) HPZ.out.2).mono ?_
        rintro e wf ⟨rfl, bf⟩
        have HBF := Fk.hide (Lw.bel_trans HB7.out (Lw.belNext bf SZ).out)
        clear e0 e1 bf SZ hfl
        go_wp2_with fail
        go_ret
        exact ⟨rfl, HBF.out⟩
      · have hcz' : (cZ == 0) = false := by simpa using hcz
        have HBF := Fk.hide (Lw.bel_trans HB7.out SN.1.out)
        clear SN
        go_wp2_with fail
        go_ret
        exact ⟨rfl, HBF.out⟩
end Go.Proofs.YtnoanlhbfgnipaaDoor

/- The walk of the law of promise 4. Proved: for all bytes the law of promise 4 returns true: a crash leaves of each of drawn right files its synced beginning, and some of what is behind that; of a file that was synced all; there are the same files; and program and specification answer alike. No condition. -/
import Derived.Test.YtlmbejldnfkfhaaDoorByteOpen
import Derived.Test.YtlmbejldnfkfhaaDoorJoined2
import Derived.Test.YtlmbejldnfkfhaaDoorJoined4
import Derived.Test.YtlmbejldnfkfhaaDoorJoined11
import Derived.Test.YtlmbejldnfkfhaaDoorJoined12
import Derived.Test.YtlmbejldnfkfhaaDoorJoined3
import Derived.Test.YtlmbejldnfkfhaaDoorFsSyncWalks
import Derived.Test.YtlmbejldnfkfhaaDoorFsSyncSpec
import Derived.Test.YtlmbejldnfkfhaaDoorJoined10
import Derived.Deep.RegionHeld3
import Derived.Test.YtlmbejldnfkfhaaDoorRows
import Derived.Test.YtlmbejldnfkfhaaDoorCards
import Derived.Test.YtlmbejldnfkfhaaDoorTie
import Derived.WalkKit
import Derived.ProofKit
import Derived.OpenShut
import Derived.ShutString
import Derived.Below
import Derived.OpenVars
import Derived.Stop.LaidTwo
import Derived.SevenTiedAt
import Derived.Handed
import Derived.ChangeSame
import Derived.ChangeVars
import Derived.JoinedOf
import Derived.LaidLaws
import Derived.LaidHandle
import Derived.Stop.Joined
namespace Go.Proofs.YtlmbejldnfkfhaaDoor
open Go.RowKit
set_option linter.unusedVariables false
set_option linter.unusedSimpArgs false
set_option maxRecDepth 20000 in
set_option maxHeartbeats 8000000 in
theorem fnCrash_walk (a0 : Option Addr) (n0 c0 : Nat) (m0 : n0 ≤ maxLen) (a1 : Option Addr) (n1 c1 : Nat) (m1 : n1 ≤ maxLen) (w : World) (g0 : Dk.Bytes w.heap.size w a0 n0) (g1 : Dk.Bytes w.heap.size w a1 n1) (b0 b1 b2 b3 b4 : Addr) (hE : Is.Errs w b0 b1 b2 b3 b4) :
    Calls Tryd.prog 3 #[.slice a0 n0 c0, .slice a1 n1 c1] w fun e w' => e = .returned (.bool true) ∧ Below w.heap.size w w' := by
  unfold maxLen at m0 m1
  by_cases hb0 : (1048576 : Int) < (n0 : Int)
  · go_enter Tryd.func3, Tryd.ntmps3
    go_wp2_with fail
    go_ret
    exact ⟨rfl, Below.refl _ _⟩
  by_cases hb1 : (1048576 : Int) < (n1 : Int)
  · go_enter Tryd.func3, Tryd.ntmps3
    go_wp2_with fail
    go_ret
    exact ⟨rfl, Below.refl _ _⟩
  have HC0 : Hid ((Below w.heap.size w w) ∧ (Is.Errs w b0 b1 b2 b3 b4) ∧ (Dk.Bytes w.heap.size w a0 n0) ∧ (Dk.Bytes w.heap.size w a1 n1) ∧ True) := ⟨Below.refl _ _, hE, g0, g1, trivial⟩
  clear g0 g1 hE
  go_enter Tryd.func3, Tryd.ntmps3
  go_wp2_with fail
  refine (drawFsCrash_any w.heap.size a0 n0 c0 w (Nat.le_refl _) (by omega) HC0.out.2.2.1).mono ?_
  rintro e w1 ⟨⟨u, Lf, vk, T, rfl, ho, hff, hlf, hok, hT⟩, bl⟩
  obtain ⟨fa, fn, fc, rfl⟩ := ho.slice'
  obtain ⟨ka, kc, rfl⟩ := hok.slice
  obtain ⟨kn, hkn⟩ : ∃ n, n = T.length := ⟨_, rfl⟩
  rw [← hkn] at hok ⊢
  have HKN := Fk.hide hkn
  clear hkn
  have HFf := Fk.hide hff
  clear hff
  have HT10 := Fk.hide hT
  clear hT
  obtain ⟨q1, hq⟩ : ∃ q, q = w1.heap.size := ⟨_, rfl⟩
  have HC1 : Hid ((Below w.heap.size w (w1.alloc (.cells #[.slice fa fn fc] 25))) ∧ (Is.Errs (w1.alloc (.cells #[.slice fa fn fc] 25)) b0 b1 b2 b3 b4) ∧ (Dk.Bytes w.heap.size (w1.alloc (.cells #[.slice fa fn fc] 25)) a0 n0) ∧ (Dk.Bytes w.heap.size (w1.alloc (.cells #[.slice fa fn fc] 25)) a1 n1) ∧ ((w1.alloc (.cells #[.slice fa fn fc] 25)).cell? ⟨q1, 0, none⟩ = some (.slice fa fn fc)) ∧ (Fk.Own (w1.alloc (.cells #[.slice fa fn fc] 25)) 0 48 (.slice fa fn fc) Lf) ∧ (Ik.View (w1.alloc (.cells #[.slice fa fn fc] 25)) (.slice ka kn kc) T) ∧ True) := by
    have bb : Below w.heap.size w (w1.alloc (.cells #[.slice fa fn fc] 25)) := bl.alloc bl.size _
    have bt : Below w1.heap.size w1 (w1.alloc (.cells #[.slice fa fn fc] 25)) := (Below.refl _ _).alloc (Nat.le_refl _) _
    subst hq
    exact ⟨Lw.bel_trans (HC0.out.1) bb, Is.Errs.below (HC0.out.2.1) bb, Dk.Bytes.below (HC0.out.2.2.1) bb, Dk.Bytes.below (HC0.out.2.2.2.1) bb, (by rw [Fk.cellTop _ _ _ _ _ rfl]; rfl), Fk.Own.below (Fk.Own.mono ho (Nat.zero_le _)) bt, Ik.View.below hok.view bt, trivial⟩
  obtain ⟨W1, hW⟩ : ∃ W, W = (w1.alloc (.cells #[.slice fa fn fc] 25)) := ⟨_, rfl⟩
  have HW1 := Fk.hide hW
  have HQ1 := Fk.hide hq
  rw [← hW] at HC1
  clear hW hq bl ho hok HC0
  go_wp2_with fail
  rw [← HW1.out, ← HQ1.out]
  clear HW1 HQ1
  obtain ⟨MX, hMX⟩ : ∃ M, M = Ik.crash Lf T := ⟨_, rfl⟩
  refine (fsCrash_impl (.slice fa fn fc) (.slice ka kn kc) Lf T W1 (Fk.view_of_owns HC1.out.2.2.2.2.2.1) HFf.out.1 (by omega) (Dk.small_at HFf.out) HC1.out.2.2.2.2.2.2.1 (by have := HT10.out; omega)).mono ?_
  rintro e w2 ⟨⟨u, rfl, ho⟩, bl⟩
  rw [← hMX] at ho
  have HMX := Fk.hide hMX
  clear hMX
  obtain ⟨Xa, Xn, Xc, rfl⟩ := ho.slice'
  obtain ⟨q2, hq⟩ : ∃ q, q = w2.heap.size := ⟨_, rfl⟩
  have HC2 : Hid ((Below w.heap.size w (w2.alloc (.cells #[.slice Xa Xn Xc] 25))) ∧ (Is.Errs (w2.alloc (.cells #[.slice Xa Xn Xc] 25)) b0 b1 b2 b3 b4) ∧ (Dk.Bytes w.heap.size (w2.alloc (.cells #[.slice Xa Xn Xc] 25)) a0 n0) ∧ (Dk.Bytes w.heap.size (w2.alloc (.cells #[.slice Xa Xn Xc] 25)) a1 n1) ∧ ((w2.alloc (.cells #[.slice Xa Xn Xc] 25)).cell? ⟨q1, 0, none⟩ = some (.slice fa fn fc)) ∧ (Fk.Own (w2.alloc (.cells #[.slice Xa Xn Xc] 25)) 0 48 (.slice fa fn fc) Lf) ∧ (Ik.View (w2.alloc (.cells #[.slice Xa Xn Xc] 25)) (.slice ka kn kc) T) ∧ ((w2.alloc (.cells #[.slice Xa Xn Xc] 25)).cell? ⟨q2, 0, none⟩ = some (.slice Xa Xn Xc)) ∧ (Fk.Own (w2.alloc (.cells #[.slice Xa Xn Xc] 25)) 0 48 (.slice Xa Xn Xc) MX) ∧ True) := by
    have bb : Below W1.heap.size W1 (w2.alloc (.cells #[.slice Xa Xn Xc] 25)) := bl.alloc bl.size _
    have bt : Below w2.heap.size w2 (w2.alloc (.cells #[.slice Xa Xn Xc] 25)) := (Below.refl _ _).alloc (Nat.le_refl _) _
    subst hq
    exact ⟨Lw.bel_trans (HC1.out.1) bb, Is.Errs.below (HC1.out.2.1) bb, Dk.Bytes.below (HC1.out.2.2.1) bb, Dk.Bytes.below (HC1.out.2.2.2.1) bb, Lw.cell_below bb (HC1.out.2.2.2.2.1), Fk.Own.below (HC1.out.2.2.2.2.2.1) bb, Ik.View.below (HC1.out.2.2.2.2.2.2.1) bb, (by rw [Fk.cellTop _ _ _ _ _ rfl]; rfl), Fk.Own.below (Fk.Own.mono ho (Nat.zero_le _)) bt, trivial⟩
  obtain ⟨W2, hW⟩ : ∃ W, W = (w2.alloc (.cells #[.slice Xa Xn Xc] 25)) := ⟨_, rfl⟩
  have HW2 := Fk.hide hW
  have HQ2 := Fk.hide hq
  rw [← hW] at HC2
  clear hW hq bl ho HC1
  go_wp2_with fail
  rw [← HW2.out, ← HQ2.out]
  clear HW2 HQ2
  refine (drawFsSync_any w.heap.size a1 n1 c1 W2 (HC2.out.1).size (by omega) HC2.out.2.2.2.1).mono ?_
  rintro e w3 ⟨⟨u, Lg, ng, rfl, ho, hfg, hlg, hng⟩, bl⟩
  obtain ⟨ga, gn, gc, rfl⟩ := ho.slice'
  have HFg := Fk.hide hfg.1
  clear hfg
  obtain ⟨q3, hq⟩ : ∃ q, q = w3.heap.size := ⟨_, rfl⟩
  have HC3 : Hid ((Below w.heap.size w (w3.alloc (.cells #[.slice ga gn gc] 25))) ∧ (Is.Errs (w3.alloc (.cells #[.slice ga gn gc] 25)) b0 b1 b2 b3 b4) ∧ (Dk.Bytes w.heap.size (w3.alloc (.cells #[.slice ga gn gc] 25)) a0 n0) ∧ (Dk.Bytes w.heap.size (w3.alloc (.cells #[.slice ga gn gc] 25)) a1 n1) ∧ ((w3.alloc (.cells #[.slice ga gn gc] 25)).cell? ⟨q1, 0, none⟩ = some (.slice fa fn fc)) ∧ (Fk.Own (w3.alloc (.cells #[.slice ga gn gc] 25)) 0 48 (.slice fa fn fc) Lf) ∧ (Ik.View (w3.alloc (.cells #[.slice ga gn gc] 25)) (.slice ka kn kc) T) ∧ ((w3.alloc (.cells #[.slice ga gn gc] 25)).cell? ⟨q2, 0, none⟩ = some (.slice Xa Xn Xc)) ∧ (Fk.Own (w3.alloc (.cells #[.slice ga gn gc] 25)) 0 48 (.slice Xa Xn Xc) MX) ∧ ((w3.alloc (.cells #[.slice ga gn gc] 25)).cell? ⟨q3, 0, none⟩ = some (.slice ga gn gc)) ∧ (Fk.Own (w3.alloc (.cells #[.slice ga gn gc] 25)) 0 48 (.slice ga gn gc) Lg) ∧ True) := by
    have bb : Below W2.heap.size W2 (w3.alloc (.cells #[.slice ga gn gc] 25)) := bl.alloc bl.size _
    have bt : Below w3.heap.size w3 (w3.alloc (.cells #[.slice ga gn gc] 25)) := (Below.refl _ _).alloc (Nat.le_refl _) _
    subst hq
    exact ⟨Lw.bel_trans (HC2.out.1) bb, Is.Errs.below (HC2.out.2.1) bb, Dk.Bytes.below (HC2.out.2.2.1) bb, Dk.Bytes.below (HC2.out.2.2.2.1) bb, Lw.cell_below bb (HC2.out.2.2.2.2.1), Fk.Own.below (HC2.out.2.2.2.2.2.1) bb, Ik.View.below (HC2.out.2.2.2.2.2.2.1) bb, Lw.cell_below bb (HC2.out.2.2.2.2.2.2.2.1), Fk.Own.below (HC2.out.2.2.2.2.2.2.2.2.1) bb, (by rw [Fk.cellTop _ _ _ _ _ rfl]; rfl), Fk.Own.below (Fk.Own.mono ho (Nat.zero_le _)) bt, trivial⟩
  obtain ⟨W3, hW⟩ : ∃ W, W = (w3.alloc (.cells #[.slice ga gn gc] 25)) := ⟨_, rfl⟩
  have HW3 := Fk.hide hW
  have HQ3 := Fk.hide hq
  rw [← hW] at HC3
  clear hW hq bl ho HC2
  go_wp2_with fail
  rw [← HW3.out, ← HQ3.out]
  clear HW3 HQ3
  refine (fsSync_impl _ Lg ng b0 b1 b2 b3 b4 W3 (Fk.view_of_owns HC3.out.2.2.2.2.2.2.2.2.2.2.1) HFg.out (by unfold maxLen; omega) (by unfold maxLen; omega) HC3.out.2.1).mono ?_
  rintro e w4 ⟨⟨u, MY, cY, rfl, ho, ha⟩, bl⟩
  obtain ⟨Ya, Yn, Yc, rfl⟩ := ho.slice'
  have HAY := Fk.hide ha
  clear ha
  obtain ⟨q4, hq⟩ : ∃ q, q = w4.heap.size := ⟨_, rfl⟩
  have HC4 : Hid ((Below w.heap.size w (w4.alloc (.cells #[.slice Ya Yn Yc, .int .i64 cY] 33))) ∧ (Is.Errs (w4.alloc (.cells #[.slice Ya Yn Yc, .int .i64 cY] 33)) b0 b1 b2 b3 b4) ∧ (Dk.Bytes w.heap.size (w4.alloc (.cells #[.slice Ya Yn Yc, .int .i64 cY] 33)) a0 n0) ∧ (Dk.Bytes w.heap.size (w4.alloc (.cells #[.slice Ya Yn Yc, .int .i64 cY] 33)) a1 n1) ∧ ((w4.alloc (.cells #[.slice Ya Yn Yc, .int .i64 cY] 33)).cell? ⟨q1, 0, none⟩ = some (.slice fa fn fc)) ∧ (Fk.Own (w4.alloc (.cells #[.slice Ya Yn Yc, .int .i64 cY] 33)) 0 48 (.slice fa fn fc) Lf) ∧ (Ik.View (w4.alloc (.cells #[.slice Ya Yn Yc, .int .i64 cY] 33)) (.slice ka kn kc) T) ∧ ((w4.alloc (.cells #[.slice Ya Yn Yc, .int .i64 cY] 33)).cell? ⟨q2, 0, none⟩ = some (.slice Xa Xn Xc)) ∧ (Fk.Own (w4.alloc (.cells #[.slice Ya Yn Yc, .int .i64 cY] 33)) 0 48 (.slice Xa Xn Xc) MX) ∧ ((w4.alloc (.cells #[.slice Ya Yn Yc, .int .i64 cY] 33)).cell? ⟨q3, 0, none⟩ = some (.slice ga gn gc)) ∧ (Fk.Own (w4.alloc (.cells #[.slice Ya Yn Yc, .int .i64 cY] 33)) 0 48 (.slice ga gn gc) Lg) ∧ ((w4.alloc (.cells #[.slice Ya Yn Yc, .int .i64 cY] 33)).cell? ⟨q4, 0, none⟩ = some (.slice Ya Yn Yc)) ∧ ((w4.alloc (.cells #[.slice Ya Yn Yc, .int .i64 cY] 33)).cell? ⟨q4, 1, none⟩ = some (.int .i64 cY)) ∧ (Fk.Own (w4.alloc (.cells #[.slice Ya Yn Yc, .int .i64 cY] 33)) 0 48 (.slice Ya Yn Yc) MY) ∧ True) := by
    have bb : Below W3.heap.size W3 (w4.alloc (.cells #[.slice Ya Yn Yc, .int .i64 cY] 33)) := bl.alloc bl.size _
    have bt : Below w4.heap.size w4 (w4.alloc (.cells #[.slice Ya Yn Yc, .int .i64 cY] 33)) := (Below.refl _ _).alloc (Nat.le_refl _) _
    subst hq
    exact ⟨Lw.bel_trans (HC3.out.1) bb, Is.Errs.below (HC3.out.2.1) bb, Dk.Bytes.below (HC3.out.2.2.1) bb, Dk.Bytes.below (HC3.out.2.2.2.1) bb, Lw.cell_below bb (HC3.out.2.2.2.2.1), Fk.Own.below (HC3.out.2.2.2.2.2.1) bb, Ik.View.below (HC3.out.2.2.2.2.2.2.1) bb, Lw.cell_below bb (HC3.out.2.2.2.2.2.2.2.1), Fk.Own.below (HC3.out.2.2.2.2.2.2.2.2.1) bb, Lw.cell_below bb (HC3.out.2.2.2.2.2.2.2.2.2.1), Fk.Own.below (HC3.out.2.2.2.2.2.2.2.2.2.2.1) bb, (by rw [Fk.cellTop _ _ _ _ _ rfl]; rfl), (by rw [Fk.cellTop _ _ _ _ _ rfl]; rfl), Fk.Own.below (Fk.Own.mono ho (Nat.zero_le _)) bt, trivial⟩
  obtain ⟨W4, hW⟩ : ∃ W, W = (w4.alloc (.cells #[.slice Ya Yn Yc, .int .i64 cY] 33)) := ⟨_, rfl⟩
  have HW4 := Fk.hide hW
  have HQ4 := Fk.hide hq
  rw [← hW] at HC4
  clear hW hq bl ho HC3
  go_wp2_with fail
  rw [← HW4.out, ← HQ4.out]
  clear HW4 HQ4
  refine (drawFsCut_any w.heap.size a1 n1 c1 W4 (HC4.out.1).size (by omega) HC4.out.2.2.2.1).mono ?_
  rintro e w5 ⟨⟨u, Lh, nh, sh, rfl, ho, hfh, hlh, hnh, hsh⟩, bl⟩
  obtain ⟨ha_, hn_, hc_, rfl⟩ := ho.slice'
  have HFh := Fk.hide hfh.1
  clear hfh
  have HSH : Hid ((Lit.int .i64 sh).wf = true) := Dk.wf_small hsh.1 hsh.2
  clear hsh
  obtain ⟨q5, hq⟩ : ∃ q, q = w5.heap.size := ⟨_, rfl⟩
  have HC5 : Hid ((Below w.heap.size w (w5.alloc (.cells #[.slice ha_ hn_ hc_] 25))) ∧ (Is.Errs (w5.alloc (.cells #[.slice ha_ hn_ hc_] 25)) b0 b1 b2 b3 b4) ∧ (Dk.Bytes w.heap.size (w5.alloc (.cells #[.slice ha_ hn_ hc_] 25)) a0 n0) ∧ (Dk.Bytes w.heap.size (w5.alloc (.cells #[.slice ha_ hn_ hc_] 25)) a1 n1) ∧ ((w5.alloc (.cells #[.slice ha_ hn_ hc_] 25)).cell? ⟨q1, 0, none⟩ = some (.slice fa fn fc)) ∧ (Fk.Own (w5.alloc (.cells #[.slice ha_ hn_ hc_] 25)) 0 48 (.slice fa fn fc) Lf) ∧ (Ik.View (w5.alloc (.cells #[.slice ha_ hn_ hc_] 25)) (.slice ka kn kc) T) ∧ ((w5.alloc (.cells #[.slice ha_ hn_ hc_] 25)).cell? ⟨q2, 0, none⟩ = some (.slice Xa Xn Xc)) ∧ (Fk.Own (w5.alloc (.cells #[.slice ha_ hn_ hc_] 25)) 0 48 (.slice Xa Xn Xc) MX) ∧ ((w5.alloc (.cells #[.slice ha_ hn_ hc_] 25)).cell? ⟨q3, 0, none⟩ = some (.slice ga gn gc)) ∧ (Fk.Own (w5.alloc (.cells #[.slice ha_ hn_ hc_] 25)) 0 48 (.slice ga gn gc) Lg) ∧ ((w5.alloc (.cells #[.slice ha_ hn_ hc_] 25)).cell? ⟨q4, 0, none⟩ = some (.slice Ya Yn Yc)) ∧ ((w5.alloc (.cells #[.slice ha_ hn_ hc_] 25)).cell? ⟨q4, 1, none⟩ = some (.int .i64 cY)) ∧ (Fk.Own (w5.alloc (.cells #[.slice ha_ hn_ hc_] 25)) 0 48 (.slice Ya Yn Yc) MY) ∧ ((w5.alloc (.cells #[.slice ha_ hn_ hc_] 25)).cell? ⟨q5, 0, none⟩ = some (.slice ha_ hn_ hc_)) ∧ (Fk.Own (w5.alloc (.cells #[.slice ha_ hn_ hc_] 25)) 0 48 (.slice ha_ hn_ hc_) Lh) ∧ True) := by
    have bb : Below W4.heap.size W4 (w5.alloc (.cells #[.slice ha_ hn_ hc_] 25)) := bl.alloc bl.size _
    have bt : Below w5.heap.size w5 (w5.alloc (.cells #[.slice ha_ hn_ hc_] 25)) := (Below.refl _ _).alloc (Nat.le_refl _) _
    subst hq
    exact ⟨Lw.bel_trans (HC4.out.1) bb, Is.Errs.below (HC4.out.2.1) bb, Dk.Bytes.below (HC4.out.2.2.1) bb, Dk.Bytes.below (HC4.out.2.2.2.1) bb, Lw.cell_below bb (HC4.out.2.2.2.2.1), Fk.Own.below (HC4.out.2.2.2.2.2.1) bb, Ik.View.below (HC4.out.2.2.2.2.2.2.1) bb, Lw.cell_below bb (HC4.out.2.2.2.2.2.2.2.1), Fk.Own.below (HC4.out.2.2.2.2.2.2.2.2.1) bb, Lw.cell_below bb (HC4.out.2.2.2.2.2.2.2.2.2.1), Fk.Own.below (HC4.out.2.2.2.2.2.2.2.2.2.2.1) bb, Lw.cell_below bb (HC4.out.2.2.2.2.2.2.2.2.2.2.2.1), Lw.cell_below bb (HC4.out.2.2.2.2.2.2.2.2.2.2.2.2.1), Fk.Own.below (HC4.out.2.2.2.2.2.2.2.2.2.2.2.2.2.1) bb, (by rw [Fk.cellTop _ _ _ _ _ rfl]; rfl), Fk.Own.below (Fk.Own.mono ho (Nat.zero_le _)) bt, trivial⟩
  obtain ⟨W5, hW⟩ : ∃ W, W = (w5.alloc (.cells #[.slice ha_ hn_ hc_] 25)) := ⟨_, rfl⟩
  have HW5 := Fk.hide hW
  have HQ5 := Fk.hide hq
  rw [← hW] at HC5
  clear hW hq bl ho HC4
  go_wp2_with fail
  rw [← HW5.out, ← HQ5.out]
  clear HW5 HQ5
  refine (fsCut_impl _ Lh nh sh b0 b1 b2 b3 b4 W5 (Fk.view_of_owns HC5.out.2.2.2.2.2.2.2.2.2.2.2.2.2.2.2.1) HFh.out (by unfold maxLen; omega) (by unfold maxLen; omega) HC5.out.2.1 HSH.out).mono ?_
  rintro e w6 ⟨⟨u, MZ, cZ, rfl, ho, ha⟩, bl⟩
  obtain ⟨Za, Zn, Zc, rfl⟩ := ho.slice'
  have HAZ := Fk.hide ha
  clear ha
  obtain ⟨q6, hq⟩ : ∃ q, q = w6.heap.size := ⟨_, rfl⟩
  have HC6 : Hid ((Below w.heap.size w (w6.alloc (.cells #[.slice Za Zn Zc, .int .i64 cZ] 33))) ∧ (Is.Errs (w6.alloc (.cells #[.slice Za Zn Zc, .int .i64 cZ] 33)) b0 b1 b2 b3 b4) ∧ (Dk.Bytes w.heap.size (w6.alloc (.cells #[.slice Za Zn Zc, .int .i64 cZ] 33)) a0 n0) ∧ (Dk.Bytes w.heap.size (w6.alloc (.cells #[.slice Za Zn Zc, .int .i64 cZ] 33)) a1 n1) ∧ ((w6.alloc (.cells #[.slice Za Zn Zc, .int .i64 cZ] 33)).cell? ⟨q1, 0, none⟩ = some (.slice fa fn fc)) ∧ (Fk.Own (w6.alloc (.cells #[.slice Za Zn Zc, .int .i64 cZ] 33)) 0 48 (.slice fa fn fc) Lf) ∧ (Ik.View (w6.alloc (.cells #[.slice Za Zn Zc, .int .i64 cZ] 33)) (.slice ka kn kc) T) ∧ ((w6.alloc (.cells #[.slice Za Zn Zc, .int .i64 cZ] 33)).cell? ⟨q2, 0, none⟩ = some (.slice Xa Xn Xc)) ∧ (Fk.Own (w6.alloc (.cells #[.slice Za Zn Zc, .int .i64 cZ] 33)) 0 48 (.slice Xa Xn Xc) MX) ∧ ((w6.alloc (.cells #[.slice Za Zn Zc, .int .i64 cZ] 33)).cell? ⟨q3, 0, none⟩ = some (.slice ga gn gc)) ∧ (Fk.Own (w6.alloc (.cells #[.slice Za Zn Zc, .int .i64 cZ] 33)) 0 48 (.slice ga gn gc) Lg) ∧ ((w6.alloc (.cells #[.slice Za Zn Zc, .int .i64 cZ] 33)).cell? ⟨q4, 0, none⟩ = some (.slice Ya Yn Yc)) ∧ ((w6.alloc (.cells #[.slice Za Zn Zc, .int .i64 cZ] 33)).cell? ⟨q4, 1, none⟩ = some (.int .i64 cY)) ∧ (Fk.Own (w6.alloc (.cells #[.slice Za Zn Zc, .int .i64 cZ] 33)) 0 48 (.slice Ya Yn Yc) MY) ∧ ((w6.alloc (.cells #[.slice Za Zn Zc, .int .i64 cZ] 33)).cell? ⟨q5, 0, none⟩ = some (.slice ha_ hn_ hc_)) ∧ (Fk.Own (w6.alloc (.cells #[.slice Za Zn Zc, .int .i64 cZ] 33)) 0 48 (.slice ha_ hn_ hc_) Lh) ∧ ((w6.alloc (.cells #[.slice Za Zn Zc, .int .i64 cZ] 33)).cell? ⟨q6, 0, none⟩ = some (.slice Za Zn Zc)) ∧ ((w6.alloc (.cells #[.slice Za Zn Zc, .int .i64 cZ] 33)).cell? ⟨q6, 1, none⟩ = some (.int .i64 cZ)) ∧ (Fk.Own (w6.alloc (.cells #[.slice Za Zn Zc, .int .i64 cZ] 33)) 0 48 (.slice Za Zn Zc) MZ) ∧ True) := by
    have bb : Below W5.heap.size W5 (w6.alloc (.cells #[.slice Za Zn Zc, .int .i64 cZ] 33)) := bl.alloc bl.size _
    have bt : Below w6.heap.size w6 (w6.alloc (.cells #[.slice Za Zn Zc, .int .i64 cZ] 33)) := (Below.refl _ _).alloc (Nat.le_refl _) _
    subst hq
    exact ⟨Lw.bel_trans (HC5.out.1) bb, Is.Errs.below (HC5.out.2.1) bb, Dk.Bytes.below (HC5.out.2.2.1) bb, Dk.Bytes.below (HC5.out.2.2.2.1) bb, Lw.cell_below bb (HC5.out.2.2.2.2.1), Fk.Own.below (HC5.out.2.2.2.2.2.1) bb, Ik.View.below (HC5.out.2.2.2.2.2.2.1) bb, Lw.cell_below bb (HC5.out.2.2.2.2.2.2.2.1), Fk.Own.below (HC5.out.2.2.2.2.2.2.2.2.1) bb, Lw.cell_below bb (HC5.out.2.2.2.2.2.2.2.2.2.1), Fk.Own.below (HC5.out.2.2.2.2.2.2.2.2.2.2.1) bb, Lw.cell_below bb (HC5.out.2.2.2.2.2.2.2.2.2.2.2.1), Lw.cell_below bb (HC5.out.2.2.2.2.2.2.2.2.2.2.2.2.1), Fk.Own.below (HC5.out.2.2.2.2.2.2.2.2.2.2.2.2.2.1) bb, Lw.cell_below bb (HC5.out.2.2.2.2.2.2.2.2.2.2.2.2.2.2.1), Fk.Own.below (HC5.out.2.2.2.2.2.2.2.2.2.2.2.2.2.2.2.1) bb, (by rw [Fk.cellTop _ _ _ _ _ rfl]; rfl), (by rw [Fk.cellTop _ _ _ _ _ rfl]; rfl), Fk.Own.below (Fk.Own.mono ho (Nat.zero_le _)) bt, trivial⟩
  obtain ⟨W6, hW⟩ : ∃ W, W = (w6.alloc (.cells #[.slice Za Zn Zc, .int .i64 cZ] 33)) := ⟨_, rfl⟩
  have HW6 := Fk.hide hW
  have HQ6 := Fk.hide hq
  rw [← hW] at HC6
  clear hW hq bl ho HC5
  go_wp2_with fail
  rw [← HW6.out, ← HQ6.out]
  clear HW6 HQ6
  have HK : Hid (∀ w', Hid (Below W6.heap.size W6 w') → Hid (Below W6.heap.size W6 w') ∧ w'.cell? ⟨q1, 0, none⟩ = some (.slice fa fn fc) ∧ w'.cell? ⟨q2, 0, none⟩ = some (.slice Xa Xn Xc) ∧ w'.cell? ⟨q3, 0, none⟩ = some (.slice ga gn gc) ∧ w'.cell? ⟨q4, 0, none⟩ = some (.slice Ya Yn Yc) ∧ w'.cell? ⟨q4, 1, none⟩ = some (.int .i64 cY) ∧ w'.cell? ⟨q5, 0, none⟩ = some (.slice ha_ hn_ hc_) ∧ w'.cell? ⟨q6, 0, none⟩ = some (.slice Za Zn Zc) ∧ w'.cell? ⟨q6, 1, none⟩ = some (.int .i64 cZ)) := fun w' hb => ⟨hb, Lw.cell_below hb.out (HC6.out.2.2.2.2.1), Lw.cell_below hb.out (HC6.out.2.2.2.2.2.2.2.1), Lw.cell_below hb.out (HC6.out.2.2.2.2.2.2.2.2.2.1), Lw.cell_below hb.out (HC6.out.2.2.2.2.2.2.2.2.2.2.2.1), Lw.cell_below hb.out (HC6.out.2.2.2.2.2.2.2.2.2.2.2.2.1), Lw.cell_below hb.out (HC6.out.2.2.2.2.2.2.2.2.2.2.2.2.2.2.1), Lw.cell_below hb.out (HC6.out.2.2.2.2.2.2.2.2.2.2.2.2.2.2.2.2.1), Lw.cell_below hb.out (HC6.out.2.2.2.2.2.2.2.2.2.2.2.2.2.2.2.2.2.1)⟩
  have HK0 := HK.out W6 (Below.refl _ _)
  have HKD := HK.out W6.drew (Below.drew (Below.refl _ _))
  have VoF : Hid (∀ w', Below W6.heap.size W6 w' → Fk.Own w' 0 48 (.slice fa fn fc) Lf) := fun w' hb => Fk.Own.below (HC6.out.2.2.2.2.2.1) hb
  have VoX : Hid (∀ w', Below W6.heap.size W6 w' → Fk.Own w' 0 48 (.slice Xa Xn Xc) MX) := fun w' hb => Fk.Own.below (HC6.out.2.2.2.2.2.2.2.2.1) hb
  have VoG : Hid (∀ w', Below W6.heap.size W6 w' → Fk.Own w' 0 48 (.slice ga gn gc) Lg) := fun w' hb => Fk.Own.below (HC6.out.2.2.2.2.2.2.2.2.2.2.1) hb
  have VoY : Hid (∀ w', Below W6.heap.size W6 w' → Fk.Own w' 0 48 (.slice Ya Yn Yc) MY) := fun w' hb => Fk.Own.below (HC6.out.2.2.2.2.2.2.2.2.2.2.2.2.2.1) hb
  have VoH : Hid (∀ w', Below W6.heap.size W6 w' → Fk.Own w' 0 48 (.slice ha_ hn_ hc_) Lh) := fun w' hb => Fk.Own.below (HC6.out.2.2.2.2.2.2.2.2.2.2.2.2.2.2.2.1) hb
  have VoZ : Hid (∀ w', Below W6.heap.size W6 w' → Fk.Own w' 0 48 (.slice Za Zn Zc) MZ) := fun w' hb => Fk.Own.below (HC6.out.2.2.2.2.2.2.2.2.2.2.2.2.2.2.2.2.2.2.1) hb
  have VK : Hid (∀ w', Below W6.heap.size W6 w' → Ik.View w' (.slice ka kn kc) T) := fun w' hb => Ik.View.below (HC6.out.2.2.2.2.2.2.1) hb
  have HE7 : Hid (∀ w', Below W6.heap.size W6 w' → Is.Errs w' b0 b1 b2 b3 b4) := fun w' hb => Is.Errs.below (HC6.out.2.1) hb
  have HB7 : Hid (Below w.heap.size w W6) := HC6.out.1
  clear HC6
  have kcF := HK0.2.1
  have kcX := HK0.2.2.1
  have kcG := HK0.2.2.2.1
  have kcY0 := HK0.2.2.2.2.1
  have kcY1 := HK0.2.2.2.2.2.1
  have kcH := HK0.2.2.2.2.2.2.1
  have kcZ0 := HK0.2.2.2.2.2.2.2.1
  have kcZ1 := HK0.2.2.2.2.2.2.2.2
  have HRY := Fk.hide (Fk.sync_right HAY.out)
  have HTY := Fk.hide (Fk.ans_fits HRY.out)
  have HRZ := Fk.hide (Fk.cut_right HAZ.out)
  have HTZ := Fk.hide (Fk.ans_fits HRZ.out)
  have HMXL : Hid (MX.length ≤ 2000 ∧ Fk.Fits MX) := by rw [HMX.out, Ik.crash_short (by have := HT10.out; omega)]; exact ⟨by rw [Ik.crs_len]; exact hlf, Ik.crs_fits HFf.out.1 T⟩
  go_region_held3 (fun w' => Hid (Below W6.heap.size W6 w') ∧ w'.cell? ⟨q1, 0, none⟩ = some (.slice fa fn fc) ∧ w'.cell? ⟨q2, 0, none⟩ = some (.slice Xa Xn Xc) ∧ w'.cell? ⟨q3, 0, none⟩ = some (.slice ga gn gc) ∧ w'.cell? ⟨q4, 0, none⟩ = some (.slice Ya Yn Yc) ∧ w'.cell? ⟨q4, 1, none⟩ = some (.int .i64 cY) ∧ w'.cell? ⟨q5, 0, none⟩ = some (.slice ha_ hn_ hc_) ∧ w'.cell? ⟨q6, 0, none⟩ = some (.slice Za Zn Zc) ∧ w'.cell? ⟨q6, 1, none⟩ = some (.int .i64 cZ))
    (first | assumption)
    (first
      | (go_at_call 18; refine (lwFs_same (.slice Za Zn Zc) (.slice vaZ vnZ vcZ) MZ cZ _ (Fk.view_of_owns (VoZ.out _ (Lw.bel (by assumption)))) (HVZ.out) HTZ.out.1 HTZ.out.2 HRZ.out.1).mono ?_; rintro e wn ⟨rfl, bn⟩; have BN := Lw.belNext bn (by assumption); have SN := HK.out _ BN; clear bn BN)
      | (go_at_call 18; refine (lwFs_same (.slice Ya Yn Yc) (.slice vaY vnY vcY) MY cY _ (Fk.view_of_owns (VoY.out _ (Lw.bel (by assumption)))) (HVY.out) HTY.out.1 HTY.out.2 HRY.out.1).mono ?_; rintro e wn ⟨rfl, bn⟩; have BN := Lw.belNext bn (by assumption); have SN := HK.out _ BN; clear bn BN)
      | (go_at_call 17; refine (fsCrash_spec (.slice fa fn fc) (.slice ka kn kc) Lf T _ (Fk.view_of_owns (VoF.out _ (Lw.bel (by assumption)))) (VoF.out _ (Lw.bel (by assumption))).shut HFf.out.1 (by omega) (VK.out _ (Lw.bel (by assumption))) (by have := HT10.out; omega)).mono ?_; rintro e wn ⟨⟨v, rfl, ho⟩, bn⟩; rw [← HMX.out] at ho; obtain ⟨vaX, vnX, vcX, rfl⟩ := ho.slice'; have HVX := Fk.hide (Fk.view_of_owns ho); clear ho; have BN := Lw.belNext bn (by assumption); have SN := HK.out _ BN; clear bn BN)
      | (go_at_call 16; refine (lwFiles_same (.slice Xa Xn Xc) (.slice vaX vnX vcX) MX _ (Fk.view_of_owns (VoX.out _ (Lw.bel (by assumption)))) (HVX.out) (by have := HMXL.out.1; omega)).mono ?_; rintro e wn ⟨rfl, bn⟩; have BN := Lw.belNext bn (by assumption); have SN := HK.out _ BN; clear bn BN)
      | (go_at_call 19; refine (fsSync_spec (.slice ga gn gc) Lg ng _ (Fk.view_of_owns (VoG.out _ (Lw.bel (by assumption)))) (VoG.out _ (Lw.bel (by assumption))).shut HFg.out (by unfold maxLen; omega) (by unfold maxLen; omega)).mono ?_; rintro e wn ⟨⟨v, MM, cc, rfl, ho, ha⟩, bn⟩; obtain ⟨rfl, rfl⟩ := Fk.Ans.one HAY.out ha; obtain ⟨vaY, vnY, vcY, rfl⟩ := ho.slice'; have HVY := Fk.hide (Fk.view_of_owns ho); clear ho ha; have BN := Lw.belNext bn (by assumption); have SN := HK.out _ BN; clear bn BN)
      | (go_at_call 20; refine (fsCut_spec (.slice ha_ hn_ hc_) Lh nh sh _ (Fk.view_of_owns (VoH.out _ (Lw.bel (by assumption)))) (VoH.out _ (Lw.bel (by assumption))).shut HFh.out (by unfold maxLen; omega) (by unfold maxLen; omega) HSH.out).mono ?_; rintro e wn ⟨⟨v, MM, cc, rfl, ho, ha⟩, bn⟩; obtain ⟨rfl, rfl⟩ := Fk.Ans.one HAZ.out ha; obtain ⟨vaZ, vnZ, vcZ, rfl⟩ := ho.slice'; have HVZ := Fk.hide (Fk.view_of_owns ho); clear ho ha; have BN := Lw.belNext bn (by assumption); have SN := HK.out _ BN; clear bn BN)
      | (go_at_call 23; refine (fsNames_spec (.slice Xa Xn Xc) MX _ (Fk.view_of_owns (VoX.out _ (Lw.bel (by assumption)))) HMXL.out.2 (by have := HMXL.out.1; omega)).mono ?_; rintro e wn ⟨⟨v, rfl, ho⟩, bn⟩; obtain ⟨nb, ncb, rfl⟩ := ho.slice; have HN2 := Fk.hide ho.view; have HN1b := Fk.hide (HN1.out.below bn); clear ho; have BN := Lw.belNext bn (by assumption); have SN := HK.out _ BN; clear bn BN)
      | (go_at_call 22; refine (fsNames_impl (.slice Xa Xn Xc) MX _ (Fk.view_of_owns (VoX.out _ (Lw.bel (by assumption)))) HMXL.out.2 (by have := HMXL.out.1; omega)).mono ?_; rintro e wn ⟨⟨v, rfl, ho⟩, bn⟩; obtain ⟨na, nca, rfl⟩ := ho.slice; have HN1 := Fk.hide ho.view; clear ho; have BN := Lw.belNext bn (by assumption); have SN := HK.out _ BN; clear bn BN)
      | (go_at_call 21; refine (lwTexts_same _ _ (Sk.names MX) _ HN1b.out HN2.out (by have := Sk.names_len MX; have := HMXL.out.1; omega)).mono ?_; rintro e wn ⟨rfl, bn⟩; have BN := Lw.belNext bn (by assumption); have SN := HK.out _ BN; clear bn BN))
  clear HK0 HKD kcF kcX kcG kcY0 kcY1 kcH kcZ0 kcZ1
  obtain ⟨gt, gx, gk, hgd⟩ : ∃ t x c, Fk.rdOf Lg ng = (t, x, c) := ⟨_, _, _, rfl⟩
  have HGD : Hid (textOut (Fk.rdOf Lg ng) = .agg #[.string gt, .int .i64 gx, .int .i64 gk]) := by show _ = _; rw [hgd]; rfl
  clear hgd
  by_cases hcy : cY = 0
  · have HRY0 : Hid (Fk.right MY = true) := HRY.out.1 hcy
    have HPY : Hid (textOut (Fk.rdOf (Ik.crash MY []) ng) = .agg #[.string gt, .int .i64 gx, .int .i64 gk]) := by
      have h0 := HAY.out
      rw [hcy] at h0
      show _ = _
      rw [Fk.sync_read h0]
      exact HGD.out
    have HCY : Hid (Fk.Fits (Ik.crash MY []) ∧ (Ik.crash MY []).length ≤ 12) := by
      rw [Ik.crash_short (by simp)]
      exact Fk.right_fits (Ik.crash_right HRY0.out [])
    have HSY : Hid (Dk.Fit MY) := (Dk.ans_fit HRY.out).1
    have hcy' : (cY == 0) = true := by simpa using hcy
    clear hcy
    have SD := HK.out wn.drew (Below.drew SN.1.out)
    go_wp2_with fail
    go_region_held3 (fun w' => Hid (Below W6.heap.size W6 w') ∧ w'.cell? ⟨q1, 0, none⟩ = some (.slice fa fn fc) ∧ w'.cell? ⟨q2, 0, none⟩ = some (.slice Xa Xn Xc) ∧ w'.cell? ⟨q3, 0, none⟩ = some (.slice ga gn gc) ∧ w'.cell? ⟨q4, 0, none⟩ = some (.slice Ya Yn Yc) ∧ w'.cell? ⟨q4, 1, none⟩ = some (.int .i64 cY) ∧ w'.cell? ⟨q5, 0, none⟩ = some (.slice ha_ hn_ hc_) ∧ w'.cell? ⟨q6, 0, none⟩ = some (.slice Za Zn Zc) ∧ w'.cell? ⟨q6, 1, none⟩ = some (.int .i64 cZ))
      (first | assumption)
      (first
        | (go_at_call 11; refine (fsCrash_impl (.slice Ya Yn Yc) (.slice none 0 0) MY [] _ (Fk.view_of_owns (VoY.out _ (Lw.bel (by assumption)))) HTY.out.1 (by have := HTY.out.2; omega) (Dk.small_at HSY.out) (Ik.view_nil _) (by simp)).mono ?_; rintro e wn ⟨⟨v, rfl, ho⟩, bn⟩; obtain ⟨ya_, yn_, yc_, rfl⟩ := ho.slice'; have HVC := Fk.hide (Fk.view_of_owns ho); clear ho; have BN := Lw.belNext bn (by assumption); have SN := HK.out _ BN; clear bn BN)
        | (go_at_call 24; have hh := HMK; clear hh; refine (fsRead_impl (.slice ga gn gc) Lg ng b0 b1 b2 b3 b4 _ (Fk.view_of_owns (VoG.out _ (Lw.bel (by assumption)))) HFg.out (by unfold maxLen; omega) (by unfold maxLen; omega) (HE7.out _ (Lw.bel (by assumption)))).mono ?_; rintro e wn ⟨rfl, bn⟩; rw [HGD.out]; have BN := Lw.belNext bn (by assumption); have SN := HK.out _ BN; clear bn BN)
        | (go_at_call 24; refine (fsRead_impl (.slice ya_ yn_ yc_) (Ik.crash MY []) ng b0 b1 b2 b3 b4 _ HVC.out HCY.out.1 (by have := HCY.out.2; unfold maxLen; omega) (by unfold maxLen; omega) (HE7.out _ (Lw.bel (by assumption)))).mono ?_; rintro e wn ⟨rfl, bn⟩; rw [HPY.out]; have HMK := Fk.hide True.intro; have BN := Lw.belNext bn (by assumption); have SN := HK.out _ BN; clear bn BN))
    clear SD
    have d0 := SN.2.2.2.2.2.2.2.1
    have d1 := SN.2.2.2.2.2.2.2.2
    by_cases hcz : cZ = 0
    · obtain ⟨zt, zx, zk, hzd⟩ : ∃ t x c, Fk.rdOf MZ nh = (t, x, c) := ⟨_, _, _, rfl⟩
      have HZD : Hid (textOut (Fk.rdOf MZ nh) = .agg #[.string zt, .int .i64 zx, .int .i64 zk]) := by show _ = _; rw [hzd]; rfl
      have hzs : sh = (zt.size : Int) := by have h0 := HAZ.out; rw [hcz] at h0; have h1 := Fk.cut_read h0; rw [hzd] at h1; exact h1.symm
      clear hzd
      subst hcz
      subst hzs
      go_wp2_with fail
      refine (fsRead_impl (.slice Za Zn Zc) MZ nh b0 b1 b2 b3 b4 wn (Fk.view_of_owns (VoZ.out _ SN.1.out)) HTZ.out.1 (by have := HTZ.out.2; unfold maxLen; omega) (by unfold maxLen; omega) (HE7.out _ SN.1.out)).mono ?_
      rintro e wz ⟨rfl, bz⟩
      rw [HZD.out]
      have SZ := HK.out _ (Lw.belNext bz SN)
      have hfl : (Instr.field 44 (.agg #[.string zt, .int .i64 zx, .int .i64 zk]) 0).run Tryd.prog wz = .ok (.string zt) wz := by kernel_rfl
      clear d0 d1 bz SN
      have SN := SZ
      clear SZ
      have cf := SN.2.1
      go_wp2_with fail
      clear hfl
      refine (fsRight_spec (.slice fa fn fc) Lf wz (Fk.view_of_owns (VoF.out _ SN.1.out)) HFf.out.1 (by unfold maxLen; omega)).mono ?_
      rintro e wr ⟨rfl, br⟩
      have SR := HK.out _ (Lw.belNext br SN)
      clear SN br cf
      have cf := SR.2.1
      have cx := SR.2.2.1
      cases hR : Fk.right Lf
      · have HRF := Fk.hide hR
        clear hR
        go_wp2_with fail
        refine (fsRight_spec (.slice fa fn fc) Lf wr (Fk.view_of_owns (VoF.out _ SR.1.out)) HFf.out.1 (by unfold maxLen; omega)).mono ?_
        rintro e wf ⟨rfl, bf⟩
        rw [HRF.out]
        have HBF := Fk.hide (Lw.bel_trans HB7.out (Lw.belNext bf SR).out)
        clear bf SR cf cx
        go_wp2_with fail
        go_ret
        exact ⟨rfl, HBF.out⟩
      · have HRF := Fk.hide hR
        clear hR
        have hXF : Xn = fn := by rw [Fk.own_len (VoX.out _ SR.1.out), Fk.own_len (VoF.out _ SR.1.out), HMX.out, Ik.crash_short (by have := HT10.out; omega), Ik.crs_len]
        subst hXF
        go_wp2_with fail
        clear cf cx
        have HFL : Hid (Xn = Lf.length) := Fk.own_len (VoF.out _ SR.1.out)
        have HSR := Fk.hide SR.1.out
        clear SR
        go_loopw [15] (fun i wq => ∃ k : Nat, k ≤ Xn ∧ i = .int .i64 k ∧ Hid (Below W6.heap.size W6 wq)) (fun i _ => Xn - (intOf i).toNat)
        case atStart => exact ⟨0, Nat.zero_le _, rfl, HSR.out⟩
        case round =>
          obtain ⟨k, hk, rfl, HBq⟩ := hrel
          have SQ := HK.out _ HBq
          by_cases hlt : k < Xn
          · have hkL : k < Lf.length := by have := HFL.out; omega
            have HQ : Hid (wr.cell? ⟨q1, 0, none⟩ = some (.slice fa Xn fc) ∧ wr.cell? ⟨q2, 0, none⟩ = some (.slice Xa Xn Xc)) := ⟨SQ.2.1, SQ.2.2.1⟩
            have HCA := Fk.hide (Ik.crash_at HRF.out hkL T (by have := HT10.out; omega))
            rw [← HMX.out] at HCA
            obtain ⟨bf, of_, hfa, hsf⟩ := Fk.own_sees (VoF.out _ HBq.out) (by omega)
            obtain ⟨bx, ox, hxa, hsx⟩ := Fk.own_sees (VoX.out _ HBq.out) (by omega)
            have hkX : k < MX.length := by have := Fk.own_len (VoX.out _ HBq.out); omega
            have u0 := hsf.c0 k hkL
            have u1 := hsf.c1 k hkL
            have u2 := hsf.c2 k hkL
            have v0 := hsx.c0 k hkX
            have v1 := hsx.c1 k hkX
            have v2 := hsx.c2 k hkX
            rw [hfa, hxa] at HQ
            rw [HCA.out.1] at v0
            obtain ⟨an, han⟩ : ∃ x, x = Fk.nm Lf k := ⟨_, rfl⟩
            obtain ⟨ad, had⟩ : ∃ x, x = Fk.dt Lf k := ⟨_, rfl⟩
            obtain ⟨as_, has⟩ : ∃ x, x = Fk.sy Lf k := ⟨_, rfl⟩
            obtain ⟨bd, hbd⟩ : ∃ x, x = Fk.dt MX k := ⟨_, rfl⟩
            obtain ⟨bs, hbs⟩ : ∃ x, x = Fk.sy MX k := ⟨_, rfl⟩
            have HC2 := Fk.hide HCA.out.2
            rw [← has, ← hbd, ← had] at HC2
            rw [← han] at u0 v0
            rw [← had] at u1
            rw [← has] at u2
            rw [← hbd] at v1
            rw [← hbs] at v2
            have w0 := HQ.out.1
            have w1' := HQ.out.2
            have t0 : (0 : Int) ≤ (k : Int) := by omega
            have t1 : (k : Int) < (Xn : Int) := by omega
            clear hsf hsx han had has hbd hbs HCA SQ hfa hxa
            have HK2 : Hid (∀ w', Hid (Below wr.heap.size wr w') → Hid (Below wr.heap.size wr w') ∧ w'.cell? ⟨q1, 0, none⟩ = some (.slice (some ⟨bf, of_, none⟩) Xn fc) ∧ w'.cell? ⟨q2, 0, none⟩ = some (.slice (some ⟨bx, ox, none⟩) Xn Xc) ∧ w'.cell? ⟨bf, of_ + k * 3, none⟩ = some (.string an) ∧ w'.cell? ⟨bf, of_ + k * 3 + 1, none⟩ = some (.string ad) ∧ w'.cell? ⟨bf, of_ + k * 3 + 2, none⟩ = some (.int .i64 as_) ∧ w'.cell? ⟨bx, ox + k * 3, none⟩ = some (.string an) ∧ w'.cell? ⟨bx, ox + k * 3 + 1, none⟩ = some (.string bd) ∧ w'.cell? ⟨bx, ox + k * 3 + 2, none⟩ = some (.int .i64 bs)) := fun w' hb => ⟨hb, Lw.cell_below hb.out w0, Lw.cell_below hb.out w1', Lw.cell_below hb.out u0, Lw.cell_below hb.out u1, Lw.cell_below hb.out u2, Lw.cell_below hb.out v0, Lw.cell_below hb.out v1, Lw.cell_below hb.out v2⟩
            have SD2 := HK2.out wr.drew (Below.drew (Below.refl _ _))
            go_wp2_with fail
            go_region_held3 (fun w' => Hid (Below wr.heap.size wr w') ∧ w'.cell? ⟨q1, 0, none⟩ = some (.slice (some ⟨bf, of_, none⟩) Xn fc) ∧ w'.cell? ⟨q2, 0, none⟩ = some (.slice (some ⟨bx, ox, none⟩) Xn Xc) ∧ w'.cell? ⟨bf, of_ + k * 3, none⟩ = some (.string an) ∧ w'.cell? ⟨bf, of_ + k * 3 + 1, none⟩ = some (.string ad) ∧ w'.cell? ⟨bf, of_ + k * 3 + 2, none⟩ = some (.int .i64 as_) ∧ w'.cell? ⟨bx, ox + k * 3, none⟩ = some (.string an) ∧ w'.cell? ⟨bx, ox + k * 3 + 1, none⟩ = some (.string bd) ∧ w'.cell? ⟨bx, ox + k * 3 + 2, none⟩ = some (.int .i64 bs))
              (first | assumption | exact HK2.out _ (Lw.balloc (by assumption)) | exact HK2.out _ (Below.drew (((Below.refl _ _).alloc (Nat.le_refl _) _).alloc (by simp) _)) | exact HK2.out _ (Lw.bset3 (by simp) (by assumption)))
              (fail)
            all_goals clear w0 w1' u0 u1 u2 v0 v1 v2 SD2 t0 t1
            all_goals first
              | (obtain ⟨Wq, hWq⟩ : ∃ W, W = ((wr.alloc (.cells #[.string an, .string ad, .int .i64 as_] 48)).alloc (.cells #[.string an, .string bd, .int .i64 bs] 48)).drew := ⟨_, rfl⟩; have HB2 := Lw.twoBoxes wr (.string an) (.string ad) (.int .i64 as_) (.string an) (.string bd) (.int .i64 bs) 48 48; rw [← hWq] at HB2 ⊢; clear hWq; have HBW := HB2.1; have x0 := HB2.2.1.1; have x1 := HB2.2.1.2.1; have x2 := HB2.2.1.2.2; have y0 := HB2.2.2.1; have y1 := HB2.2.2.2.1; have y2 := HB2.2.2.2.2; clear HB2; have g1 : ¬ (bd.size : Int) < as_ := (by have := HC2.out; omega); have g2 : ¬ (ad.size : Int) < (bd.size : Int) := (by have := HC2.out; omega); have g3 : (bd.size : Int) ≤ (ad.size : Int) := (by omega); have g4 : (0 : Int) ≤ (bd.size : Int) := (by omega); have g5 : ad.extract 0 bd.size = bd := HC2.out.2.2; have g6 : bd.size ≤ ad.size := (by omega); have r0 := cell_regrown x0; have r1 := cell_regrown x1; have r2 := cell_regrown x2; have r3 := cell_regrown y0; have r4 := cell_regrown y1; have r5 := cell_regrown y2; have dg1 : decide ((bd.size : Int) < as_) = false := decide_eq_false g1; have dg2 : decide ((ad.size : Int) < (bd.size : Int)) = false := decide_eq_false g2; have dg3 : decide (ad.size < bd.size) = false := decide_eq_false (by omega); go_wp2_with fail; (refine wp_region_quiet_below (by kernel_rfl) (by kernel_rfl) ?_); (repeat (go_big_quiet_step (fail))); (refine wpQuiet_nil ?_); intro w4 hw'; obtain ⟨⟨dq, osq⟩, hw''⟩ := hw'; have HBN : Hid (Below W6.heap.size W6 w4) := (by show Below _ _ _; rw [hw'']; exact Lw.bel_trans' (Lw.bel_trans' HBq.out HBW.out) (below_regrown Wq dq osq)); clear hw'' r0 r1 r2 r3 r4 r5 x0 x1 x2 y0 y1 y2 g1 g2 g3 g4 g5 g6 dg1 dg2 dg3; go_wp2_with fail; go_roundw)
              | (obtain ⟨Wq, hWq⟩ : ∃ W, W = ((wr.alloc (.cells #[.string an, .string bd, .int .i64 bs] 48)).alloc (.cells #[.string an, .string ad, .int .i64 as_] 48)).drew := ⟨_, rfl⟩; have HB2 := Lw.twoBoxes wr (.string an) (.string bd) (.int .i64 bs) (.string an) (.string ad) (.int .i64 as_) 48 48; rw [← hWq] at HB2 ⊢; clear hWq; have HBW := HB2.1; have x0 := HB2.2.2.1; have x1 := HB2.2.2.2.1; have x2 := HB2.2.2.2.2; have y0 := HB2.2.1.1; have y1 := HB2.2.1.2.1; have y2 := HB2.2.1.2.2; clear HB2; have g1 : ¬ (bd.size : Int) < as_ := (by have := HC2.out; omega); have g2 : ¬ (ad.size : Int) < (bd.size : Int) := (by have := HC2.out; omega); have g3 : (bd.size : Int) ≤ (ad.size : Int) := (by omega); have g4 : (0 : Int) ≤ (bd.size : Int) := (by omega); have g5 : ad.extract 0 bd.size = bd := HC2.out.2.2; have g6 : bd.size ≤ ad.size := (by omega); have r0 := cell_regrown x0; have r1 := cell_regrown x1; have r2 := cell_regrown x2; have r3 := cell_regrown y0; have r4 := cell_regrown y1; have r5 := cell_regrown y2; have dg1 : decide ((bd.size : Int) < as_) = false := decide_eq_false g1; have dg2 : decide ((ad.size : Int) < (bd.size : Int)) = false := decide_eq_false g2; have dg3 : decide (ad.size < bd.size) = false := decide_eq_false (by omega); go_wp2_with fail; (refine wp_region_quiet_below (by kernel_rfl) (by kernel_rfl) ?_); (repeat (go_big_quiet_step (fail))); (refine wpQuiet_nil ?_); intro w4 hw'; obtain ⟨⟨dq, osq⟩, hw''⟩ := hw'; have HBN : Hid (Below W6.heap.size W6 w4) := (by show Below _ _ _; rw [hw'']; exact Lw.bel_trans' (Lw.bel_trans' HBq.out HBW.out) (below_regrown Wq dq osq)); clear hw'' r0 r1 r2 r3 r4 r5 x0 x1 x2 y0 y1 y2 g1 g2 g3 g4 g5 g6 dg1 dg2 dg3; go_wp2_with fail; go_roundw)
            all_goals first | exact ⟨k + 1, by omega, by go_num, HBN.out⟩ | (simp [intOf]; omega)
          · have cf := SQ.2.1
            have HBF := Fk.hide (Lw.bel_trans HB7.out HBq.out)
            clear SQ
            go_wp2_with fail
            go_ret
            exact ⟨rfl, HBF.out⟩
    · have hcz' : (cZ == 0) = false := by simpa using hcz
      have cf := SN.2.1
      go_wp2_with fail
      clear d0 d1 hcz' hcz
      refine (fsRight_spec (.slice fa fn fc) Lf wn (Fk.view_of_owns (VoF.out _ SN.1.out)) HFf.out.1 (by unfold maxLen; omega)).mono ?_
      rintro e wr ⟨rfl, br⟩
      have SR := HK.out _ (Lw.belNext br SN)
      clear SN br cf
      have cf := SR.2.1
      have cx := SR.2.2.1
      cases hR : Fk.right Lf
      · have HRF := Fk.hide hR
        clear hR
        go_wp2_with fail
        refine (fsRight_spec (.slice fa fn fc) Lf wr (Fk.view_of_owns (VoF.out _ SR.1.out)) HFf.out.1 (by unfold maxLen; omega)).mono ?_
        rintro e wf ⟨rfl, bf⟩
        rw [HRF.out]
        have HBF := Fk.hide (Lw.bel_trans HB7.out (Lw.belNext bf SR).out)
        clear bf SR cf cx
        go_wp2_with fail
        go_ret
        exact ⟨rfl, HBF.out⟩
      · have HRF := Fk.hide hR
        clear hR
        have hXF : Xn = fn := by rw [Fk.own_len (VoX.out _ SR.1.out), Fk.own_len (VoF.out _ SR.1.out), HMX.out, Ik.crash_short (by have := HT10.out; omega), Ik.crs_len]
        subst hXF
        go_wp2_with fail
        clear cf cx
        have HFL : Hid (Xn = Lf.length) := Fk.own_len (VoF.out _ SR.1.out)
        have HSR := Fk.hide SR.1.out
        clear SR
        go_loopw [15] (fun i wq => ∃ k : Nat, k ≤ Xn ∧ i = .int .i64 k ∧ Hid (Below W6.heap.size W6 wq)) (fun i _ => Xn - (intOf i).toNat)
        case atStart => exact ⟨0, Nat.zero_le _, rfl, HSR.out⟩
        case round =>
          obtain ⟨k, hk, rfl, HBq⟩ := hrel
          have SQ := HK.out _ HBq
          by_cases hlt : k < Xn
          · have hkL : k < Lf.length := by have := HFL.out; omega
            have HQ : Hid (wr.cell? ⟨q1, 0, none⟩ = some (.slice fa Xn fc) ∧ wr.cell? ⟨q2, 0, none⟩ = some (.slice Xa Xn Xc)) := ⟨SQ.2.1, SQ.2.2.1⟩
            have HCA := Fk.hide (Ik.crash_at HRF.out hkL T (by have := HT10.out; omega))
            rw [← HMX.out] at HCA
            obtain ⟨bf, of_, hfa, hsf⟩ := Fk.own_sees (VoF.out _ HBq.out) (by omega)
            obtain ⟨bx, ox, hxa, hsx⟩ := Fk.own_sees (VoX.out _ HBq.out) (by omega)
            have hkX : k < MX.length := by have := Fk.own_len (VoX.out _ HBq.out); omega
            have u0 := hsf.c0 k hkL
            have u1 := hsf.c1 k hkL
            have u2 := hsf.c2 k hkL
            have v0 := hsx.c0 k hkX
            have v1 := hsx.c1 k hkX
            have v2 := hsx.c2 k hkX
            rw [hfa, hxa] at HQ
            rw [HCA.out.1] at v0
            obtain ⟨an, han⟩ : ∃ x, x = Fk.nm Lf k := ⟨_, rfl⟩
            obtain ⟨ad, had⟩ : ∃ x, x = Fk.dt Lf k := ⟨_, rfl⟩
            obtain ⟨as_, has⟩ : ∃ x, x = Fk.sy Lf k := ⟨_, rfl⟩
            obtain ⟨bd, hbd⟩ : ∃ x, x = Fk.dt MX k := ⟨_, rfl⟩
            obtain ⟨bs, hbs⟩ : ∃ x, x = Fk.sy MX k := ⟨_, rfl⟩
            have HC2 := Fk.hide HCA.out.2
            rw [← has, ← hbd, ← had] at HC2
            rw [← han] at u0 v0
            rw [← had] at u1
            rw [← has] at u2
            rw [← hbd] at v1
            rw [← hbs] at v2
            have w0 := HQ.out.1
            have w1' := HQ.out.2
            have t0 : (0 : Int) ≤ (k : Int) := by omega
            have t1 : (k : Int) < (Xn : Int) := by omega
            clear hsf hsx han had has hbd hbs HCA SQ hfa hxa
            have HK2 : Hid (∀ w', Hid (Below wr.heap.size wr w') → Hid (Below wr.heap.size wr w') ∧ w'.cell? ⟨q1, 0, none⟩ = some (.slice (some ⟨bf, of_, none⟩) Xn fc) ∧ w'.cell? ⟨q2, 0, none⟩ = some (.slice (some ⟨bx, ox, none⟩) Xn Xc) ∧ w'.cell? ⟨bf, of_ + k * 3, none⟩ = some (.string an) ∧ w'.cell? ⟨bf, of_ + k * 3 + 1, none⟩ = some (.string ad) ∧ w'.cell? ⟨bf, of_ + k * 3 + 2, none⟩ = some (.int .i64 as_) ∧ w'.cell? ⟨bx, ox + k * 3, none⟩ = some (.string an) ∧ w'.cell? ⟨bx, ox + k * 3 + 1, none⟩ = some (.string bd) ∧ w'.cell? ⟨bx, ox + k * 3 + 2, none⟩ = some (.int .i64 bs)) := fun w' hb => ⟨hb, Lw.cell_below hb.out w0, Lw.cell_below hb.out w1', Lw.cell_below hb.out u0, Lw.cell_below hb.out u1, Lw.cell_below hb.out u2, Lw.cell_below hb.out v0, Lw.cell_below hb.out v1, Lw.cell_below hb.out v2⟩
            have SD2 := HK2.out wr.drew (Below.drew (Below.refl _ _))
            go_wp2_with fail
            go_region_held3 (fun w' => Hid (Below wr.heap.size wr w') ∧ w'.cell? ⟨q1, 0, none⟩ = some (.slice (some ⟨bf, of_, none⟩) Xn fc) ∧ w'.cell? ⟨q2, 0, none⟩ = some (.slice (some ⟨bx, ox, none⟩) Xn Xc) ∧ w'.cell? ⟨bf, of_ + k * 3, none⟩ = some (.string an) ∧ w'.cell? ⟨bf, of_ + k * 3 + 1, none⟩ = some (.string ad) ∧ w'.cell? ⟨bf, of_ + k * 3 + 2, none⟩ = some (.int .i64 as_) ∧ w'.cell? ⟨bx, ox + k * 3, none⟩ = some (.string an) ∧ w'.cell? ⟨bx, ox + k * 3 + 1, none⟩ = some (.string bd) ∧ w'.cell? ⟨bx, ox + k * 3 + 2, none⟩ = some (.int .i64 bs))
              (first | assumption | exact HK2.out _ (Lw.balloc (by assumption)) | exact HK2.out _ (Below.drew (((Below.refl _ _).alloc (Nat.le_refl _) _).alloc (by simp) _)) | exact HK2.out _ (Lw.bset3 (by simp) (by assumption)))
              (fail)
            all_goals clear w0 w1' u0 u1 u2 v0 v1 v2 SD2 t0 t1
            all_goals first
              | (obtain ⟨Wq, hWq⟩ : ∃ W, W = ((wr.alloc (.cells #[.string an, .string ad, .int .i64 as_] 48)).alloc (.cells #[.string an, .string bd, .int .i64 bs] 48)).drew := ⟨_, rfl⟩; have HB2 := Lw.twoBoxes wr (.string an) (.string ad) (.int .i64 as_) (.string an) (.string bd) (.int .i64 bs) 48 48; rw [← hWq] at HB2 ⊢; clear hWq; have HBW := HB2.1; have x0 := HB2.2.1.1; have x1 := HB2.2.1.2.1; have x2 := HB2.2.1.2.2; have y0 := HB2.2.2.1; have y1 := HB2.2.2.2.1; have y2 := HB2.2.2.2.2; clear HB2; have g1 : ¬ (bd.size : Int) < as_ := (by have := HC2.out; omega); have g2 : ¬ (ad.size : Int) < (bd.size : Int) := (by have := HC2.out; omega); have g3 : (bd.size : Int) ≤ (ad.size : Int) := (by omega); have g4 : (0 : Int) ≤ (bd.size : Int) := (by omega); have g5 : ad.extract 0 bd.size = bd := HC2.out.2.2; have g6 : bd.size ≤ ad.size := (by omega); have r0 := cell_regrown x0; have r1 := cell_regrown x1; have r2 := cell_regrown x2; have r3 := cell_regrown y0; have r4 := cell_regrown y1; have r5 := cell_regrown y2; have dg1 : decide ((bd.size : Int) < as_) = false := decide_eq_false g1; have dg2 : decide ((ad.size : Int) < (bd.size : Int)) = false := decide_eq_false g2; have dg3 : decide (ad.size < bd.size) = false := decide_eq_false (by omega); go_wp2_with fail; (refine wp_region_quiet_below (by kernel_rfl) (by kernel_rfl) ?_); (repeat (go_big_quiet_step (fail))); (refine wpQuiet_nil ?_); intro w4 hw'; obtain ⟨⟨dq, osq⟩, hw''⟩ := hw'; have HBN : Hid (Below W6.heap.size W6 w4) := (by show Below _ _ _; rw [hw'']; exact Lw.bel_trans' (Lw.bel_trans' HBq.out HBW.out) (below_regrown Wq dq osq)); clear hw'' r0 r1 r2 r3 r4 r5 x0 x1 x2 y0 y1 y2 g1 g2 g3 g4 g5 g6 dg1 dg2 dg3; go_wp2_with fail; go_roundw)
              | (obtain ⟨Wq, hWq⟩ : ∃ W, W = ((wr.alloc (.cells #[.string an, .string bd, .int .i64 bs] 48)).alloc (.cells #[.string an, .string ad, .int .i64 as_] 48)).drew := ⟨_, rfl⟩; have HB2 := Lw.twoBoxes wr (.string an) (.string bd) (.int .i64 bs) (.string an) (.string ad) (.int .i64 as_) 48 48; rw [← hWq] at HB2 ⊢; clear hWq; have HBW := HB2.1; have x0 := HB2.2.2.1; have x1 := HB2.2.2.2.1; have x2 := HB2.2.2.2.2; have y0 := HB2.2.1.1; have y1 := HB2.2.1.2.1; have y2 := HB2.2.1.2.2; clear HB2; have g1 : ¬ (bd.size : Int) < as_ := (by have := HC2.out; omega); have g2 : ¬ (ad.size : Int) < (bd.size : Int) := (by have := HC2.out; omega); have g3 : (bd.size : Int) ≤ (ad.size : Int) := (by omega); have g4 : (0 : Int) ≤ (bd.size : Int) := (by omega); have g5 : ad.extract 0 bd.size = bd := HC2.out.2.2; have g6 : bd.size ≤ ad.size := (by omega); have r0 := cell_regrown x0; have r1 := cell_regrown x1; have r2 := cell_regrown x2; have r3 := cell_regrown y0; have r4 := cell_regrown y1; have r5 := cell_regrown y2; have dg1 : decide ((bd.size : Int) < as_) = false := decide_eq_false g1; have dg2 : decide ((ad.size : Int) < (bd.size : Int)) = false := decide_eq_false g2; have dg3 : decide (ad.size < bd.size) = false := decide_eq_false (by omega); go_wp2_with fail; (refine wp_region_quiet_below (by kernel_rfl) (by kernel_rfl) ?_); (repeat (go_big_quiet_step (fail))); (refine wpQuiet_nil ?_); intro w4 hw'; obtain ⟨⟨dq, osq⟩, hw''⟩ := hw'; have HBN : Hid (Below W6.heap.size W6 w4) := (by show Below _ _ _; rw [hw'']; exact Lw.bel_trans' (Lw.bel_trans' HBq.out HBW.out) (below_regrown Wq dq osq)); clear hw'' r0 r1 r2 r3 r4 r5 x0 x1 x2 y0 y1 y2 g1 g2 g3 g4 g5 g6 dg1 dg2 dg3; go_wp2_with fail; go_roundw)
            all_goals first | exact ⟨k + 1, by omega, by go_num, HBN.out⟩ | (simp [intOf]; omega)
          · have cf := SQ.2.1
            have HBF := Fk.hide (Lw.bel_trans HB7.out HBq.out)
            clear SQ
            go_wp2_with fail
            go_ret
            exact ⟨rfl, HBF.out⟩
  · have hcy' : (cY == 0) = false := by simpa using hcy
    have dy := SN.2.2.2.2.2.1
    have SD := HK.out wn.drew (Below.drew SN.1.out)
    go_wp2_with fail
    go_region
    clear dy hcy hcy'
    obtain ⟨wk, hwk⟩ : ∃ W, W = wn.drew := ⟨_, rfl⟩
    rw [← hwk] at SD ⊢
    clear hwk
    have SN := SD
    clear SD
    have d0 := SN.2.2.2.2.2.2.2.1
    have d1 := SN.2.2.2.2.2.2.2.2
    by_cases hcz : cZ = 0
    · obtain ⟨zt, zx, zk, hzd⟩ : ∃ t x c, Fk.rdOf MZ nh = (t, x, c) := ⟨_, _, _, rfl⟩
      have HZD : Hid (textOut (Fk.rdOf MZ nh) = .agg #[.string zt, .int .i64 zx, .int .i64 zk]) := by show _ = _; rw [hzd]; rfl
      have hzs : sh = (zt.size : Int) := by have h0 := HAZ.out; rw [hcz] at h0; have h1 := Fk.cut_read h0; rw [hzd] at h1; exact h1.symm
      clear hzd
      subst hcz
      subst hzs
      go_wp2_with fail
      refine (fsRead_impl (.slice Za Zn Zc) MZ nh b0 b1 b2 b3 b4 wk (Fk.view_of_owns (VoZ.out _ SN.1.out)) HTZ.out.1 (by have := HTZ.out.2; unfold maxLen; omega) (by unfold maxLen; omega) (HE7.out _ SN.1.out)).mono ?_
      rintro e wz ⟨rfl, bz⟩
      rw [HZD.out]
      have SZ := HK.out _ (Lw.belNext bz SN)
      have hfl : (Instr.field 44 (.agg #[.string zt, .int .i64 zx, .int .i64 zk]) 0).run Tryd.prog wz = .ok (.string zt) wz := by kernel_rfl
      clear d0 d1 bz SN
      have SN := SZ
      clear SZ
      have cf := SN.2.1
      go_wp2_with fail
      clear hfl
      refine (fsRight_spec (.slice fa fn fc) Lf wz (Fk.view_of_owns (VoF.out _ SN.1.out)) HFf.out.1 (by unfold maxLen; omega)).mono ?_
      rintro e wr ⟨rfl, br⟩
      have SR := HK.out _ (Lw.belNext br SN)
      clear SN br cf
      have cf := SR.2.1
      have cx := SR.2.2.1
      cases hR : Fk.right Lf
      · have HRF := Fk.hide hR
        clear hR
        go_wp2_with fail
        refine (fsRight_spec (.slice fa fn fc) Lf wr (Fk.view_of_owns (VoF.out _ SR.1.out)) HFf.out.1 (by unfold maxLen; omega)).mono ?_
        rintro e wf ⟨rfl, bf⟩
        rw [HRF.out]
        have HBF := Fk.hide (Lw.bel_trans HB7.out (Lw.belNext bf SR).out)
        clear bf SR cf cx
        go_wp2_with fail
        go_ret
        exact ⟨rfl, HBF.out⟩
      · have HRF := Fk.hide hR
        clear hR
        have hXF : Xn = fn := by rw [Fk.own_len (VoX.out _ SR.1.out), Fk.own_len (VoF.out _ SR.1.out), HMX.out, Ik.crash_short (by have := HT10.out; omega), Ik.crs_len]
        subst hXF
        go_wp2_with fail
        clear cf cx
        have HFL : Hid (Xn = Lf.length) := Fk.own_len (VoF.out _ SR.1.out)
        have HSR := Fk.hide SR.1.out
        clear SR
        go_loopw [15] (fun i wq => ∃ k : Nat, k ≤ Xn ∧ i = .int .i64 k ∧ Hid (Below W6.heap.size W6 wq)) (fun i _ => Xn - (intOf i).toNat)
        case atStart => exact ⟨0, Nat.zero_le _, rfl, HSR.out⟩
        case round =>
          obtain ⟨k, hk, rfl, HBq⟩ := hrel
          have SQ := HK.out _ HBq
          by_cases hlt : k < Xn
          · have hkL : k < Lf.length := by have := HFL.out; omega
            have HQ : Hid (wr.cell? ⟨q1, 0, none⟩ = some (.slice fa Xn fc) ∧ wr.cell? ⟨q2, 0, none⟩ = some (.slice Xa Xn Xc)) := ⟨SQ.2.1, SQ.2.2.1⟩
            have HCA := Fk.hide (Ik.crash_at HRF.out hkL T (by have := HT10.out; omega))
            rw [← HMX.out] at HCA
            obtain ⟨bf, of_, hfa, hsf⟩ := Fk.own_sees (VoF.out _ HBq.out) (by omega)
            obtain ⟨bx, ox, hxa, hsx⟩ := Fk.own_sees (VoX.out _ HBq.out) (by omega)
            have hkX : k < MX.length := by have := Fk.own_len (VoX.out _ HBq.out); omega
            have u0 := hsf.c0 k hkL
            have u1 := hsf.c1 k hkL
            have u2 := hsf.c2 k hkL
            have v0 := hsx.c0 k hkX
            have v1 := hsx.c1 k hkX
            have v2 := hsx.c2 k hkX
            rw [hfa, hxa] at HQ
            rw [HCA.out.1] at v0
            obtain ⟨an, han⟩ : ∃ x, x = Fk.nm Lf k := ⟨_, rfl⟩
            obtain ⟨ad, had⟩ : ∃ x, x = Fk.dt Lf k := ⟨_, rfl⟩
            obtain ⟨as_, has⟩ : ∃ x, x = Fk.sy Lf k := ⟨_, rfl⟩
            obtain ⟨bd, hbd⟩ : ∃ x, x = Fk.dt MX k := ⟨_, rfl⟩
            obtain ⟨bs, hbs⟩ : ∃ x, x = Fk.sy MX k := ⟨_, rfl⟩
            have HC2 := Fk.hide HCA.out.2
            rw [← has, ← hbd, ← had] at HC2
            rw [← han] at u0 v0
            rw [← had] at u1
            rw [← has] at u2
            rw [← hbd] at v1
            rw [← hbs] at v2
            have w0 := HQ.out.1
            have w1' := HQ.out.2
            have t0 : (0 : Int) ≤ (k : Int) := by omega
            have t1 : (k : Int) < (Xn : Int) := by omega
            clear hsf hsx han had has hbd hbs HCA SQ hfa hxa
            have HK2 : Hid (∀ w', Hid (Below wr.heap.size wr w') → Hid (Below wr.heap.size wr w') ∧ w'.cell? ⟨q1, 0, none⟩ = some (.slice (some ⟨bf, of_, none⟩) Xn fc) ∧ w'.cell? ⟨q2, 0, none⟩ = some (.slice (some ⟨bx, ox, none⟩) Xn Xc) ∧ w'.cell? ⟨bf, of_ + k * 3, none⟩ = some (.string an) ∧ w'.cell? ⟨bf, of_ + k * 3 + 1, none⟩ = some (.string ad) ∧ w'.cell? ⟨bf, of_ + k * 3 + 2, none⟩ = some (.int .i64 as_) ∧ w'.cell? ⟨bx, ox + k * 3, none⟩ = some (.string an) ∧ w'.cell? ⟨bx, ox + k * 3 + 1, none⟩ = some (.string bd) ∧ w'.cell? ⟨bx, ox + k * 3 + 2, none⟩ = some (.int .i64 bs)) := fun w' hb => ⟨hb, Lw.cell_below hb.out w0, Lw.cell_below hb.out w1', Lw.cell_below hb.out u0, Lw.cell_below hb.out u1, Lw.cell_below hb.out u2, Lw.cell_below hb.out v0, Lw.cell_below hb.out v1, Lw.cell_below hb.out v2⟩
            have SD2 := HK2.out wr.drew (Below.drew (Below.refl _ _))
            go_wp2_with fail
            go_region_held3 (fun w' => Hid (Below wr.heap.size wr w') ∧ w'.cell? ⟨q1, 0, none⟩ = some (.slice (some ⟨bf, of_, none⟩) Xn fc) ∧ w'.cell? ⟨q2, 0, none⟩ = some (.slice (some ⟨bx, ox, none⟩) Xn Xc) ∧ w'.cell? ⟨bf, of_ + k * 3, none⟩ = some (.string an) ∧ w'.cell? ⟨bf, of_ + k * 3 + 1, none⟩ = some (.string ad) ∧ w'.cell? ⟨bf, of_ + k * 3 + 2, none⟩ = some (.int .i64 as_) ∧ w'.cell? ⟨bx, ox + k * 3, none⟩ = some (.string an) ∧ w'.cell? ⟨bx, ox + k * 3 + 1, none⟩ = some (.string bd) ∧ w'.cell? ⟨bx, ox + k * 3 + 2, none⟩ = some (.int .i64 bs))
              (first | assumption | exact HK2.out _ (Lw.balloc (by assumption)) | exact HK2.out _ (Below.drew (((Below.refl _ _).alloc (Nat.le_refl _) _).alloc (by simp) _)) | exact HK2.out _ (Lw.bset3 (by simp) (by assumption)))
              (fail)
            all_goals clear w0 w1' u0 u1 u2 v0 v1 v2 SD2 t0 t1
            all_goals first
              | (obtain ⟨Wq, hWq⟩ : ∃ W, W = ((wr.alloc (.cells #[.string an, .string ad, .int .i64 as_] 48)).alloc (.cells #[.string an, .string bd, .int .i64 bs] 48)).drew := ⟨_, rfl⟩; have HB2 := Lw.twoBoxes wr (.string an) (.string ad) (.int .i64 as_) (.string an) (.string bd) (.int .i64 bs) 48 48; rw [← hWq] at HB2 ⊢; clear hWq; have HBW := HB2.1; have x0 := HB2.2.1.1; have x1 := HB2.2.1.2.1; have x2 := HB2.2.1.2.2; have y0 := HB2.2.2.1; have y1 := HB2.2.2.2.1; have y2 := HB2.2.2.2.2; clear HB2; have g1 : ¬ (bd.size : Int) < as_ := (by have := HC2.out; omega); have g2 : ¬ (ad.size : Int) < (bd.size : Int) := (by have := HC2.out; omega); have g3 : (bd.size : Int) ≤ (ad.size : Int) := (by omega); have g4 : (0 : Int) ≤ (bd.size : Int) := (by omega); have g5 : ad.extract 0 bd.size = bd := HC2.out.2.2; have g6 : bd.size ≤ ad.size := (by omega); have r0 := cell_regrown x0; have r1 := cell_regrown x1; have r2 := cell_regrown x2; have r3 := cell_regrown y0; have r4 := cell_regrown y1; have r5 := cell_regrown y2; have dg1 : decide ((bd.size : Int) < as_) = false := decide_eq_false g1; have dg2 : decide ((ad.size : Int) < (bd.size : Int)) = false := decide_eq_false g2; have dg3 : decide (ad.size < bd.size) = false := decide_eq_false (by omega); go_wp2_with fail; (refine wp_region_quiet_below (by kernel_rfl) (by kernel_rfl) ?_); (repeat (go_big_quiet_step (fail))); (refine wpQuiet_nil ?_); intro w4 hw'; obtain ⟨⟨dq, osq⟩, hw''⟩ := hw'; have HBN : Hid (Below W6.heap.size W6 w4) := (by show Below _ _ _; rw [hw'']; exact Lw.bel_trans' (Lw.bel_trans' HBq.out HBW.out) (below_regrown Wq dq osq)); clear hw'' r0 r1 r2 r3 r4 r5 x0 x1 x2 y0 y1 y2 g1 g2 g3 g4 g5 g6 dg1 dg2 dg3; go_wp2_with fail; go_roundw)
              | (obtain ⟨Wq, hWq⟩ : ∃ W, W = ((wr.alloc (.cells #[.string an, .string bd, .int .i64 bs] 48)).alloc (.cells #[.string an, .string ad, .int .i64 as_] 48)).drew := ⟨_, rfl⟩; have HB2 := Lw.twoBoxes wr (.string an) (.string bd) (.int .i64 bs) (.string an) (.string ad) (.int .i64 as_) 48 48; rw [← hWq] at HB2 ⊢; clear hWq; have HBW := HB2.1; have x0 := HB2.2.2.1; have x1 := HB2.2.2.2.1; have x2 := HB2.2.2.2.2; have y0 := HB2.2.1.1; have y1 := HB2.2.1.2.1; have y2 := HB2.2.1.2.2; clear HB2; have g1 : ¬ (bd.size : Int) < as_ := (by have := HC2.out; omega); have g2 : ¬ (ad.size : Int) < (bd.size : Int) := (by have := HC2.out; omega); have g3 : (bd.size : Int) ≤ (ad.size : Int) := (by omega); have g4 : (0 : Int) ≤ (bd.size : Int) := (by omega); have g5 : ad.extract 0 bd.size = bd := HC2.out.2.2; have g6 : bd.size ≤ ad.size := (by omega); have r0 := cell_regrown x0; have r1 := cell_regrown x1; have r2 := cell_regrown x2; have r3 := cell_regrown y0; have r4 := cell_regrown y1; have r5 := cell_regrown y2; have dg1 : decide ((bd.size : Int) < as_) = false := decide_eq_false g1; have dg2 : decide ((ad.size : Int) < (bd.size : Int)) = false := decide_eq_false g2; have dg3 : decide (ad.size < bd.size) = false := decide_eq_false (by omega); go_wp2_with fail; (refine wp_region_quiet_below (by kernel_rfl) (by kernel_rfl) ?_); (repeat (go_big_quiet_step (fail))); (refine wpQuiet_nil ?_); intro w4 hw'; obtain ⟨⟨dq, osq⟩, hw''⟩ := hw'; have HBN : Hid (Below W6.heap.size W6 w4) := (by show Below _ _ _; rw [hw'']; exact Lw.bel_trans' (Lw.bel_trans' HBq.out HBW.out) (below_regrown Wq dq osq)); clear hw'' r0 r1 r2 r3 r4 r5 x0 x1 x2 y0 y1 y2 g1 g2 g3 g4 g5 g6 dg1 dg2 dg3; go_wp2_with fail; go_roundw)
            all_goals first | exact ⟨k + 1, by omega, by go_num, HBN.out⟩ | (simp [intOf]; omega)
          · have cf := SQ.2.1
            have HBF := Fk.hide (Lw.bel_trans HB7.out HBq.out)
            clear SQ
            go_wp2_with fail
            go_ret
            exact ⟨rfl, HBF.out⟩
    · have hcz' : (cZ == 0) = false := by simpa using hcz
      have cf := SN.2.1
      go_wp2_with fail
      clear d0 d1 hcz' hcz
      refine (fsRight_spec (.slice fa fn fc) Lf wk (Fk.view_of_owns (VoF.out _ SN.1.out)) HFf.out.1 (by unfold maxLen; omega)).mono ?_
      rintro e wr ⟨rfl, br⟩
      have SR := HK.out _ (Lw.belNext br SN)
      clear SN br cf
      have cf := SR.2.1
      have cx := SR.2.2.1
      cases hR : Fk.right Lf
      · have HRF := Fk.hide hR
        clear hR
        go_wp2_with fail
        refine (fsRight_spec (.slice fa fn fc) Lf wr (Fk.view_of_owns (VoF.out _ SR.1.out)) HFf.out.1 (by unfold maxLen; omega)).mono ?_
        rintro e wf ⟨rfl, bf⟩
        rw [HRF.out]
        have HBF := Fk.hide (Lw.bel_trans HB7.out (Lw.belNext bf SR).out)
        clear bf SR cf cx
        go_wp2_with fail
        go_ret
        exact ⟨rfl, HBF.out⟩
      · have HRF := Fk.hide hR
        clear hR
        have hXF : Xn = fn := by rw [Fk.own_len (VoX.out _ SR.1.out), Fk.own_len (VoF.out _ SR.1.out), HMX.out, Ik.crash_short (by have := HT10.out; omega), Ik.crs_len]
        subst hXF
        go_wp2_with fail
        clear cf cx
        have HFL : Hid (Xn = Lf.length) := Fk.own_len (VoF.out _ SR.1.out)
        have HSR := Fk.hide SR.1.out
        clear SR
        go_loopw [15] (fun i wq => ∃ k : Nat, k ≤ Xn ∧ i = .int .i64 k ∧ Hid (Below W6.heap.size W6 wq)) (fun i _ => Xn - (intOf i).toNat)
        case atStart => exact ⟨0, Nat.zero_le _, rfl, HSR.out⟩
        case round =>
          obtain ⟨k, hk, rfl, HBq⟩ := hrel
          have SQ := HK.out _ HBq
          by_cases hlt : k < Xn
          · have hkL : k < Lf.length := by have := HFL.out; omega
            have HQ : Hid (wr.cell? ⟨q1, 0, none⟩ = some (.slice fa Xn fc) ∧ wr.cell? ⟨q2, 0, none⟩ = some (.slice Xa Xn Xc)) := ⟨SQ.2.1, SQ.2.2.1⟩
            have HCA := Fk.hide (Ik.crash_at HRF.out hkL T (by have := HT10.out; omega))
            rw [← HMX.out] at HCA
            obtain ⟨bf, of_, hfa, hsf⟩ := Fk.own_sees (VoF.out _ HBq.out) (by omega)
            obtain ⟨bx, ox, hxa, hsx⟩ := Fk.own_sees (VoX.out _ HBq.out) (by omega)
            have hkX : k < MX.length := by have := Fk.own_len (VoX.out _ HBq.out); omega
            have u0 := hsf.c0 k hkL
            have u1 := hsf.c1 k hkL
            have u2 := hsf.c2 k hkL
            have v0 := hsx.c0 k hkX
            have v1 := hsx.c1 k hkX
            have v2 := hsx.c2 k hkX
            rw [hfa, hxa] at HQ
            rw [HCA.out.1] at v0
            obtain ⟨an, han⟩ : ∃ x, x = Fk.nm Lf k := ⟨_, rfl⟩
            obtain ⟨ad, had⟩ : ∃ x, x = Fk.dt Lf k := ⟨_, rfl⟩
            obtain ⟨as_, has⟩ : ∃ x, x = Fk.sy Lf k := ⟨_, rfl⟩
            obtain ⟨bd, hbd⟩ : ∃ x, x = Fk.dt MX k := ⟨_, rfl⟩
            obtain ⟨bs, hbs⟩ : ∃ x, x = Fk.sy MX k := ⟨_, rfl⟩
            have HC2 := Fk.hide HCA.out.2
            rw [← has, ← hbd, ← had] at HC2
            rw [← han] at u0 v0
            rw [← had] at u1
            rw [← has] at u2
            rw [← hbd] at v1
            rw [← hbs] at v2
            have w0 := HQ.out.1
            have w1' := HQ.out.2
            have t0 : (0 : Int) ≤ (k : Int) := by omega
            have t1 : (k : Int) < (Xn : Int) := by omega
            clear hsf hsx han had has hbd hbs HCA SQ hfa hxa
            have HK2 : Hid (∀ w', Hid (Below wr.heap.size wr w') → Hid (Below wr.heap.size wr w') ∧ w'.cell? ⟨q1, 0, none⟩ = some (.slice (some ⟨bf, of_, none⟩) Xn fc) ∧ w'.cell? ⟨q2, 0, none⟩ = some (.slice (some ⟨bx, ox, none⟩) Xn Xc) ∧ w'.cell? ⟨bf, of_ + k * 3, none⟩ = some (.string an) ∧ w'.cell? ⟨bf, of_ + k * 3 + 1, none⟩ = some (.string ad) ∧ w'.cell? ⟨bf, of_ + k * 3 + 2, none⟩ = some (.int .i64 as_) ∧ w'.cell? ⟨bx, ox + k * 3, none⟩ = some (.string an) ∧ w'.cell? ⟨bx, ox + k * 3 + 1, none⟩ = some (.string bd) ∧ w'.cell? ⟨bx, ox + k * 3 + 2, none⟩ = some (.int .i64 bs)) := fun w' hb => ⟨hb, Lw.cell_below hb.out w0, Lw.cell_below hb.out w1', Lw.cell_below hb.out u0, Lw.cell_below hb.out u1, Lw.cell_below hb.out u2, Lw.cell_below hb.out v0, Lw.cell_below hb.out v1, Lw.cell_below hb.out v2⟩
            have SD2 := HK2.out wr.drew (Below.drew (Below.refl _ _))
            go_wp2_with fail
            go_region_held3 (fun w' => Hid (Below wr.heap.size wr w') ∧ w'.cell? ⟨q1, 0, none⟩ = some (.slice (some ⟨bf, of_, none⟩) Xn fc) ∧ w'.cell? ⟨q2, 0, none⟩ = some (.slice (some ⟨bx, ox, none⟩) Xn Xc) ∧ w'.cell? ⟨bf, of_ + k * 3, none⟩ = some (.string an) ∧ w'.cell? ⟨bf, of_ + k * 3 + 1, none⟩ = some (.string ad) ∧ w'.cell? ⟨bf, of_ + k * 3 + 2, none⟩ = some (.int .i64 as_) ∧ w'.cell? ⟨bx, ox + k * 3, none⟩ = some (.string an) ∧ w'.cell? ⟨bx, ox + k * 3 + 1, none⟩ = some (.string bd) ∧ w'.cell? ⟨bx, ox + k * 3 + 2, none⟩ = some (.int .i64 bs))
              (first | assumption | exact HK2.out _ (Lw.balloc (by assumption)) | exact HK2.out _ (Below.drew (((Below.refl _ _).alloc (Nat.le_refl _) _).alloc (by simp) _)) | exact HK2.out _ (Lw.bset3 (by simp) (by assumption)))
              (fail)
            all_goals clear w0 w1' u0 u1 u2 v0 v1 v2 SD2 t0 t1
            all_goals first
              | (obtain ⟨Wq, hWq⟩ : ∃ W, W = ((wr.alloc (.cells #[.string an, .string ad, .int .i64 as_] 48)).alloc (.cells #[.string an, .string bd, .int .i64 bs] 48)).drew := ⟨_, rfl⟩; have HB2 := Lw.twoBoxes wr (.string an) (.string ad) (.int .i64 as_) (.string an) (.string bd) (.int .i64 bs) 48 48; rw [← hWq] at HB2 ⊢; clear hWq; have HBW := HB2.1; have x0 := HB2.2.1.1; have x1 := HB2.2.1.2.1; have x2 := HB2.2.1.2.2; have y0 := HB2.2.2.1; have y1 := HB2.2.2.2.1; have y2 := HB2.2.2.2.2; clear HB2; have g1 : ¬ (bd.size : Int) < as_ := (by have := HC2.out; omega); have g2 : ¬ (ad.size : Int) < (bd.size : Int) := (by have := HC2.out; omega); have g3 : (bd.size : Int) ≤ (ad.size : Int) := (by omega); have g4 : (0 : Int) ≤ (bd.size : Int) := (by omega); have g5 : ad.extract 0 bd.size = bd := HC2.out.2.2; have g6 : bd.size ≤ ad.size := (by omega); have r0 := cell_regrown x0; have r1 := cell_regrown x1; have r2 := cell_regrown x2; have r3 := cell_regrown y0; have r4 := cell_regrown y1; have r5 := cell_regrown y2; have dg1 : decide ((bd.size : Int) < as_) = false := decide_eq_false g1; have dg2 : decide ((ad.size : Int) < (bd.size : Int)) = false := decide_eq_false g2; have dg3 : decide (ad.size < bd.size) = false := decide_eq_false (by omega); go_wp2_with fail; (refine wp_region_quiet_below (by kernel_rfl) (by kernel_rfl) ?_); (repeat (go_big_quiet_step (fail))); (refine wpQuiet_nil ?_); intro w4 hw'; obtain ⟨⟨dq, osq⟩, hw''⟩ := hw'; have HBN : Hid (Below W6.heap.size W6 w4) := (by show Below _ _ _; rw [hw'']; exact Lw.bel_trans' (Lw.bel_trans' HBq.out HBW.out) (below_regrown Wq dq osq)); clear hw'' r0 r1 r2 r3 r4 r5 x0 x1 x2 y0 y1 y2 g1 g2 g3 g4 g5 g6 dg1 dg2 dg3; go_wp2_with fail; go_roundw)
              | (obtain ⟨Wq, hWq⟩ : ∃ W, W = ((wr.alloc (.cells #[.string an, .string bd, .int .i64 bs] 48)).alloc (.cells #[.string an, .string ad, .int .i64 as_] 48)).drew := ⟨_, rfl⟩; have HB2 := Lw.twoBoxes wr (.string an) (.string bd) (.int .i64 bs) (.string an) (.string ad) (.int .i64 as_) 48 48; rw [← hWq] at HB2 ⊢; clear hWq; have HBW := HB2.1; have x0 := HB2.2.2.1; have x1 := HB2.2.2.2.1; have x2 := HB2.2.2.2.2; have y0 := HB2.2.1.1; have y1 := HB2.2.1.2.1; have y2 := HB2.2.1.2.2; clear HB2; have g1 : ¬ (bd.size : Int) < as_ := (by have := HC2.out; omega); have g2 : ¬ (ad.size : Int) < (bd.size : Int) := (by have := HC2.out; omega); have g3 : (bd.size : Int) ≤ (ad.size : Int) := (by omega); have g4 : (0 : Int) ≤ (bd.size : Int) := (by omega); have g5 : ad.extract 0 bd.size = bd := HC2.out.2.2; have g6 : bd.size ≤ ad.size := (by omega); have r0 := cell_regrown x0; have r1 := cell_regrown x1; have r2 := cell_regrown x2; have r3 := cell_regrown y0; have r4 := cell_regrown y1; have r5 := cell_regrown y2; have dg1 : decide ((bd.size : Int) < as_) = false := decide_eq_false g1; have dg2 : decide ((ad.size : Int) < (bd.size : Int)) = false := decide_eq_false g2; have dg3 : decide (ad.size < bd.size) = false := decide_eq_false (by omega); go_wp2_with fail; (refine wp_region_quiet_below (by kernel_rfl) (by kernel_rfl) ?_); (repeat (go_big_quiet_step (fail))); (refine wpQuiet_nil ?_); intro w4 hw'; obtain ⟨⟨dq, osq⟩, hw''⟩ := hw'; have HBN : Hid (Below W6.heap.size W6 w4) := (by show Below _ _ _; rw [hw'']; exact Lw.bel_trans' (Lw.bel_trans' HBq.out HBW.out) (below_regrown Wq dq osq)); clear hw'' r0 r1 r2 r3 r4 r5 x0 x1 x2 y0 y1 y2 g1 g2 g3 g4 g5 g6 dg1 dg2 dg3; go_wp2_with fail; go_roundw)
            all_goals first | exact ⟨k + 1, by omega, by go_num, HBN.out⟩ | (simp [intOf]; omega)
          · have cf := SQ.2.1
            have HBF := Fk.hide (Lw.bel_trans HB7.out HBq.out)
            clear SQ
            go_wp2_with fail
            go_ret
            exact ⟨rfl, HBF.out⟩
end Go.Proofs.YtlmbejldnfkfhaaDoor

namespace Go.Proofs.YtlmbejldnfkfhaaDoor.fnFsCrash
open Go.ChangeShapes Go.WideShapes Go.ChangeAt Go.RowKit
open Go.ChangeMaps (open_string shut_string)
set_option linter.unusedVariables false

theorem own : ownKnob Tryd.prog.godebug = none := by kernel_rfl
theorem laidOut : laidOutB Tryd.prog = true := by kernel_rfl
theorem g0 : Tryd.prog.globalNamed "loop.example/g00446/impl.errTooLong" = some 0 := by kernel_rfl
theorem g0t : (Tryd.prog.globals[0]?).map (·.type) = some 95 := by kernel_rfl
theorem g1 : Tryd.prog.globalNamed "loop.example/g00446/impl.errNotRight" = some 1 := by kernel_rfl
theorem g1t : (Tryd.prog.globals[1]?).map (·.type) = some 95 := by kernel_rfl
theorem g2 : Tryd.prog.globalNamed "loop.example/g00446/impl.errNoFile" = some 3 := by kernel_rfl
theorem g2t : (Tryd.prog.globals[3]?).map (·.type) = some 95 := by kernel_rfl
theorem g3 : Tryd.prog.globalNamed "loop.example/g00446/impl.errOutside" = some 2 := by kernel_rfl
theorem g3t : (Tryd.prog.globals[2]?).map (·.type) = some 95 := by kernel_rfl
theorem g4 : Tryd.prog.globalNamed "loop.example/g00446/impl.errNoRoom" = some 4 := by kernel_rfl
theorem g4t : (Tryd.prog.globals[4]?).map (·.type) = some 95 := by kernel_rfl
theorem star : "*" ++ "errors.errorString" = "*errors.errorString" := by decide
theorem row1 (u : TypeId) (h : Tryd.prog.typeName? 3 u = some "*errors.errorString") : u = 234 :=
  typeName_ptr_named (nm := "errors.errorString") (by rw [star]; kernel_rfl) (by kernel_rfl) (by decide) u (by rw [star]; exact h)

theorem walk (a0 : Option Addr) (n0 c0 : Nat) (m0 : n0 ≤ maxLen) (a1 : Option Addr) (n1 c1 : Nat) (m1 : n1 ≤ maxLen) (w : World) (g0 : Dk.Bytes w.heap.size w a0 n0) (g1 : Dk.Bytes w.heap.size w a1 n1) (b0 b1 b2 b3 b4 : Addr) (hE : Is.Errs w b0 b1 b2 b3 b4) :
    Calls Tryd.prog 3 #[.slice a0 n0 c0, .slice a1 n1 c1] w fun e w' => e = .returned (.bool true) ∧ Below w.heap.size w w' :=
  fnCrash_walk a0 n0 c0 m0 a1 n1 c1 m1 w g0 g1 b0 b1 b2 b3 b4 hE

theorem ne_text {W : World} {a b : Addr} {s t : ByteArray} {x y : List UInt8} (h1 : W.cell? a = some (.string s)) (h2 : W.cell? b = some (.string t)) (e1 : s.data.toList = x) (e2 : t.data.toList = y) (hne : x ≠ y) : a ≠ b := by
  rintro rfl
  rw [h1] at h2
  simp only [Option.some.injEq, Value.string.injEq] at h2
  subst h2
  exact hne (e1.symm.trans e2)

/-- what the condition gives the walk: the five errors -/
theorem errs_of_laid {W : World} (h : laidMetH Tryd.prog Rows.fnFsCrashRow.laid W) : ∃ b0 b1 b2 b3 b4, Is.Errs W b0 b1 b2 b3 b4 := by
  have h0 : laidMet Tryd.prog Rows.fnFsCrashRow.laid W := h
  obtain ⟨q0, q1, s0, s1, _, _, _, _, hv0, hv1, hc0, hs0, _, hc1, hs1, _, _, hb0, hb1⟩ := laid_sentinels2 h0 g0 g0t g1 g1t Tryd.underlying95 row1 Tryd.underlying234 Tryd.underlying254 rfl rfl Tryd.underlying9 (by kernel_rfl) (by kernel_rfl)
  obtain ⟨q2, q3, s2, s3, _, _, _, _, hv2, hv3, hc2, hs2, _, hc3, hs3, _, _, hb2, hb3⟩ := laid_sentinels2 h0.tail.tail g2 g2t g3 g3t Tryd.underlying95 row1 Tryd.underlying234 Tryd.underlying254 rfl rfl Tryd.underlying9 (by kernel_rfl) (by kernel_rfl)
  obtain ⟨_, q4, _, s4, _, _, _, _, _, hv4, _, _, _, hc4, hs4, _, _, _, hb4⟩ := laid_sentinels2 h0.tail.tail.tail g3 g3t g4 g4t Tryd.underlying95 row1 Tryd.underlying234 Tryd.underlying254 rfl rfl Tryd.underlying9 (by kernel_rfl) (by kernel_rfl)
  refine ⟨q0, q1, q2, q3, q4, ?_, ?_, ?_, ?_, ?_, ⟨_, _, hb0⟩, ⟨_, _, hb1⟩, ⟨_, _, hb2⟩, ⟨_, _, hb3⟩, ⟨_, _, hb4⟩, ?_⟩
  · simpa [Is.ev] using World.var?_cell g0 hv0 0
  · simpa [Is.ev] using World.var?_cell g1 hv1 0
  · simpa [Is.ev] using World.var?_cell g2 hv2 0
  · simpa [Is.ev] using World.var?_cell g3 hv3 0
  · simpa [Is.ev] using World.var?_cell g4 hv4 0
  · simp only [List.pairwise_cons, List.mem_cons, List.not_mem_nil, or_false, forall_eq_or_imp, forall_eq, List.Pairwise.nil, and_true, false_implies, implies_true]
    exact ⟨⟨ne_text hc0 hc1 hs0 hs1 (by decide), ne_text hc0 hc2 hs0 hs2 (by decide), ne_text hc0 hc3 hs0 hs3 (by decide), ne_text hc0 hc4 hs0 hs4 (by decide)⟩,
      ⟨ne_text hc1 hc2 hs1 hs2 (by decide), ne_text hc1 hc3 hs1 hs3 (by decide), ne_text hc1 hc4 hs1 hs4 (by decide)⟩,
      ⟨ne_text hc2 hc3 hs2 hs3 (by decide), ne_text hc2 hc4 hs2 hs4 (by decide)⟩, ne_text hc3 hc4 hs3 hs4 (by decide)⟩

theorem vars_len {H : Type} {enc : TypeId × Value → H} {P : Program} {w : World} {sp : Nat → Bool} : ∀ {ns : List String} {gs : List (DataW H)} {ps : List MemPlace}, DataW.TrodVars enc P w sp ns gs ps → gs.length = ns.length
  | [], [], _, _ => rfl
  | [], _ :: _, _, h => h.elim
  | _ :: _, [], _, h => h.elim
  | _ :: _, _ :: _, _, h => by
    obtain ⟨_, _, _, _, _, _, _, _, _, _, hr, _⟩ := h
    simp [vars_len hr]

set_option maxRecDepth 100000 in
theorem lifted (os : Os) (started : os.Started) (H : Type) (enc : TypeId × Value → H) :
    ReturnsInHanded {} Tryd.checked os 3 .any (fun w args => (Rows.fnFsCrashSpec.pre enc Tryd.prog Tryd.f3 [] false w args ∧ laidMetH Tryd.prog Rows.fnFsCrashRow.laid w) ∧ sizedMet enc Tryd.prog Tryd.f3 (OpenSpec.ofChange Rows.fnFsCrashSpec) false w args)
      (Rows.fnFsCrashSpec.post enc Tryd.prog Tryd.f3 false true false false) := by
  refine returnsInHanded_of_change_and (C := Tryd.checked) (X := fun w _ => laidMetH Tryd.prog Rows.fnFsCrashRow.laid w) (fun _ _ _ hh h => h.of_heap hh) own started (by kernel_rfl) Tryd.func3
    (ChangeSpec.witness_at (enc := enc) (C := Tryd.checked) (os := os) (X := fun w _ => laidMetH Tryd.prog Rows.fnFsCrashRow.laid w) false
      { World.holding Tryd.prog os ⟨#[.cells #[.string { data := #[97, 32, 116, 101, 120, 116, 32, 105, 115, 32, 116, 111, 111, 32, 108, 111, 110, 103] }] 254, .cells #[.string { data := #[116, 104, 101, 32, 102, 105, 108, 101, 115, 32, 111, 114, 32, 97, 32, 110, 97, 109, 101, 32, 97, 114, 101, 32, 110, 111, 116, 32, 114, 105, 103, 104, 116] }] 254, .cells #[.string { data := #[116, 104, 101, 114, 101, 32, 105, 115, 32, 110, 111, 32, 102, 105, 108, 101, 32, 111, 102, 32, 116, 104, 97, 116, 32, 110, 97, 109, 101] }] 254, .cells #[.string { data := #[116, 104, 101, 32, 102, 105, 108, 101, 32, 100, 111, 101, 115, 32, 110, 111, 116, 32, 104, 97, 118, 101, 32, 116, 104, 97, 116, 32, 115, 105, 122, 101] }] 254, .cells #[.string { data := #[116, 104, 101, 114, 101, 32, 105, 115, 32, 110, 111, 32, 114, 111, 111, 109, 32, 102, 111, 114, 32, 105, 116] }] 254], #[], []⟩ with heap := ((((((World.holding Tryd.prog os ⟨#[.cells #[.string { data := #[97, 32, 116, 101, 120, 116, 32, 105, 115, 32, 116, 111, 111, 32, 108, 111, 110, 103] }] 254, .cells #[.string { data := #[116, 104, 101, 32, 102, 105, 108, 101, 115, 32, 111, 114, 32, 97, 32, 110, 97, 109, 101, 32, 97, 114, 101, 32, 110, 111, 116, 32, 114, 105, 103, 104, 116] }] 254, .cells #[.string { data := #[116, 104, 101, 114, 101, 32, 105, 115, 32, 110, 111, 32, 102, 105, 108, 101, 32, 111, 102, 32, 116, 104, 97, 116, 32, 110, 97, 109, 101] }] 254, .cells #[.string { data := #[116, 104, 101, 32, 102, 105, 108, 101, 32, 100, 111, 101, 115, 32, 110, 111, 116, 32, 104, 97, 118, 101, 32, 116, 104, 97, 116, 32, 115, 105, 122, 101] }] 254, .cells #[.string { data := #[116, 104, 101, 114, 101, 32, 105, 115, 32, 110, 111, 32, 114, 111, 111, 109, 32, 102, 111, 114, 32, 105, 116] }] 254], #[], []⟩).heap.modify 0 fun
        | .cells _ t frozen => .cells #[.iface 234 (.pointer (some ⟨11, 0, none⟩))] t frozen
        | o => o).modify 1 fun
        | .cells _ t frozen => .cells #[.iface 234 (.pointer (some ⟨12, 0, none⟩))] t frozen
        | o => o).modify 3 fun
        | .cells _ t frozen => .cells #[.iface 234 (.pointer (some ⟨13, 0, none⟩))] t frozen
        | o => o).modify 2 fun
        | .cells _ t frozen => .cells #[.iface 234 (.pointer (some ⟨14, 0, none⟩))] t frozen
        | o => o).modify 4 fun
        | .cells _ t frozen => .cells #[.iface 234 (.pointer (some ⟨15, 0, none⟩))] t frozen
        | o => o) }
      #[.slice none 0 0, .slice none 0 0] 8 rfl (by kernel_rfl) (by kernel_rfl) (by kernel_rfl) (by kernel_rfl) (by kernel_rfl)
      (show laidMet Tryd.prog Rows.fnFsCrashRow.laid _ from laidMet_of_run (ps := [.cell 0 0, .cell 11 0, .cell 1 0, .cell 12 0, .cell 3 0, .cell 13 0, .cell 2 0, .cell 14 0, .cell 4 0, .cell 15 0]) 8 (by kernel_rfl) (by kernel_rfl) (by kernel_rfl))) ?_
  intro W base args ds gs before hval0 hW _ _ hL _
  have hval : ∀ (j : Nat) t v, Tryd.f3.params[j]? = some t → args[j]? = some v → Value.okWide Tryd.prog W .any base t v := hval0
  have hW' := hW
  obtain ⟨p, q, hA0, hV0, rfl, hfz, hnd⟩ := hW
  have hA : DataW.TrodAll enc Tryd.prog W 0 (fun _ => true) true Tryd.f3.params.toList args.toList ds p := hA0
  have hV : DataW.TrodVars enc Tryd.prog W (fun _ => true) ["loop.example/g00446/impl.errTooLong", "loop.example/g00446/impl.errNotRight", "loop.example/g00446/impl.errNoFile", "loop.example/g00446/impl.errOutside", "loop.example/g00446/impl.errNoRoom"] gs q := hV0
  rw [Tryd.params3] at hA hval
  obtain ⟨v0, vs0, d0, ds0, p0, q0, hargs, rfl, rfl, h0, r0⟩ := trodAll_cons hA
  obtain ⟨v1, vs1, d1, ds1, p1, q1, rfl, rfl, rfl, h1, r1⟩ := trodAll_cons r0
  obtain ⟨rfl, rfl, rfl⟩ := trodAll_nil r1
  obtain rfl : args = #[v0, v1] := by cases args; simp_all
  have hlt : ∀ x ∈ p0 ++ (p1 ++ ([])), x.block < W.heap.size := fun x hx => hW'.lt x (by rw [List.mem_append]; exact .inl (by simpa using hx))
  have k0 := h0
  obtain ⟨a0, n0, c0, rfl, m0, g0⟩ := Dk.open_bytes Tryd.underlying22 Tryd.underlying5 (by kernel_rfl) (hval 0 22 v0 rfl rfl) h0
  have k1 := h1
  obtain ⟨a1, n1, c1, rfl, m1, g1⟩ := Dk.open_bytes Tryd.underlying22 Tryd.underlying5 (by kernel_rfl) (hval 1 22 v1 rfl rfl) h1
  clear hA0 hval0
  obtain ⟨b0, b1, b2, b3, b4, hE⟩ := errs_of_laid hL
  have hlen := vars_len hV
  obtain ⟨y1, y2, y3, y4, y5, rfl⟩ : ∃ y1 y2 y3 y4 y5, gs = [y1, y2, y3, y4, y5] := by
    match gs, hlen with
    | [y1, y2, y3, y4, y5], _ => exact ⟨_, _, _, _, _, rfl⟩
  have e1 : Rows.fnFsCrashSpec.fn H ([d0, d1] ++ [y1, y2, y3, y4, y5]) = { results := [.lit (.bool true)], args := [d0, d1], vars := [y1, y2, y3, y4, y5] } := by simp [Rows.fnFsCrashSpec]
  refine (walk a0 n0 c0 m0 a1 n1 c1 m1 W g0 g1 b0 b1 b2 b3 b4 hE).mono fun e W' ⟨he, bel⟩ => ?_
  subst he
  refine ⟨_, rfl, _, _, _, [], p0 ++ (p1 ++ ([])), q, hW', ?_, ?_, ?_, bel.frame _, fun h => by cases h⟩
  · rw [e1]; exact trodAll_mk1 (shut_bool Tryd.underlying4 true)
  · rw [e1]; exact (trodAll_cons_mk (Below.trod laidOut (by kernel_rfl) (of_decide_eq_true (by kernel_rfl)) k0 bel (fun x hx => hlt x (by simp [hx]))) (trodAll_cons_mk (Below.trod laidOut (by kernel_rfl) (of_decide_eq_true (by kernel_rfl)) k1 bel (fun x hx => hlt x (by simp [hx]))) trodAll_mk0))
  · rw [e1]; exact Below.trodVars laidOut bel (by kernel_rfl) hV

theorem over : Rows.FnFsCrashSaid :=
  OpenClaim.holds_of_wide 3 Tryd.f3 rfl rfl rfl rfl rfl rfl rfl ⟨rfl, rfl, rfl, rfl, rfl⟩ rfl rfl rfl rfl rfl (by kernel_rfl) Tryd.func3 (by kernel_rfl)
    (of_decide_eq_true (by kernel_rfl)) (by unfold Func.isWrapper; rw [if_neg (of_decide_eq_false (by kernel_rfl))]; exact ⟨rfl, rfl⟩)
    (fun os started H enc _ => lifted os started H enc)

/-- the tied card -/
theorem proved : Rows.FnFsCrashCardSaid :=
  Claim7.holds_tied_plain_at .later [] [.sentinel, .sentinel, .sentinel, .sentinel, .sentinel] true (true, "8ff0017d79d1d26287780b2fa41accb72124b14f6405c83b5f4120fa9a09ba10") true
    over (fun _ h => by cases h) (by kernel_rfl) (fun _ h => by cases h) fnFsCrash_row_tie rfl ⟨rfl, rfl⟩ (by kernel_rfl) rfl
    (fun f fn hf hfn => by
      obtain rfl : f = 3 := Option.some.inj ((show Tryd.prog.funcNamed "loop.example/g00446/laws.FnFsCrash" = some 3 by kernel_rfl).symm.trans hf) |>.symm
      obtain rfl : fn = Tryd.f3 := (Option.some.inj (Tryd.func3.symm.trans hfn)).symm
      exact ⟨by kernel_rfl, fun j t ht => by
        rw [Tryd.params3] at ht
        rcases j with _ | j
        · obtain rfl : t = 22 := by simpa using ht.symm
          exact (show Tryd.prog.wantsStandIn 22 = false by kernel_rfl)
        ·
          rcases j with _ | j
          · obtain rfl : t = 22 := by simpa using ht.symm
            exact (show Tryd.prog.wantsStandIn 22 = false by kernel_rfl)
          ·
            simp at ht
      ⟩)
    (by kernel_rfl)
#print axioms proved
end Go.Proofs.YtlmbejldnfkfhaaDoor.fnFsCrash

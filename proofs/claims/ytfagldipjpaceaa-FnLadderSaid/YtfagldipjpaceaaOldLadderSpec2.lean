/- The walk of the specification's OldLadder. -/
import Derived.Test.YtfagldipjpaceaaOldLadderSpec
import Derived.Test.YtfagldipjpaceaaOldBest
namespace Go.Proofs.Ytfagldipjpaceaa
open Go.RowKit
set_option linter.unusedVariables false
set_option linter.unusedSimpArgs false
namespace Ob
theorem side_amount {n : Int} {buy : Bool} {L : List Or.E} (h : side n buy L = true) (j : Nat) (hj : j < L.length) : 0 ≤ (at' L j).2.2.2.1 ∧ (at' L j).2.2.2.1 ≤ 1000 := by
  have := upTo_inv h j hj
  simp only [step, okN, Bool.and_eq_true, decide_eq_true_eq] at this
  omega
theorem right_inv {B A : List Or.E} {n : Int} (h : right B A n = true) : frame B A n ∧ side n true B = true ∧ side n false A = true := by
  simp only [right, Bool.and_eq_true, decide_eq_true_eq] at h
  exact ⟨h.1, h.2.1, h.2.2.1⟩
theorem right_pick {B A : List Or.E} {n : Int} (h : right B A n = true) (buy : Bool) : (pick buy B A).length ≤ 24 ∧ ∀ j, j < (pick buy B A).length → 0 ≤ (at' (pick buy B A) j).2.2.2.1 ∧ (at' (pick buy B A) j).2.2.2.1 ≤ 1000 := by
  obtain ⟨h1, h2, h3⟩ := right_inv h
  unfold frame at h1
  cases buy
  · exact ⟨by show A.length ≤ 24; omega, side_amount h3⟩
  · exact ⟨by show B.length ≤ 24; omega, side_amount h2⟩
/-- the rungs of a side of a right book -/
def ladder (B A : List Or.E) (n : Int) (buy : Bool) : List Rg.E := if right B A n then rungs (pick buy B A) (pick buy B A).length else []
end Ob

set_option maxRecDepth 100000 in
set_option maxHeartbeats 4000000 in
theorem oldLadder_spec (u v : Value) (n : Int) (buy : Bool) (B A : List Or.E) (w : World) (hu : Rk.View Or.S w u B) (hv : Rk.View Or.S w v A) (su : Rk.Shut u) (sv : Rk.Shut v) (l0 : B.length ≤ 1048576) (l1 : A.length ≤ 1048576) :
    Calls Try.prog 27 #[.agg #[u, v, .int .i64 n], .bool buy] w fun e w' => (∃ x, e = .returned x ∧ Rk.Own Rg.S w' w.heap.size 55 x (Ob.ladder B A n buy)) ∧ Below w.heap.size w w' := by
  obtain ⟨W, hW⟩ : ∃ W, W = w.alloc (.cells #[u, v, .int .i64 n] 25) := ⟨_, rfl⟩
  have b0 : Below w.heap.size w W := by rw [hW]; exact (Below.refl _ _).alloc (Nat.le_refl _) _
  have c0 : W.cell? ⟨w.heap.size, 0, none⟩ = some u := by rw [hW, Fk.cellTop _ _ _ _ _ rfl]; rfl
  have c1 : W.cell? ⟨w.heap.size, 1, none⟩ = some v := by rw [hW, Fk.cellTop _ _ _ _ _ rfl]; rfl
  have c2 : W.cell? ⟨w.heap.size, 2, none⟩ = some (.int .i64 n) := by rw [hW, Fk.cellTop _ _ _ _ _ rfl]; rfl
  have hz : w.heap.size < W.heap.size := by rw [hW]; simp
  have HU := Fk.hide hu
  have HV := Fk.hide hv
  obtain ⟨a0, cap0, rfl, _⟩ := hu
  obtain ⟨a1, cap1, rfl, _⟩ := hv
  have HW := Fk.hide hW
  clear hW
  go_enter Try.func27, Try.ntmps27
  go_wp2_with fail
  rw [← HW.out]
  refine (oldRight_spec _ _ _ B A _ (HU.out.below b0) (HV.out.below b0) su sv l0 l1).mono ?_
  rintro e w1 ⟨rfl, k1⟩
  have B1 : Below w.heap.size w w1 := b0.trans (k1.mono b0.size)
  have d0 := (k1.cell (p := ⟨w.heap.size, 0, none⟩) (by show w.heap.size < _; omega)).trans c0
  have d1 := (k1.cell (p := ⟨w.heap.size, 1, none⟩) (by show w.heap.size < _; omega)).trans c1
  have d2 := (k1.cell (p := ⟨w.heap.size, 2, none⟩) (by show w.heap.size < _; omega)).trans c2
  have hz1 : w.heap.size < w1.heap.size := Nat.lt_of_lt_of_le hz k1.size
  clear k1 c0 c1 c2
  obtain ⟨r, hr⟩ : ∃ r, r = Ob.right B A n := ⟨_, rfl⟩
  rw [← hr]
  have HR := Fk.hide hr
  clear hr
  cases r with
  | false =>
    have HA : Hid (Ob.ladder B A n buy = []) := by show _ = _; unfold Ob.ladder; rw [← HR.out]; rfl
    have HM : Hid (Rk.Own Rg.S (w1.alloc (.cells #[] 55)) w.heap.size 55 (.slice (some ⟨w1.heap.size, 0, none⟩) 0 0) []) := Rk.own_empty w1 55 w.heap.size (by omega)
    have HB : Hid (Below w.heap.size w (w1.alloc (.cells #[] 55))) := B1.alloc B1.size _
    go_wp2_with fail
    go_ret
    exact ⟨⟨_, rfl, by rw [HA.out]; exact HM.out⟩, HB.out⟩
  | true =>
    obtain ⟨L, hL⟩ : ∃ L, L = Ob.pick buy B A := ⟨_, rfl⟩
    have HP := Ob.right_pick HR.out.symm buy
    rw [← hL] at HP
    have HA : Hid (Ob.ladder B A n buy = Ob.rungs L L.length) := by show _ = _; unfold Ob.ladder; rw [← HR.out, ← hL]; rfl
    have HL := Fk.hide hL
    clear hL
    obtain ⟨hP1, hP2⟩ := HP
    have HP2 := Fk.hide hP2
    clear hP2
    go_wp2_with fail
    refine (l06Open_any _ _ _ B A _ (HU.out.below B1) (HV.out.below B1) su sv l0 l1).mono ?_
    rintro e w2 ⟨⟨p, q, bb, rfl, T1, hb1, hb2, cp, cq, _, _⟩, k2⟩
    have B2 : Below w.heap.size w w2 := B1.trans (k2.mono B1.size)
    clear k2 d0 d1 d2
    have HP1 : Hid (Rk.View Or.S w2 (Ob.pick buy p q) L) := by
      show Rk.View _ _ _ _
      rw [HL.out]; exact Ob.view_pick buy T1.b.view T1.a.view
    obtain ⟨a, cap, ev, hs⟩ := HP1.out
    obtain ⟨p1, p2, p3, rfl⟩ := T1.b.slice'
    obtain ⟨q1, q2, q3, rfl⟩ := T1.a.slice'
    go_wp2_with fail
    refine (side_any bb _ _ buy _ cp cq ⟨_, _, _, rfl⟩ ⟨_, _, _, rfl⟩).mono ?_
    rw [ev]
    rintro e _ ⟨rfl, hh⟩
    rw [hh]
    clear hh cp cq
    have HP3 : Hid (Rk.View Or.S w2 (.slice a L.length cap) L) := by
      show Rk.View _ _ _ _
      rw [← ev]; exact HP1.out
    go_wp2_with fail
    refine (l06Ladder_any _ L _ HP3.out hP1 HP2.out).mono ?_
    rintro e w3 ⟨⟨x, rfl, ox⟩, k3⟩
    have HB3 : Hid (Below w.heap.size w w3) := B2.trans (k3.mono B2.size)
    have HO3 : Hid (Rk.Own Rg.S w3 w.heap.size 55 x (Ob.rungs L L.length)) := Rk.Own.mono ox B2.size
    obtain ⟨x1, x2, x3, rfl⟩ := ox.slice'
    clear k3 ox
    go_wp2_with fail
    go_ret
    exact ⟨⟨_, rfl, by rw [HA.out]; exact HO3.out⟩, HB3.out⟩
end Go.Proofs.Ytfagldipjpaceaa

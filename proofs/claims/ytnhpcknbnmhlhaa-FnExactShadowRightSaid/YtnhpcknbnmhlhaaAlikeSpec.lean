/- The walk of the specification's Alike. -/
import Derived.Test.YtnhpcknbnmhlhaaSameOrders
import Derived.Test.YtnhpcknbnmhlhaaOldRightSpec2
import Derived.Test.YtnhpcknbnmhlhaaNewOpenSpec2
namespace Go.Proofs.Ytnhpcknbnmhlhaa
open Go.RowKit
set_option linter.unusedVariables false
set_option linter.unusedSimpArgs false
set_option maxRecDepth 100000 in
set_option maxHeartbeats 16000000 in
theorem alike_spec' (u v x y : Value) (n0 n : Int) (B0 A0 : List Or.E) (B A : List Lv.E) (w : World) (hu : Rk.View Or.S w u B0) (hv : Rk.View Or.S w v A0) (su : Rk.Shut u) (sv : Rk.Shut v) (hx : Lv.View w x B) (hy : Lv.View w y A) (l0 : B0.length ≤ 1048576) (l1 : A0.length ≤ 1048576) (l2 : B.length ≤ 1048576) (l3 : A.length ≤ 1048576) (m0 : (Nb.flat B).length ≤ 1048576) (m1 : (Nb.flat A).length ≤ 1048576) :
    Calls Try.prog 17 #[.agg #[u, v, .int .i64 n0], .agg #[x, y, .int .i64 n]] w fun e w' => e = .returned (.bool (Nb.alike B0 A0 n0 B A n)) ∧ Below w.heap.size w w' := by
  obtain ⟨W, hW⟩ : ∃ W, W = (w.alloc (.cells #[u, v, .int .i64 n0] 34)).alloc (.cells #[x, y, .int .i64 n] 37) := ⟨_, rfl⟩
  have b0 : Below w.heap.size w W := by
    rw [hW]
    repeat (first | exact Below.refl _ _ | refine Below.alloc ?_ (by simp <;> omega) _)
  have hz : W.heap.size = w.heap.size + 2 := by rw [hW]; simp
  have ao0 : W.cell? ⟨w.heap.size, 0, none⟩ = some (u) := by rw [hW, Fk.cellOld _ _ _ _ (by simp), Fk.cellTop _ _ _ _ _ rfl]; rfl
  have ao1 : W.cell? ⟨w.heap.size, 1, none⟩ = some (v) := by rw [hW, Fk.cellOld _ _ _ _ (by simp), Fk.cellTop _ _ _ _ _ rfl]; rfl
  have ao2 : W.cell? ⟨w.heap.size, 2, none⟩ = some (.int .i64 n0) := by rw [hW, Fk.cellOld _ _ _ _ (by simp), Fk.cellTop _ _ _ _ _ rfl]; rfl
  have an0 : W.cell? ⟨w.heap.size + 1, 0, none⟩ = some (x) := by rw [hW, Fk.cellTop _ _ _ _ _ (by simp)]; rfl
  have an1 : W.cell? ⟨w.heap.size + 1, 1, none⟩ = some (y) := by rw [hW, Fk.cellTop _ _ _ _ _ (by simp)]; rfl
  have an2 : W.cell? ⟨w.heap.size + 1, 2, none⟩ = some (.int .i64 n) := by rw [hW, Fk.cellTop _ _ _ _ _ (by simp)]; rfl
  have HZ : Hid (w.heap.size < W.heap.size ∧ w.heap.size + 1 < W.heap.size) := by show _ ∧ _; omega
  have HU := Fk.hide (hu.below b0)
  have HV := Fk.hide (hv.below b0)
  have HX := Fk.hide (hx.below b0)
  have HY := Fk.hide (hy.below b0)
  have HSU := Fk.hide su
  have HSV := Fk.hide sv
  obtain ⟨a0, cap0, rfl, _⟩ := hu
  obtain ⟨a1, cap1, rfl, _⟩ := hv
  obtain ⟨b0', cap2, rfl⟩ := hx.slice
  obtain ⟨b1', cap3, rfl⟩ := hy.slice
  have HB0 := Fk.hide b0
  have HW := Fk.hide hW
  clear hW b0 hz su sv hx hy
  go_enter Try.func17, Try.ntmps17
  go_wp2_with fail
  rw [← HW.out]
  refine (l07Open_any _ _ _ B A _ HX.out HY.out l2 l3 m0 m1).mono ?_
  rintro e w1 ⟨⟨x, y, b, FB, FA, rfl, ho⟩, k1⟩
  have HB1 : Hid (Below w.heap.size w w1) := HB0.out.trans (k1.mono HB0.out.size)
  have po0 := (k1.cell (p := ⟨w.heap.size, 0, none⟩) (by exact HZ.out.1)).trans ao0
  have po1 := (k1.cell (p := ⟨w.heap.size, 1, none⟩) (by exact HZ.out.1)).trans ao1
  have po2 := (k1.cell (p := ⟨w.heap.size, 2, none⟩) (by exact HZ.out.1)).trans ao2
  have pn2 := (k1.cell (p := ⟨w.heap.size + 1, 2, none⟩) (by exact HZ.out.2)).trans an2
  have HS1 : Hid (w.heap.size < w1.heap.size ∧ w.heap.size + 1 < w1.heap.size) := by have h1 := HZ.out; have h3 := k1.size; show _ ∧ _; omega
  have HU1 := Fk.hide (HU.out.below k1)
  have HV1 := Fk.hide (HV.out.below k1)
  obtain ⟨t, h1, h2, ⟨c0, c1, _, _⟩, h3, h4, h5⟩ := ho
  have HT := Fk.hide t
  have HBW := Fk.hide h2
  have HEQ := Fk.hide h3
  have HL4 : Hid (FB.length ≤ 2097152) := by show _ ≤ _; omega
  have HL5 : Hid (FA.length ≤ 2097152) := by show _ ≤ _; omega
  have HL0 : Hid (B0.length ≤ 2097152) := by show _ ≤ _; omega
  have HL1 : Hid (A0.length ≤ 2097152) := by show _ ≤ _; omega
  obtain ⟨x0, xc, rfl⟩ := t.b.slice
  obtain ⟨y0, yc, rfl⟩ := t.a.slice
  obtain ⟨r, hr⟩ : ∃ r, r = Nb.right B A n := ⟨_, rfl⟩
  rw [← hr]
  have HR := Fk.hide hr
  have HAL : Hid (Nb.alike B0 A0 n0 B A n = (Nb.right B A n && (Ob.right B0 A0 n0 && (decide (n0 = n) && (decide (B0 = Nb.flat B) && decide (A0 = Nb.flat A)))))) := (Nb.alike_spec B0 A0 n0 B A n).symm
  have HD : Hid (Below w1.heap.size w1 w1.drew) := Below.drew (Below.refl _ _)
  clear hr k1 ao0 ao1 ao2 an0 an1 an2 HU HV t h1 h2 h3 h4 h5
  have go0 := cell_regrown po0
  have go1 := cell_regrown po1
  have go2 := cell_regrown po2
  have gn2 := cell_regrown pn2
  have gc0 := cell_regrown c0
  have gc1 := cell_regrown c1
  cases r with
  | false =>
    have HE : Hid (Nb.alike B0 A0 n0 B A n = false) := by show _ = _; rw [HAL.out, ← HR.out]; rfl
    go_wp2_with fail
    refine wp_region_quiet_below (by kernel_rfl) (by kernel_rfl) ?_
    repeat (go_big_quiet_step (fail))
    refine wpQuiet_nil ?_
    intro w9 hw'
    obtain ⟨⟨dq, osq⟩, hw''⟩ := hw'
    have HBE : Hid (Below w.heap.size w w9) := by show Below _ _ _; rw [hw'']; exact HB1.out.trans ((below_regrown w1 dq osq).mono HB1.out.size)
    clear hw''
    go_wp2_with fail
    go_ret
    exact ⟨by rw [HE.out]; rfl, HBE.out⟩
  | true =>
    obtain ⟨e1, e2⟩ := HEQ.out HR.out.symm
    have HAL2 : Hid (Nb.alike B0 A0 n0 B A n = (Ob.right B0 A0 n0 && (decide (n0 = n) && (decide (B0 = FB) && decide (A0 = FA))))) := by show _ = _; rw [HAL.out, ← HR.out, e1, e2]; rfl
    clear e1 e2 HEQ HAL
    have HOR0 : Hid (∀ w', Below w1.heap.size w1 w' → Calls Try.prog 29 #[.agg #[.slice a0 B0.length cap0, .slice a1 A0.length cap1, .int .i64 n0]] w' fun e w'' => e = .returned (.bool (Ob.right B0 A0 n0)) ∧ Below w'.heap.size w' w'') := fun w' h => oldRight_spec _ _ n0 B0 A0 w' (HU1.out.below h) (HV1.out.below h) HSU.out HSV.out l0 l1
    have HS10 : Hid (∀ w', Below w1.heap.size w1 w' → Calls Try.prog 30 #[.slice a0 B0.length cap0, .slice x0 FB.length xc] w' fun e w'' => e = .returned (.bool (decide (B0 = FB))) ∧ Below w'.heap.size w' w'') := fun w' h => l09Same_any _ _ B0 FB w' (HU1.out.below h) (HT.out.b.view.below h) HL0.out HL4.out
    have HS20 : Hid (∀ w', Below w1.heap.size w1 w' → Calls Try.prog 30 #[.slice a1 A0.length cap1, .slice y0 FA.length yc] w' fun e w'' => e = .returned (.bool (decide (A0 = FA))) ∧ Below w'.heap.size w' w'') := fun w' h => l09Same_any _ _ A0 FA w' (HV1.out.below h) (HT.out.a.view.below h) HL1.out HL5.out
    obtain ⟨s, hs⟩ : ∃ z, z = Ob.right B0 A0 n0 := ⟨_, rfl⟩
    rw [← hs] at HOR0 HAL2
    clear hs
    obtain ⟨e, he⟩ : ∃ z, z = decide (B0 = FB) := ⟨_, rfl⟩
    rw [← he] at HS10 HAL2
    clear he
    obtain ⟨g, hg⟩ : ∃ z, z = decide (A0 = FA) := ⟨_, rfl⟩
    rw [← hg] at HS20 HAL2
    clear hg
    have HOR := HOR0
    have HS1c := HS10
    have HS2c := HS20
    clear HOR0 HS10 HS20
    cases s with
    | false =>
      have HE : Hid (Nb.alike B0 A0 n0 B A n = false) := by show _ = _; rw [HAL2.out]; simp
      go_wp2_with fail
      refine wp_region_quiet_below (by kernel_rfl) (by kernel_rfl) ?_
      repeat (go_big_quiet_step (first | (go_at_call 29; exact Calls.regrown_of (HOR.out _ (below_regrown _ _ _))) | (go_at_call_of 30 x0; exact Calls.regrown_of (HS1c.out _ (below_regrown _ _ _))) | (go_at_call_of 30 y0; exact Calls.regrown_of (HS2c.out _ (below_regrown _ _ _)))))
      refine wpQuiet_nil ?_
      intro w9 hw'
      obtain ⟨⟨dq, osq⟩, hw''⟩ := hw'
      have HBE : Hid (Below w.heap.size w w9) := by show Below _ _ _; rw [hw'']; exact HB1.out.trans ((below_regrown w1 dq osq).mono HB1.out.size)
      clear hw''
      go_wp2_with fail
      go_ret
      exact ⟨by rw [HE.out]; rfl, HBE.out⟩
    | true =>
      by_cases hn : n0 = n
      case neg =>
        have d1 : decide (n0 = n) = false := decide_eq_false hn
        have d2 : (n0 == n) = false := by simpa using hn
        have HE : Hid (Nb.alike B0 A0 n0 B A n = false) := by show _ = _; rw [HAL2.out, d1]; simp
        go_wp2_with fail
        refine wp_region_quiet_below (by kernel_rfl) (by kernel_rfl) ?_
        repeat (go_big_quiet_step (first | (go_at_call 29; exact Calls.regrown_of (HOR.out _ (below_regrown _ _ _))) | (go_at_call_of 30 x0; exact Calls.regrown_of (HS1c.out _ (below_regrown _ _ _))) | (go_at_call_of 30 y0; exact Calls.regrown_of (HS2c.out _ (below_regrown _ _ _)))))
        refine wpQuiet_nil ?_
        intro w9 hw'
        obtain ⟨⟨dq, osq⟩, hw''⟩ := hw'
        have HBE : Hid (Below w.heap.size w w9) := by show Below _ _ _; rw [hw'']; exact HB1.out.trans ((below_regrown w1 dq osq).mono HB1.out.size)
        clear hw''
        go_wp2_with fail
        go_ret
        exact ⟨by rw [HE.out]; rfl, HBE.out⟩
      subst hn
      cases e with
      | false =>
        have HE : Hid (Nb.alike B0 A0 n0 B A n0 = false) := by show _ = _; rw [HAL2.out]; simp
        go_wp2_with fail
        refine wp_region_quiet_below (by kernel_rfl) (by kernel_rfl) ?_
        repeat (go_big_quiet_step (first | (go_at_call 29; exact Calls.regrown_of (HOR.out _ (below_regrown _ _ _))) | (go_at_call_of 30 x0; exact Calls.regrown_of (HS1c.out _ (below_regrown _ _ _))) | (go_at_call_of 30 y0; exact Calls.regrown_of (HS2c.out _ (below_regrown _ _ _)))))
        refine wpQuiet_nil ?_
        intro w9 hw'
        obtain ⟨⟨dq, osq⟩, hw''⟩ := hw'
        have HBE : Hid (Below w.heap.size w w9) := by show Below _ _ _; rw [hw'']; exact HB1.out.trans ((below_regrown w1 dq osq).mono HB1.out.size)
        clear hw''
        go_wp2_with fail
        go_ret
        exact ⟨by rw [HE.out]; rfl, HBE.out⟩
      | true =>
        have HE : Hid (Nb.alike B0 A0 n0 B A n0 = g) := by show _ = _; rw [HAL2.out]; simp
        go_wp2_with fail
        refine wp_region_quiet_below (by kernel_rfl) (by kernel_rfl) ?_
        repeat (go_big_quiet_step (first | (go_at_call 29; exact Calls.regrown_of (HOR.out _ (below_regrown _ _ _))) | (go_at_call_of 30 x0; exact Calls.regrown_of (HS1c.out _ (below_regrown _ _ _))) | (go_at_call_of 30 y0; exact Calls.regrown_of (HS2c.out _ (below_regrown _ _ _)))))
        refine wpQuiet_nil ?_
        intro w9 hw'
        obtain ⟨⟨dq, osq⟩, hw''⟩ := hw'
        have HBE : Hid (Below w.heap.size w w9) := by show Below _ _ _; rw [hw'']; exact HB1.out.trans ((below_regrown w1 dq osq).mono HB1.out.size)
        clear hw''
        go_wp2_with fail
        go_ret
        exact ⟨by rw [HE.out]; rfl, HBE.out⟩
end Go.Proofs.Ytnhpcknbnmhlhaa

/- The walks of the program's RecWith. -/
import Derived.Test.YtkkmjffepdejnaaRecWithMath
import Derived.Test.YtkkmjffepdejnaaRecPickImpl
import Derived.Test.YtkkmjffepdejnaaRecRightImpl
namespace Go.Proofs.Ytkkmjffepdejnaa
open Go.RowKit
set_option linter.unusedVariables false
set_option linter.unusedSimpArgs false

namespace Rc
/-- a list with x at the place p -/
def ins (M : List Fd.E) (x : Fd.E) (p : Nat) : List Fd.E := M.take p ++ x :: M.drop p
theorem ins_length (M : List Fd.E) (x : Fd.E) {p : Nat} (h : p ≤ M.length) : (ins M x p).length = M.length + 1 := by simp [ins]; omega
theorem ins_end (M : List Fd.E) (x : Fd.E) : ins M x M.length = M ++ [x] := by simp [ins]
theorem ins_at (M : List Fd.E) (x : Fd.E) {p : Nat} (h : p ≤ M.length) : Rk.at_ Fd.S (ins M x p) p = x := by
  have hl : (M.take p).length = p := by simp; omega
  unfold Rk.at_ ins
  rw [List.getD_eq_getElem?_getD, List.getElem?_append_right (by omega), hl, Nat.sub_self]
  rfl
theorem ins_low (M : List Fd.E) (x : Fd.E) {p j : Nat} (h : p ≤ M.length) (hj : j < p) : Rk.at_ Fd.S (ins M x p) j = Rk.at_ Fd.S M j := by
  have hl : (M.take p).length = p := by simp; omega
  unfold Rk.at_ ins
  rw [List.getD_eq_getElem?_getD, List.getElem?_append_left (by omega), List.getElem?_take_of_lt hj, List.getD_eq_getElem?_getD]
/-- the swap -/
theorem ins_swap (M : List Fd.E) (x : Fd.E) {p : Nat} (h : p + 1 ≤ M.length) : ((ins M x (p + 1)).set (p + 1) (Rk.at_ Fd.S M p)).set p x = ins M x p := by
  have hp : p < M.length := by omega
  have e1 : M.take (p + 1) = M.take p ++ [M[p]] := List.take_succ_eq_append_getElem hp
  have e2 : M.drop p = M[p] :: M.drop (p + 1) := List.drop_eq_getElem_cons hp
  have hl : (M.take p).length = p := by simp; omega
  rw [Rk.at_get M p hp]
  unfold ins
  rw [e1, e2, List.append_assoc, List.singleton_append, List.set_append_right _ _ (by omega), hl, show p + 1 - p = 1 by omega, List.set_append_right _ _ (by omega), hl, Nat.sub_self]
  rfl
end Rc

set_option maxHeartbeats 8000000 in
theorem inOrder_any (u : Value) (M : List Fd.E) (x : Fd.E) (base : Nat) (w : World) (ho : Rk.Own Fd.S w base 76 u (M ++ [x])) (hM : Rc.Up M) (hne : ∀ f ∈ M, f.1 ≠ x.1) (hl : M.length ≤ 30) :
    Calls Try.prog 58 #[u, .func (.func 59) #[] #[]] w fun e w' => (e = .returned u ∧ ∃ p, p ≤ M.length ∧ Rk.Own Fd.S w' base 76 u (Rc.ins M x p) ∧ (p < M.length → x.1 < Rc.idAt M p) ∧ (0 < p → Rc.idAt M (p - 1) < x.1)) ∧ w.grownBy w' u.ownBlock := by
  obtain ⟨g, cap, rfl⟩ : ∃ g cap, u = .slice (some ⟨g, 0, none⟩) (M.length + 1) cap := by
    rcases ho.form with ⟨h1, h2⟩ | ⟨g, c, h1, _⟩
    · simp at h2
    · exact ⟨g, c, by rw [h1]; simp⟩
  obtain ⟨n, hn⟩ : ∃ n, n = M.length + 1 := ⟨_, rfl⟩
  rw [← hn] at ho ⊢
  have hn1 : n ≤ 31 := by omega
  have hn2 : M.length + 1 ≤ n := by omega
  have hn3 : n ≤ M.length + 1 := by omega
  have HO := Fk.hide ho
  clear ho hn
  go_enter Try.func58, Try.ntmps58
  go_wp2_with fail
  go_loopw [9] (fun i wr => ∃ k p : Nat, k ≤ n ∧ i = .int .i64 k ∧ p ≤ M.length ∧ (k ≤ M.length → p = M.length) ∧ Hid (Rk.Own Fd.S wr base 76 (.slice (some ⟨g, 0, none⟩) n cap) (Rc.ins M x p)) ∧ Hid (k = n → (p < M.length → x.1 < Rc.idAt M p) ∧ (0 < p → Rc.idAt M (p - 1) < x.1)) ∧ Hid (w.grownBy wr (some g))) (fun i _ => n - (intOf i).toNat)
  case atStart => exact ⟨0, M.length, Nat.zero_le _, rfl, Nat.le_refl _, fun _ => rfl, by show Rk.Own _ _ _ _ _ _; rw [Rc.ins_end]; exact HO.out, fun h => by omega, World.grownBy.refl _ _⟩
  case round =>
    obtain ⟨k, p, hk, rfl, hp, hkp, HP, HQ, HG⟩ := hrel
    by_cases hlt : k < n
    · have hpM : p = M.length := hkp (by omega)
      subst hpM
      go_wp2_with fail
      go_loopw [6] (fun i wr => ∃ q p : Nat, q ≤ k ∧ i = .int .i64 q ∧ p ≤ M.length ∧ (k < M.length → p = M.length ∧ q = k) ∧ (k = M.length → p = q) ∧ Hid (Rk.Own Fd.S wr base 76 (.slice (some ⟨g, 0, none⟩) n cap) (Rc.ins M x p)) ∧ Hid (k = M.length → (p < M.length → x.1 < Rc.idAt M p)) ∧ Hid (w.grownBy wr (some g))) (fun i _ => (intOf i).toNat)
      case atStart => exact ⟨k, M.length, Nat.le_refl _, rfl, Nat.le_refl _, fun _ => ⟨rfl, rfl⟩, fun h => h.symm, HP.out, fun _ h => by omega, HG.out⟩
      case round =>
        obtain ⟨q, p, hq, rfl, hp, hlow, hend, HP, HX, HG⟩ := hrel
        by_cases hq0 : q = 0
        · have d1 : decide (0 < q) = false := decide_eq_false (by omega)
          have d2 : decide ((0 : Int) < (q : Int)) = false := decide_eq_false (by omega)
          have HN : Hid ((k + 1 ≤ M.length → p = M.length) ∧ (k + 1 = n → (p < M.length → x.1 < Rc.idAt M p) ∧ (0 < p → Rc.idAt M (p - 1) < x.1))) := ⟨fun h => (hlow (by omega)).1, fun h => ⟨HX.out (by omega), fun h0 => by have := hend (by omega); omega⟩⟩
          have fb : ∀ w' : World, True := fun _ => trivial
          clear hq0
          go_wp2_with fail
          refine wp_region_quiet_below (by kernel_rfl) (by kernel_rfl) ?_
          repeat (go_big_quiet_step (fail))
          refine wpQuiet_nil ?_
          intro w4 hw'
          obtain ⟨⟨dq, osq⟩, hw''⟩ := hw'
          have b4 : Below wr.heap.size wr w4 := by rw [hw'']; exact below_regrown wr dq osq
          have O4 := Fk.hide (HP.out.below b4)
          have G4 := Fk.hide (Fk.grownBy_trans HG.out (Fk.grownBy_below (some g) b4))
          clear hw'' b4 d1 d2 fb
          go_wp2_with fail
          go_roundw
          case rel => exact ⟨k + 1, p, by omega, by go_num, hp, HN.out.1, O4.out, HN.out.2, G4.out⟩
          case measure => simp [intOf]; omega
        · have hlen : (Rc.ins M x p).length = n := by rw [Rc.ins_length M x hp]; omega
          have hqn : q < (Rc.ins M x p).length := by omega
          have hqn1 : q - 1 < (Rc.ins M x p).length := by omega
          have q0 := HP.out.at hqn 0 (by decide)
          have q1 := HP.out.at hqn 1 (by decide)
          have p0 := HP.out.at hqn1 0 (by decide)
          have p1 := HP.out.at hqn1 1 (by decide)
          change wr.cell? ⟨g, q * 2, none⟩ = some (.int .i64 (Rk.at_ Fd.S (Rc.ins M x p) q).1) at q0
          change wr.cell? ⟨g, q * 2 + 1, none⟩ = some (.string (Rk.at_ Fd.S (Rc.ins M x p) q).2) at q1
          change wr.cell? ⟨g, (q - 1) * 2, none⟩ = some (.int .i64 (Rk.at_ Fd.S (Rc.ins M x p) (q - 1)).1) at p0
          change wr.cell? ⟨g, (q - 1) * 2 + 1, none⟩ = some (.string (Rk.at_ Fd.S (Rc.ins M x p) (q - 1)).2) at p1
          obtain ⟨e1, he1⟩ : ∃ e, e = Rk.at_ Fd.S (Rc.ins M x p) q := ⟨_, rfl⟩
          obtain ⟨e0, he0⟩ : ∃ e, e = Rk.at_ Fd.S (Rc.ins M x p) (q - 1) := ⟨_, rfl⟩
          rw [← he1] at q0 q1
          rw [← he0] at p0 p1
          have HE := Fk.hide (⟨he1, he0⟩ : _ ∧ _)
          clear he1 he0
          have r0 := cell_regrown q0
          have r1 := cell_regrown q1
          have r2 := cell_regrown p0
          have r3 := cell_regrown p1
          have d1 : decide (0 < q) = true := decide_eq_true (by omega)
          have d2 : decide ((0 : Int) < (q : Int)) = true := decide_eq_true (by omega)
          have k2 : ((q : Int) - 1).toNat = q - 1 := by omega
          have k3 : (0 : Int) ≤ (q : Int) - 1 := by omega
          have k4 : (q : Int) - 1 < (n : Int) := by omega
          have k5 : (q : Int) < (n : Int) := by omega
          have k6 : (0 : Int) ≤ (q : Int) := by omega
          have fb : ∀ w', Calls Try.prog 59 #[.agg #[.int .i64 e1.1, .string e1.2], .agg #[.int .i64 e0.1, .string e0.2]] w' fun e w'' => e = .returned (.bool (decide (e1.1 < e0.1))) ∧ Below w'.heap.size w' w'' := fun w' => fieldBefore_any e1.1 e0.1 e1.2 e0.2 w'
          obtain ⟨d, hd⟩ : ∃ d, d = decide (e1.1 < e0.1) := ⟨_, rfl⟩
          have HD := Fk.hide hd
          rw [← hd] at fb
          clear hd
          go_wp2_with fail
          refine wp_region_quiet_below (by kernel_rfl) (by kernel_rfl) ?_
          repeat (go_big_quiet_step (exact Calls.regrown_of (fb _)))
          refine wpQuiet_nil ?_
          intro w4 hw'
          obtain ⟨⟨dq, osq⟩, hw''⟩ := hw'
          have b4 : Below wr.heap.size wr w4 := by rw [hw'']; exact below_regrown wr dq osq
          have O4 := Fk.hide (HP.out.below b4)
          have G4 := Fk.hide (Fk.grownBy_trans HG.out (Fk.grownBy_below (some g) b4))
          have s0 : w4.cell? ⟨g, q * 2, none⟩ = some (.int .i64 e1.1) := by rw [hw'']; exact r0 dq osq
          have s1 : w4.cell? ⟨g, q * 2 + 1, none⟩ = some (.string e1.2) := by rw [hw'']; exact r1 dq osq
          have s2 : w4.cell? ⟨g, (q - 1) * 2, none⟩ = some (.int .i64 e0.1) := by rw [hw'']; exact r2 dq osq
          have s3 : w4.cell? ⟨g, (q - 1) * 2 + 1, none⟩ = some (.string e0.2) := by rw [hw'']; exact r3 dq osq
          have sf : ∀ j, w4.frozen? ⟨g, j, none⟩ = false := fun j => O4.out.frozen j
          clear hw'' b4 r0 r1 r2 r3 fb q0 q1 p0 p1 d1 d2
          cases d with
          | false =>
            have HN : Hid ((k + 1 ≤ M.length → p = M.length) ∧ (k + 1 = n → (p < M.length → x.1 < Rc.idAt M p) ∧ (0 < p → Rc.idAt M (p - 1) < x.1))) := by
              refine ⟨fun h => (hlow (by omega)).1, fun h => ⟨HX.out (by omega), fun h0 => ?_⟩⟩
              have hpq := hend (by omega)
              have hd := HD.out
              rw [HE.out.1, HE.out.2, ← hpq, Rc.ins_at M x hp, Rc.ins_low M x hp (by omega)] at hd
              have h1 : ¬ x.1 < (Rk.at_ Fd.S M (p - 1)).1 := of_decide_eq_false hd.symm
              have h2 := hne _ (Rk.at_mem (S := Fd.S) M (p - 1) (by omega))
              unfold Rc.idAt
              omega
            clear s0 s1 s2 s3 sf
            go_wp2_with fail
            go_roundw
            case rel => exact ⟨k + 1, p, by omega, by go_num, hp, HN.out.1, O4.out, HN.out.2, G4.out⟩
            case measure => simp [intOf]; omega
          | true =>
            have hkM : k = M.length := by
              by_cases hkk : k < M.length
              · exfalso
                obtain ⟨h1, h2⟩ := hlow hkk
                have hd := HD.out
                rw [HE.out.1, HE.out.2, Rc.ins_low M x hp (by omega), Rc.ins_low M x hp (by omega)] at hd
                have h3 : Rc.idAt M q < Rc.idAt M (q - 1) := of_decide_eq_true hd.symm
                have h4 := Rc.up_lt hM (by omega : q - 1 < q) (by omega)
                omega
              · omega
            have hpq := hend hkM
            have HS : Hid (((Rc.ins M x p).set q e0).set (q - 1) e1 = Rc.ins M x (q - 1)) := by
              show _ = _
              have h1 : e1 = x := by rw [HE.out.1, ← hpq, Rc.ins_at M x hp]
              have h0 : e0 = Rk.at_ Fd.S M (q - 1) := by rw [HE.out.2, Rc.ins_low M x hp (by omega)]
              have h2 := Rc.ins_swap M x (p := q - 1) (by omega)
              have h3 : q - 1 + 1 = q := by omega
              rw [h3] at h2
              rw [h1, h0, hpq]
              exact h2
            have HX2 : Hid (x.1 < Rc.idAt M (q - 1)) := by
              show _ < _
              have hd := HD.out
              rw [HE.out.1, HE.out.2, ← hpq, Rc.ins_at M x hp, Rc.ins_low M x hp (by omega)] at hd
              rw [← hpq]
              exact of_decide_eq_true hd.symm
            have O5 : Hid (Rk.Own Fd.S (((w4.setCell ⟨g, q * 2, none⟩ (.int .i64 e0.1)).setCell ⟨g, q * 2 + 1, none⟩ (.string e0.2)).setCell ⟨g, (q - 1) * 2, none⟩ (.int .i64 e1.1) |>.setCell ⟨g, (q - 1) * 2 + 1, none⟩ (.string e1.2)).drew base 76 (.slice (some ⟨g, 0, none⟩) n cap) (Rc.ins M x (q - 1))) := by
              show Rk.Own _ _ _ _ _ _
              rw [← HS.out]
              have o1 := O4.out.set (k := q) hqn e0
              have o2 := o1.set (k := q - 1) (by rw [List.length_set]; exact hqn1) e1
              exact o2.below (Below.drew (Below.refl _ _))
            have G5 : Hid (w.grownBy (((w4.setCell ⟨g, q * 2, none⟩ (.int .i64 e0.1)).setCell ⟨g, q * 2 + 1, none⟩ (.string e0.2)).setCell ⟨g, (q - 1) * 2, none⟩ (.int .i64 e1.1) |>.setCell ⟨g, (q - 1) * 2 + 1, none⟩ (.string e1.2)).drew (some g)) := by
              refine Fk.grownBy_trans ?_ (Fk.grownBy_below (some g) (Below.drew (Below.refl _ _)))
              refine Fk.grownBy_trans ?_ (Fk.grownBy_setCell _ g _ _)
              refine Fk.grownBy_trans ?_ (Fk.grownBy_setCell _ g _ _)
              refine Fk.grownBy_trans ?_ (Fk.grownBy_setCell _ g _ _)
              exact Fk.grownBy_trans G4.out (Fk.grownBy_setCell _ g _ _)
            go_wp2_with fail
            go_region
            clear s0 s1 s2 s3 sf
            go_wp2_with fail
            go_roundw
            case rel => exact ⟨q - 1, q - 1, by omega, by congr 1; omega, by omega, (fun h => by omega), (fun _ => rfl), O5.out, (fun _ _ => HX2.out), G5.out⟩
            case measure => simp [intOf]; omega
    · have hkn : k = n := by omega
      go_wp2_with fail
      go_ret
      exact ⟨⟨rfl, p, hp, HP.out, HQ.out hkn⟩, HG.out⟩

set_option maxHeartbeats 1000000 in
theorem withAsk_any (x id : Int) (B : Nat) (w : World) (hc : w.cell? ⟨B, 0, none⟩ = some (.int .i64 id)) :
    Calls Try.prog 56 #[.int .i64 x, .pointer (some ⟨B, 0, none⟩)] w fun e w' => e = .returned (.bool (decide (x ≠ id))) ∧ Below w.heap.size w w' := by
  by_cases h : x = id
  · have h1 : (x != id) = false := by simp [h]
    have H : Hid (decide (x ≠ id) = false) := by show _ = _; simp [h]
    clear h
    go_enter Try.func56, Try.ntmps56
    go_wp2_with fail
    go_ret
    exact ⟨by rw [H.out]; rfl, Below.refl _ _⟩
  · have h1 : (x != id) = true := by simp [h]
    have H : Hid (decide (x ≠ id) = true) := by show _ = _; simp [h]
    clear h
    go_enter Try.func56, Try.ntmps56
    go_wp2_with fail
    go_ret
    exact ⟨by rw [H.out]; rfl, Below.refl _ _⟩

set_option maxHeartbeats 8000000 in
theorem recWith_impl (K : Int) (v : Value) (L : List Fd.E) (id : Int) (t : ByteArray) (w : World) (hv : Rk.View Fd.S w v L) (hL : ∀ f ∈ L, Fd.Fit f) (hl : L.length ≤ maxLen) (ht : t.size ≤ maxLen) :
    Calls Try.prog 23 #[.agg #[.int .i64 K, v], .int .i64 id, .string t] w fun e w' => (∃ u, e = .returned (.agg #[.int .i64 (Rc.with_ K L id t).1, u, .int .i64 0, .int .i64 (Rc.with_ K L id t).2.2]) ∧ Rk.Own Fd.S w' w.heap.size 76 u (Rc.with_ K L id t).2.1) ∧ Below w.heap.size w w' := by
  unfold maxLen at ht
  obtain ⟨i0, hi, hz0, hz1, hz2⟩ := info_parts infoField
  have hzs : (Value.agg #[.int .i64 0, .string ByteArray.empty]).cells.size = 2 := by kernel_rfl
  obtain ⟨W, hW⟩ : ∃ W, W = ((w.alloc (.cells #[.int .i64 K, v] 45)).alloc (.cells #[.int .i64 id] 2)).alloc (.cells #[.int .i64 0, .slice none 0 0, .int .i64 0, .int .i64 0] 50) := ⟨_, rfl⟩
  have b0 : Below w.heap.size w W := by
    rw [hW]
    repeat (first | exact Below.refl _ _ | refine Below.alloc ?_ (by simp <;> omega) _)
  have hsz : W.heap.size = w.heap.size + 3 := by rw [hW]; simp
  have c0 : W.cell? ⟨w.heap.size, 0, none⟩ = some (.int .i64 K) := by rw [hW, Fk.cellOld _ _ _ _ (by simp <;> omega), Fk.cellOld _ _ _ _ (by simp <;> omega), Fk.cellTop _ _ _ _ _ rfl]; rfl
  have c1 : W.cell? ⟨w.heap.size, 1, none⟩ = some v := by rw [hW, Fk.cellOld _ _ _ _ (by simp <;> omega), Fk.cellOld _ _ _ _ (by simp <;> omega), Fk.cellTop _ _ _ _ _ rfl]; rfl
  have c2 : W.cell? ⟨w.heap.size + 1, 0, none⟩ = some (.int .i64 id) := by rw [hW, Fk.cellOld _ _ _ _ (by simp <;> omega), Fk.cellTop _ _ _ _ _ (by simp)]; rfl
  have c3 : W.cell? ⟨w.heap.size + 1 + 1, 0, none⟩ = some (.int .i64 0) := by rw [hW, Fk.cellTop _ _ _ _ _ (by simp)]; rfl
  have c4 : W.cell? ⟨w.heap.size + 1 + 1, 1, none⟩ = some (.slice none 0 0) := by rw [hW, Fk.cellTop _ _ _ _ _ (by simp)]; rfl
  have c5 : W.cell? ⟨w.heap.size + 1 + 1, 2, none⟩ = some (.int .i64 0) := by rw [hW, Fk.cellTop _ _ _ _ _ (by simp)]; rfl
  have c6 : W.cell? ⟨w.heap.size + 1 + 1, 3, none⟩ = some (.int .i64 0) := by rw [hW, Fk.cellTop _ _ _ _ _ (by simp)]; rfl
  have cf : ∀ j, W.frozen? ⟨w.heap.size + 1 + 1, j, none⟩ = false := fun j => by rw [hW, Fk.frozTop _ _ _ _ _ (by simp)]
  have HV := Fk.hide (hv.below b0)
  obtain ⟨a, cap, rfl, _⟩ := hv
  have HW := Fk.hide hW
  have HB0 := Fk.hide b0
  clear hW b0
  by_cases hbig : 8000 < t.size
  · have HE : Hid (Rc.with_ K L id t = (0, [], 2)) := Rc.with_size hbig
    have hb1 : (8000 : Int) < (t.size : Int) := by omega
    go_enter Try.func23, Try.ntmps23
    go_wp2_with fail
    exact bodyPost_ret (v := .agg #[.int .i64 0, .slice none 0 0, .int .i64 0, .int .i64 2]) (by simp [results, Try.results23, go_sem] <;> rfl) rfl ⟨⟨_, by rw [HE.out], by rw [HE.out]; exact Rk.own_nil _ _ _⟩, by repeat (first | exact Below.refl _ _ | refine Below.alloc ?_ (by simp <;> omega) _)⟩
  · have hb1 : ¬ (8000 : Int) < (t.size : Int) := by omega
    go_enter Try.func23, Try.ntmps23
    go_wp2_with fail
    rw [← HW.out]
    refine (recRight_impl K _ L _ HV.out hL hl).mono ?_
    rintro e w1 ⟨rfl, b1⟩
    have d0 := (b1.cell (p := ⟨w.heap.size, 0, none⟩) (by show w.heap.size < _; omega)).trans c0
    have d1 := (b1.cell (p := ⟨w.heap.size, 1, none⟩) (by show w.heap.size < _; omega)).trans c1
    have d2 := (b1.cell (p := ⟨w.heap.size + 1, 0, none⟩) (by show w.heap.size + 1 < _; omega)).trans c2
    have d3 := (b1.cell (p := ⟨w.heap.size + 1 + 1, 0, none⟩) (by show w.heap.size + 1 + 1 < _; omega)).trans c3
    have d4 := (b1.cell (p := ⟨w.heap.size + 1 + 1, 1, none⟩) (by show w.heap.size + 1 + 1 < _; omega)).trans c4
    have d5 := (b1.cell (p := ⟨w.heap.size + 1 + 1, 2, none⟩) (by show w.heap.size + 1 + 1 < _; omega)).trans c5
    have d6 := (b1.cell (p := ⟨w.heap.size + 1 + 1, 3, none⟩) (by show w.heap.size + 1 + 1 < _; omega)).trans c6
    have df : ∀ j, w1.frozen? ⟨w.heap.size + 1 + 1, j, none⟩ = false := fun j => (b1.frozen (by show w.heap.size + 1 + 1 < _; omega)).trans (cf j)
    have hs1 : w.heap.size + 3 ≤ w1.heap.size := by rw [← hsz]; exact b1.size
    have B1 := Fk.hide (HB0.out.trans (b1.mono HB0.out.size))
    have HV1 := Fk.hide (HV.out.below b1)
    clear b1 cf hsz c0 c1 c2 c3 c4 c5 c6
    obtain ⟨rb, hrb⟩ : ∃ rb, rb = Rc.right K L := ⟨_, rfl⟩
    have HR := Fk.hide hrb
    rw [← hrb]
    clear hrb
    cases rb with
    | false =>
      have HE : Hid (Rc.with_ K L id t = (0, [], 1)) := Rc.with_ill hbig (by rw [← HR.out]; rfl)
      go_wp2_with fail
      refine bodyPost_ret (v := .agg #[.int .i64 0, .slice none 0 0, .int .i64 0, .int .i64 1]) (by simp [results, Try.results23, go_sem, d3, d4, d5, d6] <;> rfl) rfl ⟨⟨_, by rw [HE.out], by rw [HE.out]; exact Rk.own_nil _ _ _⟩, ?_⟩
      have b9 := B1.out
      repeat (first | exact b9 | refine Below.setCell ?_ (by simp <;> omega) _)
    | true =>
      go_wp2_with fail
      refine (fieldRight_any id t _ (by unfold maxLen; omega)).mono ?_
      rintro e w2 ⟨rfl, b2⟩
      have e0 := (b2.cell (p := ⟨w.heap.size, 0, none⟩) (by show w.heap.size < _; omega)).trans d0
      have e1 := (b2.cell (p := ⟨w.heap.size, 1, none⟩) (by show w.heap.size < _; omega)).trans d1
      have e2 := (b2.cell (p := ⟨w.heap.size + 1, 0, none⟩) (by show w.heap.size + 1 < _; omega)).trans d2
      have e3 := (b2.cell (p := ⟨w.heap.size + 1 + 1, 0, none⟩) (by show w.heap.size + 1 + 1 < _; omega)).trans d3
      have e4 := (b2.cell (p := ⟨w.heap.size + 1 + 1, 1, none⟩) (by show w.heap.size + 1 + 1 < _; omega)).trans d4
      have e5 := (b2.cell (p := ⟨w.heap.size + 1 + 1, 2, none⟩) (by show w.heap.size + 1 + 1 < _; omega)).trans d5
      have e6 := (b2.cell (p := ⟨w.heap.size + 1 + 1, 3, none⟩) (by show w.heap.size + 1 + 1 < _; omega)).trans d6
      have ef : ∀ j, w2.frozen? ⟨w.heap.size + 1 + 1, j, none⟩ = false := fun j => (b2.frozen (by show w.heap.size + 1 + 1 < _; omega)).trans (df j)
      have hs2 : w.heap.size + 3 ≤ w2.heap.size := Nat.le_trans hs1 b2.size
      have B2 := Fk.hide (B1.out.trans (b2.mono B1.out.size))
      have HV2 := Fk.hide (HV1.out.below b2)
      clear b2 df hs1 d0 d1 d2 d3 d4 d5 d6
      obtain ⟨ru, hru⟩ : ∃ ru, ru = Rc.fok (id, t) := ⟨_, rfl⟩
      have HU := Fk.hide hru
      rw [← hru]
      clear hru
      cases ru with
      | false =>
        have HE : Hid (Rc.with_ K L id t = (0, [], 1)) := Rc.with_ill hbig (by rw [← HU.out]; simp)
        go_wp2_with fail
        refine bodyPost_ret (v := .agg #[.int .i64 0, .slice none 0 0, .int .i64 0, .int .i64 1]) (by simp [results, Try.results23, go_sem, e3, e4, e5, e6] <;> rfl) rfl ⟨⟨_, by rw [HE.out], by rw [HE.out]; exact Rk.own_nil _ _ _⟩, ?_⟩
        have b9 := B2.out
        repeat (first | exact b9 | refine Below.setCell ?_ (by simp <;> omega) _)
      | true =>
        have HK : Hid (∀ i w', Below w2.heap.size w2 w' → Calls Try.prog 56 #[.int .i64 i, .pointer (some ⟨w.heap.size + 1, 0, none⟩)] w' fun e w'' => e = .returned (.bool (decide (i ≠ id))) ∧ Below w'.heap.size w' w'') := fun i w' b' =>
          withAsk_any i id _ w' ((b'.cell (by show w.heap.size + 1 < _; omega)).trans e2)
        have h30 : L.length ≤ 30 := (Rc.right_inv HR.out.symm).1.2.2
        have HTX := Fk.hide (fun k => Rc.textAt_small (K := K) (L := L) HR.out.symm k)
        have htx : t.size ≤ 500 := by
          have h := HU.out.symm
          simp only [Rc.fok, Bool.and_eq_true, decide_eq_true_eq] at h
          omega
        go_wp2_with fail
        refine (fieldsWith_with K _ L _ HV2.out h30 HTX.out _ (fun i => decide (i ≠ id)) HK.out).mono ?_
        rintro e w3 ⟨⟨u, rfl, ou⟩, b3⟩
        have f0 := (b3.cell (p := ⟨w.heap.size, 0, none⟩) (by show w.heap.size < _; omega)).trans e0
        have f1 := (b3.cell (p := ⟨w.heap.size, 1, none⟩) (by show w.heap.size < _; omega)).trans e1
        have f2 := (b3.cell (p := ⟨w.heap.size + 1, 0, none⟩) (by show w.heap.size + 1 < _; omega)).trans e2
        have f3 := (b3.cell (p := ⟨w.heap.size + 1 + 1, 0, none⟩) (by show w.heap.size + 1 + 1 < _; omega)).trans e3
        have f4 := (b3.cell (p := ⟨w.heap.size + 1 + 1, 1, none⟩) (by show w.heap.size + 1 + 1 < _; omega)).trans e4
        have f5 := (b3.cell (p := ⟨w.heap.size + 1 + 1, 2, none⟩) (by show w.heap.size + 1 + 1 < _; omega)).trans e5
        have f6 := (b3.cell (p := ⟨w.heap.size + 1 + 1, 3, none⟩) (by show w.heap.size + 1 + 1 < _; omega)).trans e6
        have ff : ∀ j, w3.frozen? ⟨w.heap.size + 1 + 1, j, none⟩ = false := fun j => (b3.frozen (by show w.heap.size + 1 + 1 < _; omega)).trans (ef j)
        have hs3 : w.heap.size + 3 ≤ w3.heap.size := Nat.le_trans hs2 b3.size
        have B3 := Fk.hide (B2.out.trans (b3.mono B2.out.size))
        have OU := Fk.hide (ou.mono (base' := w.heap.size + 3) hs2)
        clear b3 ef hs2 e0 e1 e2 e3 e4 e5 e6
        obtain ⟨M, hM⟩ : ∃ M, M = L.filter (fun f => decide (f.1 ≠ id)) := ⟨_, rfl⟩
        have ou' := OU.out
        rw [← hM] at ou'
        obtain ⟨ua, uc, rfl⟩ := ou'.slice
        have OM := Fk.hide ou'
        have HM := Fk.hide hM
        clear OU ou' ou
        have hMl : M.length ≤ 30 := by rw [hM]; exact Nat.le_trans (List.length_filter_le _ _) h30
        clear hM
        obtain ⟨un, hun⟩ : ∃ n, n = M.length := ⟨_, rfl⟩
        rw [← hun] at OM ⊢
        have hunl : un ≤ 30 := by omega
        by_cases hfull : 30 ≤ un
        · have HE : Hid (Rc.with_ K L id t = (0, [], 9)) := Rc.with_full hbig HR.out.symm HU.out.symm (by rw [← HM.out]; omega)
          have hf1 : (30 : Int) ≤ (un : Int) := by omega
          clear hun
          go_wp2_with fail
          refine bodyPost_ret (v := .agg #[.int .i64 0, .slice none 0 0, .int .i64 0, .int .i64 9]) (by simp [results, Try.results23, go_sem, f3, f4, f5, f6] <;> rfl) rfl ⟨⟨_, by rw [HE.out], by rw [HE.out]; exact Rk.own_nil _ _ _⟩, ?_⟩
          have b9 := B3.out
          repeat (first | exact b9 | refine Below.setCell ?_ (by simp <;> omega) _)
        · have HE : Hid (Rc.with_ K L id t = (K, Rc.put L (id, t), 0)) := Rc.with_ok hbig HR.out.symm HU.out.symm (by rw [← HM.out]; omega)
          have hf1 : ¬ (30 : Int) ≤ (un : Int) := by omega
          have HUN := Fk.hide hun
          clear hun
          have fc : ∀ w', Calls Try.prog 57 #[.string t] w' fun e w'' => e = .returned (.string t) ∧ Below w'.heap.size w' w'' := fun w' => copyText_any t w' (by omega)
          have NX : Hid (∀ w6, Below w3.heap.size w3 w6 → (w6.alloc (.cells #[.int .i64 id, .string t] 76)).ownsRow (w.heap.size + 3) 76 2 (.slice ua un uc) un (Rk.flat Fd.S M) ∧ Below w.heap.size w (w6.alloc (.cells #[.int .i64 id, .string t] 76)) ∧ w.heap.size + 3 ≤ (w6.alloc (.cells #[.int .i64 id, .string t] 76)).heap.size ∧ Below (w.heap.size + 3) w3 (w6.alloc (.cells #[.int .i64 id, .string t] 76))) := by
            intro w6 b6
            have O6 := OM.out.below b6
            have B6 : Below w.heap.size w w6 := B3.out.trans (b6.mono B3.out.size)
            have b7 : Below w6.heap.size w6 (w6.alloc (.cells #[.int .i64 id, .string t] 76)) := (Below.refl _ _).alloc (Nat.le_refl _) _
            refine ⟨?_, B6.trans (b7.mono B6.size), by have := b6.size; simp; omega, (b6.mono hs3).trans (b7.mono (by have := b6.size; omega))⟩
            have := O6.below b7
            unfold Rk.Own at this
            rw [← HUN.out] at this
            exact this
          have HB : Hid (Below w3.heap.size w3 w3.drew) := Below.drew (Below.refl _ _)
          have HF2 := Fk.hide f2
          have HFF := Fk.hide ff
          have HMl := Fk.hide hMl
          clear ff hMl
          set_option maxRecDepth 20000 in
          go_wp2_with fail
          set_option maxRecDepth 20000 in
          go_region_held3 (fun w' => w'.cell? ⟨w.heap.size + 1, 0, none⟩ = some (.int .i64 id))
            (first | go_keep | assumption)
            (first
              | (go_at_call 57; refine (fc _).mono ?_; rintro e w6 ⟨rfl, b6⟩; have B6 : Below w3.heap.size w3 w6 := HB.out.trans b6; have z2 := (B6.cell (p := ⟨w.heap.size + 1, 0, none⟩) (by show w.heap.size + 1 < _; omega)).trans HF2.out; have N7 := Fk.hide (NX.out w6 B6); clear B6 b6)
              | (refine step_append_lies _ (by rfl) _ _ _ (by rfl) (w.heap.size + 3) 76 i0 _ 2 24 Try.underlying43 hi hz0 hz1 hz2 hzs (by decide) (.slice ua un uc) un (Rk.flat Fd.S M) (by rfl) N7.out.1 ⟨w6.heap.size, 0, none⟩ 1 1 [.int .i64 id, .string t] (by rfl) (by rfl) (World.news_of_block (cs := #[.int .i64 id, .string t]) (t := 76) (fr := (0, 0)) (heap_alloc_new w6 _)) (by simp [Value.oneCell']) (by omega) (by unfold maxLen; omega) (by omega) N7.out.2.2.1 (w6.heap.size + 1) (by simp) ?_; intro gg cc w8 o8 g8 hat hlt8; have B8 := N7.out.2.2.2.grown g8 N7.out.2.2.1 (fun j hj => (World.ownsRow.lt N7.out.1 j hj).1); have BW8 := Fk.hide (N7.out.2.1.grown g8 N7.out.2.1.size (fun j hj => by have := (World.ownsRow.lt N7.out.1 j hj).1; omega)); have u2 : w8.cell? ⟨w.heap.size + 1, 0, none⟩ = some (.int .i64 id) := (B8.cell (by show w.heap.size + 1 < _; omega)).trans HF2.out; have HB8 := Fk.hide B8; have HO8 := Fk.hide o8; clear B8 o8 g8 hat))
          have OX : Hid (Rk.Own Fd.S w8.drew (w.heap.size + 3) 76 (.slice (some ⟨gg, 0, none⟩) (un + 1) cc) (M ++ [(id, t)])) := by
            have e8 := HO8.out
            have : Rk.Own Fd.S w8 (w.heap.size + 3) 76 (.slice (some ⟨gg, 0, none⟩) (un + 1) cc) (M ++ [(id, t)]) := by
              unfold Rk.Own
              rw [Rk.flat_append, List.length_append, ← HUN.out]
              exact e8
            exact this.below (Below.drew (Below.refl _ _))
          have HUP : Hid (Rc.Up M) := by show Rc.Up _; rw [HM.out]; exact Rc.up_filter (Rc.right_up HR.out.symm) _
          have HNE : Hid (∀ f ∈ M, f.1 ≠ ((id, t) : Fd.E).1) := fun f hf => by rw [HM.out] at hf; simpa using (List.mem_filter.1 hf).2
          have HGG : Hid (w.heap.size + 3 ≤ gg) := ((OX.out.lt gg rfl)).1
          have g0 : w8.cell? ⟨w.heap.size, 0, none⟩ = some (.int .i64 K) := (HB8.out.cell (by show w.heap.size < _; omega)).trans f0
          have g3 : w8.cell? ⟨w.heap.size + 1 + 1, 0, none⟩ = some (.int .i64 0) := (HB8.out.cell (by show w.heap.size + 1 + 1 < _; omega)).trans f3
          have g4 : w8.cell? ⟨w.heap.size + 1 + 1, 1, none⟩ = some (.slice none 0 0) := (HB8.out.cell (by show w.heap.size + 1 + 1 < _; omega)).trans f4
          have g5 : w8.cell? ⟨w.heap.size + 1 + 1, 2, none⟩ = some (.int .i64 0) := (HB8.out.cell (by show w.heap.size + 1 + 1 < _; omega)).trans f5
          have g6 : w8.cell? ⟨w.heap.size + 1 + 1, 3, none⟩ = some (.int .i64 0) := (HB8.out.cell (by show w.heap.size + 1 + 1 < _; omega)).trans f6
          have gf : ∀ j, w8.frozen? ⟨w.heap.size + 1 + 1, j, none⟩ = false := fun j => (HB8.out.frozen (by show w.heap.size + 1 + 1 < _; omega)).trans (HFF.out j)
          have hs8 : w.heap.size + 3 ≤ w8.heap.size := Nat.le_trans hs3 (by have := HB8.out.size; omega)
          clear u2 z2 f0 f1 f2 f3 f4 f5 f6 fc
          have HGC := Fk.hide (⟨g0, g3, g4, g5, g6, gf⟩ : _ ∧ _ ∧ _ ∧ _ ∧ _ ∧ ∀ j, _)
          set_option maxRecDepth 20000 in
          go_wp2_with fail
          set_option maxRecDepth 20000 in
          go_region_with (first
            | (go_at_call 58; (refine (inOrder_any _ M (id, t) (w.heap.size + 3) _ OX.out HUP.out HNE.out HMl.out).mono ?_; rintro e w9 ⟨⟨rfl, p9, hp9, o9, hx9, hy9⟩, k9⟩; have hgne : ∀ B, B < w.heap.size + 3 → some B ≠ (Value.slice (some ⟨gg, 0, none⟩) (un + 1) cc).ownBlock := (fun B hB h => by have h2 := HGG.out; have h3 : B = gg := Option.some.inj h; omega); have y0 : w9.cell? ⟨w.heap.size, 0, none⟩ = some (.int .i64 K) := (k9.cell_far ⟨w.heap.size, 0, none⟩ (by show w.heap.size < w8.heap.size; omega) (hgne (w.heap.size) (by omega))).trans HGC.out.1; have y3 : w9.cell? ⟨w.heap.size + 1 + 1, 0, none⟩ = some (.int .i64 0) := (k9.cell_far ⟨w.heap.size + 1 + 1, 0, none⟩ (by show w.heap.size + 1 + 1 < w8.heap.size; omega) (hgne (w.heap.size + 1 + 1) (by omega))).trans HGC.out.2.1; have y4 : w9.cell? ⟨w.heap.size + 1 + 1, 1, none⟩ = some (.slice none 0 0) := (k9.cell_far ⟨w.heap.size + 1 + 1, 1, none⟩ (by show w.heap.size + 1 + 1 < w8.heap.size; omega) (hgne (w.heap.size + 1 + 1) (by omega))).trans HGC.out.2.2.1; have y5 : w9.cell? ⟨w.heap.size + 1 + 1, 2, none⟩ = some (.int .i64 0) := (k9.cell_far ⟨w.heap.size + 1 + 1, 2, none⟩ (by show w.heap.size + 1 + 1 < w8.heap.size; omega) (hgne (w.heap.size + 1 + 1) (by omega))).trans HGC.out.2.2.2.1; have y6 : w9.cell? ⟨w.heap.size + 1 + 1, 3, none⟩ = some (.int .i64 0) := (k9.cell_far ⟨w.heap.size + 1 + 1, 3, none⟩ (by show w.heap.size + 1 + 1 < w8.heap.size; omega) (hgne (w.heap.size + 1 + 1) (by omega))).trans HGC.out.2.2.2.2.1; have yf : ∀ j, w9.frozen? ⟨w.heap.size + 1 + 1, j, none⟩ = false := (fun j => (k9.frozen_far ⟨w.heap.size + 1 + 1, j, none⟩ (by show w.heap.size + 1 + 1 < w8.heap.size; omega) (hgne (w.heap.size + 1 + 1) (by omega))).trans (HGC.out.2.2.2.2.2 j)); have B9 := Fk.hide ((Below.drew BW8.out).grown k9 BW8.out.size (fun j hj => by have h2 := HGG.out; have h3 : gg = j := Option.some.inj hj; omega)); have O9 := Fk.hide o9; have HP9 := Fk.hide (⟨hp9, hx9, hy9⟩ : _ ∧ _ ∧ _); clear k9 hgne o9 hp9 hx9 hy9)))
          all_goals
            have HPUT : Hid (Rc.put L (id, t) = Rc.ins M (id, t) p9) := by
              show _ = _
              obtain ⟨hp9, hx9, hy9⟩ := HP9.out
              have hu := HUP.out
              have e : Rc.ins M (id, t) p9 = M.take p9 ++ [(id, t)] ++ M.drop p9 := by simp [Rc.ins]
              rw [e]
              refine Rc.put_of (by rw [List.take_append_drop]; exact HM.out.symm) (Rc.take_low hu (fun j hj hjl => ?_)) (Rc.drop_high hu hx9)
              by_cases e0 : j = p9 - 1
              · rw [e0]; exact hy9 (by omega)
              · exact Int.lt_trans (Rc.up_lt hu (by omega : j < p9 - 1) (by omega)) (hy9 (by omega))
            clear g0 g3 g4 g5 g6 gf y0
            set_option maxRecDepth 20000 in
            go_wp2_with fail
            refine bodyPost_ret (v := .agg #[.int .i64 K, .slice (some ⟨gg, 0, none⟩) (un + 1) cc, .int .i64 0, .int .i64 0]) (by simp [results, Try.results23, go_sem, y3, y4, y5, y6] <;> rfl) rfl ⟨⟨.slice (some ⟨gg, 0, none⟩) (un + 1) cc, by rw [HE.out], ?_⟩, ?_⟩
            · rw [HE.out]
              refine Rk.Own.mono ?_ (by omega : w.heap.size ≤ w.heap.size + 3)
              have o9 := O9.out
              rw [← HPUT.out] at o9
              repeat (first | exact o9 | refine ownsRow_setCell_below ?_ (by show w.heap.size + 1 + 1 < _; omega) _)
            · have b9 := B9.out
              repeat (first | exact b9 | refine Below.setCell ?_ (by simp <;> omega) _)
end Go.Proofs.Ytkkmjffepdejnaa

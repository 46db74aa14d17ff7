/- The mathematics of a newer book's ladder, and the walk of the specification's NewLadder. -/
import Derived.Test.YtjagohadeegghaaNewBest
import Derived.Test.YtjagohadeegghaaOldLadderSpec
namespace Go.Proofs.Ytjagohadeegghaa
open Go.RowKit
set_option linter.unusedVariables false
set_option linter.unusedSimpArgs false
namespace Nb
/-- what the first orders show together -/
def total (M : List Or.E) : Int := (M.map fun o => o.2.2.2.1).sum
theorem total_cons (o : Or.E) (M : List Or.E) : total (o :: M) = o.2.2.2.1 + total M := by simp [total]
theorem total_append (M N : List Or.E) : total (M ++ N) = total M + total N := by simp [total]
theorem total_step (M : List Or.E) (k : Nat) (h : k < M.length) : total (M.take (k + 1)) = total (M.take k) + (Rk.at_ Or.S M k).2.2.2.1 := by
  rw [Rk.take_at (S := Or.S) M k h, total_append]; simp [total]
theorem total_bound (M : List Or.E) (h : ∀ o ∈ M, 1 ≤ o.2.2.2.1 ∧ o.2.2.2.1 ≤ 1000) : 0 ≤ total M ∧ total M ≤ (M.length : Int) * 1000 := by
  induction M with
  | nil => simp [total]
  | cons o M ih =>
    have h1 := ih (fun x hx => h x (List.mem_cons_of_mem _ hx))
    have h2 := h o List.mem_cons_self
    rw [total_cons]
    simp only [List.length_cons, Int.natCast_add, Int.natCast_one]
    omega
/-- a level's rung -/
def rung (e : Lv.E) : Rg.E := (e.1, total e.2, (e.2.length : Int))
theorem last_append (R : List Rg.E) (r : Rg.E) : Ob.last (R ++ [r]) = r := by
  simp [Ob.last, Rk.at_, List.getD]
theorem fold_same (p : Int) : ∀ (M : List Or.E) (R : List Rg.E) (a c : Int), (∀ o ∈ M, o.2.2.1 = p) → M.foldl Ob.rstep (R ++ [(p, a, c)]) = R ++ [(p, a + total M, c + (M.length : Int))]
  | [], R, a, c, _ => by simp [total]
  | o :: M, R, a, c, h => by
    have hp := h o List.mem_cons_self
    have e : Ob.rstep (R ++ [(p, a, c)]) o = R ++ [(p, a + o.2.2.2.1, c + 1)] := by
      unfold Ob.rstep
      rw [last_append, hp, if_neg (by simp)]
      simp
    rw [List.foldl_cons, e, fold_same p M R _ _ (fun x hx => h x (List.mem_cons_of_mem _ hx)), total_cons]
    simp only [List.length_cons, Int.natCast_add, Int.natCast_one]
    rw [show a + o.2.2.2.1 + total M = a + (o.2.2.2.1 + total M) by omega, show c + 1 + (M.length : Int) = c + ((M.length : Int) + 1) by omega]
theorem fold_level (e : Lv.E) (R : List Rg.E) (hne : 0 < e.2.length) (hp : ∀ o ∈ e.2, o.2.2.1 = e.1) (hR : R.length = 0 ∨ (Ob.last R).1 ≠ e.1) : e.2.foldl Ob.rstep R = R ++ [rung e] := by
  obtain ⟨p, M⟩ := e
  cases M with
  | nil => simp at hne
  | cons o M =>
    have h1 : o.2.2.1 = p := hp o List.mem_cons_self
    have e : Ob.rstep R o = R ++ [(p, o.2.2.2.1, 1)] := by
      unfold Ob.rstep
      rw [h1, if_pos hR]
    rw [List.foldl_cons, e, fold_same p M R _ _ (fun x hx => hp x (List.mem_cons_of_mem _ hx))]
    unfold rung
    rw [total_cons]
    simp only [List.length_cons, Int.natCast_add, Int.natCast_one]
    rw [show (1 : Int) + (M.length : Int) = (M.length : Int) + 1 by omega]
theorem rungs_levels {L : List Lv.E} (h : lvls L = true) : ∀ k, k ≤ L.length → (flat (L.take k)).foldl Ob.rstep [] = (L.take k).map rung
  | 0, _ => by simp [flat]
  | k + 1, hk => by
    have hl := Ob.upTo_inv h k hk
    simp only [lvl, prices, Bool.and_eq_true] at hl
    have hpr := (upTo_all (Lv.at' L k).2 (fun o => decide (o.2.2.1 = (Lv.at' L k).1))).1 hl.2
    rw [flat_step L k hk, List.foldl_append, rungs_levels h k (by omega), fold_level (Lv.at' L k) _ (lvls_pos h k hk) (fun o ho => of_decide_eq_true (hpr o ho)) ?_, take_at L k hk, List.map_append]
    · rfl
    · by_cases c : k = 0
      · subst c; exact .inl (by simp)
      · refine .inr ?_
        have e : L.take k = L.take (k - 1) ++ [Lv.at' L (k - 1)] := by
          have := take_at L (k - 1) (by omega)
          rwa [show k - 1 + 1 = k by omega] at this
        rw [e, List.map_append]
        show (Ob.last (_ ++ [rung (Lv.at' L (k - 1))])).1 ≠ _
        rw [last_append]
        have hh := hl.1
        simp only [head, Bool.and_eq_true, Bool.or_eq_true, beq_iff_eq, Bool.not_eq_true', decide_eq_false_iff_not] at hh
        rcases hh.2 with h0 | h0
        · exact absurd h0 c
        · exact h0
/-- the rungs of a side of a right book -/
def ladder (B A : List Lv.E) (n : Int) (buy : Bool) : List Rg.E := if right B A n then (Ob.pick buy B A).map rung else []
theorem ladder_rungs {B A : List Lv.E} {n : Int} (buy : Bool) (h : right B A n = true) : ladder B A n buy = Ob.rungs (flat (Ob.pick buy B A)) (flat (Ob.pick buy B A)).length := by
  unfold ladder Ob.rungs
  rw [if_pos h, List.take_length]
  have := rungs_levels (right_pick h buy) _ (Nat.le_refl _)
  rw [List.take_length] at this
  exact this.symm
theorem right_side {B A : List Lv.E} {n : Int} (h : right B A n = true) (buy : Bool) : (flat (Ob.pick buy B A)).length ≤ 24 ∧ ∀ o ∈ flat (Ob.pick buy B A), 1 ≤ o.2.2.2.1 ∧ o.2.2.2.1 ≤ 1000 := by
  have h1 := right_small h
  have h2 := both_amount (right_inv h).2.2
  cases buy
  · exact ⟨by show (flat A).length ≤ 24; omega, fun o ho => h2 o (List.mem_append.2 (.inr ho))⟩
  · exact ⟨by show (flat B).length ≤ 24; omega, fun o ho => h2 o (List.mem_append.2 (.inl ho))⟩
theorem ladder_length (B A : List Lv.E) (n : Int) (buy : Bool) : (ladder B A n buy).length ≤ 24 := by
  by_cases h : right B A n = true
  · rw [ladder_rungs buy h]
    have := Ob.rungs_length (flat (Ob.pick buy B A)) _ (Nat.le_refl _)
    have := (right_side h buy).1
    omega
  · unfold ladder
    rw [if_neg h]; simp
end Nb
set_option maxRecDepth 100000 in
set_option maxHeartbeats 4000000 in
theorem newLadder_spec (u v : Value) (n : Int) (buy : Bool) (B A : List Lv.E) (w : World) (hu : Lv.View w u B) (hv : Lv.View w v A) (l0 : B.length ≤ 1048576) (l1 : A.length ≤ 1048576) (m0 : (Nb.flat B).length ≤ 1048576) (m1 : (Nb.flat A).length ≤ 1048576) :
    Calls Try.prog 42 #[.agg #[u, v, .int .i64 n], .bool buy] w fun e w' => (∃ x, e = .returned x ∧ Rk.Own Rg.S w' w.heap.size 112 x (Nb.ladder B A n buy)) ∧ Below w.heap.size w w' := by
  have b0 : Below w.heap.size w (w.alloc (.cells #[u, v, .int .i64 n] 28)) := (Below.refl _ _).alloc (Nat.le_refl _) _
  have HU := Fk.hide (hu.below b0)
  have HV := Fk.hide (hv.below b0)
  obtain ⟨a0, cap0, rfl⟩ := hu.slice
  obtain ⟨a1, cap1, rfl⟩ := hv.slice
  clear hu hv
  go_enter Try.func42, Try.ntmps42
  go_wp2_with fail
  refine (l07Open_any _ _ _ B A _ HU.out HV.out l0 l1 m0 m1).mono ?_
  rintro e w1 ⟨⟨p, q, bb, FB, FA, rfl, ⟨T1, hb1, hb2, ⟨cp, cq, _, _⟩, eF, lB, lA⟩⟩, k1⟩
  have HB1 : Hid (Below w.heap.size w w1) := b0.trans (k1.mono b0.size)
  obtain ⟨r, hr⟩ : ∃ r, r = Nb.right B A n := ⟨_, rfl⟩
  rw [← hr] at eF ⊢
  have HR := Fk.hide hr
  have EF := Fk.hide eF
  clear k1 hr eF b0
  obtain ⟨p1, p2, p3, rfl⟩ := T1.b.slice'
  obtain ⟨q1, q2, q3, rfl⟩ := T1.a.slice'
  cases r with
  | false =>
    have HA : Hid (Nb.ladder B A n buy = []) := by show _ = _; unfold Nb.ladder; rw [← HR.out]; rfl
    have HM : Hid (Rk.Own Rg.S (w1.alloc (.cells #[] 112)) w.heap.size 112 (.slice (some ⟨w1.heap.size, 0, none⟩) 0 0) []) := Rk.own_empty w1 112 w.heap.size HB1.out.size
    have HB : Hid (Below w.heap.size w (w1.alloc (.cells #[] 112))) := HB1.out.alloc HB1.out.size _
    go_wp2_with fail
    go_ret
    exact ⟨⟨_, rfl, by rw [HA.out]; exact HM.out⟩, HB.out⟩
  | true =>
  obtain ⟨F, hF⟩ : ∃ F, F = Ob.pick buy FB FA := ⟨_, rfl⟩
  have hFF : F = Nb.flat (Ob.pick buy B A) := by rw [hF, (EF.out rfl).1, (EF.out rfl).2, ← Nb.flat_pick]
  have HP1 : Hid (Rk.View Or.S w1 (Ob.pick buy (.slice p1 p2 p3) (.slice q1 q2 q3)) F) := by
    show Rk.View _ _ _ _
    rw [hF]; exact Ob.view_pick buy T1.b.view T1.a.view
  have HA : Hid (Nb.ladder B A n buy = Ob.rungs F F.length) := by show _ = _; rw [hFF]; exact Nb.ladder_rungs buy HR.out.symm
  have hRS := Nb.right_side HR.out.symm buy
  rw [← hFF] at hRS
  have HAM : Hid (∀ j, j < F.length → 0 ≤ (Ob.at' F j).2.2.2.1 ∧ (Ob.at' F j).2.2.2.1 ≤ 1000) := fun j hj => by
    have := hRS.2 _ (Rk.at_mem (S := Or.S) F j hj)
    exact ⟨Int.le_trans (by decide) this.1, this.2⟩
  have hl24 : F.length ≤ 24 := hRS.1
  clear hF hFF hRS
  obtain ⟨a, cap, ev, hs⟩ := HP1.out
  rw [ev] at HP1
  go_wp2_with fail
  refine (side_any bb _ _ buy _ cp cq ⟨_, _, _, rfl⟩ ⟨_, _, _, rfl⟩).mono ?_
  rw [ev]
  rintro e _ ⟨rfl, hh⟩
  rw [hh]
  clear hh cp cq T1 ev hs
  go_wp2_with fail
  refine (l06Ladder_any _ F _ HP1.out hl24 HAM.out).mono ?_
  rintro e w3 ⟨⟨x, rfl, ox⟩, k3⟩
  have HB3 : Hid (Below w.heap.size w w3) := HB1.out.trans (k3.mono HB1.out.size)
  have HO3 : Hid (Rk.Own Rg.S w3 w.heap.size 112 x (Ob.rungs F F.length)) := Rk.Own.mono ox HB1.out.size
  obtain ⟨x1, x2, x3, rfl⟩ := ox.slice'
  clear k3 ox
  go_wp2_with fail
  go_ret
  exact ⟨⟨_, rfl, by rw [HA.out]; exact HO3.out⟩, HB3.out⟩
end Go.Proofs.Ytjagohadeegghaa

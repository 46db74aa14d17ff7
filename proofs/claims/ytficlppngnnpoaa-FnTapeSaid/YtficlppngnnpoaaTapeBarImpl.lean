/- The walks of the program's bars: what a bar has so far, one trade more, the bar of trades. -/
import Derived.Test.YtficlppngnnpoaaProg
import Derived.Test.YtficlppngnnpoaaTapeMath
import Derived.Test.YtficlppngnnpoaaTapeRight
import Derived.WalkKit
import Derived.WalkSpells
import Derived.WalkLawsBesides
import Derived.BigRegion
import Derived.BigQuiet
import Derived.Deep.RegionWith
import Derived.Lib.QuietBelow
namespace Go.Proofs.Ytficlppngnnpoaa
open Go.RowKit
set_option linter.unusedVariables false
set_option linter.unusedSimpArgs false
/-- of which kind a price is -/
def Tp.kind (hi lo am p : Int) : Int := if am = 0 then 0 else if p > hi then 1 else if p < lo then 2 else 3
set_option maxHeartbeats 400000 in
theorem kindOf_any (op hi lo cl am p : Int) (w : World) :
    Calls Try.prog 67 #[.agg #[.int .i64 op, .int .i64 hi, .int .i64 lo, .int .i64 cl, .int .i64 am], .int .i64 p] w fun e w' => e = .returned (.int .i64 (Tp.kind hi lo am p)) ∧ Below w.heap.size w w' := by
  have HB : Hid (∀ o, Below w.heap.size w (w.alloc o)) := fun o => (Below.refl w.heap.size w).alloc (Nat.le_refl _) o
  by_cases h0 : am = 0
  · have HK : Hid (Tp.kind hi lo am p = 0) := by show _ = _; simp [Tp.kind, h0]
    subst h0
    go_enter Try.func67, Try.ntmps67
    go_wp2_with fail
    go_ret
    exact ⟨by rw [HK.out]; rfl, HB.out _⟩
  · by_cases h1 : p > hi
    · have HK : Hid (Tp.kind hi lo am p = 1) := by show _ = _; simp [Tp.kind, h0, h1]
      go_enter Try.func67, Try.ntmps67
      go_wp2_with fail
      go_ret
      exact ⟨by rw [HK.out]; rfl, HB.out _⟩
    · by_cases h2 : p < lo
      · have HK : Hid (Tp.kind hi lo am p = 2) := by show _ = _; simp [Tp.kind, h0, h1, h2]
        go_enter Try.func67, Try.ntmps67
        go_wp2_with fail
        go_ret
        exact ⟨by rw [HK.out]; rfl, HB.out _⟩
      · have HK : Hid (Tp.kind hi lo am p = 3) := by show _ = _; simp [Tp.kind, h0, h1, h2]
        go_enter Try.func67, Try.ntmps67
        go_wp2_with fail
        go_ret
        exact ⟨by rw [HK.out]; rfl, HB.out _⟩

/-- a bar as a value -/
abbrev Tp.vl (b : Ba.E) : Value := .agg #[.int .i64 b.1, .int .i64 b.2.1, .int .i64 b.2.2.1, .int .i64 b.2.2.2.1, .int .i64 b.2.2.2.2]
set_option maxRecDepth 100000 in
set_option maxHeartbeats 4000000 in
theorem with_any (b : Ba.E) (p a : Int) (w : World) (hl : b.2.2.2.2 = 0 ∨ b.2.2.1 ≤ b.2.1) (h0 : 0 ≤ b.2.2.2.2) (h1 : b.2.2.2.2 ≤ 1000000) (a0 : 1 ≤ a) (a1 : a ≤ 1000) :
    Calls Try.prog 60 #[.agg #[.int .i64 b.1, .int .i64 b.2.1, .int .i64 b.2.2.1, .int .i64 b.2.2.2.1, .int .i64 b.2.2.2.2], .agg #[.int .i64 p, .int .i64 a]] w fun e w' => e = .returned (Tp.vl (Tp.step b (p, a))) ∧ Below w.heap.size w w' := by
  obtain ⟨op, hi, lo, cl, am⟩ := b
  simp only at hl h0 h1
  obtain ⟨W, hW⟩ : ∃ W, W = ((w.alloc (.cells #[.int .i64 op, .int .i64 hi, .int .i64 lo, .int .i64 cl, .int .i64 am] 82)).alloc (.cells #[.int .i64 p, .int .i64 a] 37)).alloc (.cells #[.int .i64 0, .int .i64 0, .int .i64 0, .int .i64 0, .int .i64 0] 82) := ⟨_, rfl⟩
  have b0 : Below w.heap.size w W := by rw [hW]; exact (((Below.refl _ _).alloc (Nat.le_refl _) _).alloc (by simp) _).alloc (by simp <;> omega) _
  have hz : W.heap.size = w.heap.size + 3 := by rw [hW]; simp
  have c0 : W.cell? ⟨w.heap.size, 0, none⟩ = some (.int .i64 op) := by rw [hW, Fk.cellOld _ _ _ _ (by simp <;> omega), Fk.cellOld _ _ _ _ (by simp <;> omega), Fk.cellTop _ _ _ _ _ rfl]; rfl
  have c1 : W.cell? ⟨w.heap.size, 1, none⟩ = some (.int .i64 hi) := by rw [hW, Fk.cellOld _ _ _ _ (by simp <;> omega), Fk.cellOld _ _ _ _ (by simp <;> omega), Fk.cellTop _ _ _ _ _ rfl]; rfl
  have c2 : W.cell? ⟨w.heap.size, 2, none⟩ = some (.int .i64 lo) := by rw [hW, Fk.cellOld _ _ _ _ (by simp <;> omega), Fk.cellOld _ _ _ _ (by simp <;> omega), Fk.cellTop _ _ _ _ _ rfl]; rfl
  have c3 : W.cell? ⟨w.heap.size, 3, none⟩ = some (.int .i64 cl) := by rw [hW, Fk.cellOld _ _ _ _ (by simp <;> omega), Fk.cellOld _ _ _ _ (by simp <;> omega), Fk.cellTop _ _ _ _ _ rfl]; rfl
  have c4 : W.cell? ⟨w.heap.size, 4, none⟩ = some (.int .i64 am) := by rw [hW, Fk.cellOld _ _ _ _ (by simp <;> omega), Fk.cellOld _ _ _ _ (by simp <;> omega), Fk.cellTop _ _ _ _ _ rfl]; rfl
  have t0 : W.cell? ⟨w.heap.size + 1, 0, none⟩ = some (.int .i64 p) := by rw [hW, Fk.cellOld _ _ _ _ (by simp <;> omega), Fk.cellTop _ _ _ _ _ (by simp)]; rfl
  have t1 : W.cell? ⟨w.heap.size + 1, 1, none⟩ = some (.int .i64 a) := by rw [hW, Fk.cellOld _ _ _ _ (by simp <;> omega), Fk.cellTop _ _ _ _ _ (by simp)]; rfl
  have cf : ∀ j, W.frozen? ⟨w.heap.size, j, none⟩ = false := fun j => by rw [hW, Fk.frozOld _ _ _ _ (by simp <;> omega), Fk.frozOld _ _ _ _ (by simp <;> omega), Fk.frozTop _ _ _ _ _ rfl]
  have rf : ∀ j, W.frozen? ⟨w.heap.size + 2, j, none⟩ = false := fun j => by rw [hW, Fk.frozTop _ _ _ _ _ (by simp)]
  have HZ : Hid (∀ j, j < 5 → W.cell? ⟨w.heap.size + 2, j, none⟩ = some (.int .i64 0)) := fun j hj => by
    rw [hW, Fk.cellTop _ _ _ _ _ (by simp)]
    match j, hj with
    | 0, _ => rfl
    | 1, _ => rfl
    | 2, _ => rfl
    | 3, _ => rfl
    | 4, _ => rfl
  have HW := Fk.hide hW
  have HB0 := Fk.hide b0
  clear hW b0
  go_enter Try.func60, Try.ntmps60
  go_wp2_with fail
  rw [← HW.out]
  have HK := kindOf_any op hi lo cl am p
  have HS : Hid (∃ k s, k = Tp.kind hi lo am p ∧ s = Tp.step (op, hi, lo, cl, am) (p, a) ∧ (k = 0 ∧ s = (p, p, p, p, am + a) ∨ k = 1 ∧ s = (op, p, lo, p, am + a) ∨ k = 2 ∧ s = (op, hi, p, p, am + a) ∨ k = 3 ∧ s = (op, hi, lo, p, am + a))) := by
    refine ⟨_, _, rfl, rfl, ?_⟩
    unfold Tp.kind Tp.step
    by_cases e0 : am = 0
    · simp [e0]
    · have hlh : lo ≤ hi := by omega
      have m1 : Tp.mx hi p = if p > hi then p else hi := by unfold Tp.mx; split <;> split <;> omega
      have m2 : Tp.mn lo p = if p < lo then p else lo := by unfold Tp.mn; split <;> split <;> omega
      simp only [if_neg e0, m1, m2]
      by_cases e1 : p > hi
      · have e2 : ¬ p < lo := by omega
        simp [e1, e2]
      · by_cases e2 : p < lo
        · simp [e1, e2]
        · simp [e1, e2]
  obtain ⟨k, s, hk, hs, hc⟩ := HS.out
  rw [← hk] at HK
  have HSS := Fk.hide hs
  clear hk hs HS hl
  refine (HK W).mono ?_
  rintro e W1 ⟨rfl, k1⟩
  have HB1 : Hid (Below w.heap.size w W1) := HB0.out.trans (k1.mono HB0.out.size)
  have hz1 : w.heap.size + 3 ≤ W1.heap.size := by rw [← hz]; exact k1.size
  have d0 := (k1.cell (p := ⟨w.heap.size, 0, none⟩) (by show w.heap.size < _; omega)).trans c0
  have d1 := (k1.cell (p := ⟨w.heap.size, 1, none⟩) (by show w.heap.size < _; omega)).trans c1
  have d2 := (k1.cell (p := ⟨w.heap.size, 2, none⟩) (by show w.heap.size < _; omega)).trans c2
  have d3 := (k1.cell (p := ⟨w.heap.size, 3, none⟩) (by show w.heap.size < _; omega)).trans c3
  have d4 := (k1.cell (p := ⟨w.heap.size, 4, none⟩) (by show w.heap.size < _; omega)).trans c4
  have s0 := (k1.cell (p := ⟨w.heap.size + 1, 0, none⟩) (by show w.heap.size + 1 < _; omega)).trans t0
  have s1 := (k1.cell (p := ⟨w.heap.size + 1, 1, none⟩) (by show w.heap.size + 1 < _; omega)).trans t1
  have df : ∀ j, W1.frozen? ⟨w.heap.size, j, none⟩ = false := fun j => (k1.frozen (by show w.heap.size < _; omega)).trans (cf j)
  have qf : ∀ j, W1.frozen? ⟨w.heap.size + 2, j, none⟩ = false := fun j => (k1.frozen (by show w.heap.size + 2 < _; omega)).trans (rf j)
  have z0 := (k1.cell (p := ⟨w.heap.size + 2, 0, none⟩) (by show w.heap.size + 2 < _; omega)).trans (HZ.out 0 (by omega))
  have z1 := (k1.cell (p := ⟨w.heap.size + 2, 1, none⟩) (by show w.heap.size + 2 < _; omega)).trans (HZ.out 1 (by omega))
  have z2 := (k1.cell (p := ⟨w.heap.size + 2, 2, none⟩) (by show w.heap.size + 2 < _; omega)).trans (HZ.out 2 (by omega))
  have z3 := (k1.cell (p := ⟨w.heap.size + 2, 3, none⟩) (by show w.heap.size + 2 < _; omega)).trans (HZ.out 3 (by omega))
  have z4 := (k1.cell (p := ⟨w.heap.size + 2, 4, none⟩) (by show w.heap.size + 2 < _; omega)).trans (HZ.out 4 (by omega))
  clear k1 HK HZ c0 c1 c2 c3 c4 t0 t1 cf rf hz HB0 HW
  rcases hc with ⟨rfl, rfl⟩ | ⟨rfl, rfl⟩ | ⟨rfl, rfl⟩ | ⟨rfl, rfl⟩
  · go_wp2_with fail
    go_region
    all_goals
      go_wp2_with fail
      have hg : w.heap.size ≤ w.heap.size + 1 + 1 := by omega
      refine bodyPost_ret (v := Tp.vl ((p, p, p, p, am + a))) (by simp [results, Try.results60, go_sem, z0, z1, z2, z3, z4, d0, d1, d2, d3, d4]) rfl ⟨by rw [← HSS.out], ?_⟩
      exact Below.drew (((((((((((HB1.out.setCell (Nat.le_refl _) _).setCell (Nat.le_refl _) _).setCell (Nat.le_refl _) _).setCell (Nat.le_refl _) _).setCell (Nat.le_refl _) _).setCell hg _).setCell hg _).setCell hg _).setCell hg _).setCell hg _))
  · go_wp2_with fail
    go_region
    all_goals
      go_wp2_with fail
      have hg : w.heap.size ≤ w.heap.size + 1 + 1 := by omega
      refine bodyPost_ret (v := Tp.vl ((op, p, lo, p, am + a))) (by simp [results, Try.results60, go_sem, z0, z1, z2, z3, z4, d0, d1, d2, d3, d4]) rfl ⟨by rw [← HSS.out], ?_⟩
      exact Below.drew (((((((((HB1.out.setCell (Nat.le_refl _) _).setCell (Nat.le_refl _) _).setCell (Nat.le_refl _) _).setCell hg _).setCell hg _).setCell hg _).setCell hg _).setCell hg _))
  · go_wp2_with fail
    have hg : w.heap.size ≤ w.heap.size + 1 + 1 := by omega
    refine bodyPost_ret (v := Tp.vl ((op, hi, p, p, am + a))) (by simp [results, Try.results60, go_sem, z0, z1, z2, z3, z4, d0, d1, d2, d3, d4]) rfl ⟨by rw [← HSS.out], ?_⟩
    exact ((((((((HB1.out.setCell (Nat.le_refl _) _).setCell (Nat.le_refl _) _).setCell (Nat.le_refl _) _).setCell hg _).setCell hg _).setCell hg _).setCell hg _).setCell hg _)
  · go_wp2_with fail
    have hg : w.heap.size ≤ w.heap.size + 1 + 1 := by omega
    refine bodyPost_ret (v := Tp.vl ((op, hi, lo, p, am + a))) (by simp [results, Try.results60, go_sem, z0, z1, z2, z3, z4, d0, d1, d2, d3, d4]) rfl ⟨by rw [← HSS.out], ?_⟩
    exact (((((((HB1.out.setCell (Nat.le_refl _) _).setCell (Nat.le_refl _) _).setCell hg _).setCell hg _).setCell hg _).setCell hg _).setCell hg _)
end Go.Proofs.Ytficlppngnnpoaa

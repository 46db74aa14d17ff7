/- The walk of the program's NewRight. -/
import Derived.Test.YtjagohadeegghaaLevelsImpl
import Derived.Test.YtjagohadeegghaaInRowImpl
namespace Go.Proofs.Ytjagohadeegghaa
open Go.RowKit
set_option linter.unusedVariables false
set_option linter.unusedSimpArgs false
set_option maxRecDepth 100000 in
set_option maxHeartbeats 4000000 in
theorem newRight_impl (u v : Value) (n : Int) (B A : List Lv.E) (w : World) (hu : Lv.View w u B) (hv : Lv.View w v A) (l0 : B.length ≤ 1048576) (l1 : A.length ≤ 1048576) (m0 : (Nb.flat B).length ≤ 1048576) (m1 : (Nb.flat A).length ≤ 1048576) :
    Calls Try.prog 36 #[.agg #[u, v, .int .i64 n]] w fun e w' => e = .returned (.bool (Nb.right B A n)) ∧ Below w.heap.size w w' := by
  obtain ⟨W, hW⟩ : ∃ W, W = w.alloc (.cells #[u, v, .int .i64 n] 28) := ⟨_, rfl⟩
  have b0 : Below w.heap.size w W := by rw [hW]; exact (Below.refl _ _).alloc (Nat.le_refl _) _
  have c0 : W.cell? ⟨w.heap.size, 0, none⟩ = some u := by rw [hW, Fk.cellTop _ _ _ _ _ rfl]; rfl
  have c1 : W.cell? ⟨w.heap.size, 1, none⟩ = some v := by rw [hW, Fk.cellTop _ _ _ _ _ rfl]; rfl
  have c2 : W.cell? ⟨w.heap.size, 2, none⟩ = some (.int .i64 n) := by rw [hW, Fk.cellTop _ _ _ _ _ rfl]; rfl
  have hz : w.heap.size < W.heap.size := by rw [hW]; simp
  have HU := Fk.hide hu
  have HV := Fk.hide hv
  have ME0 : Hid (∀ i, i < B.length → (Lv.at' B i).2.length ≤ 1048576) := fun i hi => Nat.le_trans (Nb.each_le B i hi) m0
  have ME1 : Hid (∀ i, i < A.length → (Lv.at' A i).2.length ≤ 1048576) := fun i hi => Nat.le_trans (Nb.each_le A i hi) m1
  obtain ⟨a0, cap0, rfl⟩ := hu.slice
  obtain ⟨a1, cap1, rfl⟩ := hv.slice
  have HR := Fk.hide (Nb.right_impl B A n)
  have HW := Fk.hide hW
  clear hW hu hv
  obtain ⟨p, hp⟩ : ∃ p, p = (Nb.flat B).length := ⟨_, rfl⟩
  obtain ⟨q, hq⟩ : ∃ q, q = (Nb.flat A).length := ⟨_, rfl⟩
  have HC0 : Hid (∀ w' x, Lv.View w' x B → Calls Try.prog 84 #[x] w' fun e w'' => e = .returned (.int .i64 p) ∧ Below w'.heap.size w' w'') := fun w' x h => by rw [hp]; exact countOf_any x B w' h l0 m0
  have HC1 : Hid (∀ w' x, Lv.View w' x A → Calls Try.prog 84 #[x] w' fun e w'' => e = .returned (.int .i64 q) ∧ Below w'.heap.size w' w'') := fun w' x h => by rw [hq]; exact countOf_any x A w' h l1 m1
  have M0 := Fk.hide m0
  have M1 := Fk.hide m1
  rw [← hp] at m0
  rw [← hq] at m1
  have HRR : Hid ((decide (p + q ≤ 24) && (Nb.lvlsI B && (Nb.lvlsI A && Ob.right ((Nb.flat B).map Nb.strip) ((Nb.flat A).map Nb.strip) n))) = Nb.right B A n) := by show _ = _; rw [hp, hq]; exact HR.out
  clear hp hq HR
  have HB : Hid (Below w.heap.size w W.drew) := b0.trans ((Below.drew (Below.refl W.heap.size W)).mono b0.size)
  have hzd : W.drew.heap.size = W.heap.size := by simp
  have HC : Hid (W.cell? ⟨w.heap.size, 0, none⟩ = some (.slice a0 B.length cap0) ∧ W.cell? ⟨w.heap.size, 1, none⟩ = some (.slice a1 A.length cap1) ∧ W.cell? ⟨w.heap.size, 2, none⟩ = some (.int .i64 n)) := ⟨c0, c1, c2⟩
  go_enter Try.func36, Try.ntmps36
  go_wp2_with fail
  rw [← HW.out]
  go_region_held3 (fun w' => w'.cell? ⟨w.heap.size, 0, none⟩ = some (.slice a0 B.length cap0) ∧ w'.cell? ⟨w.heap.size, 1, none⟩ = some (.slice a1 A.length cap1) ∧ w'.cell? ⟨w.heap.size, 2, none⟩ = some (.int .i64 n))
    (first | go_keep | (go_split_ands; exact ⟨by assumption, by assumption, by assumption⟩))
    (first
      | (have hchk := HB1.out; clear hchk; go_at_call 84; refine (HC1.out _ _ (HV.out.below HB1.out)).mono ?_; rintro e w2 ⟨rfl, m2⟩; have HB2 : Hid (Below w.heap.size w w2) := HB1.out.trans (m2.mono HB1.out.size); have f0 := (m2.cell (p := ⟨w.heap.size, 0, none⟩) (by show w.heap.size < _; omega)).trans d0; have f1 := (m2.cell (p := ⟨w.heap.size, 1, none⟩) (by show w.heap.size < _; omega)).trans d1; have f2 := (m2.cell (p := ⟨w.heap.size, 2, none⟩) (by show w.heap.size < _; omega)).trans d2; have sz2 : w.heap.size < w2.heap.size := Nat.lt_of_lt_of_le sz1 m2.size; clear m2)
      | (go_at_call 84; refine (HC0.out _ _ (HU.out.below HB.out)).mono ?_; rintro e w1 ⟨rfl, m1⟩; have HB1 : Hid (Below w.heap.size w w1) := HB.out.trans (m1.mono HB.out.size); have d0 := (m1.cell (p := ⟨w.heap.size, 0, none⟩) (by show w.heap.size < _; simp; omega)).trans HC.out.1; have d1 := (m1.cell (p := ⟨w.heap.size, 1, none⟩) (by show w.heap.size < _; simp; omega)).trans HC.out.2.1; have d2 := (m1.cell (p := ⟨w.heap.size, 2, none⟩) (by show w.heap.size < _; simp; omega)).trans HC.out.2.2; have sz1 : w.heap.size < w1.heap.size := Nat.lt_of_lt_of_le hz m1.size; clear m1))
  have hwr : IntKind.i64.wrap ((p : Int) + q) = (p : Int) + q := by rw [IntKind.wrap_i64]; omega
  rw [hwr]
  clear d0 d1 d2 c0 c1 c2 HC HB1 HB b0 hwr
  by_cases hc : p + q ≤ 24
  · have hc1 : decide ((24 : Int) < (p : Int) + q) = false := decide_eq_false (by omega)
    rw [hc1]
    go_wp2_with fail
    refine (levelsRight_any _ B _ (HU.out.below HB2.out) l0 ME0.out).mono ?_
    rintro e w3 ⟨rfl, k3⟩
    obtain ⟨r3, hr3⟩ : ∃ r, r = Nb.lvlsI B := ⟨_, rfl⟩
    rw [← hr3]
    have H3 := Fk.hide hr3
    have HB3 : Hid (Below w.heap.size w w3) := HB2.out.trans (k3.mono HB2.out.size)
    have sz3 : w.heap.size < w3.heap.size := Nat.lt_of_lt_of_le sz2 k3.size
    have g0 := (k3.cell (p := ⟨w.heap.size, 0, none⟩) (by show w.heap.size < _; omega)).trans f0
    have g1 := (k3.cell (p := ⟨w.heap.size, 1, none⟩) (by show w.heap.size < _; omega)).trans f1
    have g2 := (k3.cell (p := ⟨w.heap.size, 2, none⟩) (by show w.heap.size < _; omega)).trans f2
    clear k3 hr3 f0 f1 f2
    cases r3 with
    | false =>
      have HA : Hid (Nb.right B A n = false) := by show _ = _; rw [← HRR.out, ← H3.out]; simp
      go_wp2_with fail
      go_ret
      exact ⟨by rw [HA.out]; rfl, HB3.out⟩
    | true =>
    go_wp2_with fail
    refine (levelsRight_any _ A _ (HV.out.below HB3.out) l1 ME1.out).mono ?_
    rintro e w4 ⟨rfl, k4⟩
    obtain ⟨r4, hr4⟩ : ∃ r, r = Nb.lvlsI A := ⟨_, rfl⟩
    rw [← hr4]
    have H4 := Fk.hide hr4
    have HB4 : Hid (Below w.heap.size w w4) := HB3.out.trans (k4.mono HB3.out.size)
    have sz4 : w.heap.size < w4.heap.size := Nat.lt_of_lt_of_le sz3 k4.size
    have j0 := (k4.cell (p := ⟨w.heap.size, 0, none⟩) (by show w.heap.size < _; omega)).trans g0
    have j1 := (k4.cell (p := ⟨w.heap.size, 1, none⟩) (by show w.heap.size < _; omega)).trans g1
    have j2 := (k4.cell (p := ⟨w.heap.size, 2, none⟩) (by show w.heap.size < _; omega)).trans g2
    clear k4 hr4 g0 g1 g2
    cases r4 with
    | false =>
      have HA : Hid (Nb.right B A n = false) := by show _ = _; rw [← HRR.out, ← H3.out, ← H4.out]; simp
      go_wp2_with fail
      go_ret
      exact ⟨by rw [HA.out]; rfl, HB4.out⟩
    | true =>
    have HA : Hid (Nb.right B A n = Ob.right ((Nb.flat B).map Nb.strip) ((Nb.flat A).map Nb.strip) n) := by show _ = _; rw [← HRR.out, ← H3.out, ← H4.out, decide_eq_true hc]; simp
    obtain ⟨SB, hSB⟩ : ∃ x, x = (Nb.flat B).map Nb.strip := ⟨_, rfl⟩
    obtain ⟨SA, hSA⟩ : ∃ x, x = (Nb.flat A).map Nb.strip := ⟨_, rfl⟩
    have HS0 : Hid (∀ w' x, Lv.View w' x B → Calls Try.prog 86 #[x] w' fun e w'' => (∃ u, e = .returned u ∧ Rk.Own Or.S w'' w'.heap.size 55 u SB) ∧ Below w'.heap.size w' w'') := fun w' x h => by rw [hSB]; exact asOld_any x B w' h l0 M0.out
    have HS1 : Hid (∀ w' x, Lv.View w' x A → Calls Try.prog 86 #[x] w' fun e w'' => (∃ u, e = .returned u ∧ Rk.Own Or.S w'' w'.heap.size 55 u SA) ∧ Below w'.heap.size w' w'') := fun w' x h => by rw [hSA]; exact asOld_any x A w' h l1 M1.out
    have hs0 : SB.length ≤ 1048576 := by rw [hSB, List.length_map]; exact M0.out
    have hs1 : SA.length ≤ 1048576 := by rw [hSA, List.length_map]; exact M1.out
    rw [← hSB, ← hSA] at HA
    clear hSB hSA
    have HB : Hid (Below w.heap.size w w4.drew) := HB4.out.trans ((Below.drew (Below.refl w4.heap.size w4)).mono HB4.out.size)
    have hzd : w4.drew.heap.size = w4.heap.size := by simp
    have HC : Hid (w4.cell? ⟨w.heap.size, 0, none⟩ = some (.slice a0 B.length cap0) ∧ w4.cell? ⟨w.heap.size, 1, none⟩ = some (.slice a1 A.length cap1) ∧ w4.cell? ⟨w.heap.size, 2, none⟩ = some (.int .i64 n)) := ⟨j0, j1, j2⟩
    go_wp2_with fail
    go_region_held3 (fun w' => w'.cell? ⟨w.heap.size, 0, none⟩ = some (.slice a0 B.length cap0) ∧ w'.cell? ⟨w.heap.size, 1, none⟩ = some (.slice a1 A.length cap1) ∧ w'.cell? ⟨w.heap.size, 2, none⟩ = some (.int .i64 n))
      (first | go_keep | (go_split_ands; exact ⟨by assumption, by assumption, by assumption⟩))
      (first
        | (go_at_call 67; refine (oldRight_impl _ _ _ SB SA _ O6.out.view O7.out.view O6.out.shut O7.out.shut hs0 hs1).mono ?_; rintro e w8 ⟨rfl, m8⟩; have HB8 : Hid (Below w.heap.size w w8) := HB7.out.trans (m8.mono HB7.out.size); have q0 := (m8.cell (p := ⟨w.heap.size, 0, none⟩) (by show w.heap.size < _; omega)).trans o0; have q1 := (m8.cell (p := ⟨w.heap.size, 1, none⟩) (by show w.heap.size < _; omega)).trans o1; have q2 := (m8.cell (p := ⟨w.heap.size, 2, none⟩) (by show w.heap.size < _; omega)).trans o2; clear m8)
        | (have hchk := HB6.out; clear hchk; go_at_call 86; refine (HS1.out _ _ (HV.out.below HB6.out)).mono ?_; rintro e w7 ⟨⟨u7, rfl, ow7⟩, m7⟩; have HB7 : Hid (Below w.heap.size w w7) := HB6.out.trans (m7.mono HB6.out.size); have o0 := (m7.cell (p := ⟨w.heap.size, 0, none⟩) (by show w.heap.size < _; omega)).trans l0'; have o1 := (m7.cell (p := ⟨w.heap.size, 1, none⟩) (by show w.heap.size < _; omega)).trans l1'; have o2 := (m7.cell (p := ⟨w.heap.size, 2, none⟩) (by show w.heap.size < _; omega)).trans l2'; have sz7 : w.heap.size < w7.heap.size := Nat.lt_of_lt_of_le sz6 m7.size; obtain ⟨x7, n7, c7, rfl⟩ := ow7.slice'; have O7 := Fk.hide ow7; have O6 := Fk.hide (O5.out.below m7); clear ow7 m7)
        | (go_at_call 86; refine (HS0.out _ _ (HU.out.below HB.out)).mono ?_; rintro e w6 ⟨⟨u6, rfl, ow6⟩, m6⟩; have HB6 : Hid (Below w.heap.size w w6) := HB.out.trans (m6.mono HB.out.size); have l0' := (m6.cell (p := ⟨w.heap.size, 0, none⟩) (by show w.heap.size < _; simp; omega)).trans HC.out.1; have l1' := (m6.cell (p := ⟨w.heap.size, 1, none⟩) (by show w.heap.size < _; simp; omega)).trans HC.out.2.1; have l2' := (m6.cell (p := ⟨w.heap.size, 2, none⟩) (by show w.heap.size < _; simp; omega)).trans HC.out.2.2; have sz6 : w.heap.size < w6.heap.size := Nat.lt_of_lt_of_le sz4 m6.size; obtain ⟨x6, n6, c6, rfl⟩ := ow6.slice'; have O5 := Fk.hide ow6; clear ow6 m6))
    clear q0 q1 q2 o0 o1 o2 j0 j1 j2 l0' l1' l2' HC
    go_wp2_with fail
    go_ret
    exact ⟨by rw [HA.out]; rfl, HB8.out⟩
  · have hc1 : decide ((24 : Int) < (p : Int) + q) = true := decide_eq_true (by omega)
    have HA : Hid (Nb.right B A n = false) := by show _ = _; rw [← HRR.out, decide_eq_false hc]; rfl
    rw [hc1]
    go_wp2_with fail
    go_ret
    exact ⟨by rw [HA.out]; rfl, HB2.out⟩
end Go.Proofs.Ytjagohadeegghaa

/- The walks of NewCount, of the program and of the specification. -/
import Derived.Test.YtjagohadeegghaaNewRightImpl2
import Derived.Test.YtjagohadeegghaaNewOpenSpec2
namespace Go.Proofs.Ytjagohadeegghaa
open Go.RowKit
set_option linter.unusedVariables false
set_option linter.unusedSimpArgs false
/-- how many orders a right book has -/
def Nb.count (B A : List Lv.E) (n : Int) : Int := if Nb.right B A n then ((Nb.flat B).length : Int) + (Nb.flat A).length else 0
set_option maxRecDepth 100000 in
set_option maxHeartbeats 4000000 in
theorem newCount_impl (u v : Value) (n : Int) (B A : List Lv.E) (w : World) (hu : Lv.View w u B) (hv : Lv.View w v A) (l0 : B.length ≤ 1048576) (l1 : A.length ≤ 1048576) (m0 : (Nb.flat B).length ≤ 1048576) (m1 : (Nb.flat A).length ≤ 1048576) :
    Calls Try.prog 38 #[.agg #[u, v, .int .i64 n]] w fun e w' => e = .returned (.int .i64 (Nb.count B A n)) ∧ Below w.heap.size w w' := by
  obtain ⟨W, hW⟩ : ∃ W, W = w.alloc (.cells #[u, v, .int .i64 n] 28) := ⟨_, rfl⟩
  have b0 : Below w.heap.size w W := by rw [hW]; exact (Below.refl _ _).alloc (Nat.le_refl _) _
  have c0 : W.cell? ⟨w.heap.size, 0, none⟩ = some u := by rw [hW, Fk.cellTop _ _ _ _ _ rfl]; rfl
  have c1 : W.cell? ⟨w.heap.size, 1, none⟩ = some v := by rw [hW, Fk.cellTop _ _ _ _ _ rfl]; rfl
  have c2 : W.cell? ⟨w.heap.size, 2, none⟩ = some (.int .i64 n) := by rw [hW, Fk.cellTop _ _ _ _ _ rfl]; rfl
  have hz : w.heap.size < W.heap.size := by rw [hW]; simp
  have HU := Fk.hide hu
  have HV := Fk.hide hv
  obtain ⟨a0, cap0, rfl⟩ := hu.slice
  obtain ⟨a1, cap1, rfl⟩ := hv.slice
  have HW := Fk.hide hW
  clear hW hu hv
  go_enter Try.func38, Try.ntmps38
  go_wp2_with fail
  rw [← HW.out]
  refine (newRight_impl _ _ _ B A _ (HU.out.below b0) (HV.out.below b0) l0 l1 m0 m1).mono ?_
  rintro e w4 ⟨rfl, k4⟩
  obtain ⟨r, hr⟩ : ∃ r, r = Nb.right B A n := ⟨_, rfl⟩
  rw [← hr]
  have HR := Fk.hide hr
  have HB4 : Hid (Below w.heap.size w w4) := (b0).trans (k4.mono (b0).size)
  have j0 := (k4.cell (p := ⟨w.heap.size, 0, none⟩) (by show w.heap.size < _; omega)).trans c0
  have j1 := (k4.cell (p := ⟨w.heap.size, 1, none⟩) (by show w.heap.size < _; omega)).trans c1
  have j2 := (k4.cell (p := ⟨w.heap.size, 2, none⟩) (by show w.heap.size < _; omega)).trans c2
  have sz4 : w.heap.size < w4.heap.size := Nat.lt_of_lt_of_le hz k4.size
  clear k4 hr c0 c1 c2 b0
  cases r with
  | false =>
    have HA : Hid (Nb.count B A n = 0) := by show _ = _; unfold Nb.count; rw [← HR.out]; rfl
    go_wp2_with fail
    go_ret
    exact ⟨by rw [HA.out]; rfl, HB4.out⟩
  | true =>
  obtain ⟨p, hp⟩ : ∃ p, p = (Nb.flat B).length := ⟨_, rfl⟩
  obtain ⟨q, hq⟩ : ∃ q, q = (Nb.flat A).length := ⟨_, rfl⟩
  have HA : Hid (Nb.count B A n = (p : Int) + q) := by show _ = _; unfold Nb.count; rw [← HR.out, hp, hq]; rfl
  have HC0 : Hid (∀ w' x, Lv.View w' x B → Calls Try.prog 84 #[x] w' fun e w'' => e = .returned (.int .i64 p) ∧ Below w'.heap.size w' w'') := fun w' x h => by rw [hp]; exact countOf_any x B w' h l0 m0
  have HC1 : Hid (∀ w' x, Lv.View w' x A → Calls Try.prog 84 #[x] w' fun e w'' => e = .returned (.int .i64 q) ∧ Below w'.heap.size w' w'') := fun w' x h => by rw [hq]; exact countOf_any x A w' h l1 m1
  rw [← hp] at m0
  rw [← hq] at m1
  clear hp hq
  have HB : Hid (Below w.heap.size w w4.drew) := HB4.out.trans ((Below.drew (Below.refl w4.heap.size w4)).mono HB4.out.size)
  have hzd : w4.drew.heap.size = w4.heap.size := by simp
  have HC : Hid (w4.cell? ⟨w.heap.size, 0, none⟩ = some (.slice a0 B.length cap0) ∧ w4.cell? ⟨w.heap.size, 1, none⟩ = some (.slice a1 A.length cap1) ∧ w4.cell? ⟨w.heap.size, 2, none⟩ = some (.int .i64 n)) := ⟨j0, j1, j2⟩
  go_wp2_with fail
  go_region_held3 (fun w' => w'.cell? ⟨w.heap.size, 0, none⟩ = some (.slice a0 B.length cap0) ∧ w'.cell? ⟨w.heap.size, 1, none⟩ = some (.slice a1 A.length cap1) ∧ w'.cell? ⟨w.heap.size, 2, none⟩ = some (.int .i64 n))
    (first | go_keep | (go_split_ands; exact ⟨by assumption, by assumption, by assumption⟩))
    (first
      | (have hchk := HB1.out; clear hchk; go_at_call 84; refine (HC1.out _ _ (HV.out.below HB1.out)).mono ?_; rintro e w2 ⟨rfl, m2⟩; have HB2 : Hid (Below w.heap.size w w2) := HB1.out.trans (m2.mono HB1.out.size); have f0 := (m2.cell (p := ⟨w.heap.size, 0, none⟩) (by show w.heap.size < _; omega)).trans d0; have f1 := (m2.cell (p := ⟨w.heap.size, 1, none⟩) (by show w.heap.size < _; omega)).trans d1; have f2 := (m2.cell (p := ⟨w.heap.size, 2, none⟩) (by show w.heap.size < _; omega)).trans d2; have sz2 : w.heap.size < w2.heap.size := Nat.lt_of_lt_of_le sz1 m2.size; clear m2)
      | (go_at_call 84; refine (HC0.out _ _ (HU.out.below HB.out)).mono ?_; rintro e w1 ⟨rfl, m1⟩; have HB1 : Hid (Below w.heap.size w w1) := HB.out.trans (m1.mono HB.out.size); have d0 := (m1.cell (p := ⟨w.heap.size, 0, none⟩) (by show w.heap.size < _; simp; omega)).trans HC.out.1; have d1 := (m1.cell (p := ⟨w.heap.size, 1, none⟩) (by show w.heap.size < _; simp; omega)).trans HC.out.2.1; have d2 := (m1.cell (p := ⟨w.heap.size, 2, none⟩) (by show w.heap.size < _; simp; omega)).trans HC.out.2.2; have sz1 : w.heap.size < w1.heap.size := Nat.lt_of_lt_of_le sz4 m1.size; clear m1))
  have hwr : IntKind.i64.wrap ((p : Int) + q) = (p : Int) + q := by rw [IntKind.wrap_i64]; omega
  clear d0 d1 d2 j0 j1 j2 HC HB1 HB f0 f1 f2
  go_wp2_with fail
  go_ret
  refine ⟨?_, HB2.out⟩
  rw [HA.out]
  simp [hwr]

set_option maxRecDepth 100000 in
set_option maxHeartbeats 4000000 in
theorem newCount_spec (u v : Value) (n : Int) (B A : List Lv.E) (w : World) (hu : Lv.View w u B) (hv : Lv.View w v A) (l0 : B.length ≤ 1048576) (l1 : A.length ≤ 1048576) (m0 : (Nb.flat B).length ≤ 1048576) (m1 : (Nb.flat A).length ≤ 1048576) :
    Calls Try.prog 37 #[.agg #[u, v, .int .i64 n]] w fun e w' => e = .returned (.int .i64 (Nb.count B A n)) ∧ Below w.heap.size w w' := by
  have b0 : Below w.heap.size w (w.alloc (.cells #[u, v, .int .i64 n] 28)) := (Below.refl _ _).alloc (Nat.le_refl _) _
  have HU := Fk.hide (hu.below b0)
  have HV := Fk.hide (hv.below b0)
  obtain ⟨a0, cap0, rfl⟩ := hu.slice
  obtain ⟨a1, cap1, rfl⟩ := hv.slice
  clear hu hv
  go_enter Try.func37, Try.ntmps37
  go_wp2_with fail
  refine (l07Open_any _ _ _ B A _ HU.out HV.out l0 l1 m0 m1).mono ?_
  rintro e w1 ⟨⟨x, y, b, FB, FA, rfl, ⟨T1, hb1, hb2, ⟨cp, cq, _, _⟩, eF, lB, lA⟩⟩, k1⟩
  have HB1 : Hid (Below w.heap.size w w1) := b0.trans (k1.mono b0.size)
  obtain ⟨r, hr⟩ : ∃ r, r = Nb.right B A n := ⟨_, rfl⟩
  rw [← hr] at eF ⊢
  have HR := Fk.hide hr
  have EF := Fk.hide eF
  clear hr k1 b0 eF
  obtain ⟨x1, y1, rfl⟩ := T1.b.slice
  obtain ⟨x2, y2, rfl⟩ := T1.a.slice
  clear T1
  cases r with
  | false =>
    have HA : Hid (Nb.count B A n = 0) := by show _ = _; unfold Nb.count; rw [← HR.out]; rfl
    go_wp2_with fail
    go_ret
    exact ⟨by rw [HA.out]; rfl, HB1.out⟩
  | true =>
  have HA : Hid (Nb.count B A n = (FB.length : Int) + FA.length) := by show _ = _; unfold Nb.count; rw [← HR.out, (EF.out rfl).1, (EF.out rfl).2]; rfl
  go_wp2_with fail
  go_region
  all_goals
    go_wp2_with fail
    go_ret
    refine ⟨?_, HB1.out.trans (Below.drew (Below.refl _ _))⟩
    rw [HA.out]
    simp
end Go.Proofs.Ytjagohadeegghaa

/- The walks of the law's own comparisons of newer books. -/
import Derived.Test.YtnhpcknbnmhlhaaNewMath
import Derived.Test.YtnhpcknbnmhlhaaOrderLaw
namespace Go.Proofs.Ytnhpcknbnmhlhaa
open Go.RowKit
set_option linter.unusedVariables false
set_option linter.unusedSimpArgs false
set_option maxHeartbeats 1000000 in
theorem eqLevel_same (p : Int) (v u : Value) (L : List Or.E) (w : World) (h0 : Rk.View Or.S w v L) (k0 : Rk.View Or.S w u L) (l0 : L.length ≤ 1048576) :
    Calls Try.prog 51 #[.agg #[.int .i64 p, v], .agg #[.int .i64 p, u]] w fun e w' => e = .returned (.bool true) ∧ Below w.heap.size w w' := by
  obtain ⟨W, hW⟩ : ∃ W, W = (w.alloc (.cells #[.int .i64 p, v] 76)).alloc (.cells #[.int .i64 p, u] 76) := ⟨_, rfl⟩
  have b0 : Below w.heap.size w W := by
    rw [hW]
    repeat (first | exact Below.refl _ _ | refine Below.alloc ?_ (by simp <;> omega) _)
  have h0' := h0.below b0
  have k0' := k0.below b0
  have HW := Fk.hide hW
  clear hW
  obtain ⟨_, _, rfl, _⟩ := h0
  obtain ⟨_, _, rfl, _⟩ := k0
  go_enter Try.func51, Try.ntmps51
  go_wp2_with fail
  rw [← HW.out]
  refine (eqOrderS_same _ _ _ _ h0' k0' l0).mono ?_
  rintro e w1 ⟨rfl, m1⟩
  have HB1 : Hid (Below w.heap.size w w1) := b0.trans (m1.mono b0.size)
  clear m1 h0' k0'
  go_wp2_with fail
  go_ret
  exact ⟨rfl, HB1.out⟩

set_option maxHeartbeats 1000000 in
theorem eqLevelS_same (v1 v2 : Value) (L : List Lv.E) (w : World) (h1 : Lv.View w v1 L) (h2 : Lv.View w v2 L) (hl : L.length ≤ 1048576) (hm : ∀ i, i < L.length → (Lv.at' L i).2.length ≤ 1048576) :
    Calls Try.prog 38 #[v1, v2] w fun e w' => e = .returned (.bool true) ∧ Below w.heap.size w w' := by
  have H1 := Fk.hide h1
  have H2 := Fk.hide h2
  have HM := Fk.hide hm
  obtain ⟨a, cap, rfl⟩ := h1.slice
  obtain ⟨a2, cap2, rfl⟩ := h2.slice
  clear h1 h2 hm
  go_enter Try.func38, Try.ntmps38
  go_wp2_with fail
  go_loopw [5] (fun i wr => ∃ k : Nat, k ≤ L.length ∧ i = .int .i64 k ∧ Below w.heap.size w wr) (fun i _ => L.length - (intOf i).toNat)
  case atStart => exact ⟨0, Nat.zero_le _, rfl, Below.refl _ _⟩
  case round =>
    obtain ⟨k, hk, rfl, bel⟩ := hrel
    by_cases hlt : k < L.length
    · obtain ⟨b, o, q, m, c, rfl, hb, p0, p1, hm1, hvi, _⟩ := (H1.out.below bel).at hlt
      obtain ⟨b2, o2, q2, m2, c2, rfl, hb2, r0, r1, hm2, hvj, _⟩ := (H2.out.below bel).at hlt
      have HVI := Fk.hide hvi
      have HVJ := Fk.hide hvj
      clear hvi hvj hm1 hm2
      go_wp2_with fail
      go_region_with (go_at_call 51; refine (eqLevel_same _ _ _ _ _ (HVI.out.below (Below.drew (Below.refl wr.heap.size wr))) (HVJ.out.below (Below.drew (Below.refl wr.heap.size wr))) (HM.out k hlt)).mono ?_; rintro e w1 ⟨rfl, k1⟩)
      all_goals
        have bel1 : Below w.heap.size w w1 := bel.trans ((Below.trans (Below.drew (Below.refl _ _)) k1).mono bel.size)
        clear k1 p0 p1 r0 r1 HVI HVJ
        go_wp2_with fail
        go_roundw
        case rel => exact ⟨k + 1, by omega, by go_num, bel1⟩
        case measure => simp [intOf]; omega
    · have e : k = L.length := by omega
      subst e
      go_wp2_with fail
      go_ret
      exact ⟨rfl, bel⟩

set_option maxHeartbeats 1000000 in
theorem eqNew_same (v0 v1 u0 u1 : Value) (n : Int) (B A : List Lv.E) (w : World) (h0 : Lv.View w v0 B) (h1 : Lv.View w v1 A) (k0 : Lv.View w u0 B) (k1 : Lv.View w u1 A) (l0 : B.length ≤ 1048576) (l1 : A.length ≤ 1048576) (m0 : ∀ i, i < B.length → (Lv.at' B i).2.length ≤ 1048576) (m1 : ∀ i, i < A.length → (Lv.at' A i).2.length ≤ 1048576) :
    Calls Try.prog 22 #[.agg #[v0, v1, .int .i64 n], .agg #[u0, u1, .int .i64 n]] w fun e w' => e = .returned (.bool true) ∧ Below w.heap.size w w' := by
  obtain ⟨W, hW⟩ : ∃ W, W = (w.alloc (.cells #[v0, v1, .int .i64 n] 37)).alloc (.cells #[u0, u1, .int .i64 n] 37) := ⟨_, rfl⟩
  have b0 : Below w.heap.size w W := by
    rw [hW]
    repeat (first | exact Below.refl _ _ | refine Below.alloc ?_ (by simp <;> omega) _)
  have hz : W.heap.size = w.heap.size + 2 := by rw [hW]; simp
  have c1 : W.cell? ⟨w.heap.size, 1, none⟩ = some v1 := by rw [hW, Fk.cellOld _ _ _ _ (by simp), Fk.cellTop _ _ _ _ _ rfl]; rfl
  have c2 : W.cell? ⟨w.heap.size, 2, none⟩ = some (.int .i64 n) := by rw [hW, Fk.cellOld _ _ _ _ (by simp), Fk.cellTop _ _ _ _ _ rfl]; rfl
  have d1 : W.cell? ⟨w.heap.size + 1, 1, none⟩ = some u1 := by rw [hW, Fk.cellTop _ _ _ _ _ (by simp)]; rfl
  have d2 : W.cell? ⟨w.heap.size + 1, 2, none⟩ = some (.int .i64 n) := by rw [hW, Fk.cellTop _ _ _ _ _ (by simp)]; rfl
  have H0 := Fk.hide (h0.below b0)
  have K0 := Fk.hide (k0.below b0)
  have HV := Fk.hide (h1.below b0)
  have KV := Fk.hide (k1.below b0)
  have M0 := Fk.hide m0
  have M1 := Fk.hide m1
  have HW := Fk.hide hW
  obtain ⟨_, _, rfl⟩ := h0.slice
  obtain ⟨_, _, rfl⟩ := h1.slice
  obtain ⟨_, _, rfl⟩ := k0.slice
  obtain ⟨_, _, rfl⟩ := k1.slice
  clear hW h0 h1 k0 k1 m0 m1
  go_enter Try.func22, Try.ntmps22
  go_wp2_with fail
  rw [← HW.out]
  refine (eqLevelS_same _ _ _ _ H0.out K0.out l0 M0.out).mono ?_
  rintro e w1 ⟨rfl, m1⟩
  have f1 := (m1.cell (p := ⟨w.heap.size, 1, none⟩) (by show w.heap.size < _; omega)).trans c1
  have f2 := (m1.cell (p := ⟨w.heap.size, 2, none⟩) (by show w.heap.size < _; omega)).trans c2
  have g1 := (m1.cell (p := ⟨w.heap.size + 1, 1, none⟩) (by show w.heap.size + 1 < _; omega)).trans d1
  have g2 := (m1.cell (p := ⟨w.heap.size + 1, 2, none⟩) (by show w.heap.size + 1 < _; omega)).trans d2
  have HB1 : Hid (Below w.heap.size w w1) := b0.trans (m1.mono b0.size)
  have hz1 : w.heap.size + 2 ≤ w1.heap.size := by rw [← hz]; exact m1.size
  have HV1 := Fk.hide (HV.out.below m1)
  have KV1 := Fk.hide (KV.out.below m1)
  clear m1 c1 c2 d1 d2 H0 K0 HV KV
  go_wp2_with fail
  refine (eqLevelS_same _ _ _ _ HV1.out KV1.out l1 M1.out).mono ?_
  rintro e w2 ⟨rfl, m2⟩
  have p2 := (m2.cell (p := ⟨w.heap.size, 2, none⟩) (by show w.heap.size < _; omega)).trans f2
  have q2 := (m2.cell (p := ⟨w.heap.size + 1, 2, none⟩) (by show w.heap.size + 1 < _; omega)).trans g2
  have HB2 : Hid (Below w.heap.size w w2) := HB1.out.trans (m2.mono HB1.out.size)
  clear m2 f1 f2 g1 g2
  go_wp2_with fail
  go_ret
  exact ⟨rfl, HB2.out⟩
end Go.Proofs.Ytnhpcknbnmhlhaa

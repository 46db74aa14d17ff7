/- The walks of the law's own marks on newer books. -/
import Derived.Test.YtjagohadeegghaaLevelMark
import Derived.Test.YtjagohadeegghaaOrderMark
import Derived.Test.YtjagohadeegghaaOrderLaw
namespace Go.Proofs.Ytjagohadeegghaa
open Go.RowKit
set_option linter.unusedVariables false
set_option linter.unusedSimpArgs false
set_option maxRecDepth 100000 in
set_option maxHeartbeats 4000000 in
theorem markLevelS_any (v : Value) (L : List Lv.E) (Hs : List Lv.H) (k base top : Nat) (w : World) (ho : Lv.Own w base 103 55 v L Hs) (hu : Lv.Under top v L Hs) (hl : L.length ≤ 1048576) (hm : (Nb.flat L).length ≤ 1048576) (hk0 : 0 < k) (hk : k ≤ 10000000) :
    Calls Try.prog 72 #[v, .int .i64 k] w fun e w' => e = .returned (.int .i64 ((k + L.length + 8 * (Nb.flat L).length : Nat) : Int)) ∧ Lv.Only base top w w' := by
  obtain ⟨a, cap, rfl⟩ := ho.slice
  have HU := Fk.hide hu
  have HM := Fk.hide ho.marks
  have HE : Hid (∀ i, i < L.length → (Lv.at' L i).2.length ≤ 1048576) := fun i hi => Nat.le_trans (Nb.each_le L i hi) hm
  have HX : Hid (∀ i, i < L.length → ∀ k, (Lv.sl (Rk.at_ Lv.S Hs i)).ownBlock = some k → base ≤ k ∧ k < top) := fun i hi k hk => ⟨((ho.each i hi).lt k hk).1, hu.each i hi k hk⟩
  have HR : Hid (∀ k, (Value.slice a L.length cap).ownBlock = some k → base ≤ k ∧ k < top) := fun k hk => ⟨(ho.row.lt k hk).1, hu.row k hk⟩
  clear ho hu
  go_enter Try.func72, Try.ntmps72
  go_wp2_with fail
  go_loopw [1, 5] (fun q i wr => ∃ (j m : Nat) (Hs' : List Lv.H), j ≤ L.length ∧ q = .int .i64 (m : Int) ∧ i = .int .i64 j ∧ 0 < m ∧ m ≤ 19437185 ∧ Hid (m = k + j + 8 * (Nb.flat (L.take j)).length) ∧ Hid (Lv.Mk wr base 103 55 (.slice a L.length cap) L Hs Hs' j) ∧ Hid (Lv.Only base top w wr)) (fun _ i _ => L.length - (intOf i).toNat)
  case atStart => exact ⟨0, k, Hs, Nat.zero_le _, rfl, rfl, hk0, by omega, (by show _ = _; simp [Nb.flat]), HM, Lv.Only.refl _ _ _⟩
  case round =>
    obtain ⟨j, m, Hs', hj, rfl, rfl, hm0, hm1, HC, HK, HO⟩ := hrel
    clear HM
    by_cases hlt : j < L.length
    · obtain ⟨g, rfl⟩ : ∃ g, a = some ⟨g, 0, none⟩ := by
        rcases HK.out.row.form with ⟨h1, h2⟩ | ⟨g, c, h1, _⟩
        · have := HK.out.len; rw [h2] at this; simp at this; omega
        · simp only [Value.slice.injEq] at h1; exact ⟨g, h1.1⟩
      have HJ : Hid (j < Hs'.length) := by show _ < _; rw [HK.out.len]; exact hlt
      have s0 := Lv.o0 HK.out.row HJ.out
      have f0 := HK.out.row.frozen (j * 2)
      obtain ⟨z0, hz0⟩ : ∃ z, z = (Rk.at_ Lv.S Hs' j).1 := ⟨_, rfl⟩
      rw [← hz0] at s0
      have hP := HK.out.price hlt (m : Int)
      have t1 : (wr.setCell ⟨g, j * 2, none⟩ (.int .i64 (m : Int))).cell? ⟨g, j * 2 + 1, none⟩ = some (Lv.sl (Rk.at_ Lv.S Hs j)) := by
        have := Lv.o1 hP.row (k := j) (by rw [hP.len]; exact hlt)
        rw [hP.same j hlt] at this
        exact this
      have HP := Fk.hide hP
      obtain ⟨sa, sn, sc, hsl⟩ : ∃ x n c, Lv.sl (Rk.at_ Lv.S Hs j) = .slice x n c := ⟨_, _, _, rfl⟩
      rw [hsl] at t1
      have HSL := Fk.hide hsl
      have HOX := Fk.hide (HP.out.each j (Nat.le_refl _) hlt)
      rw [hsl] at HOX
      have HO1 : Hid (Lv.Only base top w (wr.setCell ⟨g, j * 2, none⟩ (.int .i64 (m : Int)))) := HO.out.trans (Lv.Only.of_grown (Lv.grown_set _ _ _) (fun k hk => HR.out k (by simpa [Value.ownBlock] using hk)))
      have hpl : (Nb.flat (L.take j)).length + (Lv.at' L j).2.length ≤ 1048576 := Nat.le_trans (Nb.part_le L j hlt) hm
      have HFS := Fk.hide (congrArg List.length (Nb.flat_step L j hlt))
      have hm2 : m + 1 + 8 * (Lv.at' L j).2.length ≤ 19437185 := by have := HC.out; omega
      clear hz0 hP hsl hpl
      go_wp2_with fail
      rw [show ((m : Int) + 1) = ((m + 1 : Nat) : Int) by omega]
      refine (markOrderS_any _ (Lv.at' L j).2 (m + 1) base _ HOX.out (HE.out j hlt) (by omega) (by omega)).mono ?_
      rintro e w2 ⟨⟨rfl, _⟩, g2⟩
      obtain ⟨m', hm'⟩ : ∃ x : Nat, x = m + 1 + 8 * (Lv.at' L j).2.length := ⟨_, rfl⟩
      rw [← hm']
      have HC' : Hid (m' = k + (j + 1) + 8 * (Nb.flat (L.take (j + 1))).length) := by
        show _ = _
        have h1 := HFS.out
        have h2 := HC.out
        rw [List.length_append] at h1
        omega
      have hb0 : 0 < m' := by omega
      have hb1 : m' ≤ 19437185 := by omega
      have HN : Hid (Lv.Mk w2 base 103 55 (.slice (some ⟨g, 0, none⟩) L.length cap) L Hs (Hs'.set j ((m : Int), (Rk.at_ Lv.S Hs' j).2)) (j + 1)) := HP.out.next hlt (by rw [HSL.out]; exact g2)
      have HO2 : Hid (Lv.Only base top w w2) := HO1.out.trans (Lv.Only.of_grown g2 (fun k hk => HX.out j hlt k (by rw [HSL.out]; exact hk)))
      clear g2 hm' s0 f0 t1 HC HK HO HOX HO1
      go_wp2_with fail
      go_roundw
      case rel => exact ⟨j + 1, m', _, by omega, rfl, by go_num, hb0, hb1, HC', HN, HO2⟩
      case measure => simp [intOf]; omega
    · have e : j = L.length := by omega
      subst e
      rw [Nb.flat_all] at HC
      obtain rfl := HC.out
      go_wp2_with fail
      go_ret
      exact ⟨rfl, HO.out⟩

set_option maxHeartbeats 2000000 in
theorem markNew_any (v0 v1 : Value) (n : Int) (B A : List Lv.E) (HB HA : List Lv.H) (k base mid top : Nat) (w : World) (o0 : Lv.Own w base 103 55 v0 B HB) (o1 : Lv.Own w mid 103 55 v1 A HA) (hu : Lv.Under mid v0 B HB) (hua : Lv.Under top v1 A HA) (hbm : base ≤ mid) (hmt : mid ≤ top) (htw : top ≤ w.heap.size) (l0 : B.length ≤ 1048576) (l1 : A.length ≤ 1048576) (m0 : (Nb.flat B).length ≤ 1048576) (m1 : (Nb.flat A).length ≤ 1048576) (hk0 : 0 < k) (hk : k ≤ 100) :
    Calls Try.prog 22 #[.agg #[v0, v1, .int .i64 n], .int .i64 k] w fun e w' => (∃ q : Nat, e = .returned (.int .i64 (q : Int)) ∧ q = k + B.length + 8 * (Nb.flat B).length + A.length + 8 * (Nb.flat A).length) ∧ Lv.Only base top w w' := by
  obtain ⟨W, hW⟩ : ∃ W, W = w.alloc (.cells #[v0, v1, .int .i64 n] 28) := ⟨_, rfl⟩
  have b0 : Below w.heap.size w W := by rw [hW]; exact (Below.refl _ _).alloc (Nat.le_refl _) _
  have c1 : W.cell? ⟨w.heap.size, 1, none⟩ = some v1 := by rw [hW, Fk.cellTop _ _ _ _ _ rfl]; rfl
  have hz : w.heap.size < W.heap.size := by rw [hW]; simp
  have HW := Fk.hide hW
  have HO0 := Fk.hide (o0.below b0)
  have HO1 := Fk.hide (o1.below b0)
  have HUB := Fk.hide hu
  have HUA := Fk.hide hua
  have G0 : Hid (Lv.Only base top w W) := Lv.Only.of_below b0
  obtain ⟨a0, cap0, rfl⟩ := o0.slice
  obtain ⟨a1, cap1, rfl⟩ := o1.slice
  clear hW o0 o1 hu hua b0
  go_enter Try.func22, Try.ntmps22
  go_wp2_with fail
  rw [← HW.out]
  refine (markLevelS_any _ B HB k base mid _ HO0.out HUB.out l0 m0 hk0 (by omega)).mono ?_
  rintro e w1 ⟨rfl, g1⟩
  obtain ⟨k1, hk1⟩ : ∃ x : Nat, x = k + B.length + 8 * (Nb.flat B).length := ⟨_, rfl⟩
  rw [← hk1]
  have hkb : 0 < k1 ∧ k1 ≤ 10000000 := by omega
  have HK1 := Fk.hide hk1
  have HA1 := Fk.hide (HO1.out.only g1 (Nat.le_refl _))
  have d1 : w1.cell? ⟨w.heap.size, 1, none⟩ = some (.slice a1 A.length cap1) := g1.cell c1 (by show w.heap.size < base ∨ mid ≤ w.heap.size; omega)
  have G1 : Hid (Lv.Only base top w w1) := G0.out.trans (g1.wide (Nat.le_refl _) hmt)
  clear g1 hk1 c1 G0 HO0 HO1
  go_wp2_with fail
  refine (markLevelS_any _ A HA k1 mid top _ HA1.out HUA.out l1 m1 hkb.1 hkb.2).mono ?_
  rintro e w2 ⟨rfl, g2⟩
  obtain ⟨k2, hk2⟩ : ∃ x : Nat, x = k1 + A.length + 8 * (Nb.flat A).length := ⟨_, rfl⟩
  rw [← hk2]
  have HK2 := Fk.hide hk2
  have G2 : Hid (Lv.Only base top w w2) := G1.out.trans (g2.wide hbm (Nat.le_refl _))
  clear g2 hk2
  go_wp2_with fail
  go_ret
  exact ⟨⟨k2, rfl, by rw [HK2.out, HK1.out]⟩, G2.out⟩
end Go.Proofs.Ytjagohadeegghaa

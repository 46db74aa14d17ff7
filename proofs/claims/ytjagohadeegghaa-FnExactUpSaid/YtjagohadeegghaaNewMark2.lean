/- The walks of the law's own marks on newer books, and of its look at them: what was written is read again. -/
import Derived.Test.YtjagohadeegghaaNewMark
import Derived.Test.YtjagohadeegghaaLevelGrow
namespace Go.Proofs.Ytjagohadeegghaa
open Go.RowKit
set_option linter.unusedVariables false
set_option linter.unusedSimpArgs false
/-- what lies in rows below a number stays when rows from there on change -/
theorem Lv.Own.onlyOut {lo hi base : Nat} {w w' : World} {eh eo : TypeId} {v : Value} {L : List Lv.E} {Hs : List Lv.H} (h : Lv.Own w base eh eo v L Hs) (ho : Lv.Only lo hi w w') (hu : Lv.Under lo v L Hs) : Lv.Own w' base eh eo v L Hs :=
  ⟨h.len, ho.keeps h.row (fun k hk => .inl (hu.row k hk)), h.price, fun i hi => ho.keeps (h.each i hi) (fun k hk => .inl (hu.each i hi k hk)), h.off, h.ne⟩

set_option maxRecDepth 100000 in
set_option maxHeartbeats 4000000 in
theorem markLevelS_all (v : Value) (L : List Lv.E) (Hs : List Lv.H) (k base top : Nat) (w : World) (ho : Lv.Own w base 103 55 v L Hs) (hu : Lv.Under top v L Hs) (hl : L.length ≤ 1048576) (hm : (Nb.flat L).length ≤ 1048576) (hk0 : 0 < k) (hk : k ≤ 10000000) :
    Calls Try.prog 72 #[v, .int .i64 k] w fun e w' => (e = .returned (.int .i64 ((Lv.pos k L L.length : Nat) : Int)) ∧ ∃ Hs', Lv.Own w' base 103 55 v (Lv.mks k L) Hs' ∧ Lv.Under top v (Lv.mks k L) Hs') ∧ Lv.Only base top w w' := by
  obtain ⟨a, cap, rfl⟩ := ho.slice
  have HU := Fk.hide hu
  have HM := Fk.hide (ho.writes k)
  have HE : Hid (∀ i, i < L.length → (Lv.at' L i).2.length ≤ 1048576) := fun i hi => Nat.le_trans (Nb.each_le L i hi) hm
  have HX : Hid (∀ i, i < L.length → ∀ k, (Lv.sl (Rk.at_ Lv.S Hs i)).ownBlock = some k → base ≤ k ∧ k < top) := fun i hi k hk => ⟨((ho.each i hi).lt k hk).1, hu.each i hi k hk⟩
  have HR : Hid (∀ k, (Value.slice a L.length cap).ownBlock = some k → base ≤ k ∧ k < top) := fun k hk => ⟨(ho.row.lt k hk).1, hu.row k hk⟩
  clear ho hu
  go_enter Try.func72, Try.ntmps72
  go_wp2_with fail
  go_loopw [1, 5] (fun q i wr => ∃ (j m : Nat) (Hs' : List Lv.H), j ≤ L.length ∧ q = .int .i64 (m : Int) ∧ i = .int .i64 j ∧ 0 < m ∧ m ≤ 19437185 ∧ Hid (m = Lv.pos k L j) ∧ Hid (Lv.Mw wr base 103 55 (.slice a L.length cap) L Hs Hs' k j) ∧ Hid (Lv.Only base top w wr)) (fun _ i _ => L.length - (intOf i).toNat)
  case atStart => exact ⟨0, k, Hs, Nat.zero_le _, rfl, rfl, hk0, by omega, (Lv.pos_none k L).symm, HM, Lv.Only.refl _ _ _⟩
  case round =>
    obtain ⟨j, m, Hs', hj, rfl, rfl, hm0, hm1, HC, HK, HO⟩ := hrel
    clear HM
    by_cases hlt : j < L.length
    · obtain ⟨g, rfl⟩ : ∃ g, a = some ⟨g, 0, none⟩ := by
        rcases HK.out.part.row.form with ⟨h1, h2⟩ | ⟨g, c, h1, _⟩
        · have := HK.out.part.len; rw [h2] at this; simp at this; omega
        · simp only [Value.slice.injEq] at h1; exact ⟨g, h1.1⟩
      have HJ : Hid (j < Hs'.length) := by show _ < _; rw [HK.out.part.len]; exact hlt
      have s0 := Lv.o0 HK.out.part.row HJ.out
      have f0 := HK.out.part.row.frozen (j * 2)
      obtain ⟨z0, hz0⟩ : ∃ z, z = (Rk.at_ Lv.S Hs' j).1 := ⟨_, rfl⟩
      rw [← hz0] at s0
      have hP := HK.out.part.price hlt (m : Int)
      have t1 : (wr.setCell ⟨g, j * 2, none⟩ (.int .i64 (m : Int))).cell? ⟨g, j * 2 + 1, none⟩ = some (Lv.sl (Rk.at_ Lv.S Hs j)) := by
        have := Lv.o1 hP.row (k := j) (by rw [hP.len]; exact hlt)
        rw [hP.same j hlt] at this
        exact this
      have HP := Fk.hide hP
      obtain ⟨sa, sn, sc, hsl⟩ : ∃ x n c, Lv.sl (Rk.at_ Lv.S Hs j) = .slice x n c := ⟨_, _, _, rfl⟩
      rw [hsl] at t1
      have HSL := Fk.hide hsl
      have HOX := Fk.hide (HP.out.each j (Nat.le_refl _) hlt)
      rw [hsl] at HOX
      have HO1 : Hid (Lv.Only base top w (wr.setCell ⟨g, j * 2, none⟩ (.int .i64 (m : Int)))) := HO.out.trans (Lv.Only.of_grown (Lv.grown_set _ _ _) (fun k hk => HR.out k (by simpa [Value.ownBlock] using hk)))
      have hpl : (Nb.flat (L.take j)).length + (Lv.at' L j).2.length ≤ 1048576 := Nat.le_trans (Nb.part_le L j hlt) hm
      have hm2 : m + 1 + 8 * (Lv.at' L j).2.length ≤ 19437185 := by have := HC.out; unfold Lv.pos at this; omega
      clear hz0 hP hsl hpl
      go_wp2_with fail
      rw [show ((m : Int) + 1) = ((m + 1 : Nat) : Int) by omega]
      refine (markOrderS_any _ (Lv.at' L j).2 (m + 1) base _ HOX.out (HE.out j hlt) (by omega) (by omega)).mono ?_
      rintro e w2 ⟨⟨rfl, o2⟩, g2⟩
      obtain ⟨m', hm'⟩ : ∃ x : Nat, x = m + 1 + 8 * (Lv.at' L j).2.length := ⟨_, rfl⟩
      rw [← hm']
      have HC' : Hid (m' = Lv.pos k L (j + 1)) := by
        show _ = _
        rw [Lv.pos_step k L j hlt, ← HC.out, hm']
      have hb0 : 0 < m' := by omega
      have hb1 : m' ≤ 19437185 := by omega
      have HN : Hid (Lv.Mw w2 base 103 55 (.slice (some ⟨g, 0, none⟩) L.length cap) L Hs (Hs'.set j ((m : Int), (Rk.at_ Lv.S Hs' j).2)) k (j + 1)) := HK.out.next hlt HC.out (by rw [HSL.out]; exact g2) (by rw [HSL.out]; exact o2)
      have HO2 : Hid (Lv.Only base top w w2) := HO1.out.trans (Lv.Only.of_grown g2 (fun k hk => HX.out j hlt k (by rw [HSL.out]; exact hk)))
      clear g2 o2 hm' s0 f0 t1 HC HK HO HOX HO1
      go_wp2_with fail
      go_roundw
      case rel => exact ⟨j + 1, m', _, by omega, rfl, by go_num, hb0, hb1, HC', HN, HO2⟩
      case measure => simp [intOf]; omega
    · have e : j = L.length := by omega
      subst e
      obtain rfl := HC.out
      go_wp2_with fail
      go_ret
      refine ⟨⟨rfl, Hs', HK.out.all, ?_⟩, HO.out⟩
      have HS := HK.out.part.same
      exact ⟨fun k hk => (HR.out k hk).2, fun i hi k hk => by rw [Lv.mks_length] at hi; rw [HS i hi] at hk; exact (HX.out i hi k hk).2⟩

set_option maxRecDepth 100000 in
set_option maxHeartbeats 4000000 in
theorem heldLevelS_any (v : Value) (L : List Lv.E) (k : Nat) (w : World) (hv : Lv.View w v (Lv.mks k L)) (hl : L.length ≤ 1048576) (hm : (Nb.flat L).length ≤ 1048576) (hk0 : 0 < k) (hk : k ≤ 10000000) :
    Calls Try.prog 73 #[v, .int .i64 k] w fun e w' => e = .returned (.int .i64 ((Lv.pos k L L.length : Nat) : Int)) ∧ Below w.heap.size w w' := by
  have HV := Fk.hide hv
  obtain ⟨a, cap, rfl⟩ := hv.slice
  rw [Lv.mks_length] at *
  clear hv
  go_enter Try.func73, Try.ntmps73
  go_wp2_with fail
  go_loopw [1, 5] (fun q i wr => ∃ (j m : Nat), j ≤ L.length ∧ q = .int .i64 (m : Int) ∧ i = .int .i64 j ∧ 0 < m ∧ m ≤ 19437185 ∧ Hid (m = Lv.pos k L j) ∧ Below w.heap.size w wr) (fun _ i _ => L.length - (intOf i).toNat)
  case atStart => exact ⟨0, k, Nat.zero_le _, rfl, rfl, hk0, by omega, (Lv.pos_none k L).symm, Below.refl _ _⟩
  case round =>
    obtain ⟨j, m, hj, rfl, rfl, hm0, hm1, HC, bel⟩ := hrel
    by_cases hlt : j < L.length
    · obtain ⟨b, o, q, x, c, rfl, hb, p0, p1, hx, hvi, _⟩ := (HV.out.below bel).at (i := j) (by rw [Lv.mks_length]; exact hlt)
      rw [Lv.mks_at k L j hlt] at p0 hx hvi
      simp only [Or.mks_length] at hx
      rw [← HC.out] at p0 hvi
      have hpl : (Nb.flat (L.take j)).length + (Lv.at' L j).2.length ≤ 1048576 := Nat.le_trans (Nb.part_le L j hlt) hm
      have hm2 : m + 1 + 8 * (Lv.at' L j).2.length ≤ 19437185 := by have := HC.out; unfold Lv.pos at this; omega
      obtain ⟨y, hy⟩ : ∃ y, y = (Lv.at' L j).2.length := ⟨_, rfl⟩
      rw [← hy] at hx hvi hm2 hpl
      have HY := Fk.hide hy
      have HVI := Fk.hide hvi
      clear hy hvi
      subst hx
      go_wp2_with fail
      rw [show ((m : Int) + 1) = ((m + 1 : Nat) : Int) by omega]
      refine (heldOrderS_any _ x (m + 1) _ HVI.out (by omega) (by omega) (by omega)).mono ?_
      rintro e w2 ⟨rfl, g2⟩
      obtain ⟨m', hm'⟩ : ∃ z : Nat, z = m + 1 + 8 * x := ⟨_, rfl⟩
      rw [← hm']
      have HC' : Hid (m' = Lv.pos k L (j + 1)) := by
        show _ = _
        rw [Lv.pos_step k L j hlt, ← HC.out, ← HY.out, hm']
      have hb0 : 0 < m' := by omega
      have hb1 : m' ≤ 19437185 := by omega
      have bel2 : Below w.heap.size w w2 := bel.trans (g2.mono bel.size)
      clear g2 hm' p0 p1 HC HVI HY
      go_wp2_with fail
      go_roundw
      case rel => exact ⟨j + 1, m', by omega, rfl, by go_num, hb0, hb1, HC', bel2⟩
      case measure => simp [intOf]; omega
    · have e : j = L.length := by omega
      subst e
      obtain rfl := HC.out
      go_wp2_with fail
      go_ret
      exact ⟨rfl, bel⟩

set_option maxHeartbeats 2000000 in
theorem markNew_all (v0 v1 : Value) (n : Int) (B A : List Lv.E) (HB HA : List Lv.H) (k base mid top : Nat) (w : World) (o0 : Lv.Own w base 103 55 v0 B HB) (o1 : Lv.Own w mid 103 55 v1 A HA) (hu : Lv.Under mid v0 B HB) (hua : Lv.Under top v1 A HA) (hbm : base ≤ mid) (hmt : mid ≤ top) (htw : top ≤ w.heap.size) (l0 : B.length ≤ 1048576) (l1 : A.length ≤ 1048576) (m0 : (Nb.flat B).length ≤ 1048576) (m1 : (Nb.flat A).length ≤ 1048576) (hk0 : 0 < k) (hk : k ≤ 100) :
    Calls Try.prog 22 #[.agg #[v0, v1, .int .i64 n], .int .i64 k] w fun e w' => (∃ k1, k1 = Lv.pos k B B.length ∧ e = .returned (.int .i64 ((Lv.pos k1 A A.length : Nat) : Int)) ∧ Lv.View w' v0 (Lv.mks k B) ∧ Lv.View w' v1 (Lv.mks k1 A)) ∧ Lv.Only base top w w' := by
  obtain ⟨W, hW⟩ : ∃ W, W = w.alloc (.cells #[v0, v1, .int .i64 n] 28) := ⟨_, rfl⟩
  have b0 : Below w.heap.size w W := by rw [hW]; exact (Below.refl _ _).alloc (Nat.le_refl _) _
  have c1 : W.cell? ⟨w.heap.size, 1, none⟩ = some v1 := by rw [hW, Fk.cellTop _ _ _ _ _ rfl]; rfl
  have hz : w.heap.size < W.heap.size := by rw [hW]; simp
  have HW := Fk.hide hW
  have HO0 := Fk.hide (o0.below b0)
  have HO1 := Fk.hide (o1.below b0)
  have HUB := Fk.hide hu
  have HUA := Fk.hide hua
  have G0 : Hid (Lv.Only base top w W) := Lv.Only.of_below b0
  obtain ⟨a0, cap0, rfl⟩ := o0.slice
  obtain ⟨a1, cap1, rfl⟩ := o1.slice
  clear hW o0 o1 hu hua b0
  go_enter Try.func22, Try.ntmps22
  go_wp2_with fail
  rw [← HW.out]
  refine (markLevelS_all _ B HB k base mid _ HO0.out HUB.out l0 m0 hk0 (by omega)).mono ?_
  rintro e w1 ⟨⟨rfl, HB', o1, u1⟩, g1⟩
  obtain ⟨k1, hk1⟩ : ∃ x : Nat, x = Lv.pos k B B.length := ⟨_, rfl⟩
  rw [← hk1]
  have hkb : 0 < k1 ∧ k1 ≤ 10000000 := by rw [Lv.pos_all] at hk1; omega
  have OB := Fk.hide o1
  have HUB2 := Fk.hide u1
  have HK1 := Fk.hide hk1
  have HA1 := Fk.hide (HO1.out.only g1 (Nat.le_refl _))
  have d1 : w1.cell? ⟨w.heap.size, 1, none⟩ = some (.slice a1 A.length cap1) := g1.cell c1 (by show w.heap.size < base ∨ mid ≤ w.heap.size; omega)
  have G1 : Hid (Lv.Only base top w w1) := G0.out.trans (g1.wide (Nat.le_refl _) hmt)
  clear g1 hk1 o1 u1 c1 G0 HO0 HO1
  go_wp2_with fail
  refine (markLevelS_all _ A HA k1 mid top _ HA1.out HUA.out l1 m1 hkb.1 hkb.2).mono ?_
  rintro e w2 ⟨⟨rfl, HA', o2, u2⟩, g2⟩
  obtain ⟨k2, hk2⟩ : ∃ x : Nat, x = Lv.pos k1 A A.length := ⟨_, rfl⟩
  rw [← hk2]
  have HK2 := Fk.hide hk2
  have G2 : Hid (Lv.Only base top w w2) := G1.out.trans (g2.wide hbm (Nat.le_refl _))
  have VA := Fk.hide o2.view
  have VB : Hid (Lv.View w2 (.slice a0 B.length cap0) (Lv.mks k B)) := (OB.out.onlyOut g2 HUB2.out).view
  clear g2 hk2 o2 u2
  go_wp2_with fail
  go_ret
  exact ⟨⟨k1, HK1.out, by rw [HK2.out]; rfl, VB.out, VA.out⟩, G2.out⟩

set_option maxHeartbeats 2000000 in
theorem heldNew_any (v0 v1 : Value) (n : Int) (B A : List Lv.E) (k k1 : Nat) (w : World) (h0 : Lv.View w v0 (Lv.mks k B)) (h1 : Lv.View w v1 (Lv.mks k1 A)) (hk1 : k1 = Lv.pos k B B.length) (l0 : B.length ≤ 1048576) (l1 : A.length ≤ 1048576) (m0 : (Nb.flat B).length ≤ 1048576) (m1 : (Nb.flat A).length ≤ 1048576) (hk0 : 0 < k) (hk : k ≤ 100) :
    Calls Try.prog 23 #[.agg #[v0, v1, .int .i64 n], .int .i64 k] w fun e w' => e = .returned (.int .i64 ((Lv.pos k1 A A.length : Nat) : Int)) ∧ Below w.heap.size w w' := by
  obtain ⟨W, hW⟩ : ∃ W, W = w.alloc (.cells #[v0, v1, .int .i64 n] 28) := ⟨_, rfl⟩
  have b0 : Below w.heap.size w W := by rw [hW]; exact (Below.refl _ _).alloc (Nat.le_refl _) _
  have c1 : W.cell? ⟨w.heap.size, 1, none⟩ = some v1 := by rw [hW, Fk.cellTop _ _ _ _ _ rfl]; rfl
  have hz : w.heap.size < W.heap.size := by rw [hW]; simp
  have HW := Fk.hide hW
  have HV0 := Fk.hide (h0.below b0)
  have HV1 := Fk.hide (h1.below b0)
  have HB0 := Fk.hide b0
  have hkb : 0 < k1 ∧ k1 ≤ 10000000 := by rw [Lv.pos_all] at hk1; omega
  have HK1 := Fk.hide hk1
  obtain ⟨a0, cap0, rfl⟩ := h0.slice
  obtain ⟨a1, cap1, rfl⟩ := h1.slice
  rw [Lv.mks_length] at *
  clear hW h0 h1 b0 hk1
  go_enter Try.func23, Try.ntmps23
  go_wp2_with fail
  rw [← HW.out]
  refine (heldLevelS_any _ B k _ HV0.out l0 m0 hk0 (by omega)).mono ?_
  rintro e w1 ⟨rfl, g1⟩
  rw [← HK1.out]
  have d1 := (g1.cell (p := ⟨w.heap.size, 1, none⟩) (by show w.heap.size < _; omega)).trans c1
  have HVB := Fk.hide (HV1.out.below g1)
  have HB1 : Hid (Below w.heap.size w w1) := HB0.out.trans (g1.mono HB0.out.size)
  clear g1 c1 HB0 HV0 HV1
  go_wp2_with fail
  refine (heldLevelS_any _ A k1 _ HVB.out l1 m1 hkb.1 hkb.2).mono ?_
  rintro e w2 ⟨rfl, g2⟩
  obtain ⟨k2, hk2⟩ : ∃ x : Nat, x = Lv.pos k1 A A.length := ⟨_, rfl⟩
  rw [← hk2]
  have HK2 := Fk.hide hk2
  have HB2 : Hid (Below w.heap.size w w2) := HB1.out.trans (g2.mono HB1.out.size)
  clear g2 hk2
  go_wp2_with fail
  go_ret
  exact ⟨by rw [HK2.out]; rfl, HB2.out⟩
end Go.Proofs.Ytjagohadeegghaa

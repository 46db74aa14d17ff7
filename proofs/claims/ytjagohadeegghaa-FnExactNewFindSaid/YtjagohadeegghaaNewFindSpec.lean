/- The order of an Id of a newer book, and the walk of the specification's NewFind. -/
import Derived.Test.YtjagohadeegghaaNewBest
import Derived.Test.YtjagohadeegghaaOldSeat
namespace Go.Proofs.Ytjagohadeegghaa
open Go.RowKit
set_option linter.unusedVariables false
set_option linter.unusedSimpArgs false
namespace Nb
/-- the first order of an Id, of bids, then of asks -/
noncomputable def seek (B A : List Or.E) (id : Int) : Or.E := by
  classical
  exact if h : ∃ k, Ob.hits B id k then Ob.at' B h.choose else if h : ∃ k, Ob.hits A id k then Ob.at' A h.choose else Or.S.z
theorem seek_bid {B A : List Or.E} {id : Int} {k : Nat} (hk : Ob.hits B id k) : seek B A id = Ob.at' B k := by
  have e : ∃ k, Ob.hits B id k := ⟨k, hk⟩
  simp only [seek, dif_pos e]
  rw [Ob.hits_one e.choose_spec hk]
theorem seek_ask {B A : List Or.E} {id : Int} {k : Nat} (hB : Ob.lacks B id B.length) (hk : Ob.hits A id k) : seek B A id = Ob.at' A k := by
  have e0 : ¬ ∃ k, Ob.hits B id k := fun ⟨j, hj⟩ => hB j hj.1 hj.2.1
  have e : ∃ k, Ob.hits A id k := ⟨k, hk⟩
  simp only [seek, dif_neg e0, dif_pos e]
  rw [Ob.hits_one e.choose_spec hk]
theorem seek_none {B A : List Or.E} {id : Int} (hB : Ob.lacks B id B.length) (hA : Ob.lacks A id A.length) : seek B A id = Or.S.z := by
  have e0 : ¬ ∃ k, Ob.hits B id k := fun ⟨j, hj⟩ => hB j hj.1 hj.2.1
  have e1 : ¬ ∃ k, Ob.hits A id k := fun ⟨j, hj⟩ => hA j hj.1 hj.2.1
  simp only [seek, dif_neg e0, dif_neg e1]
theorem seek_found {B A : List Or.E} {id : Int} {buy : Bool} {k : Int} (h : Ob.Found B A id buy k) : (k = -1 ∧ seek B A id = Or.S.z) ∨ ∃ j : Nat, k = j ∧ j < (Ob.pick buy B A).length ∧ seek B A id = Ob.at' (Ob.pick buy B A) j := by
  rcases h with ⟨rfl, j, rfl, hj⟩ | ⟨rfl, hB, ⟨j, rfl, hj⟩ | ⟨rfl, hA⟩⟩
  · exact .inr ⟨j, rfl, hj.1, seek_bid hj⟩
  · exact .inr ⟨j, rfl, hj.1, seek_ask hB hj⟩
  · exact .inl ⟨rfl, seek_none hB hA⟩
/-- the order of an Id of a right book -/
noncomputable def find (B A : List Lv.E) (n id : Int) : Or.E := if right B A n then seek (flat B) (flat A) id else Or.S.z
end Nb
set_option maxRecDepth 100000 in
set_option maxHeartbeats 4000000 in
theorem newFind_spec (u v : Value) (n : Int) (id : Int) (B A : List Lv.E) (w : World) (hu : Lv.View w u B) (hv : Lv.View w v A) (l0 : B.length ≤ 1048576) (l1 : A.length ≤ 1048576) (m0 : (Nb.flat B).length ≤ 1048576) (m1 : (Nb.flat A).length ≤ 1048576) :
    Calls Try.prog 52 #[.agg #[u, v, .int .i64 n], .int .i64 id] w fun e w' => e = .returned (.agg #[.int .i64 (Nb.find B A n id).1, .int .i64 (Nb.find B A n id).2.1, .int .i64 (Nb.find B A n id).2.2.1, .int .i64 (Nb.find B A n id).2.2.2.1, .bool (Nb.find B A n id).2.2.2.2.1, .int .i64 (Nb.find B A n id).2.2.2.2.2.1, .int .i64 (Nb.find B A n id).2.2.2.2.2.2.1, .bool (Nb.find B A n id).2.2.2.2.2.2.2]) ∧ Below w.heap.size w w' := by
  obtain ⟨W, hW⟩ : ∃ W, W = (w.alloc (.cells #[u, v, .int .i64 n] 28)).alloc (.cells #[.int .i64 0, .int .i64 0, .int .i64 0, .int .i64 0, .bool false, .int .i64 0, .int .i64 0, .bool false] 55) := ⟨_, rfl⟩
  have b0 : Below w.heap.size w W := by rw [hW]; exact ((Below.refl _ _).alloc (Nat.le_refl _) _).alloc (by simp) _
  have HZ0 : Hid (W.cell? ⟨w.heap.size + 1, 0, none⟩ = some (.int .i64 0)) := by show _ = _; rw [hW, Fk.cellTop _ _ _ _ _ (by simp)]; rfl
  have HZ1 : Hid (W.cell? ⟨w.heap.size + 1, 1, none⟩ = some (.int .i64 0)) := by show _ = _; rw [hW, Fk.cellTop _ _ _ _ _ (by simp)]; rfl
  have HZ2 : Hid (W.cell? ⟨w.heap.size + 1, 2, none⟩ = some (.int .i64 0)) := by show _ = _; rw [hW, Fk.cellTop _ _ _ _ _ (by simp)]; rfl
  have HZ3 : Hid (W.cell? ⟨w.heap.size + 1, 3, none⟩ = some (.int .i64 0)) := by show _ = _; rw [hW, Fk.cellTop _ _ _ _ _ (by simp)]; rfl
  have HZ4 : Hid (W.cell? ⟨w.heap.size + 1, 4, none⟩ = some (.bool false)) := by show _ = _; rw [hW, Fk.cellTop _ _ _ _ _ (by simp)]; rfl
  have HZ5 : Hid (W.cell? ⟨w.heap.size + 1, 5, none⟩ = some (.int .i64 0)) := by show _ = _; rw [hW, Fk.cellTop _ _ _ _ _ (by simp)]; rfl
  have HZ6 : Hid (W.cell? ⟨w.heap.size + 1, 6, none⟩ = some (.int .i64 0)) := by show _ = _; rw [hW, Fk.cellTop _ _ _ _ _ (by simp)]; rfl
  have HZ7 : Hid (W.cell? ⟨w.heap.size + 1, 7, none⟩ = some (.bool false)) := by show _ = _; rw [hW, Fk.cellTop _ _ _ _ _ (by simp)]; rfl
  have HZF : Hid (∀ j, W.frozen? ⟨w.heap.size + 1, j, none⟩ = false) := fun j => by rw [hW, Fk.frozTop _ _ _ _ _ (by simp)]
  have hz : W.heap.size = w.heap.size + 2 := by rw [hW]; simp
  have HU := Fk.hide hu
  have HV := Fk.hide hv
  obtain ⟨a0, cap0, rfl⟩ := hu.slice
  obtain ⟨a1, cap1, rfl⟩ := hv.slice
  have HW := Fk.hide hW
  clear hW hu hv
  obtain ⟨x, hx⟩ : ∃ x, x = Nb.find B A n id := ⟨_, rfl⟩
  rw [← hx]
  have HX := Fk.hide hx
  clear hx
  go_enter Try.func52, Try.ntmps52
  go_wp2_with fail
  rw [← HW.out]
  refine (l07Open_any _ _ _ B A _ (HU.out.below b0) (HV.out.below b0) l0 l1 m0 m1).mono ?_
  rintro e w1 ⟨⟨p, q, bb, FB, FA, rfl, ⟨T1, hb1, hb2, ⟨cp, cq, _, _⟩, eF, lB, lA⟩⟩, k1⟩
  have B1 : Below w.heap.size w w1 := b0.trans (k1.mono b0.size)
  have bW1 : Below W.heap.size W w1 := k1
  have hz1 : w.heap.size + 2 ≤ w1.heap.size := by rw [← hz]; exact k1.size
  obtain ⟨r, hr⟩ : ∃ r, r = Nb.right B A n := ⟨_, rfl⟩
  rw [← hr] at eF ⊢
  have HR := Fk.hide hr
  have EF := Fk.hide eF
  clear k1 hr eF
  have HT1 := Fk.hide T1
  obtain ⟨p1, p3, rfl⟩ := T1.b.slice
  obtain ⟨q1, q3, rfl⟩ := T1.a.slice
  clear T1
  go_wp2_with fail
  refine (find_spec bb _ _ id FB FA _ hb2 cp cq HT1.out.b.view HT1.out.a.view lB lA).mono ?_
  rintro e w2 ⟨⟨buy, k, rfl, hf⟩, k2⟩
  have B2 : Below w.heap.size w w2 := B1.trans (k2.mono B1.size)
  have bW2 : Below W.heap.size W w2 := bW1.trans (k2.mono bW1.size)
  have hz2 : w.heap.size + 2 ≤ w2.heap.size := Nat.le_trans hz1 k2.size
  have dp := (k2.cell (p := ⟨bb, 0, none⟩) (by show bb < _; omega)).trans cp
  have dq := (k2.cell (p := ⟨bb, 1, none⟩) (by show bb < _; omega)).trans cq
  have HT2 := Fk.hide (HT1.out.below k2)
  have HFD := Fk.hide (Nb.seek_found hf)
  clear hf k2 cp cq HT1
  cases r with
  | false =>
    have hxz : x = Or.S.z := by rw [HX.out]; unfold Nb.find; rw [← HR.out]; rfl
    subst hxz
    have z0 := (bW2.cell (p := ⟨w.heap.size + 1, 0, none⟩) (by show w.heap.size + 1 < _; omega)).trans HZ0.out
    have z1 := (bW2.cell (p := ⟨w.heap.size + 1, 1, none⟩) (by show w.heap.size + 1 < _; omega)).trans HZ1.out
    have z2 := (bW2.cell (p := ⟨w.heap.size + 1, 2, none⟩) (by show w.heap.size + 1 < _; omega)).trans HZ2.out
    have z3 := (bW2.cell (p := ⟨w.heap.size + 1, 3, none⟩) (by show w.heap.size + 1 < _; omega)).trans HZ3.out
    have z4 := (bW2.cell (p := ⟨w.heap.size + 1, 4, none⟩) (by show w.heap.size + 1 < _; omega)).trans HZ4.out
    have z5 := (bW2.cell (p := ⟨w.heap.size + 1, 5, none⟩) (by show w.heap.size + 1 < _; omega)).trans HZ5.out
    have z6 := (bW2.cell (p := ⟨w.heap.size + 1, 6, none⟩) (by show w.heap.size + 1 < _; omega)).trans HZ6.out
    have z7 := (bW2.cell (p := ⟨w.heap.size + 1, 7, none⟩) (by show w.heap.size + 1 < _; omega)).trans HZ7.out
    have zf : ∀ j, w2.frozen? ⟨w.heap.size + 1, j, none⟩ = false := fun j => (bW2.frozen (by show w.heap.size + 1 < _; omega)).trans (HZF.out j)
    go_wp2_with fail
    refine bodyPost_ret (v := .agg #[.int .i64 0, .int .i64 0, .int .i64 0, .int .i64 0, .bool false, .int .i64 0, .int .i64 0, .bool false]) (by simp [results, Try.results52, go_sem, z0, z1, z2, z3, z4, z5, z6, z7] <;> rfl) rfl ⟨rfl, ?_⟩
    repeat (refine Below.setCell ?_ (by simp <;> omega) _)
    exact B2
  | true =>
    have HXS : Hid (x = Nb.seek FB FA id) := by show _ = _; rw [HX.out, (EF.out rfl).1, (EF.out rfl).2]; unfold Nb.find; rw [← HR.out]; rfl
    rcases HFD.out with ⟨rfl, hs⟩ | ⟨j, rfl, hj, hs⟩
    · have hxz : x = Or.S.z := by rw [HXS.out]; exact hs
      clear hs
      subst hxz
      have z0 := (bW2.cell (p := ⟨w.heap.size + 1, 0, none⟩) (by show w.heap.size + 1 < _; omega)).trans HZ0.out
      have z1 := (bW2.cell (p := ⟨w.heap.size + 1, 1, none⟩) (by show w.heap.size + 1 < _; omega)).trans HZ1.out
      have z2 := (bW2.cell (p := ⟨w.heap.size + 1, 2, none⟩) (by show w.heap.size + 1 < _; omega)).trans HZ2.out
      have z3 := (bW2.cell (p := ⟨w.heap.size + 1, 3, none⟩) (by show w.heap.size + 1 < _; omega)).trans HZ3.out
      have z4 := (bW2.cell (p := ⟨w.heap.size + 1, 4, none⟩) (by show w.heap.size + 1 < _; omega)).trans HZ4.out
      have z5 := (bW2.cell (p := ⟨w.heap.size + 1, 5, none⟩) (by show w.heap.size + 1 < _; omega)).trans HZ5.out
      have z6 := (bW2.cell (p := ⟨w.heap.size + 1, 6, none⟩) (by show w.heap.size + 1 < _; omega)).trans HZ6.out
      have z7 := (bW2.cell (p := ⟨w.heap.size + 1, 7, none⟩) (by show w.heap.size + 1 < _; omega)).trans HZ7.out
      have zf : ∀ j, w2.frozen? ⟨w.heap.size + 1, j, none⟩ = false := fun j => (bW2.frozen (by show w.heap.size + 1 < _; omega)).trans (HZF.out j)
      go_wp2_with fail
      refine bodyPost_ret (v := .agg #[.int .i64 0, .int .i64 0, .int .i64 0, .int .i64 0, .bool false, .int .i64 0, .int .i64 0, .bool false]) (by simp [results, Try.results52, go_sem, z0, z1, z2, z3, z4, z5, z6, z7] <;> rfl) rfl ⟨rfl, ?_⟩
      repeat (refine Below.setCell ?_ (by simp <;> omega) _)
      exact B2
    · have HXJ : Hid (x = Ob.at' (Ob.pick buy FB FA) j) := by show _ = _; rw [HXS.out]; exact hs
      obtain ⟨F, hF⟩ : ∃ F, F = Ob.pick buy FB FA := ⟨_, rfl⟩
      have HP1 : Hid (Rk.View Or.S w2 (Ob.pick buy (.slice p1 FB.length p3) (.slice q1 FA.length q3)) F) := by
        show Rk.View _ _ _ _
        rw [hF]; exact Ob.view_pick buy HT2.out.b.view HT2.out.a.view
      rw [← hF] at hj HXJ
      clear hF hs HFD
      obtain ⟨a, cap, ev, hv⟩ := HP1.out
      have y1 : ¬ ((j : Int) < 0) := by omega
      have y2 : decide ((j : Int) < 0) = false := decide_eq_false y1
      have y3 : (j : Int) < (F.length : Int) := by omega
      go_wp2_with fail
      refine (side_any bb _ _ buy _ dp dq ⟨_, _, _, rfl⟩ ⟨_, _, _, rfl⟩).mono ?_
      rw [ev]
      rintro e _ ⟨rfl, hh⟩
      rw [hh]
      clear hh dp dq HP1 ev
      obtain ⟨b, o, rfl, hb, hs1⟩ := hv (by omega)
      have g0 := Or.c0 hs1 hj
      have g1 := Or.c1 hs1 hj
      have g2 := Or.c2 hs1 hj
      have g3 := Or.c3 hs1 hj
      have g4 := Or.c4 hs1 hj
      have g5 := Or.c5 hs1 hj
      have g6 := Or.c6 hs1 hj
      have g7 := Or.c7 hs1 hj
      have hxq : x = Rk.at_ Or.S F j := HXJ.out
      rw [← hxq] at g0 g1 g2 g3 g4 g5 g6 g7
      clear hxq hs1 hv
      have z0 := (bW2.cell (p := ⟨w.heap.size + 1, 0, none⟩) (by show w.heap.size + 1 < _; omega)).trans HZ0.out
      have z1 := (bW2.cell (p := ⟨w.heap.size + 1, 1, none⟩) (by show w.heap.size + 1 < _; omega)).trans HZ1.out
      have z2 := (bW2.cell (p := ⟨w.heap.size + 1, 2, none⟩) (by show w.heap.size + 1 < _; omega)).trans HZ2.out
      have z3 := (bW2.cell (p := ⟨w.heap.size + 1, 3, none⟩) (by show w.heap.size + 1 < _; omega)).trans HZ3.out
      have z4 := (bW2.cell (p := ⟨w.heap.size + 1, 4, none⟩) (by show w.heap.size + 1 < _; omega)).trans HZ4.out
      have z5 := (bW2.cell (p := ⟨w.heap.size + 1, 5, none⟩) (by show w.heap.size + 1 < _; omega)).trans HZ5.out
      have z6 := (bW2.cell (p := ⟨w.heap.size + 1, 6, none⟩) (by show w.heap.size + 1 < _; omega)).trans HZ6.out
      have z7 := (bW2.cell (p := ⟨w.heap.size + 1, 7, none⟩) (by show w.heap.size + 1 < _; omega)).trans HZ7.out
      have zf : ∀ j, w2.frozen? ⟨w.heap.size + 1, j, none⟩ = false := fun j => (bW2.frozen (by show w.heap.size + 1 < _; omega)).trans (HZF.out j)
      go_wp2_with fail
      refine bodyPost_ret (v := .agg #[.int .i64 x.1, .int .i64 x.2.1, .int .i64 x.2.2.1, .int .i64 x.2.2.2.1, .bool x.2.2.2.2.1, .int .i64 x.2.2.2.2.2.1, .int .i64 x.2.2.2.2.2.2.1, .bool x.2.2.2.2.2.2.2]) (by simp [results, Try.results52, go_sem, z0, z1, z2, z3, z4, z5, z6, z7] <;> rfl) rfl ⟨rfl, ?_⟩
      repeat (refine Below.setCell ?_ (by simp <;> omega) _)
      exact B2
end Go.Proofs.Ytjagohadeegghaa

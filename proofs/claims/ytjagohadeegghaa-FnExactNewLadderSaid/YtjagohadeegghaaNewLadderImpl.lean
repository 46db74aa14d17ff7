/- The walk of the program's NewLadder. -/
import Derived.Test.YtjagohadeegghaaNewLadderSpec
namespace Go.Proofs.Ytjagohadeegghaa
open Go.RowKit
set_option linter.unusedVariables false
set_option linter.unusedSimpArgs false
set_option maxRecDepth 100000 in
set_option maxHeartbeats 8000000 in
theorem newLadder_impl (u v : Value) (n : Int) (buy : Bool) (B A : List Lv.E) (w : World) (hu : Lv.View w u B) (hv : Lv.View w v A) (l0 : B.length ≤ 1048576) (l1 : A.length ≤ 1048576) (m0 : (Nb.flat B).length ≤ 1048576) (m1 : (Nb.flat A).length ≤ 1048576) :
    Calls Try.prog 43 #[.agg #[u, v, .int .i64 n], .bool buy] w fun e w' => (∃ x, e = .returned x ∧ Rk.Own Rg.S w' w.heap.size 112 x (Nb.ladder B A n buy)) ∧ Below w.heap.size w w' := by
  obtain ⟨i0, hi, hz0, hz1', hz2⟩ := info_parts infoRung
  obtain ⟨W, hW⟩ : ∃ W, W = w.alloc (.cells #[u, v, .int .i64 n] 28) := ⟨_, rfl⟩
  have b0 : Below w.heap.size w W := by rw [hW]; exact (Below.refl _ _).alloc (Nat.le_refl _) _
  have c0 : W.cell? ⟨w.heap.size, 0, none⟩ = some u := by rw [hW, Fk.cellTop _ _ _ _ _ rfl]; rfl
  have c1 : W.cell? ⟨w.heap.size, 1, none⟩ = some v := by rw [hW, Fk.cellTop _ _ _ _ _ rfl]; rfl
  have c2 : W.cell? ⟨w.heap.size, 2, none⟩ = some (.int .i64 n) := by rw [hW, Fk.cellTop _ _ _ _ _ rfl]; rfl
  have hz : w.heap.size < W.heap.size := by rw [hW]; simp
  have HU := Fk.hide hu
  have HV := Fk.hide hv
  have HPV := Fk.hide (Nb.view_pick buy hu hv)
  obtain ⟨a0, cap0, rfl⟩ := hu.slice
  obtain ⟨a1, cap1, rfl⟩ := hv.slice
  have HW := Fk.hide hW
  clear hW hu hv
  go_enter Try.func43, Try.ntmps43
  go_wp2_with fail
  rw [← HW.out]
  refine (newRight_impl _ _ _ B A _ (HU.out.below b0) (HV.out.below b0) l0 l1 m0 m1).mono ?_
  rintro e w1 ⟨rfl, k1⟩
  have HB1 : Hid (Below w.heap.size w w1) := b0.trans (k1.mono b0.size)
  have d0 := (k1.cell (p := ⟨w.heap.size, 0, none⟩) (by show w.heap.size < _; omega)).trans c0
  have d1 := (k1.cell (p := ⟨w.heap.size, 1, none⟩) (by show w.heap.size < _; omega)).trans c1
  have d2 := (k1.cell (p := ⟨w.heap.size, 2, none⟩) (by show w.heap.size < _; omega)).trans c2
  obtain ⟨r, hr⟩ : ∃ r, r = Nb.right B A n := ⟨_, rfl⟩
  rw [← hr]
  have HR := Fk.hide hr
  clear k1 hr b0 c0 c1 c2
  cases r with
  | false =>
    have HA : Hid (Nb.ladder B A n buy = []) := by show _ = _; unfold Nb.ladder; rw [← HR.out]; rfl
    go_wp2_with fail
    go_ret
    exact ⟨⟨_, rfl, by rw [HA.out]; exact Rk.own_nil _ _ _⟩, HB1.out⟩
  | true =>
  obtain ⟨L, hL⟩ : ∃ L, L = Ob.pick buy B A := ⟨_, rfl⟩
  rw [← hL] at HPV
  have hlL : L.length ≤ 1048576 := by rw [hL]; cases buy <;> assumption
  have hmL : (Nb.flat L).length ≤ 1048576 := by rw [hL]; cases buy <;> assumption
  have HA : Hid (Nb.ladder B A n buy = (L.take L.length).map Nb.rung) := by show _ = _; rw [List.take_length, hL]; unfold Nb.ladder; rw [← HR.out]; rfl
  have HAM : Hid (∀ i, i < L.length → ∀ o ∈ (Lv.at' L i).2, 1 ≤ o.2.2.2.1 ∧ o.2.2.2.1 ≤ 1000) := fun i hi o ho => by
    have := (Nb.right_side HR.out.symm buy).2
    rw [← hL] at this
    exact this o ((Nb.mem_flat L o).2 ⟨i, hi, ho⟩)
  have hl24 : (Nb.flat L).length ≤ 24 := by rw [hL]; exact (Nb.right_side HR.out.symm buy).1
  have hLl : L.length ≤ 24 := by
    have h1 := Nb.ladder_length B A n buy
    have h2 := HA.out
    rw [h2, List.length_map, List.take_length] at h1
    exact h1
  clear hL
  obtain ⟨a, cap, ev⟩ := HPV.out.slice
  rw [ev] at HPV
  go_wp2_with fail
  refine (levelsOf_any _ _ _ _ _).mono ?_
  rw [ev]
  rintro e w2 ⟨rfl, k2⟩
  have HB2 : Hid (Below w.heap.size w w2) := HB1.out.trans (k2.mono HB1.out.size)
  clear k2 d0 d1 d2 ev
  go_wp2_with fail
  go_loopw [5, 18] (fun out i wr => ∃ (k : Nat) (ua : Option Addr) (un uc : Nat), k ≤ L.length ∧ out = .slice ua un uc ∧ i = .int .i64 k ∧ Hid (Rk.Own Rg.S wr w.heap.size 112 (.slice ua un uc) ((L.take k).map Nb.rung)) ∧ Below w.heap.size w wr) (fun _ i _ => L.length - (intOf i).toNat)
  case atStart => exact ⟨0, _, _, _, Nat.zero_le _, rfl, rfl, (by show Rk.Own _ _ _ _ _ _; simp only [List.take_zero, List.map_nil]; exact Rk.own_nil _ _ _), HB2.out⟩
  case round =>
    obtain ⟨k, ua, un, uc, hk, rfl, rfl, HO, bel⟩ := hrel
    obtain ⟨wo, hwo⟩ : ∃ x, x = wr := ⟨_, rfl⟩
    subst hwo
    by_cases hlt : k < L.length
    · obtain ⟨b, o, q, m, c, rfl, hb, pw0, pw1, hmm, hvi, _⟩ := HPV.out.at hlt
      have p0 := (bel.cell (p := ⟨b, o + k * 2, none⟩) (by exact hb)).trans pw0
      have p1 := (bel.cell (p := ⟨b, o + k * 2 + 1, none⟩) (by exact hb)).trans pw1
      clear pw0 pw1
      have hE24 : (Lv.at' L k).2.length ≤ 24 := Nat.le_trans (Nb.each_le L k hlt) hl24
      obtain ⟨e, he⟩ : ∃ e, e = Lv.at' L k := ⟨_, rfl⟩
      rw [← he] at p0 hmm hvi hE24
      have HST : Hid ((L.take (k + 1)).map Nb.rung = (L.take k).map Nb.rung ++ [(e.1, Nb.total e.2, (e.2.length : Int))]) := by rw [he, Nb.take_at L k hlt, List.map_append]; rfl
      have HAE : Hid (∀ o ∈ e.2, 1 ≤ o.2.2.2.1 ∧ o.2.2.2.1 ≤ 1000) := by rw [he]; exact HAM.out k hlt
      clear he
      obtain ⟨E2, hE2⟩ : ∃ E2, E2 = e.2 := ⟨_, rfl⟩
      rw [← hE2] at hmm hvi HST HAE hE24
      clear hE2
      subst hmm
      obtain ⟨Q, hQ⟩ : ∃ Q, Q = (L.take k).map Nb.rung := ⟨_, rfl⟩
      have hQl : Q.length ≤ 24 := by rw [hQ, List.length_map, List.length_take]; omega
      rw [← hQ] at HO HST
      clear hQ
      have bX : Below wo.heap.size wo ((wo.alloc (.cells #[.int .i64 e.1, .slice q E2.length c] 103)).alloc (.cells #[.int .i64 e.1, .int .i64 0, .int .i64 (E2.length : Int)] 112)) := ((Below.refl _ _).alloc (Nat.le_refl _) _).alloc (by simp) _
      have HBX : Hid (Below w.heap.size w ((wo.alloc (.cells #[.int .i64 e.1, .slice q E2.length c] 103)).alloc (.cells #[.int .i64 e.1, .int .i64 0, .int .i64 (E2.length : Int)] 112))) := bel.trans (bX.mono bel.size)
      have HOX := Fk.hide (HO.out.below bX)
      have HVX := Fk.hide hvi
      have HLT : Hid (∀ j, (Value.slice ua un uc).ownBlock = some j → w.heap.size ≤ j ∧ j < wo.heap.size) := fun j hj => HO.out.lt j hj
      have hww : w.heap.size ≤ wo.heap.size := bel.size
      have HR0 : Hid (((wo.alloc (.cells #[.int .i64 e.1, .slice q E2.length c] 103)).alloc (.cells #[.int .i64 e.1, .int .i64 0, .int .i64 (E2.length : Int)] 112)).cell? ⟨wo.heap.size + 1, 0, none⟩ = some (.int .i64 e.1)) := by show _ = _; rw [Fk.cellTop _ _ _ _ _ (by simp)]; rfl
      have HR1 : Hid (((wo.alloc (.cells #[.int .i64 e.1, .slice q E2.length c] 103)).alloc (.cells #[.int .i64 e.1, .int .i64 0, .int .i64 (E2.length : Int)] 112)).cell? ⟨wo.heap.size + 1, 1, none⟩ = some (.int .i64 0)) := by show _ = _; rw [Fk.cellTop _ _ _ _ _ (by simp)]; rfl
      have HR2 : Hid (((wo.alloc (.cells #[.int .i64 e.1, .slice q E2.length c] 103)).alloc (.cells #[.int .i64 e.1, .int .i64 0, .int .i64 (E2.length : Int)] 112)).cell? ⟨wo.heap.size + 1, 2, none⟩ = some (.int .i64 (E2.length : Int))) := by show _ = _; rw [Fk.cellTop _ _ _ _ _ (by simp)]; rfl
      have HRF : Hid (∀ j, ((wo.alloc (.cells #[.int .i64 e.1, .slice q E2.length c] 103)).alloc (.cells #[.int .i64 e.1, .int .i64 0, .int .i64 (E2.length : Int)] 112)).frozen? ⟨wo.heap.size + 1, j, none⟩ = false) := fun j => by rw [Fk.frozTop _ _ _ _ _ (by simp)]
      have HXZ : Hid (((wo.alloc (.cells #[.int .i64 e.1, .slice q E2.length c] 103)).alloc (.cells #[.int .i64 e.1, .int .i64 0, .int .i64 (E2.length : Int)] 112)).heap.size = wo.heap.size + 2) := by show _ = _; simp
      clear bX hvi HO
      go_wp2_with fail
      go_loopw [31] (fun i wr => ∃ (m : Nat) (ts : Int), m ≤ E2.length ∧ i = .int .i64 m ∧ 0 ≤ ts ∧ ts ≤ 24000 ∧ wo.heap.size + 2 ≤ wr.heap.size ∧ Hid (ts = Nb.total (E2.take m)) ∧ Hid (wr.cell? ⟨wo.heap.size + 1, 0, none⟩ = some (.int .i64 e.1)) ∧ Hid (wr.cell? ⟨wo.heap.size + 1, 1, none⟩ = some (.int .i64 ts)) ∧ Hid (wr.cell? ⟨wo.heap.size + 1, 2, none⟩ = some (.int .i64 (E2.length : Int))) ∧ Hid (∀ j, wr.frozen? ⟨wo.heap.size + 1, j, none⟩ = false) ∧ Hid (Rk.Own Rg.S wr w.heap.size 112 (.slice ua un uc) Q) ∧ Hid (Below w.heap.size w wr)) (fun i _ => E2.length - (intOf i).toNat)
      case atStart => exact ⟨0, 0, Nat.zero_le _, rfl, by omega, by omega, Nat.le_of_eq HXZ.out.symm, (by show _ = _; simp [Nb.total]), HR0, HR1, HR2, HRF, HOX, HBX⟩
      case round =>
        obtain ⟨m, ts, hm, rfl, ht0, ht1, hzr, HT, HC0, HC1, HC2, HCF, HN, HBW⟩ := hrel
        clear HOX HBX HR0 HR1 HR2 HRF HXZ
        by_cases hmt : m < E2.length
        · obtain ⟨a2, cap2, ea, hs⟩ := HVX.out.below HBW.out
          simp only [Value.slice.injEq] at ea
          obtain ⟨b2, o2, e2, hb2, hs'⟩ := hs (by omega)
          obtain rfl : q = some ⟨b2, o2, none⟩ := by rw [ea.1, e2]
          clear ea e2 hs
          have q0 := Or.c0 hs' hmt
          have q1 := Or.c1 hs' hmt
          have q2 := Or.c2 hs' hmt
          have q3 := Or.c3 hs' hmt
          have q4 := Or.c4 hs' hmt
          have q5 := Or.c5 hs' hmt
          have q6 := Or.c6 hs' hmt
          have q7 := Or.c7 hs' hmt
          obtain ⟨f, hf⟩ : ∃ f, f = Rk.at_ Or.S E2 m := ⟨_, rfl⟩
          rw [← hf] at q0 q1 q2 q3 q4 q5 q6 q7
          have hfa : 1 ≤ f.2.2.2.1 ∧ f.2.2.2.1 ≤ 1000 := by rw [hf]; exact HAE.out _ (Rk.at_mem E2 m hmt)
          have HT2 : Hid (ts + f.2.2.2.1 = Nb.total (E2.take (m + 1))) := by show _ = _; rw [Nb.total_step E2 m hmt, HT.out, hf]
          have hts : ts + f.2.2.2.1 ≤ 24000 := by
            have h1 := (Nb.total_bound (E2.take (m + 1)) (fun o ho => HAE.out o (List.mem_of_mem_take ho))).2
            rw [← HT2.out, List.length_take] at h1
            omega
          clear hf hs'
          have bY : Below wr.heap.size wr (wr.alloc (.cells #[.int .i64 f.1, .int .i64 f.2.1, .int .i64 f.2.2.1, .int .i64 f.2.2.2.1, .bool f.2.2.2.2.1, .int .i64 f.2.2.2.2.2.1, .int .i64 f.2.2.2.2.2.2.1, .bool f.2.2.2.2.2.2.2] 55)) := (Below.refl _ _).alloc (Nat.le_refl _) _
          have y0 : (wr.alloc (.cells #[.int .i64 f.1, .int .i64 f.2.1, .int .i64 f.2.2.1, .int .i64 f.2.2.2.1, .bool f.2.2.2.2.1, .int .i64 f.2.2.2.2.2.1, .int .i64 f.2.2.2.2.2.2.1, .bool f.2.2.2.2.2.2.2] 55)).cell? ⟨wo.heap.size + 1, 0, none⟩ = some (.int .i64 e.1) := by rw [Fk.cellOld _ _ _ _ (by omega)]; exact HC0.out
          have y1 : (wr.alloc (.cells #[.int .i64 f.1, .int .i64 f.2.1, .int .i64 f.2.2.1, .int .i64 f.2.2.2.1, .bool f.2.2.2.2.1, .int .i64 f.2.2.2.2.2.1, .int .i64 f.2.2.2.2.2.2.1, .bool f.2.2.2.2.2.2.2] 55)).cell? ⟨wo.heap.size + 1, 1, none⟩ = some (.int .i64 ts) := by rw [Fk.cellOld _ _ _ _ (by omega)]; exact HC1.out
          have y2 : (wr.alloc (.cells #[.int .i64 f.1, .int .i64 f.2.1, .int .i64 f.2.2.1, .int .i64 f.2.2.2.1, .bool f.2.2.2.2.1, .int .i64 f.2.2.2.2.2.1, .int .i64 f.2.2.2.2.2.2.1, .bool f.2.2.2.2.2.2.2] 55)).cell? ⟨wo.heap.size + 1, 2, none⟩ = some (.int .i64 (E2.length : Int)) := by rw [Fk.cellOld _ _ _ _ (by omega)]; exact HC2.out
          have yf : ∀ j, (wr.alloc (.cells #[.int .i64 f.1, .int .i64 f.2.1, .int .i64 f.2.2.1, .int .i64 f.2.2.2.1, .bool f.2.2.2.2.1, .int .i64 f.2.2.2.2.2.1, .int .i64 f.2.2.2.2.2.2.1, .bool f.2.2.2.2.2.2.2] 55)).frozen? ⟨wo.heap.size + 1, j, none⟩ = false := fun j => by rw [Fk.frozOld _ _ _ _ (by omega)]; exact HCF.out j
          have HNY := Fk.hide (HN.out.below bY)
          have HBY : Hid (Below w.heap.size w (wr.alloc (.cells #[.int .i64 f.1, .int .i64 f.2.1, .int .i64 f.2.2.1, .int .i64 f.2.2.2.1, .bool f.2.2.2.2.1, .int .i64 f.2.2.2.2.2.1, .int .i64 f.2.2.2.2.2.2.1, .bool f.2.2.2.2.2.2.2] 55))) := HBW.out.trans (bY.mono HBW.out.size)
          have Y0 := Fk.hide y0
          have Y1 := Fk.hide y1
          have Y2 := Fk.hide y2
          have YF := Fk.hide yf
          have YZ : Hid (wo.heap.size + 2 ≤ (wr.alloc (.cells #[.int .i64 f.1, .int .i64 f.2.1, .int .i64 f.2.2.1, .int .i64 f.2.2.2.1, .bool f.2.2.2.2.1, .int .i64 f.2.2.2.2.2.1, .int .i64 f.2.2.2.2.2.2.1, .bool f.2.2.2.2.2.2.2] 55)).heap.size) := by show _ ≤ _; simp; omega
          clear bY
          go_wp2_with fail
          refine ⟨⟨m + 1, ts + f.2.2.2.1, by omega, by go_num, by omega, hts, ?_, HT2, ?_, ?_, ?_, ?_, ?_, ?_⟩, by simp [intOf]; omega⟩
          · have := YZ.out
            simpa [World.setCell] using this
          · exact (World.cell?_setCell_other _ _ _ _ (by intro h; simp only [Addr.mk.injEq] at h; omega)).trans Y0.out
          · exact World.cell?_setCell_same _ _ _ Y1.out
          · exact (World.cell?_setCell_other _ _ _ _ (by intro h; simp only [Addr.mk.injEq] at h; omega)).trans Y2.out
          · intro j
            have := YF.out j
            simpa using this
          · exact HNY.out.kept (Fk.grownBy_setCell _ (wo.heap.size + 1) 1 _) (fun j hj e => by have := HLT.out j hj; cases e; omega)
          · exact HBY.out.setCell (by show w.heap.size ≤ wo.heap.size + 1; omega) _
        · have em : m = E2.length := by omega
          subst em
          rw [List.take_length] at HT
          have c0' := HC0.out
          have c1' := HC1.out
          have c2' := HC2.out
          have bY : Below wr.heap.size wr (wr.alloc (.cells #[.int .i64 e.1, .int .i64 ts, .int .i64 (E2.length : Int)] 112)) := (Below.refl _ _).alloc (Nat.le_refl _) _
          have HBY : Hid (Below w.heap.size w (wr.alloc (.cells #[.int .i64 e.1, .int .i64 ts, .int .i64 (E2.length : Int)] 112))) := HBW.out.trans (bY.mono HBW.out.size)
          have HOY := Fk.hide (HN.out.below bY)
          have HVY := Fk.hide (Rk.view_lit1 (S := Rg.S) wr 112 #[.int .i64 e.1, .int .i64 ts, .int .i64 (E2.length : Int)] (e.1, ts, (E2.length : Int)) rfl)
          clear bY
          go_wp2_with (at_builtin; refine Rk.wpList_append_view _ rfl _ _ 59 rfl w.heap.size 112 i0 _ 3 24 rfl Try.underlying59 hi hz0 hz1' hz2 rfl (by decide) _ (.slice (some ⟨wr.heap.size, 0, none⟩) 1 1) Q [(e.1, ts, (E2.length : Int))] rfl rfl HOY.out HVY.out (Rk.shut_some _ _ _) (by simp; omega) HBY.out.size ?_; intro u6 w6 o6 g6; have HB6 : Hid (Below w.heap.size w w6) := HBY.out.grown g6 HBY.out.size (fun j hj => (HLT.out j hj).1); obtain ⟨x6, n6, c6, rfl⟩ := o6.slice'; have HO6 : Hid (Rk.Own Rg.S w6 w.heap.size 112 (.slice x6 n6 c6) ((L.take (k + 1)).map Nb.rung)) := (by show Rk.Own _ _ _ _ _ _; rw [HST.out, ← HT.out]; exact o6); clear o6 g6)
          go_roundw
          case rel => exact ⟨k + 1, _, _, _, by omega, rfl, by go_num, HO6, HB6.out⟩
          case measure => simp [intOf]; omega
    · have e : k = L.length := by omega
      subst e
      go_wp2_with fail
      go_ret
      exact ⟨⟨_, rfl, by rw [HA.out]; exact HO.out⟩, bel⟩
end Go.Proofs.Ytjagohadeegghaa

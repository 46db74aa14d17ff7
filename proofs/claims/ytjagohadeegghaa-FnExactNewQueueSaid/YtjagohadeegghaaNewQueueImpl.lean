/- The walk of the program's NewQueue. -/
import Derived.Test.YtjagohadeegghaaNewQueueSpec
namespace Go.Proofs.Ytjagohadeegghaa
open Go.RowKit
set_option linter.unusedVariables false
set_option linter.unusedSimpArgs false
namespace Nb
/-- the ids of the first levels that have the price -/
def lids (L : List Lv.E) (p : Int) (k : Nat) : List Int := (L.take k).flatMap fun e => if e.1 = p then e.2.map (·.1) else []
theorem lids_none (L : List Lv.E) (p : Int) : lids L p 0 = [] := rfl
theorem lids_step (L : List Lv.E) (p : Int) (k : Nat) (h : k < L.length) : lids L p (k + 1) = lids L p k ++ (if (Lv.at' L k).1 = p then (Lv.at' L k).2.map (·.1) else []) := by
  unfold lids
  rw [take_at L k h, List.flatMap_append]
  simp
theorem lids_length (L : List Lv.E) (p : Int) (k : Nat) : (lids L p k).length ≤ (flat (L.take k)).length := by
  unfold lids flat
  induction L.take k with
  | nil => simp
  | cons e r ih =>
    rw [List.flatMap_cons, List.flatMap_cons, List.length_append, List.length_append]
    have : (if e.1 = p then e.2.map (·.1) else []).length ≤ e.2.length := by split <;> simp
    omega
theorem lids_all {L : List Lv.E} (h : lvls L = true) (p : Int) : lids L p L.length = ids (flat L) p (flat L).length := by
  have hp : ∀ e ∈ L, ∀ o ∈ e.2, o.2.2.1 = e.1 := by
    intro e he o ho
    obtain ⟨i, hi, rfl⟩ := List.getElem_of_mem he
    have := Ob.upTo_inv h i hi
    simp only [lvl, prices, Bool.and_eq_true] at this
    have h2 := (upTo_all (Lv.at' L i).2 (fun o => decide (o.2.2.1 = (Lv.at' L i).1))).1 this.2
    rw [Lv.at_get L i hi] at h2
    exact of_decide_eq_true (h2 o ho)
  unfold lids ids flat
  rw [List.take_length, List.take_length, List.filter_flatMap, List.map_flatMap]
  clear h
  induction L with
  | nil => rfl
  | cons e r ih =>
    rw [List.flatMap_cons, List.flatMap_cons, ih (fun x hx => hp x (List.mem_cons_of_mem _ hx))]
    congr 1
    have hpe := hp e List.mem_cons_self
    by_cases c : e.1 = p
    · rw [if_pos c, List.filter_eq_self.2 (fun o ho => by rw [hpe o ho, c]; simp)]
    · rw [if_neg c, List.filter_eq_nil_iff.2 (fun o ho => by rw [hpe o ho]; simpa using c)]
      rfl
end Nb
set_option maxRecDepth 100000 in
set_option maxHeartbeats 8000000 in
theorem newQueue_impl (u v : Value) (n : Int) (buy : Bool) (pr : Int) (B A : List Lv.E) (w : World) (hu : Lv.View w u B) (hv : Lv.View w v A) (l0 : B.length ≤ 1048576) (l1 : A.length ≤ 1048576) (m0 : (Nb.flat B).length ≤ 1048576) (m1 : (Nb.flat A).length ≤ 1048576) :
    Calls Try.prog 48 #[.agg #[u, v, .int .i64 n], .bool buy, .int .i64 pr] w fun e w' => (∃ x, e = .returned x ∧ Rk.Own Iq.S w' w.heap.size 2 x (Nb.queue B A n buy pr)) ∧ Below w.heap.size w w' := by
  obtain ⟨i0, hi, hz0, hz1, hz2⟩ := info_parts infoI64
  obtain ⟨W, hW⟩ : ∃ W, W = w.alloc (.cells #[u, v, .int .i64 n] 28) := ⟨_, rfl⟩
  have b0 : Below w.heap.size w W := by rw [hW]; exact (Below.refl _ _).alloc (Nat.le_refl _) _
  have c0 : W.cell? ⟨w.heap.size, 0, none⟩ = some u := by rw [hW, Fk.cellTop _ _ _ _ _ rfl]; rfl
  have c1 : W.cell? ⟨w.heap.size, 1, none⟩ = some v := by rw [hW, Fk.cellTop _ _ _ _ _ rfl]; rfl
  have c2 : W.cell? ⟨w.heap.size, 2, none⟩ = some (.int .i64 n) := by rw [hW, Fk.cellTop _ _ _ _ _ rfl]; rfl
  have hz : w.heap.size < W.heap.size := by rw [hW]; simp
  have HU := Fk.hide hu
  have HV := Fk.hide hv
  have HPV := Fk.hide (Nb.view_pick buy hu hv)
  obtain ⟨a0, cap0, rfl⟩ := hu.slice
  obtain ⟨a1, cap1, rfl⟩ := hv.slice
  have HW := Fk.hide hW
  clear hW hu hv
  go_enter Try.func48, Try.ntmps48
  go_wp2_with fail
  rw [← HW.out]
  refine (newRight_impl _ _ _ B A _ (HU.out.below b0) (HV.out.below b0) l0 l1 m0 m1).mono ?_
  rintro e w1 ⟨rfl, k1⟩
  have HB1 : Hid (Below w.heap.size w w1) := b0.trans (k1.mono b0.size)
  have d0 := (k1.cell (p := ⟨w.heap.size, 0, none⟩) (by show w.heap.size < _; omega)).trans c0
  have d1 := (k1.cell (p := ⟨w.heap.size, 1, none⟩) (by show w.heap.size < _; omega)).trans c1
  have d2 := (k1.cell (p := ⟨w.heap.size, 2, none⟩) (by show w.heap.size < _; omega)).trans c2
  obtain ⟨r, hr⟩ : ∃ r, r = Nb.right B A n := ⟨_, rfl⟩
  rw [← hr]
  have HR := Fk.hide hr
  clear k1 hr b0 c0 c1 c2
  cases r with
  | false =>
    have HA : Hid (Nb.queue B A n buy pr = []) := by show _ = _; unfold Nb.queue; rw [← HR.out]; rfl
    go_wp2_with fail
    go_ret
    exact ⟨⟨_, rfl, by rw [HA.out]; exact Rk.own_nil _ _ _⟩, HB1.out⟩
  | true =>
  obtain ⟨L, hL⟩ : ∃ L, L = Ob.pick buy B A := ⟨_, rfl⟩
  rw [← hL] at HPV
  have hlL : L.length ≤ 1048576 := by rw [hL]; cases buy <;> assumption
  have hmL : (Nb.flat L).length ≤ 1048576 := by rw [hL]; cases buy <;> assumption
  have HA : Hid (Nb.queue B A n buy pr = Nb.lids L pr L.length) := by
    show _ = _
    rw [hL, Nb.lids_all (Nb.right_pick HR.out.symm buy)]; unfold Nb.queue; rw [← HR.out]; rfl
  clear hL
  obtain ⟨a, cap, ev⟩ := HPV.out.slice
  rw [ev] at HPV
  go_wp2_with fail
  refine (levelsOf_any _ _ _ _ _).mono ?_
  rw [ev]
  rintro e w2 ⟨rfl, k2⟩
  have HB2 : Hid (Below w.heap.size w w2) := HB1.out.trans (k2.mono HB1.out.size)
  clear k2 d0 d1 d2 ev
  go_wp2_with fail
  go_loopw [7, 19] (fun out i wr => ∃ (k : Nat) (ua : Option Addr) (un uc : Nat), k ≤ L.length ∧ out = .slice ua un uc ∧ i = .int .i64 k ∧ Hid (Rk.Own Iq.S wr w.heap.size 2 (.slice ua un uc) (Nb.lids L pr k)) ∧ Below w.heap.size w wr) (fun _ i _ => L.length - (intOf i).toNat)
  case atStart => exact ⟨0, _, _, _, Nat.zero_le _, rfl, rfl, (by rw [Nb.lids_none]; exact Rk.own_nil _ _ _), HB2.out⟩
  case round =>
    obtain ⟨k, ua, un, uc, hk, rfl, rfl, HO, bel⟩ := hrel
    obtain ⟨wo, hwo⟩ : ∃ x, x = wr := ⟨_, rfl⟩
    subst hwo
    by_cases hlt : k < L.length
    · obtain ⟨b, o, q, m, c, rfl, hb, pw0, pw1, hmm, hvi, _⟩ := HPV.out.at hlt
      have p0 := (bel.cell (p := ⟨b, o + k * 2, none⟩) (by exact hb)).trans pw0
      have p1 := (bel.cell (p := ⟨b, o + k * 2 + 1, none⟩) (by exact hb)).trans pw1
      clear pw0 pw1
      obtain ⟨e, he⟩ : ∃ e, e = Lv.at' L k := ⟨_, rfl⟩
      rw [← he] at p0 hmm hvi
      have HST : Hid (Nb.lids L pr (k + 1) = Nb.lids L pr k ++ (if e.1 = pr then e.2.map (·.1) else [])) := by rw [he]; exact Nb.lids_step L pr k hlt
      have hle : (Nb.lids L pr k).length + e.2.length ≤ 1048576 := by
        have h1 := Nb.lids_length L pr k
        have h2 := Nb.part_le L k hlt
        rw [← he] at h2
        omega
      clear he
      obtain ⟨E2, hE2⟩ : ∃ E2, E2 = e.2 := ⟨_, rfl⟩
      rw [← hE2] at hmm hvi hle HST
      clear hE2
      subst hmm
      obtain ⟨Q, hQ⟩ : ∃ Q, Q = Nb.lids L pr k := ⟨_, rfl⟩
      rw [← hQ] at HO HST hle
      clear hQ
      have bX : Below wo.heap.size wo (wo.alloc (.cells #[.int .i64 e.1, .slice q E2.length c] 103)) := (Below.refl _ _).alloc (Nat.le_refl _) _
      have HBX : Hid (Below w.heap.size w (wo.alloc (.cells #[.int .i64 e.1, .slice q E2.length c] 103))) := bel.trans (bX.mono bel.size)
      have HOX := Fk.hide (HO.out.below bX)
      have HVX := Fk.hide hvi
      clear bX hvi HO
      by_cases cp : e.1 = pr
      · have g1 : (e.1 != pr) = false := by simpa using cp
        have g2 : (e.1 == pr) = true := by simpa using cp
        have g3 : decide (e.1 = pr) = true := decide_eq_true cp
        have HEN : Hid (Nb.lids L pr (k + 1) = Q ++ E2.map (·.1)) := by show _ = _; rw [HST.out, if_pos cp]
        clear cp HST
        go_wp2_with fail
        go_loopw [7, 30] (fun out i wr => ∃ (m : Nat) (va : Option Addr) (vn vc : Nat), m ≤ E2.length ∧ out = .slice va vn vc ∧ i = .int .i64 m ∧ Hid (Rk.Own Iq.S wr w.heap.size 2 (.slice va vn vc) (Q ++ (E2.take m).map (·.1))) ∧ Hid (Below w.heap.size w wr)) (fun _ i _ => E2.length - (intOf i).toNat)
        case atStart => exact ⟨0, _, _, _, Nat.zero_le _, rfl, rfl, (by show Rk.Own _ _ _ _ _ _; simpa using HOX.out), HBX⟩
        case round =>
          obtain ⟨m, va, vn, vc, hm, rfl, rfl, HN, HBW⟩ := hrel
          clear HOX HBX
          by_cases hmt : m < E2.length
          · obtain ⟨a2, cap2, ea, hs⟩ := HVX.out.below HBW.out
            simp only [Value.slice.injEq] at ea
            obtain ⟨b2, o2, e2, hb2, hs'⟩ := hs (by omega)
            obtain rfl : q = some ⟨b2, o2, none⟩ := by rw [ea.1, e2]
            clear ea e2 hs
            have q0 := Or.c0 hs' hmt
            have q1 := Or.c1 hs' hmt
            have q2 := Or.c2 hs' hmt
            have q3 := Or.c3 hs' hmt
            have q4 := Or.c4 hs' hmt
            have q5 := Or.c5 hs' hmt
            have q6 := Or.c6 hs' hmt
            have q7 := Or.c7 hs' hmt
            obtain ⟨f, hf⟩ : ∃ f, f = Rk.at_ Or.S E2 m := ⟨_, rfl⟩
            rw [← hf] at q0 q1 q2 q3 q4 q5 q6 q7
            have HTK : Hid ((Q ++ (E2.take m).map (·.1)) ++ [f.1] = Q ++ (E2.take (m + 1)).map (·.1)) := by
              show _ = _
              rw [Rk.take_at (S := Or.S) E2 m hmt, List.map_append, ← List.append_assoc, ← hf]; rfl
            have hql : (Q ++ (E2.take m).map (·.1)).length ≤ 1048576 := by simp; omega
            obtain ⟨R, hR⟩ : ∃ R, R = Q ++ (E2.take m).map (·.1) := ⟨_, rfl⟩
            rw [← hR] at HN HTK hql
            clear hR hf hs'
            have bY : Below wr.heap.size wr ((wr.alloc (.cells #[.int .i64 f.1, .int .i64 f.2.1, .int .i64 f.2.2.1, .int .i64 f.2.2.2.1, .bool f.2.2.2.2.1, .int .i64 f.2.2.2.2.2.1, .int .i64 f.2.2.2.2.2.2.1, .bool f.2.2.2.2.2.2.2] 55)).alloc (.cells #[.int .i64 f.1] 2)) := ((Below.refl _ _).alloc (Nat.le_refl _) _).alloc (by simp) _
            have HBY : Hid (Below w.heap.size w ((wr.alloc (.cells #[.int .i64 f.1, .int .i64 f.2.1, .int .i64 f.2.2.1, .int .i64 f.2.2.2.1, .bool f.2.2.2.2.1, .int .i64 f.2.2.2.2.2.1, .int .i64 f.2.2.2.2.2.2.1, .bool f.2.2.2.2.2.2.2] 55)).alloc (.cells #[.int .i64 f.1] 2))) := HBW.out.trans (bY.mono HBW.out.size)
            have HOY := Fk.hide (HN.out.below bY)
            have HVY : Hid (Rk.View Iq.S ((wr.alloc (.cells #[.int .i64 f.1, .int .i64 f.2.1, .int .i64 f.2.2.1, .int .i64 f.2.2.2.1, .bool f.2.2.2.2.1, .int .i64 f.2.2.2.2.2.1, .int .i64 f.2.2.2.2.2.2.1, .bool f.2.2.2.2.2.2.2] 55)).alloc (.cells #[.int .i64 f.1] 2)) (.slice (some ⟨wr.heap.size + 1, 0, none⟩) 1 1) [f.1]) := by
              have := Rk.view_lit1 (S := Iq.S) (wr.alloc (.cells #[.int .i64 f.1, .int .i64 f.2.1, .int .i64 f.2.2.1, .int .i64 f.2.2.2.1, .bool f.2.2.2.2.1, .int .i64 f.2.2.2.2.2.1, .int .i64 f.2.2.2.2.2.2.1, .bool f.2.2.2.2.2.2.2] 55)) 2 #[.int .i64 f.1] f.1 rfl
              show Rk.View _ _ _ _
              simpa using this
            have HHB : Hid (w.heap.size ≤ wr.heap.size) := HBW.out.size
            have HLT : Hid (∀ j, (Value.slice va vn vc).ownBlock = some j → w.heap.size ≤ j ∧ j < wr.heap.size) := fun j hj => HN.out.lt j hj
            clear bY HN
            go_wp2_with (at_builtin; refine Rk.wpList_append_view _ rfl _ _ 63 rfl w.heap.size 2 i0 _ 1 8 rfl Try.underlying63 hi hz0 hz1 hz2 rfl (by decide) _ (.slice (some ⟨wr.heap.size + 1, 0, none⟩) 1 1) R [f.1] rfl rfl HOY.out HVY.out (Rk.shut_some _ _ _) (by simp; omega) HBY.out.size ?_; intro u6 w6 o6 g6; have HB6 : Hid (Below w.heap.size w w6) := HBY.out.grown g6 HBY.out.size (fun j hj => (HLT.out j hj).1); obtain ⟨x6, n6, c6, rfl⟩ := o6.slice'; have HO6 : Hid (Rk.Own Iq.S w6 w.heap.size 2 (.slice x6 n6 c6) (Q ++ (E2.take (m + 1)).map (·.1))) := (by show Rk.Own _ _ _ _ _ _; rw [← HTK.out]; exact o6); have HG6 := Fk.hide g6; clear o6 g6)
            exact ⟨⟨m + 1, _, _, _, by omega, rfl, by go_num, HO6, HB6⟩, by simp [intOf]; omega⟩
          · have em : m = E2.length := by omega
            subst em
            have HF : Hid (Rk.Own Iq.S wr w.heap.size 2 (.slice va vn vc) (Nb.lids L pr (k + 1))) := by show Rk.Own _ _ _ _ _ _; rw [HEN.out]; have := HN.out; rw [List.take_length] at this; exact this
            go_wp2_with fail
            go_roundw
            case rel => exact ⟨k + 1, _, _, _, by omega, rfl, by go_num, HF, HBW.out⟩
            case measure => simp [intOf]; omega
      · have g1 : (e.1 != pr) = true := by simpa using cp
        have g2 : (e.1 == pr) = false := by simpa using cp
        have g3 : decide (e.1 = pr) = false := decide_eq_false cp
        have HF : Hid (Rk.Own Iq.S (wo.alloc (.cells #[.int .i64 e.1, .slice q E2.length c] 103)) w.heap.size 2 (.slice ua un uc) (Nb.lids L pr (k + 1))) := by show Rk.Own _ _ _ _ _ _; rw [HST.out, if_neg cp, List.append_nil]; exact HOX.out
        go_wp2_with fail
        go_roundw
        case rel => exact ⟨k + 1, _, _, _, by omega, rfl, by go_num, HF, HBX.out⟩
        case measure => simp [intOf]; omega
    · have e : k = L.length := by omega
      subst e
      go_wp2_with fail
      go_ret
      exact ⟨⟨_, rfl, by rw [HA.out]; exact HO.out⟩, bel⟩
end Go.Proofs.Ytjagohadeegghaa

/- The mathematics of a queue of ids, and the walk of the specification's NewQueue. -/
import Derived.Test.YtjagohadeegghaaNewBest
import Derived.Test.YtjagohadeegghaaNumHeld
import Derived.Test.YtjagohadeegghaaRowsNew
namespace Go.Proofs.Ytjagohadeegghaa
open Go.RowKit
set_option linter.unusedVariables false
set_option linter.unusedSimpArgs false
namespace Nb
/-- the ids of the first ones that have the price -/
def ids (F : List Or.E) (p : Int) (k : Nat) : List Int := ((F.take k).filter fun o => o.2.2.1 == p).map (·.1)
theorem ids_none (F : List Or.E) (p : Int) : ids F p 0 = [] := rfl
theorem ids_step (F : List Or.E) (p : Int) (k : Nat) (h : k < F.length) : ids F p (k + 1) = if (Ob.at' F k).2.2.1 = p then ids F p k ++ [(Ob.at' F k).1] else ids F p k := by
  unfold ids
  rw [Rk.take_at (S := Or.S) F k h, List.filter_append, List.map_append]
  by_cases c : (Ob.at' F k).2.2.1 = p
  · rw [if_pos c]
    have : (Rk.at_ Or.S F k).2.2.1 = p := c
    simp [this]
  · rw [if_neg c]
    have : ¬ (Rk.at_ Or.S F k).2.2.1 = p := c
    simp [this]
theorem ids_length (F : List Or.E) (p : Int) (k : Nat) : (ids F p k).length ≤ F.length := by
  unfold ids
  rw [List.length_map]
  exact Nat.le_trans (List.length_filter_le _ _) (by rw [List.length_take]; omega)
/-- the ids that stand in a right book at a price of a side -/
def queue (B A : List Lv.E) (n : Int) (buy : Bool) (p : Int) : List Int := if right B A n then ids (flat (Ob.pick buy B A)) p (flat (Ob.pick buy B A)).length else []
theorem queue_length (B A : List Lv.E) (n : Int) (buy : Bool) (p : Int) : (queue B A n buy p).length ≤ 24 := by
  unfold queue
  split
  · rename_i h
    have h1 := right_small h
    have h2 := ids_length (flat (Ob.pick buy B A)) p (flat (Ob.pick buy B A)).length
    have h3 : (flat (Ob.pick buy B A)).length ≤ (flat B).length + (flat A).length := by cases buy <;> simp [Ob.pick]
    omega
  · simp
end Nb
set_option maxRecDepth 100000 in
set_option maxHeartbeats 4000000 in
theorem newQueue_spec (u v : Value) (n : Int) (buy : Bool) (pr : Int) (B A : List Lv.E) (w : World) (hu : Lv.View w u B) (hv : Lv.View w v A) (l0 : B.length ≤ 1048576) (l1 : A.length ≤ 1048576) (m0 : (Nb.flat B).length ≤ 1048576) (m1 : (Nb.flat A).length ≤ 1048576) :
    Calls Try.prog 47 #[.agg #[u, v, .int .i64 n], .bool buy, .int .i64 pr] w fun e w' => (∃ x, e = .returned x ∧ Rk.Own Iq.S w' w.heap.size 2 x (Nb.queue B A n buy pr)) ∧ Below w.heap.size w w' := by
  obtain ⟨i0, hi, hz0, hz1, hz2⟩ := info_parts infoI64
  have HU := Fk.hide hu
  have HV := Fk.hide hv
  obtain ⟨a0, cap0, rfl⟩ := hu.slice
  obtain ⟨a1, cap1, rfl⟩ := hv.slice
  clear hu hv
  obtain ⟨W, hW⟩ : ∃ W, W = (w.alloc (.cells #[.slice a0 B.length cap0, .slice a1 A.length cap1, .int .i64 n] 28)).alloc (.cells #[] 2) := ⟨_, rfl⟩
  have b0 : Below w.heap.size w W := by rw [hW]; exact ((Below.refl _ _).alloc (Nat.le_refl _) _).alloc (by simp) _
  have hM0 : Hid (Rk.Own Iq.S W w.heap.size 2 (.slice (some ⟨w.heap.size + 1, 0, none⟩) 0 0) []) := by
    rw [hW]
    have := Rk.own_empty (S := Iq.S) (w.alloc (.cells #[.slice a0 B.length cap0, .slice a1 A.length cap1, .int .i64 n] 28)) 2 w.heap.size (by simp)
    show Rk.Own _ _ _ _ _ _
    simpa using this
  have szW : W.heap.size = w.heap.size + 2 := by rw [hW]; simp
  have HW := Fk.hide hW
  clear hW
  go_enter Try.func47, Try.ntmps47
  go_wp2_with fail
  rw [← HW.out]
  refine (l07Open_any _ _ _ B A _ (HU.out.below b0) (HV.out.below b0) l0 l1 m0 m1).mono ?_
  rintro e w1 ⟨⟨p, q, bb, FB, FA, rfl, ⟨T1, hb1, hb2, ⟨cp, cq, _, _⟩, eF, lB, lA⟩⟩, k1⟩
  have HB1 : Hid (Below w.heap.size w w1) := b0.trans (k1.mono b0.size)
  have HM1 := Fk.hide (hM0.out.below k1)
  obtain ⟨r, hr⟩ : ∃ r, r = Nb.right B A n := ⟨_, rfl⟩
  rw [← hr] at eF ⊢
  have HR := Fk.hide hr
  have EF := Fk.hide eF
  clear k1 hr eF b0 hM0
  obtain ⟨p1, p2, p3, rfl⟩ := T1.b.slice'
  obtain ⟨q1, q2, q3, rfl⟩ := T1.a.slice'
  cases r with
  | false =>
    have HA : Hid (Nb.queue B A n buy pr = []) := by show _ = _; unfold Nb.queue; rw [← HR.out]; rfl
    go_wp2_with fail
    go_ret
    exact ⟨⟨_, rfl, by rw [HA.out]; exact HM1.out⟩, HB1.out⟩
  | true =>
  obtain ⟨F, hF⟩ : ∃ F, F = Ob.pick buy FB FA := ⟨_, rfl⟩
  have HP1 : Hid (Rk.View Or.S w1 (Ob.pick buy (.slice p1 p2 p3) (.slice q1 q2 q3)) F) := by
    show Rk.View _ _ _ _
    rw [hF]; exact Ob.view_pick buy T1.b.view T1.a.view
  have hlF : F.length ≤ 1048576 := by rw [hF]; cases buy <;> assumption
  have HFB : Hid (∀ j, (Ob.pick buy (Value.slice p1 p2 p3) (Value.slice q1 q2 q3)).ownBlock = some j → W.heap.size ≤ j ∧ j < w1.heap.size) := by
    intro j hj
    cases buy
    · exact T1.a.lt j hj
    · exact T1.b.lt j hj
  have HA : Hid (Nb.queue B A n buy pr = Nb.ids F pr F.length) := by show _ = _; rw [hF, (EF.out rfl).1, (EF.out rfl).2, ← Nb.flat_pick]; unfold Nb.queue; rw [← HR.out]; rfl
  clear hF
  obtain ⟨a, cap, ev, hs⟩ := HP1.out
  go_wp2_with fail
  refine (side_any bb _ _ buy _ cp cq ⟨_, _, _, rfl⟩ ⟨_, _, _, rfl⟩).mono ?_
  rw [ev]
  rintro e _ ⟨rfl, hh⟩
  rw [hh]
  rw [ev] at HFB
  clear hh cp cq T1 HP1 ev
  have sz1 : W.heap.size ≤ w1.heap.size := by omega
  go_wp2_with fail
  go_loopw [7, 11] (fun out i wr => ∃ (k g un uc : Nat), k ≤ F.length ∧ out = .slice (some ⟨g, 0, none⟩) un uc ∧ i = .int .i64 k ∧ (g = w.heap.size + 1 ∨ w1.heap.size ≤ g) ∧ w1.heap.size ≤ wr.heap.size ∧ Hid (Rk.Own Iq.S wr w.heap.size 2 (.slice (some ⟨g, 0, none⟩) un uc) (Nb.ids F pr k)) ∧ Hid (Below w.heap.size w wr) ∧ Hid (∀ b, W.heap.size ≤ b → b < w1.heap.size → wr.heap[b]? = w1.heap[b]?)) (fun _ i _ => F.length - (intOf i).toNat)
  case atStart => exact ⟨0, _, _, _, Nat.zero_le _, rfl, rfl, .inl rfl, Nat.le_refl _, HM1, HB1, fun _ _ _ => rfl⟩
  case round =>
    obtain ⟨k, g, un, uc, hk, rfl, rfl, hg, hzr, HO, HBR, HKP⟩ := hrel
    by_cases hlt : k < F.length
    · obtain ⟨b, o, rfl, hb, hs1⟩ := hs (by omega)
      have hbb := HFB.out b rfl
      have HBL := Fk.hide (HKP.out b hbb.1 hbb.2)
      have q0 := (World.cell?_of_block (a := ⟨b, o + k * 8, none⟩) HBL.out).trans (Or.c0 hs1 hlt)
      have q2 := (World.cell?_of_block (a := ⟨b, o + k * 8 + 2, none⟩) HBL.out).trans (Or.c2 hs1 hlt)
      obtain ⟨x, hx⟩ : ∃ x, x = (Rk.at_ Or.S F k).2.2.1 := ⟨_, rfl⟩
      obtain ⟨y, hy⟩ : ∃ y, y = (Rk.at_ Or.S F k).1 := ⟨_, rfl⟩
      rw [← hx] at q2
      rw [← hy] at q0
      have HST : Hid (Nb.ids F pr (k + 1) = if x = pr then Nb.ids F pr k ++ [y] else Nb.ids F pr k) := by show _ = _; rw [hx, hy]; exact Nb.ids_step F pr k hlt
      obtain ⟨Q, hQ⟩ : ∃ Q, Q = Nb.ids F pr k := ⟨_, rfl⟩
      have hQl : Q.length ≤ 1048576 := by rw [hQ]; exact Nat.le_trans (Nb.ids_length F pr k) hlF
      rw [← hQ] at HST HO
      clear hx hy hQ hs1 hs HFB
      by_cases c : x = pr
      · have d1 : (x == pr) = true := by simpa using c
        have d2 : decide (x = pr) = true := decide_eq_true c
        have HC := Fk.hide c
        clear c
        have bX : Below wr.heap.size wr (wr.alloc (.cells #[.int .i64 y] 2)) := (Below.refl _ _).alloc (Nat.le_refl _) _
        have HBX : Hid (Below w.heap.size w (wr.alloc (.cells #[.int .i64 y] 2))) := HBR.out.trans (bX.mono HBR.out.size)
        have HOX := Fk.hide (HO.out.below bX)
        have HVX := Fk.hide (Rk.view_lit1 (S := Iq.S) wr 2 #[.int .i64 y] y rfl)
        have HKX : Hid (∀ b, W.heap.size ≤ b → b < w1.heap.size → (wr.alloc (.cells #[.int .i64 y] 2)).heap[b]? = w1.heap[b]?) := fun b h1 h2 => (bX.block b (by omega)).trans (HKP.out b h1 h2)
        have hzx : (wr.alloc (.cells #[.int .i64 y] 2)).heap.size = wr.heap.size + 1 := by simp
        have HZX := Fk.hide hzx
        clear bX hzx
        go_wp2_with (at_builtin; refine Rk.wpList_append_new _ rfl _ _ 63 rfl w.heap.size 2 i0 _ 1 8 rfl Try.underlying63 hi hz0 hz1 hz2 rfl (by decide) g un uc (.slice (some ⟨wr.heap.size, 0, none⟩) 1 1) Q [y] rfl rfl HOX.out HVX.out (Rk.shut_some _ _ _) (by simp; omega) HBX.out.size ?_; intro u6 w6 o6 g6 n6; have HB6 : Hid (Below w.heap.size w w6) := HBX.out.grown g6 HBX.out.size (fun j hj => by cases hj; omega); have HK6 : Hid (∀ b, W.heap.size ≤ b → b < w1.heap.size → w6.heap[b]? = w1.heap[b]?) := (fun b h1 h2 => (g6.block b (by have := HZX.out; omega) (fun e => by cases e; omega)).trans (HKX.out b h1 h2)); have hz6 : w1.heap.size ≤ w6.heap.size := Nat.le_trans (by have := HZX.out; omega) g6.size; obtain ⟨x6, nn6, c6, rfl⟩ := o6.slice'; have HO6 : Hid (Rk.Own Iq.S w6 w.heap.size 2 (.slice x6 nn6 c6) (Nb.ids F pr (k + 1))) := (by show Rk.Own _ _ _ _ _ _; rw [HST.out, if_pos HC.out]; exact o6); have HN6 := Fk.hide n6; clear o6 g6 n6)
        obtain ⟨g6, rfl⟩ : ∃ g6, x6 = some ⟨g6, 0, none⟩ := by
          rcases HO6.out.form with ⟨h1, h2⟩ | ⟨g6, c', h1, _⟩
          · rw [HST.out, if_pos HC.out] at h2; simp at h2
          · simp only [Value.slice.injEq] at h1; exact ⟨g6, h1.1⟩
        have hg6 : g6 = w.heap.size + 1 ∨ w1.heap.size ≤ g6 := by
          rcases HN6.out g6 rfl with h | h
          · rw [h]; exact hg
          · have := HZX.out; omega
        exact ⟨⟨k + 1, g6, _, _, by omega, rfl, by go_num, hg6, hz6, HO6, HB6, HK6⟩, by simp [intOf]; omega⟩
      · have d1 : (x == pr) = false := by simpa using c
        have d2 : decide (x = pr) = false := decide_eq_false c
        have HO2 : Hid (Rk.Own Iq.S wr w.heap.size 2 (.slice (some ⟨g, 0, none⟩) un uc) (Nb.ids F pr (k + 1))) := by show Rk.Own _ _ _ _ _ _; rw [HST.out, if_neg c]; exact HO.out
        go_wp2_with fail
        go_roundw
        case rel => exact ⟨k + 1, g, _, _, by omega, rfl, by go_num, hg, hzr, HO2, HBR, HKP⟩
        case measure => simp [intOf]; omega
    · have e : k = F.length := by omega
      subst e
      go_wp2_with fail
      go_ret
      exact ⟨⟨_, rfl, by rw [HA.out]; exact HO.out⟩, HBR.out⟩
end Go.Proofs.Ytjagohadeegghaa

/- The walk of the specification's l02Out: a file taken out of a list. -/
import Derived.Test.YtfefafmcaepoiaaDoorFsCopy
import Derived.Deep.RegionLaw
namespace Go.Proofs.YtfefafmcaepoiaaDoor
open Go.RowKit
set_option linter.unusedVariables false
set_option linter.unusedSimpArgs false
namespace Fk
theorem sees_take {w : World} {b o : Nat} {L : List Fl} (h : Sees w b o L) (k : Nat) : Sees w b o (L.take k) := by
  have e : ∀ i, i < (L.take k).length → (L.take k).getD i none_ = L.getD i none_ := fun i hi => by
    have : i < k := by simp at hi; omega
    simp [List.getD, List.getElem?_take, this]
  have l : ∀ i, i < (L.take k).length → i < L.length := fun i hi => by simp at hi; omega
  refine ⟨fun i hi => ?_, fun i hi => ?_, fun i hi => ?_⟩
  · rw [h.c0 i (l i hi)]; unfold nm; rw [e i hi]
  · rw [h.c1 i (l i hi)]; unfold dt; rw [e i hi]
  · rw [h.c2 i (l i hi)]; unfold sy; rw [e i hi]
theorem sees_drop {w : World} {b o : Nat} {L : List Fl} (h : Sees w b o L) (k : Nat) : Sees w b (o + k * 3) (L.drop k) := by
  have e : ∀ i, (L.drop k).getD i none_ = L.getD (k + i) none_ := fun i => by simp [List.getD, List.getElem?_drop]
  have l : ∀ i, i < (L.drop k).length → k + i < L.length := fun i hi => by simp at hi; omega
  refine ⟨fun i hi => ?_, fun i hi => ?_, fun i hi => ?_⟩
  · have := h.c0 (k + i) (l i hi); unfold nm at *; rw [e i, ← this]; congr 2; omega
  · have := h.c1 (k + i) (l i hi); unfold dt at *; rw [e i, ← this]; congr 2; omega
  · have := h.c2 (k + i) (l i hi); unfold sy at *; rw [e i, ← this]; congr 2; omega
theorem sees_nil (w : World) (b o : Nat) : Sees w b o [] := ⟨fun i hi => absurd hi (Nat.not_lt_zero _), fun i hi => absurd hi (Nat.not_lt_zero _), fun i hi => absurd hi (Nat.not_lt_zero _)⟩
theorem Sees.grown {w w' : World} {b o : Nat} {L : List Fl} {r : Option Nat} (h : Sees w b o L) (hg : w.grownBy w' r) (hb : b < w.heap.size) (hr : some b ≠ r) : Sees w' b o L :=
  ⟨fun i hi => (World.cell?_of_block (hg.block b hb hr)).trans (h.c0 i hi), fun i hi => (World.cell?_of_block (hg.block b hb hr)).trans (h.c1 i hi), fun i hi => (World.cell?_of_block (hg.block b hb hr)).trans (h.c2 i hi)⟩
/-- at a step of a region that draws: a seen list put behind an owned one -/
theorem step_append_sees {P : Program} (w : World) {ops : Array Oper} {o : Oper} {a : Act} {K : Act → World → Prop} {Q : Exit → Act → World → Prop} {E : Prop} (hgd : o.guard = none) (s x : Operand) (t : TypeId)
    (ho : o.op = .call { callee := .builtin .append, args := #[s, x], argTypes := #[t, t] })
    (base : Nat) (e : TypeId) (i : TypeInfo) (z : Value) (ht : P.underlying t = some (.slice e)) (hi : P.info? e = some i) (hz : i.zero = some z) (hsize : i.size = 3) (hby : i.bytes = 40) (hzs : z.cells.size = 3)
    (v : Value) (M N : List Fl) (m c b f : Nat) (hm : m = N.length) (hs : a.eval s = v) (hx : a.eval x = .slice (some ⟨b, f, none⟩) m c) (hM : Own w base e v M) (hN : Sees w b f N) (hl : M.length + N.length ≤ 1000000000) (hb : base ≤ w.heap.size)
    (h : ∀ v' w', Own w' base e v' (M ++ N) → w.grownBy w' v.ownBlock → K (a.put o.dst v') w') : if Region.wanted o (yielded ops a.tmps) = true then Oper.wp P o a w K Q else E := by
  have hw : Region.wanted o (yielded ops a.tmps) = true := by simp [Region.wanted, hgd]
  rw [if_pos hw]
  subst hm
  refine wp_append_own w s x t ho base e i z 3 40 ht hi hz hsize hby hzs (by decide) v M.length (flat M) hs hM ⟨b, f, none⟩ N.length c (flat N) hx (flat_length N) (sees_cell hN) (flat_one N) (by unfold maxLen; omega) (by omega) hb ?_
  intro v' w' h1 h2 _
  refine h v' w' ?_ h2
  unfold Own
  rw [flat_append, List.length_append]
  exact h1
end Fk

set_option maxHeartbeats 2000000 in
theorem l02Out_any (v : Value) (L : List Fk.Fl) (k : Nat) (base : Nat) (w : World) (hv : Fk.Own w base 60 v L) (hk : k < L.length) (hl : L.length ≤ 1000) :
    Calls Tryd.prog 52 #[v, .int .i64 k] w fun e w' => (∃ u, e = .returned u ∧ Fk.Own w' w.heap.size 60 u (L.take k ++ L.drop (k + 1))) ∧ Below w.heap.size w w' := by
  obtain ⟨i0, hi, hz0, hz1, hz2⟩ := info_parts infoFile
  have hzs : (Value.agg #[.string ByteArray.empty, .string ByteArray.empty, .int .i64 0]).cells.size = 3 := by kernel_rfl
  obtain ⟨g, cap, rfl, hcap, hg, hsee⟩ : ∃ g cap, v = .slice (some ⟨g, 0, none⟩) L.length cap ∧ L.length ≤ cap ∧ g < w.heap.size ∧ Fk.Sees w g 0 L := by
    have h' := hv
    obtain ⟨_, hn | ⟨g, cap, cur, rfl, _, hg, hc, _⟩⟩ := h'
    · rw [hn.2] at hk; omega
    · exact ⟨g, cap, rfl, hc, (Array.getElem?_eq_some_iff.1 hg).1, Fk.sees_of_owns hv⟩
  have b0 : Below w.heap.size w (w.drew.alloc (.cells #[] 60)) := Below.alloc (Below.drew (Below.refl _ _)) (by simp) _
  have hM : Fk.Own (w.drew.alloc (.cells #[] 60)) w.heap.size 60 (.slice (some ⟨w.heap.size, 0, none⟩) 0 0) [] := Fk.own_empty w.drew 60 w.heap.size (by simp)
  have s0 := hsee.below hg b0
  have s1 := Fk.hide (Fk.sees_take s0 k)
  have hlt : k = (L.take k).length := by simp; omega
  have HT := Fk.hide hlt
  have hld : L.length - (k + 1) = (L.drop (k + 1)).length := by simp
  have HD := Fk.hide hld
  have HM := Fk.hide hM
  have B0 := Fk.hide b0
  have S0 := Fk.hide s0
  have hb1 : w.heap.size ≤ (w.drew.alloc (.cells #[] 60)).heap.size := by simp
  have HB1 := Fk.hide hb1
  have hl1 : Hid (([] : List Fk.Fl).length + (L.take k).length ≤ 1000000000) := by show _ ≤ _; simp; omega
  have hl2 : Hid (([] ++ L.take k).length + (L.drop (k + 1)).length ≤ 1000000000) := by show _ ≤ _; simp; omega
  have hgb : Hid (∀ x y, some g ≠ (Value.slice (some ⟨w.heap.size, 0, none⟩) x y).ownBlock) := fun x y e => by simp [Value.ownBlock] at e; omega
  clear hlt hld hM b0 s0 hb1 hsee hv
  have n0 : ¬ cap = 0 := by omega
  have n1 : (k : Int) ≤ cap := by omega
  have n2 : (k : Int) + 1 ≤ L.length := by omega
  have n3 : IntKind.i64.wrap ((k : Int) + 1) = (k : Int) + 1 := by rw [IntKind.wrap_i64]; omega
  have n4 : ((k : Int) + 1).toNat = k + 1 := by omega
  have n5 : (0 : Int) ≤ (k : Int) + 1 := by omega
  have fin : ∀ (u1 u2 : Value) (w1 w2 : World), (w.drew.alloc (.cells #[] 60)).grownBy w1 (Value.slice (some ⟨w.heap.size, 0, none⟩) 0 0).ownBlock → Fk.Own w1 w.heap.size 60 u1 ([] ++ L.take k) → w1.grownBy w2 u1.ownBlock → Below w.heap.size w w2 := by
    intro u1 u2 w1 w2 g1 o1 g2
    have b1 : Below w.heap.size w w1 := B0.out.grown g1 B0.out.size (fun k hk => by simp [Value.ownBlock] at hk; omega)
    exact b1.grown g2 b1.size (fun k hk => (World.ownsRow.lt o1 k hk).1)
  have FIN := Fk.hide fin
  clear fin
  by_cases hc : cap = k + 1
  · have hL : L.length = k + 1 := by omega
    have hd : L.drop (k + 1) = [] := List.drop_eq_nil_of_le (by omega)
    have HDD := Fk.hide hd
    have hm0 : Hid (0 = ([] : List Fk.Fl).length) := rfl
    have hl3 : Hid (([] ++ L.take k).length + ([] : List Fk.Fl).length ≤ 1000000000) := by show _ ≤ _; simp; omega
    subst hc
    rw [hL] at n2
    clear hd
    have n6 : (k : Int) ≤ (k : Int) + 1 := by omega
    obtain ⟨n, hn⟩ : ∃ n, n = L.length := ⟨_, rfl⟩
    rw [hL]
    go_enter Tryd.func52, Tryd.ntmps52
    go_wp2_with fail
    go_region_law (first
      | (refine Fk.step_append_sees _ rfl (.tmp 5) (.tmp 8) 30 rfl w.heap.size 60 i0 _ Tryd.underlying30 hi hz0 hz1 hz2 hzs (.slice (some ⟨w.heap.size, 0, none⟩) 0 0) [] (L.take k) k (k + 1) g 0 HT.out (by simp [Act.eval, Act.put, hL]) (by simp [Act.eval, Act.put, hL]) HM.out s1.out hl1.out HB1.out ?_; intro u1 w1 o1 g1; obtain ⟨a1, c1, rfl⟩ := o1.slice; have hb2 : w.heap.size ≤ w1.heap.size := Nat.le_trans HB1.out g1.size)
      | (refine Fk.step_append_sees _ rfl (.tmp 9) (.tmp 13) 30 rfl w.heap.size 60 i0 _ Tryd.underlying30 hi hz0 hz1 hz2 hzs (.slice a1 ([] ++ L.take k).length c1) ([] ++ L.take k) [] 0 0 g 0 hm0.out (by simp [Act.eval, Act.put, hL]) (by simp [Act.eval, Act.put, hL]) o1 (Fk.sees_nil _ _ _) hl3.out hb2 ?_; intro u2 w2 o2 g2; have B2 := Fk.hide (FIN.out _ u2 w1 w2 g1 o1 g2); have O2 := Fk.hide o2; obtain ⟨a2, c2, rfl⟩ := o2.slice; clear o2))
    all_goals
      go_wp2_with fail
      go_ret
      refine ⟨⟨_, rfl, ?_⟩, B2.out⟩
      have := O2.out
      rw [HDD.out]
      simpa [Act.put, hL] using this
  · have hs2 : Hid (Fk.Sees (w.drew.alloc (.cells #[] 60)) g ((k + 1) * 3) (L.drop (k + 1))) := by
      show Fk.Sees _ _ _ _
      have := Fk.sees_drop S0.out (k + 1)
      rwa [Nat.zero_add] at this
    have hgW : Hid (g < (w.drew.alloc (.cells #[] 60)).heap.size) := by show _ < _; simp; omega
    go_enter Tryd.func52, Tryd.ntmps52
    go_wp2_with fail
    go_region_law (first
      | (refine Fk.step_append_sees _ rfl (.tmp 5) (.tmp 8) 30 rfl w.heap.size 60 i0 _ Tryd.underlying30 hi hz0 hz1 hz2 hzs (.slice (some ⟨w.heap.size, 0, none⟩) 0 0) [] (L.take k) k cap g 0 HT.out (by simp [Act.eval, Act.put]) (by simp [Act.eval, Act.put]) HM.out s1.out hl1.out HB1.out ?_; intro u1 w1 o1 g1; obtain ⟨a1, c1, rfl⟩ := o1.slice; have hb2 : w.heap.size ≤ w1.heap.size := Nat.le_trans HB1.out g1.size)
      | (refine Fk.step_append_sees _ rfl (.tmp 9) (.tmp 13) 30 rfl w.heap.size 60 i0 _ Tryd.underlying30 hi hz0 hz1 hz2 hzs (.slice a1 ([] ++ L.take k).length c1) ([] ++ L.take k) (L.drop (k + 1)) (L.length - (k + 1)) (cap - (k + 1)) g ((k + 1) * 3) HD.out (by simp [Act.eval, Act.put]) (by simp [Act.eval, Act.put]) o1 (hs2.out.grown g1 hgW.out (hgb.out _ _)) hl2.out hb2 ?_; intro u2 w2 o2 g2; have B2 := Fk.hide (FIN.out _ u2 w1 w2 g1 o1 g2); have O2 := Fk.hide o2; obtain ⟨a2, c2, rfl⟩ := o2.slice; clear o2))
    all_goals
      go_wp2_with fail
      go_ret
      refine ⟨⟨_, rfl, ?_⟩, B2.out⟩
      have := O2.out
      simpa [Act.put] using this
end Go.Proofs.YtfefafmcaepoiaaDoor

/- What has been added to is right. What holds all along a statement that calls, and stores an answer of files and a code in a variable of its own, whenever that variable's block is laid. The walk of the program's FsAppend. The walk of the specification's l02Out: a file taken out of a list. -/
import Derived.Test.YtojdfdlbdpdlkaaGreatDoorJoined14
import Derived.Test.YtojdfdlbdpdlkaaGreatDoorJoined12
import Derived.Test.YtojdfdlbdpdlkaaGreatDoorJoined5
import Derived.Test.YtojdfdlbdpdlkaaGreatDoorJoined11
import Derived.Deep.RegionLaw
namespace Go.Proofs.YtojdfdlbdpdlkaaGreatDoor
set_option linter.unusedSimpArgs false
set_option linter.unusedVariables false
namespace Jn
theorem append_ok {L M : List Fk.Fl} {t : ByteArray} (hr : Fk.right L = true) (e : Fk.resAppend L name t = .inr M) : M.length ≤ 12 ∧ ∀ f ∈ M, Fk.fok f.1 f.2.1 f.2.2 = true := by
  have h1 : Fk.opn L [name] = 0 := by rw [opn_name, opn_yes hr]
  have h12 := (Fk.right_inv L hr).1
  have hw := Fk.without_len L name
  unfold Fk.resAppend at e
  split at e
  · split at e
    · cases e
    · split at e
      · cases e
      · rename_i g1 g2
        obtain rfl := Sum.inr.inj e
        refine ⟨by simp; omega, fun f hf => ?_⟩
        rcases List.mem_append.1 hf with hf | hf
        · exact Fk.mem_ok hr (Fk.without_sub f hf)
        · obtain rfl : f = (name, ByteArray.empty ++ t, 0) := by simpa using hf
          exact Fk.fok_yes (Fk.opn_name1 h1) (by simp; omega) ⟨Int.le_refl 0, by simp⟩
  · rename_i x hg
    have hlt := Fk.without_lt hg
    split at e
    · cases e
    · rename_i g1
      obtain rfl := Sum.inr.inj e
      refine ⟨by simp; omega, fun f hf => ?_⟩
      rcases List.mem_append.1 hf with hf | hf
      · exact Fk.mem_ok hr (Fk.without_sub f hf)
      · obtain rfl : f = (x.1, x.2.1 ++ t, x.2.2) := by simpa using hf
        have hx := Fk.fok_inv (Fk.mem_ok hr (Fk.get_some hg).1)
        refine Fk.fok_yes hx.1 (by simp [ByteArray.size_append]; omega) ⟨hx.2.2.1, ?_⟩
        have := hx.2.2.2
        simp [ByteArray.size_append]; omega
theorem sync_ok {L M : List Fk.Fl} (h12 : L.length ≤ 12) (hL : ∀ f ∈ L, Fk.fok f.1 f.2.1 f.2.2 = true) (e : Fk.resSync L name = .inr M) : M.length ≤ 12 ∧ ∀ f ∈ M, Fk.fok f.1 f.2.1 f.2.2 = true := by
  unfold Fk.resSync at e
  split at e
  · cases e
  · rename_i x hg
    have hlt := Fk.without_lt hg
    obtain rfl := Sum.inr.inj e
    refine ⟨by simp; omega, fun f hf => ?_⟩
    rcases List.mem_append.1 hf with hf | hf
    · exact hL f (Fk.without_sub f hf)
    · obtain rfl : f = (x.1, x.2.1, (x.2.1.size : Int)) := by simpa using hf
      have hx := Fk.fok_inv (hL x (Fk.get_some hg).1)
      exact Fk.fok_yes hx.1 (by show ¬ (3000 : Int) < (x.2.1.size : Int); omega) ⟨by show (0 : Int) ≤ (x.2.1.size : Int); omega, Int.le_refl _⟩
theorem add_right {L R : List Fk.Fl} {t : ByteArray} {sy : Bool} {c : Int} (h : Fk.Ans (oAdd L t) (resAdd L t sy) R c) : (c = 0 → Fk.right R = true) ∧ (c ≠ 0 → R = []) := by
  refine Fk.ans_right h (fun k e => ?_) (fun h0 M e => ?_)
  · unfold resAdd at e
    split at e
    · rename_i j hj
      cases e
      unfold Fk.resAppend at hj
      split at hj
      · split at hj
        · cases hj; decide
        · split at hj
          · cases hj; decide
          · cases hj
      · split at hj
        · cases hj; decide
        · cases hj
    · split at e
      · unfold Fk.resSync at e
        split at e
        · cases e; decide
        · cases e
      · cases e
  · have hr : Fk.right L = true := by
      cases hr : Fk.right L with
      | true => rfl
      | false =>
        unfold oAdd at h0
        rw [hr] at h0
        split at h0
        · cases h0
        · simp at h0
    unfold resAdd at e
    split at e
    · cases e
    · rename_i N hN
      have h2 := append_ok hr hN
      split at e
      · exact sync_ok h2.1 h2.2 e
      · obtain rfl := Sum.inr.inj e
        exact h2
end Jn
end Go.Proofs.YtojdfdlbdpdlkaaGreatDoor

namespace Go.Proofs.YtojdfdlbdpdlkaaGreatDoor
open Go.RowKit Go.Maps
set_option linter.unusedVariables false
namespace Jn
/-- memory from w1 on is new, and the files of u are there -/
def Reg (base : Nat) (w1 w' : World) (u : Value) (L : List Fk.Fl) : Prop := Below w1.heap.size w1 w' ∧ Fk.Own w' base 75 u L ∧ ∀ k, u.ownBlock = some k → k < w1.heap.size
theorem regOwn {base p : Nat} {w1 X : World} {u : Value} {L : List Fk.Fl} (h : X.cell? ⟨p, 0, none⟩ = some u ∧ Hid (Reg base w1 X u L)) : Fk.Own X base 75 u L := h.2.out.2.1
theorem regSize {base p : Nat} {w1 X : World} {u : Value} {L : List Fk.Fl} (h : X.cell? ⟨p, 0, none⟩ = some u ∧ Hid (Reg base w1 X u L)) : w1.heap.size ≤ X.heap.size := h.2.out.1.size
theorem regBelow {base p : Nat} {w1 X Y : World} {u : Value} {L : List Fk.Fl} (hp : p < w1.heap.size) (hb : Below X.heap.size X Y) (h : X.cell? ⟨p, 0, none⟩ = some u ∧ Hid (Reg base w1 X u L)) : Y.cell? ⟨p, 0, none⟩ = some u ∧ Hid (Reg base w1 Y u L) :=
  ⟨(hb.cell (by have := h.2.out.1.size; show p < _; omega)).trans h.1, h.2.out.1.trans (hb.mono h.2.out.1.size), h.2.out.2.1.below hb, h.2.out.2.2⟩
theorem regStore {base p b j : Nat} {w1 X : World} {u x : Value} {L : List Fk.Fl} (hp : p < w1.heap.size) (hb : w1.heap.size ≤ b) (h : X.cell? ⟨p, 0, none⟩ = some u ∧ Hid (Reg base w1 X u L)) : (X.setCell ⟨b, j, none⟩ x).cell? ⟨p, 0, none⟩ = some u ∧ Hid (Reg base w1 (X.setCell ⟨b, j, none⟩ x) u L) :=
  ⟨by rw [World.cell?_setCell_other _ _ _ _ (by intro e; have := congrArg Addr.block e; simp at this; omega)]; exact h.1,
   h.2.out.1.setCell hb _, h.2.out.2.1.kept (Fk.grownBy_setCell X b j x) (fun k hk e => by have := h.2.out.2.2 k hk; have h9 : k = b := Option.some.inj e; omega), h.2.out.2.2⟩
/-- a variable's block of two cells, at or behind z -/
def Y (z : Nat) (w' : World) (b : Nat) (x y : Value) : Prop :=
  z ≤ b ∧ b < w'.heap.size ∧ w'.cell? ⟨b, 0, none⟩ = some x ∧ w'.cell? ⟨b, 1, none⟩ = some y ∧ ∀ j, w'.frozen? ⟨b, j, none⟩ = false
theorem Y.new {z : Nat} {w' : World} {x y : Value} {t : TypeId} (h : z ≤ w'.heap.size) : Hid (Y z (w'.alloc (.cells #[x, y] t)) w'.heap.size x y) :=
  ⟨h, by simp, by rw [Fk.cellTop _ _ _ _ _ rfl]; rfl, by rw [Fk.cellTop _ _ _ _ _ rfl]; rfl, fun j => by rw [Fk.frozTop _ _ _ _ _ rfl]⟩
theorem Y.below {z b : Nat} {w1 w2 : World} {x y : Value} (hb : Below w1.heap.size w1 w2) (h : Hid (Y z w1 b x y)) : Hid (Y z w2 b x y) := by
  obtain ⟨h1, h2, h3, h4, h5⟩ := h.out
  exact ⟨h1, Nat.lt_of_lt_of_le h2 hb.size, (hb.cell h2).trans h3, (hb.cell h2).trans h4, fun j => (hb.frozen h2).trans (h5 j)⟩
/-- the answer stands in its variable -/
structure Got (w1 z : World) (b : Nat) (u : Value) (R : List Fk.Fl) (c : Int) : Prop where
  bel : Below w1.heap.size w1 z
  lo : w1.heap.size ≤ b
  c0 : z.cell? ⟨b, 0, none⟩ = some u
  c1 : z.cell? ⟨b, 1, none⟩ = some (.int .i64 c)
  own : Fk.Own z w1.heap.size 75 u R
theorem Got.store {base p b z1 : Nat} {w1 X : World} {u v x y : Value} {L R : List Fk.Fl} {c : Int} (h : X.cell? ⟨p, 0, none⟩ = some u ∧ Hid (Reg base w1 X u L)) (hY : Hid (Y w1.heap.size X b x y)) (ho : Fk.Own X z1 75 v R) (hb : b < z1) (hz : w1.heap.size ≤ z1) :
    Got w1 ((X.setCell ⟨b, 0, none⟩ v).setCell ⟨b, 1, none⟩ (.int .i64 c)) b v R c := by
  obtain ⟨h1, h2, h3, h4, h5⟩ := hY.out
  have hn : ∀ k, v.ownBlock = some k → some k ≠ some b := fun k hk e => by have := (World.ownsRow.lt ho k hk).1; have h9 : k = b := Option.some.inj e; omega
  refine ⟨(h.2.out.1.setCell h1 _).setCell h1 _, h1, ?_, ?_, ?_⟩
  · rw [World.cell?_setCell_other _ _ _ _ (by simp)]; exact World.cell?_setCell_same _ _ _ h3
  · refine World.cell?_setCell_same _ _ _ (u := y) ?_
    rw [World.cell?_setCell_other _ _ _ _ (by simp)]; exact h4
  · exact ((ho.kept (Fk.grownBy_setCell X b 0 v) hn).kept (Fk.grownBy_setCell _ b 1 _) hn).mono hz
theorem Got.fresh {base p z1 : Nat} {w1 X : World} {u v : Value} {L R : List Fk.Fl} {c : Int} {t : TypeId} (h : X.cell? ⟨p, 0, none⟩ = some u ∧ Hid (Reg base w1 X u L)) (ho : Fk.Own X z1 75 v R) (hz : w1.heap.size ≤ z1) :
    Got w1 (X.alloc (.cells #[v, .int .i64 c] t)) X.heap.size v R c :=
  ⟨h.2.out.1.alloc h.2.out.1.size _, h.2.out.1.size, by rw [Fk.cellTop _ _ _ _ _ rfl]; rfl, by rw [Fk.cellTop _ _ _ _ _ rfl]; rfl, (ho.below ((Below.refl _ _).alloc (Nat.le_refl _) _)).mono hz⟩
theorem got_normal {K : Act → World → Prop} {e : Exit} {a : Act} {z : World} (h : Exit.then K (fun _ _ _ => False) e a z) : e = .normal ∧ K a z := by
  cases e <;> first | exact ⟨rfl, h⟩ | exact h.elim
end Jn
end Go.Proofs.YtojdfdlbdpdlkaaGreatDoor

namespace Go.Proofs.YtojdfdlbdpdlkaaGreatDoor
open Go.RowKit Go.Maps
set_option linter.unusedVariables false

end Go.Proofs.YtojdfdlbdpdlkaaGreatDoor

namespace Go.Proofs.YtojdfdlbdpdlkaaGreatDoor
open Go.RowKit
set_option linter.unusedVariables false
set_option linter.unusedSimpArgs false
namespace Fk
theorem sees_take {w : World} {b o : Nat} {L : List Fl} (h : Sees w b o L) (k : Nat) : Sees w b o (L.take k) := by
  have e : ∀ i, i < (L.take k).length → (L.take k).getD i none_ = L.getD i none_ := fun i hi => by
    have : i < k := by simp at hi; omega
    simp [List.getD, List.getElem?_take, this]
  have l : ∀ i, i < (L.take k).length → i < L.length := fun i hi => by simp at hi; omega
  refine ⟨fun i hi => ?_, fun i hi => ?_, fun i hi => ?_⟩
  · rw [h.c0 i (l i hi)]; unfold nm; rw [e i hi]
  · rw [h.c1 i (l i hi)]; unfold dt; rw [e i hi]
  · rw [h.c2 i (l i hi)]; unfold sy; rw [e i hi]
theorem sees_drop {w : World} {b o : Nat} {L : List Fl} (h : Sees w b o L) (k : Nat) : Sees w b (o + k * 3) (L.drop k) := by
  have e : ∀ i, (L.drop k).getD i none_ = L.getD (k + i) none_ := fun i => by simp [List.getD, List.getElem?_drop]
  have l : ∀ i, i < (L.drop k).length → k + i < L.length := fun i hi => by simp at hi; omega
  refine ⟨fun i hi => ?_, fun i hi => ?_, fun i hi => ?_⟩
  · have := h.c0 (k + i) (l i hi); unfold nm at *; rw [e i, ← this]; congr 2; omega
  · have := h.c1 (k + i) (l i hi); unfold dt at *; rw [e i, ← this]; congr 2; omega
  · have := h.c2 (k + i) (l i hi); unfold sy at *; rw [e i, ← this]; congr 2; omega
theorem sees_nil (w : World) (b o : Nat) : Sees w b o [] := ⟨fun i hi => absurd hi (Nat.not_lt_zero _), fun i hi => absurd hi (Nat.not_lt_zero _), fun i hi => absurd hi (Nat.not_lt_zero _)⟩
theorem Sees.grown {w w' : World} {b o : Nat} {L : List Fl} {r : Option Nat} (h : Sees w b o L) (hg : w.grownBy w' r) (hb : b < w.heap.size) (hr : some b ≠ r) : Sees w' b o L :=
  ⟨fun i hi => (World.cell?_of_block (hg.block b hb hr)).trans (h.c0 i hi), fun i hi => (World.cell?_of_block (hg.block b hb hr)).trans (h.c1 i hi), fun i hi => (World.cell?_of_block (hg.block b hb hr)).trans (h.c2 i hi)⟩
/-- at a step of a region that draws: a seen list put behind an owned one -/
theorem step_append_sees {P : Program} (w : World) {ops : Array Oper} {o : Oper} {a : Act} {K : Act → World → Prop} {Q : Exit → Act → World → Prop} {E : Prop} (hgd : o.guard = none) (s x : Operand) (t : TypeId)
    (ho : o.op = .call { callee := .builtin .append, args := #[s, x], argTypes := #[t, t] })
    (base : Nat) (e : TypeId) (i : TypeInfo) (z : Value) (ht : P.underlying t = some (.slice e)) (hi : P.info? e = some i) (hz : i.zero = some z) (hsize : i.size = 3) (hby : i.bytes = 40) (hzs : z.cells.size = 3)
    (v : Value) (M N : List Fl) (m c b f : Nat) (hm : m = N.length) (hs : a.eval s = v) (hx : a.eval x = .slice (some ⟨b, f, none⟩) m c) (hM : Own w base e v M) (hN : Sees w b f N) (hl : M.length + N.length ≤ 1000000000) (hb : base ≤ w.heap.size)
    (h : ∀ v' w', Own w' base e v' (M ++ N) → w.grownBy w' v.ownBlock → K (a.put o.dst v') w') : if Region.wanted o (yielded ops a.tmps) = true then Oper.wp P o a w K Q else E := by
  have hw : Region.wanted o (yielded ops a.tmps) = true := by simp [Region.wanted, hgd]
  rw [if_pos hw]
  subst hm
  refine wp_append_own w s x t ho base e i z 3 40 ht hi hz hsize hby hzs (by decide) v M.length (flat M) hs hM ⟨b, f, none⟩ N.length c (flat N) hx (flat_length N) (sees_cell hN) (flat_one N) (by unfold maxLen; omega) (by omega) hb ?_
  intro v' w' h1 h2 _
  refine h v' w' ?_ h2
  unfold Own
  rw [flat_append, List.length_append]
  exact h1
end Fk

set_option maxHeartbeats 2000000 in
theorem l02Out_any (v : Value) (L : List Fk.Fl) (k : Nat) (base : Nat) (w : World) (hv : Fk.Own w base 75 v L) (hk : k < L.length) (hl : L.length ≤ 1000) :
    Calls Tryz.prog 69 #[v, .int .i64 k] w fun e w' => (∃ u, e = .returned u ∧ Fk.Own w' w.heap.size 75 u (L.take k ++ L.drop (k + 1))) ∧ Below w.heap.size w w' := by
  obtain ⟨i0, hi, hz0, hz1, hz2⟩ := info_parts infoFile
  have hzs : (Value.agg #[.string ByteArray.empty, .string ByteArray.empty, .int .i64 0]).cells.size = 3 := by kernel_rfl
  obtain ⟨g, cap, rfl, hcap, hg, hsee⟩ : ∃ g cap, v = .slice (some ⟨g, 0, none⟩) L.length cap ∧ L.length ≤ cap ∧ g < w.heap.size ∧ Fk.Sees w g 0 L := by
    have h' := hv
    obtain ⟨_, hn | ⟨g, cap, cur, rfl, _, hg, hc, _⟩⟩ := h'
    · rw [hn.2] at hk; omega
    · exact ⟨g, cap, rfl, hc, (Array.getElem?_eq_some_iff.1 hg).1, Fk.sees_of_owns hv⟩
  have b0 : Below w.heap.size w (w.drew.alloc (.cells #[] 75)) := Below.alloc (Below.drew (Below.refl _ _)) (by simp) _
  have hM : Fk.Own (w.drew.alloc (.cells #[] 75)) w.heap.size 75 (.slice (some ⟨w.heap.size, 0, none⟩) 0 0) [] := Fk.own_empty w.drew 75 w.heap.size (by simp)
  have s0 := hsee.below hg b0
  have s1 := Fk.hide (Fk.sees_take s0 k)
  have hlt : k = (L.take k).length := by simp; omega
  have HT := Fk.hide hlt
  have hld : L.length - (k + 1) = (L.drop (k + 1)).length := by simp
  have HD := Fk.hide hld
  have HM := Fk.hide hM
  have B0 := Fk.hide b0
  have S0 := Fk.hide s0
  have hb1 : w.heap.size ≤ (w.drew.alloc (.cells #[] 75)).heap.size := by simp
  have HB1 := Fk.hide hb1
  have hl1 : Hid (([] : List Fk.Fl).length + (L.take k).length ≤ 1000000000) := by show _ ≤ _; simp; omega
  have hl2 : Hid (([] ++ L.take k).length + (L.drop (k + 1)).length ≤ 1000000000) := by show _ ≤ _; simp; omega
  have hgb : Hid (∀ x y, some g ≠ (Value.slice (some ⟨w.heap.size, 0, none⟩) x y).ownBlock) := fun x y e => by simp [Value.ownBlock] at e; omega
  clear hlt hld hM b0 s0 hb1 hsee hv
  have n0 : ¬ cap = 0 := by omega
  have n1 : (k : Int) ≤ cap := by omega
  have n2 : (k : Int) + 1 ≤ L.length := by omega
  have n3 : IntKind.i64.wrap ((k : Int) + 1) = (k : Int) + 1 := by rw [IntKind.wrap_i64]; omega
  have n4 : ((k : Int) + 1).toNat = k + 1 := by omega
  have n5 : (0 : Int) ≤ (k : Int) + 1 := by omega
  have fin : ∀ (u1 u2 : Value) (w1 w2 : World), (w.drew.alloc (.cells #[] 75)).grownBy w1 (Value.slice (some ⟨w.heap.size, 0, none⟩) 0 0).ownBlock → Fk.Own w1 w.heap.size 75 u1 ([] ++ L.take k) → w1.grownBy w2 u1.ownBlock → Below w.heap.size w w2 := by
    intro u1 u2 w1 w2 g1 o1 g2
    have b1 : Below w.heap.size w w1 := B0.out.grown g1 B0.out.size (fun k hk => by simp [Value.ownBlock] at hk; omega)
    exact b1.grown g2 b1.size (fun k hk => (World.ownsRow.lt o1 k hk).1)
  have FIN := Fk.hide fin
  clear fin
  by_cases hc : cap = k + 1
  · have hL : L.length = k + 1 := by omega
    have hd : L.drop (k + 1) = [] := List.drop_eq_nil_of_le (by omega)
    have HDD := Fk.hide hd
    have hm0 : Hid (0 = ([] : List Fk.Fl).length) := rfl
    have hl3 : Hid (([] ++ L.take k).length + ([] : List Fk.Fl).length ≤ 1000000000) := by show _ ≤ _; simp; omega
    subst hc
    rw [hL] at n2
    clear hd
    have n6 : (k : Int) ≤ (k : Int) + 1 := by omega
    obtain ⟨n, hn⟩ : ∃ n, n = L.length := ⟨_, rfl⟩
    rw [hL]
    go_enter Tryz.func69, Tryz.ntmps69
    go_wp2_with fail
    go_region_law (first
      | (refine Fk.step_append_sees _ rfl (.tmp 5) (.tmp 8) 23 rfl w.heap.size 75 i0 _ Tryz.underlying23 hi hz0 hz1 hz2 hzs (.slice (some ⟨w.heap.size, 0, none⟩) 0 0) [] (L.take k) k (k + 1) g 0 HT.out (by simp [Act.eval, Act.put, hL]) (by simp [Act.eval, Act.put, hL]) HM.out s1.out hl1.out HB1.out ?_; intro u1 w1 o1 g1; obtain ⟨a1, c1, rfl⟩ := o1.slice; have hb2 : w.heap.size ≤ w1.heap.size := Nat.le_trans HB1.out g1.size)
      | (refine Fk.step_append_sees _ rfl (.tmp 9) (.tmp 13) 23 rfl w.heap.size 75 i0 _ Tryz.underlying23 hi hz0 hz1 hz2 hzs (.slice a1 ([] ++ L.take k).length c1) ([] ++ L.take k) [] 0 0 g 0 hm0.out (by simp [Act.eval, Act.put, hL]) (by simp [Act.eval, Act.put, hL]) o1 (Fk.sees_nil _ _ _) hl3.out hb2 ?_; intro u2 w2 o2 g2; have B2 := Fk.hide (FIN.out _ u2 w1 w2 g1 o1 g2); have O2 := Fk.hide o2; obtain ⟨a2, c2, rfl⟩ := o2.slice; clear o2))
    all_goals
      go_wp2_with fail
      go_ret
      refine ⟨⟨_, rfl, ?_⟩, B2.out⟩
      have := O2.out
      rw [HDD.out]
      simpa [Act.put, hL] using this
  · have hs2 : Hid (Fk.Sees (w.drew.alloc (.cells #[] 75)) g ((k + 1) * 3) (L.drop (k + 1))) := by
      show Fk.Sees _ _ _ _
      have := Fk.sees_drop S0.out (k + 1)
      rwa [Nat.zero_add] at this
    have hgW : Hid (g < (w.drew.alloc (.cells #[] 75)).heap.size) := by show _ < _; simp; omega
    go_enter Tryz.func69, Tryz.ntmps69
    go_wp2_with fail
    go_region_law (first
      | (refine Fk.step_append_sees _ rfl (.tmp 5) (.tmp 8) 23 rfl w.heap.size 75 i0 _ Tryz.underlying23 hi hz0 hz1 hz2 hzs (.slice (some ⟨w.heap.size, 0, none⟩) 0 0) [] (L.take k) k cap g 0 HT.out (by simp [Act.eval, Act.put]) (by simp [Act.eval, Act.put]) HM.out s1.out hl1.out HB1.out ?_; intro u1 w1 o1 g1; obtain ⟨a1, c1, rfl⟩ := o1.slice; have hb2 : w.heap.size ≤ w1.heap.size := Nat.le_trans HB1.out g1.size)
      | (refine Fk.step_append_sees _ rfl (.tmp 9) (.tmp 13) 23 rfl w.heap.size 75 i0 _ Tryz.underlying23 hi hz0 hz1 hz2 hzs (.slice a1 ([] ++ L.take k).length c1) ([] ++ L.take k) (L.drop (k + 1)) (L.length - (k + 1)) (cap - (k + 1)) g ((k + 1) * 3) HD.out (by simp [Act.eval, Act.put]) (by simp [Act.eval, Act.put]) o1 (hs2.out.grown g1 hgW.out (hgb.out _ _)) hl2.out hb2 ?_; intro u2 w2 o2 g2; have B2 := Fk.hide (FIN.out _ u2 w1 w2 g1 o1 g2); have O2 := Fk.hide o2; obtain ⟨a2, c2, rfl⟩ := o2.slice; clear o2))
    all_goals
      go_wp2_with fail
      go_ret
      refine ⟨⟨_, rfl, ?_⟩, B2.out⟩
      have := O2.out
      simpa [Act.put] using this
end Go.Proofs.YtojdfdlbdpdlkaaGreatDoor

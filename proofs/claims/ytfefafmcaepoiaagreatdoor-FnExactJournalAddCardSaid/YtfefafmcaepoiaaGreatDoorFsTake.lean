/- The walk of the specification's l02Out: a file taken out of a list. -/
import Derived.Test.YtfefafmcaepoiaaGreatDoorFsCopy
import Derived.Deep.RegionLaw
namespace Go.Proofs.YtfefafmcaepoiaaGreatDoor
open Go.RowKit
set_option linter.unusedVariables false
set_option linter.unusedSimpArgs false
namespace Fk
theorem sees_take {w : World} {b o : Nat} {L : List Fl} (h : Sees w b o L) (k : Nat) : Sees w b o (L.take k) := by
  have e : ∀ i, i < (L.take k).length → (L.take k).getD i none_ = L.getD i none_ := fun i hi => by
    have : i < k := by simp at hi; omega
    simp [List.getD, List.getElem?_take, this]
  have l : ∀ i, i < (L.take k).length → i < L.length := fun i hi => by simp at hi; omega
  refine ⟨fun i hi => ?_, fun i hi => ?_, fun i hi => ?_⟩
  · rw [h.c0 i (l i hi)]; unfold nm; rw [e i hi]
  · rw [h.c1 i (l i hi)]; unfold dt; rw [e i hi]
  · rw [h.c2 i (l i hi)]; unfold sy; rw [e i hi]
theorem sees_drop {w : World} {b o : Nat} {L : List Fl} (h : Sees w b o L) (k : Nat) : Sees w b (o + k * 3) (L.drop k) := by
  have e : ∀ i, (L.drop k).getD i none_ = L.getD (k + i) none_ := fun i => by simp [List.getD, List.getElem?_drop]
  have l : ∀ i, i < (L.drop k).length → k + i < L.length := fun i hi => by simp at hi; omega
  refine ⟨fun i hi => ?_, fun i hi => ?_, fun i hi => ?_⟩
  · have := h.c0 (k + i) (l i hi); unfold nm at *; rw [e i, ← this]; congr 2; omega
  · have := h.c1 (k + i) (l i hi); unfold dt at *; rw [e i, ← this]; congr 2; omega
  · have := h.c2 (k + i) (l i hi); unfold sy at *; rw [e i, ← this]; congr 2; omega
theorem sees_nil (w : World) (b o : Nat) : Sees w b o [] := ⟨fun i hi => absurd hi (Nat.not_lt_zero _), fun i hi => absurd hi (Nat.not_lt_zero _), fun i hi => absurd hi (Nat.not_lt_zero _)⟩
theorem Sees.grown {w w' : World} {b o : Nat} {L : List Fl} {r : Option Nat} (h : Sees w b o L) (hg : w.grownBy w' r) (hb : b < w.heap.size) (hr : some b ≠ r) : Sees w' b o L :=
  ⟨fun i hi => (World.cell?_of_block (hg.block b hb hr)).trans (h.c0 i hi), fun i hi => (World.cell?_of_block (hg.block b hb hr)).trans (h.c1 i hi), fun i hi => (World.cell?_of_block (hg.block b hb hr)).trans (h.c2 i hi)⟩
/-- at a step of a region that draws: a seen list put behind an owned one -/
theorem step_append_sees {P : Program} (w : World) {ops : Array Oper} {o : Oper} {a : Act} {K : Act → World → Prop} {Q : Exit → Act → World → Prop} {E : Prop} (hgd : o.guard = none) (s x : Operand) (t : TypeId)
    (ho : o.op = .call { callee := .builtin .append, args := #[s, x], argTypes := #[t, t] })
    (base : Nat) (e : TypeId) (i : TypeInfo) (z : Value) (ht : P.underlying t = some (.slice e)) (hi : P.info? e = some i) (hz : i.zero = some z) (hsize : i.size = 3) (hby : i.bytes = 40) (hzs : z.cells.size = 3)
    (v : Value) (M N : List Fl) (m c b f : Nat) (hm : m = N.length) (hs : a.eval s = v) (hx : a.eval x = .slice (some ⟨b, f, none⟩) m c) (hM : Own w base e v M) (hN : Sees w b f N) (hl : M.length + N.length ≤ 1000000000) (hb : base ≤ w.heap.size)
    (h : ∀ v' w', Own w' base e v' (M ++ N) → w.grownBy w' v.ownBlock → K (a.put o.dst v') w') : if Region.wanted o (yielded ops a.tmps) = true then Oper.wp P o a w K Q else E := by
  have hw : Region.wanted o (yielded ops a.tmps) = true := by simp [Region.wanted, hgd]
  rw [if_pos hw]
  subst hm
  refine wp_append_own w s x t ho base e i z 3 40 ht hi hz hsize hby hzs (by decide) v M.length (flat M) hs hM ⟨b, f, none⟩ N.length c (flat N) hx (flat_length N) (sees_cell hN) (flat_one N) (by unfold maxLen; omega) (by omega) hb ?_
  intro v' w' h1 h2 _
  refine h v' w' ?_ h2
  unfold Own
  rw [flat_append, List.length_append]
  exact h1
end Fk

end Go.Proofs.YtfefafmcaepoiaaGreatDoor

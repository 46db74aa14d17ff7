/- A seen list put behind an owned one, as one operation, and at a step of a region that draws. No function of the program here. -/
import Derived.Test.YtnhpcknbnmhlhaaRowsKit
import Derived.Deep.RegionLaw
namespace Go.Proofs.Ytnhpcknbnmhlhaa
open Go.RowKit
set_option linter.unusedVariables false
namespace Rk
section
variable {α : Type} {S : Shape α}
theorem wp_append_view {P : Program} (w : World) {o : Oper} {a : Act} {K : Act → World → Prop} {Q : Exit → Act → World → Prop} (s x : Operand) (t : TypeId)
    (ho : o.op = .call { callee := .builtin .append, args := #[s, x], argTypes := #[t, t] })
    (base : Nat) (e : TypeId) (i : TypeInfo) (z : Value) (m by_ : Nat) (hm : S.m = m) (ht : P.underlying t = some (.slice e)) (hi : P.info? e = some i) (hz : i.zero = some z) (hsize : i.size = m) (hby : i.bytes = by_) (hzs : z.cells.size = m) (hb1 : by_ ≤ 1000)
    (v u : Value) (M N : List α) (hs : a.eval s = v) (hx : a.eval x = u) (hM : Own S w base e v M) (hN : View S w u N) (hu : Shut u) (hl : M.length + N.length ≤ 1000000000) (hb : base ≤ w.heap.size)
    (h : ∀ v' w', Own S w' base e v' (M ++ N) → w.grownBy w' v.ownBlock → K (a.put o.dst v') w') : o.wp P a w K Q := by
  subst hm
  obtain ⟨ao, cap, rfl, hN⟩ := hN
  have fin : ∀ v' w', w'.ownsRow base e S.m v' (M.length + N.length) (flat S M ++ flat S N) → Own S w' base e v' (M ++ N) := fun v' w' hr => by
    unfold Own
    rw [flat_append, List.length_append]
    exact hr
  cases ao with
  | none =>
    have hc := hu _ _ _ rfl rfl
    subst hc
    have hN0 : N = [] := by
      cases N with
      | nil => rfl
      | cons f r => obtain ⟨b, o', e', _⟩ := hN (by simp); cases e'
    subst hN0
    have hrun := run_append_owned_none (P := P) w base t o.type e i S.m ht hi v M.length (flat S M) hM
    unfold Oper.wp
    have e0 : (Value.slice none ([] : List α).length 0) = .slice none 0 0 := rfl
    rw [e0] at hx
    simp [execOp, ho, resolve, invoke, builtin, hs, hx, hrun, Result.andThen]
    exact h _ w (by simpa using hM) (World.grownBy.refl _ _)
  | some ad =>
    refine wp_append_own w s x t ho base e i z S.m by_ ht hi hz hsize hby hzs S.pos v M.length (flat S M) hs hM ad N.length cap (flat S N) hx (flat_length N) ?_ (flat_one N) (by unfold maxLen; omega) ?_ hb ?_
    · intro j u hju
      have hp : 0 < N.length := by
        cases N with
        | nil => simp [flat] at hju
        | cons _ _ => simp
      obtain ⟨b, o', e', _, hsee⟩ := hN hp
      obtain rfl := Option.some.inj e'
      exact sees_cell hsee j u hju
    · exact Nat.le_trans (Nat.mul_le_mul hl hb1) (by decide)
    · intro v' w' h1 h2 _
      exact h v' w' (fin v' w' h1) h2
theorem step_append_view {P : Program} (w : World) {ops : Array Oper} {o : Oper} {a : Act} {K : Act → World → Prop} {Q : Exit → Act → World → Prop} {E : Prop} (hgd : o.guard = none) (s x : Operand) (t : TypeId)
    (ho : o.op = .call { callee := .builtin .append, args := #[s, x], argTypes := #[t, t] })
    (base : Nat) (e : TypeId) (i : TypeInfo) (z : Value) (m by_ : Nat) (hm : S.m = m) (ht : P.underlying t = some (.slice e)) (hi : P.info? e = some i) (hz : i.zero = some z) (hsize : i.size = m) (hby : i.bytes = by_) (hzs : z.cells.size = m) (hb1 : by_ ≤ 1000)
    (v u : Value) (M N : List α) (hs : a.eval s = v) (hx : a.eval x = u) (hM : Own S w base e v M) (hN : View S w u N) (hu : Shut u) (hl : M.length + N.length ≤ 1000000000) (hb : base ≤ w.heap.size)
    (h : ∀ v' w', Own S w' base e v' (M ++ N) → w.grownBy w' v.ownBlock → K (a.put o.dst v') w') : if Region.wanted o (yielded ops a.tmps) = true then Oper.wp P o a w K Q else E := by
  have hw : Region.wanted o (yielded ops a.tmps) = true := by simp [Region.wanted, hgd]
  rw [if_pos hw]
  exact wp_append_view w s x t ho base e i z m by_ hm ht hi hz hsize hby hzs hb1 v u M N hs hx hM hN hu hl hb h
end
end Rk
end Go.Proofs.Ytnhpcknbnmhlhaa

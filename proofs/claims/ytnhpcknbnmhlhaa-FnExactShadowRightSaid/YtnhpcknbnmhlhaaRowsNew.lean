/- A seen list put behind an owned one: the new list lies where the owned one lay, or in new memory. No function of the program here. -/
import Derived.Test.YtnhpcknbnmhlhaaRowsMore
import Derived.Deep.DeepAppendRoom
import Derived.Deep.AppendLies
namespace Go.Proofs.Ytnhpcknbnmhlhaa
open Go.RowKit
set_option linter.unusedVariables false
namespace Rk
section
variable {α : Type} {S : Shape α}
theorem wp_append_new {P : Program} (w : World) {o : Oper} {a : Act} {K : Act → World → Prop} {Q : Exit → Act → World → Prop} (s x : Operand) (t : TypeId)
    (ho : o.op = .call { callee := .builtin .append, args := #[s, x], argTypes := #[t, t] })
    (base : Nat) (e : TypeId) (i : TypeInfo) (z : Value) (m by_ : Nat) (hm : S.m = m) (ht : P.underlying t = some (.slice e)) (hi : P.info? e = some i) (hz : i.zero = some z) (hsize : i.size = m) (hby : i.bytes = by_) (hzs : z.cells.size = m) (hb1 : by_ ≤ 1000)
    (g n cap : Nat) (u : Value) (M N : List α) (hs : a.eval s = .slice (some ⟨g, 0, none⟩) n cap) (hx : a.eval x = u) (hM : Own S w base e (.slice (some ⟨g, 0, none⟩) n cap) M) (hN : View S w u N) (hu : Shut u) (hl : M.length + N.length ≤ 1000000000) (hb : base ≤ w.heap.size)
    (h : ∀ v' w', Own S w' base e v' (M ++ N) → w.grownBy w' (some g) → (∀ k, v'.ownBlock = some k → k = g ∨ k = w.heap.size) → K (a.put o.dst v') w') : o.wp P a w K Q := by
  subst hm
  have hn := hM.len
  subst hn
  have hcap : M.length ≤ cap := by
    obtain ⟨_, h1 | ⟨g', cap', cur, hv, _, _, hc, _⟩⟩ := hM
    · cases h1.1
    · simp only [Value.slice.injEq] at hv; omega
  obtain ⟨ao, cap', rfl, hN⟩ := hN
  cases ao with
  | none =>
    have hc := hu _ _ _ rfl rfl
    subst hc
    have hN0 : N = [] := by
      cases N with
      | nil => rfl
      | cons f r => obtain ⟨b, o', e', _⟩ := hN (by simp); cases e'
    subst hN0
    have hrun := run_append_owned_none (P := P) w base t o.type e i S.m ht hi _ M.length (flat S M) hM
    unfold Oper.wp
    have e0 : (Value.slice none ([] : List α).length 0) = .slice none 0 0 := rfl
    rw [e0] at hx
    simp [execOp, ho, resolve, invoke, builtin, hs, hx, hrun, Result.andThen]
    exact h _ w (by simpa using hM) (World.grownBy.refl _ _) (fun k hk => .inl (by simpa [Value.ownBlock] using hk.symm))
  | some ad =>
    have hc : ∀ j u, (flat S N)[j]? = some u → w.cell? (ad.add j) = some u := by
      intro j u hju
      have hp : 0 < N.length := by
        cases N with
        | nil => simp [flat] at hju
        | cons _ _ => simp
      obtain ⟨b, o', e', _, hsee⟩ := hN hp
      obtain rfl := Option.some.inj e'
      exact sees_cell hsee j u hju
    by_cases h0 : N.length = 0
    · refine wp_append_own_spare w s x t ho base e i S.m ht hi hsize g M.length cap (flat S M) hs hM ad N.length cap' (flat S N) hx (flat_length N) hc (flat_one N) (by omega) ?_
      intro w' h1 h2
      refine h _ w' ?_ h2 (fun k hk => .inl (by simpa [Value.ownBlock] using hk.symm))
      unfold Own
      rw [flat_append, List.length_append]
      exact h1
    · refine wp_append_lies w s x t ho base e i z S.m by_ ht hi hz hsize hby hzs S.pos _ M.length (flat S M) hs hM ad N.length cap' (flat S N) hx (flat_length N) hc (flat_one N) (by omega) (by unfold maxLen; omega) (Nat.le_trans (Nat.mul_le_mul hl hb1) (by decide)) hb w.heap.size rfl ?_
      intro g2 cap2 w' h1 h2 h3 _
      refine h _ w' ?_ h2 (fun k hk => ?_)
      · unfold Own
        rw [flat_append, List.length_append]
        exact h1
      · have e1 : k = g2 := by simpa [Value.ownBlock] using hk.symm
        rcases h3 with h3 | h3
        · left; have : g = g2 := by simpa [Value.ownBlock] using h3
          omega
        · right; omega
theorem wpList_append_new {P : Program} (w : World) {ops : Array Oper} {rest : List Oper} {o : Oper} {a : Act} {Q : Exit → Act → World → Prop} (hgd : o.guard = none) (s x : Operand) (t : TypeId)
    (ho : o.op = .call { callee := .builtin .append, args := #[s, x], argTypes := #[t, t] })
    (base : Nat) (e : TypeId) (i : TypeInfo) (z : Value) (m by_ : Nat) (hm : S.m = m) (ht : P.underlying t = some (.slice e)) (hi : P.info? e = some i) (hz : i.zero = some z) (hsize : i.size = m) (hby : i.bytes = by_) (hzs : z.cells.size = m) (hb1 : by_ ≤ 1000)
    (g n cap : Nat) (u : Value) (M N : List α) (hs : a.eval s = .slice (some ⟨g, 0, none⟩) n cap) (hx : a.eval x = u) (hM : Own S w base e (.slice (some ⟨g, 0, none⟩) n cap) M) (hN : View S w u N) (hu : Shut u) (hl : M.length + N.length ≤ 1000000000) (hb : base ≤ w.heap.size)
    (h : ∀ v' w', Own S w' base e v' (M ++ N) → w.grownBy w' (some g) → (∀ k, v'.ownBlock = some k → k = g ∨ k = w.heap.size) → wpList P ops Q rest (a.put o.dst v') w') : wpList P ops Q (o :: rest) a w :=
  wpList_plain hgd fun K hK => wp_append_new w s x t ho base e i z m by_ hm ht hi hz hsize hby hzs hb1 g n cap u M N hs hx hM hN hu hl hb (fun v' w' h1 h2 h3 => hK _ _ (h v' w' h1 h2 h3))
theorem step_append_new {P : Program} (w : World) {ops : Array Oper} {o : Oper} {a : Act} {K : Act → World → Prop} {Q : Exit → Act → World → Prop} {E : Prop} (hgd : o.guard = none) (s x : Operand) (t : TypeId)
    (ho : o.op = .call { callee := .builtin .append, args := #[s, x], argTypes := #[t, t] })
    (base : Nat) (e : TypeId) (i : TypeInfo) (z : Value) (m by_ : Nat) (hm : S.m = m) (ht : P.underlying t = some (.slice e)) (hi : P.info? e = some i) (hz : i.zero = some z) (hsize : i.size = m) (hby : i.bytes = by_) (hzs : z.cells.size = m) (hb1 : by_ ≤ 1000)
    (g n cap : Nat) (u : Value) (M N : List α) (hs : a.eval s = .slice (some ⟨g, 0, none⟩) n cap) (hx : a.eval x = u) (hM : Own S w base e (.slice (some ⟨g, 0, none⟩) n cap) M) (hN : View S w u N) (hu : Shut u) (hl : M.length + N.length ≤ 1000000000) (hb : base ≤ w.heap.size)
    (h : ∀ v' w', Own S w' base e v' (M ++ N) → w.grownBy w' (some g) → (∀ k, v'.ownBlock = some k → k = g ∨ k = w.heap.size) → K (a.put o.dst v') w') : if Region.wanted o (yielded ops a.tmps) = true then Oper.wp P o a w K Q else E := by
  have hw : Region.wanted o (yielded ops a.tmps) = true := by simp [Region.wanted, hgd]
  rw [if_pos hw]
  exact wp_append_new w s x t ho base e i z m by_ hm ht hi hz hsize hby hzs hb1 g n cap u M N hs hx hM hN hu hl hb h
end
end Rk
end Go.Proofs.Ytnhpcknbnmhlhaa

/- A seen list put behind an owned one, and where the new list lies. No function of the program here. -/
import Derived.Test.YtnhpcknbnmhlhaaRowsNew
import Derived.Test.YtnhpcknbnmhlhaaRowsMore
namespace Go.Proofs.Ytnhpcknbnmhlhaa
open Go.ChangeShapes Go.WideShapes Go.Deep Go.RowKit
namespace Rk
section
variable {α : Type} {S : Shape α}
theorem wpList_append_where {P : Program} (w : World) {ops : Array Oper} {rest : List Oper} {o : Oper} {a : Act} {Q : Exit → Act → World → Prop} (hgd : o.guard = none) (s x : Operand) (t : TypeId)
    (ho : o.op = .call { callee := .builtin .append, args := #[s, x], argTypes := #[t, t] })
    (base : Nat) (e : TypeId) (i : TypeInfo) (z : Value) (m by_ : Nat) (hm : S.m = m) (ht : P.underlying t = some (.slice e)) (hi : P.info? e = some i) (hz : i.zero = some z) (hsize : i.size = m) (hby : i.bytes = by_) (hzs : z.cells.size = m) (hb1 : by_ ≤ 1000)
    (v u : Value) (M N : List α) (hs : a.eval s = v) (hx : a.eval x = u) (hM : Own S w base e v M) (hN : View S w u N) (hu : Shut u) (hl : M.length + N.length ≤ 1000000000) (hb : base ≤ w.heap.size)
    (h : ∀ v' w', Own S w' base e v' (M ++ N) → w.grownBy w' v.ownBlock → (∀ k, v'.ownBlock = some k → v.ownBlock = some k ∨ w.heap.size ≤ k) → wpList P ops Q rest (a.put o.dst v') w') : wpList P ops Q (o :: rest) a w := by
  rcases hM.form with ⟨hv, hM0⟩ | ⟨g, cap, hv, _⟩
  · subst hv
    subst hM0
    exact wpList_append_view w hgd s x t ho w.heap.size e i z m by_ hm ht hi hz hsize hby hzs hb1 _ u [] N hs hx (own_nil w w.heap.size e) hN hu hl (Nat.le_refl _) (fun v' w' h1 h2 => h v' w' (h1.mono hb) h2 (fun k hk => .inr (h1.lt k hk).1))
  · subst hv
    exact wpList_append_new w hgd s x t ho base e i z m by_ hm ht hi hz hsize hby hzs hb1 g _ cap u M N hs hx hM hN hu hl hb (fun v' w' h1 h2 h3 => h v' w' h1 h2 (fun k hk => by
      rcases h3 k hk with h | h
      · exact .inl (by rw [h]; rfl)
      · exact .inr (by omega)))
theorem step_append_where {P : Program} (w : World) {ops : Array Oper} {o : Oper} {a : Act} {K : Act → World → Prop} {Q : Exit → Act → World → Prop} {E' : Prop} (hgd : o.guard = none) (s x : Operand) (t : TypeId)
    (ho : o.op = .call { callee := .builtin .append, args := #[s, x], argTypes := #[t, t] })
    (base : Nat) (e : TypeId) (i : TypeInfo) (z : Value) (m by_ : Nat) (hm : S.m = m) (ht : P.underlying t = some (.slice e)) (hi : P.info? e = some i) (hz : i.zero = some z) (hsize : i.size = m) (hby : i.bytes = by_) (hzs : z.cells.size = m) (hb1 : by_ ≤ 1000)
    (v u : Value) (M N : List α) (hs : a.eval s = v) (hx : a.eval x = u) (hM : Own S w base e v M) (hN : View S w u N) (hu : Shut u) (hl : M.length + N.length ≤ 1000000000) (hb : base ≤ w.heap.size)
    (h : ∀ v' w', Own S w' base e v' (M ++ N) → w.grownBy w' v.ownBlock → (∀ k, v'.ownBlock = some k → v.ownBlock = some k ∨ w.heap.size ≤ k) → K (a.put o.dst v') w') : if Region.wanted o (yielded ops a.tmps) = true then Oper.wp P o a w K Q else E' := by
  rcases hM.form with ⟨hv, hM0⟩ | ⟨g, cap, hv, _⟩
  · subst hv
    subst hM0
    exact step_append_view w hgd s x t ho w.heap.size e i z m by_ hm ht hi hz hsize hby hzs hb1 _ u [] N hs hx (own_nil w w.heap.size e) hN hu hl (Nat.le_refl _) (fun v' w' h1 h2 => h v' w' (h1.mono hb) h2 (fun k hk => .inr (h1.lt k hk).1))
  · subst hv
    exact step_append_new w hgd s x t ho base e i z m by_ hm ht hi hz hsize hby hzs hb1 g _ cap u M N hs hx hM hN hu hl hb (fun v' w' h1 h2 h3 => h v' w' h1 h2 (fun k hk => by
      rcases h3 k hk with h | h
      · exact .inl (by rw [h]; rfl)
      · exact .inr (by omega)))
end
end Rk
end Go.Proofs.Ytnhpcknbnmhlhaa

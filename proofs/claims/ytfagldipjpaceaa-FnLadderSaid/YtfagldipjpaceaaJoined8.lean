/- A number picked from a literal list while draws are made: what holds of the list, of the place, of the number. No function of the program here. A seen list put behind an owned one, and where the new list lies. No function of the program here. -/
import Derived.Test.YtfagldipjpaceaaJoined1
import Derived.Test.YtfagldipjpaceaaJoined7
import Derived.Test.YtfagldipjpaceaaJoined4
import Derived.Test.YtfagldipjpaceaaRowsMore
namespace Go.Proofs.Ytfagldipjpaceaa
open Go.RowKit
set_option linter.unusedVariables false
set_option linter.unusedSimpArgs false
namespace Dk
/-- a literal list of numbers lies somewhere -/
def Lit (S : Nat) (A : List Int) (w : World) (x : Value) : Prop := ∃ g, x = .slice (some ⟨g, 0, none⟩) A.length A.length ∧ g < w.heap.size ∧ g ≠ S ∧ ∀ i, i < A.length → w.cell? ⟨g, i, none⟩ = some (.int .i64 (A.getD i 0))
/-- a place in it -/
def Ptr (S : Nat) (A : List Int) (w : World) (x : Value) : Prop := ∃ g i, x = .pointer (some ⟨g, i, none⟩) ∧ g < w.heap.size ∧ g ≠ S ∧ i < A.length ∧ w.cell? ⟨g, i, none⟩ = some (.int .i64 (A.getD i 0))
/-- a number of it -/
def Num (A : List Int) (x : Value) : Prop := ∃ i, i < A.length ∧ x = .int .i64 (A.getD i 0)
/-- a number below n -/
def Idx (n : Nat) (x : Value) : Prop := ∃ i : Nat, i < n ∧ x = .int .i64 (i : Int)
theorem Lit.grown {S : Nat} {A : List Int} {w w' : World} {x : Value} {r : Option Nat} (h : Lit S A w x) (hg : w.grownBy w' r) (hr : r = none ∨ r = some S) : Lit S A w' x := by
  obtain ⟨g, h1, h2, h3, h4⟩ := h
  have hne : some g ≠ r := by rcases hr with rfl | rfl <;> simp [h3]
  exact ⟨g, h1, Nat.lt_of_lt_of_le h2 hg.size, h3, fun i hi => (hg.cell_far ⟨g, i, none⟩ h2 hne).trans (h4 i hi)⟩
theorem Ptr.grown {S : Nat} {A : List Int} {w w' : World} {x : Value} {r : Option Nat} (h : Ptr S A w x) (hg : w.grownBy w' r) (hr : r = none ∨ r = some S) : Ptr S A w' x := by
  obtain ⟨g, i, h1, h2, h3, h4, h5⟩ := h
  have hne : some g ≠ r := by rcases hr with rfl | rfl <;> simp [h3]
  exact ⟨g, i, h1, Nat.lt_of_lt_of_le h2 hg.size, h3, h4, (hg.cell_far ⟨g, i, none⟩ h2 hne).trans h5⟩
end Dk
end Go.Proofs.Ytfagldipjpaceaa

namespace Go.Proofs.Ytfagldipjpaceaa
open Go.ChangeShapes Go.WideShapes Go.Deep Go.RowKit
namespace Rk
section
variable {α : Type} {S : Shape α}
theorem wpList_append_where {P : Program} (w : World) {ops : Array Oper} {rest : List Oper} {o : Oper} {a : Act} {Q : Exit → Act → World → Prop} (hgd : o.guard = none) (s x : Operand) (t : TypeId)
    (ho : o.op = .call { callee := .builtin .append, args := #[s, x], argTypes := #[t, t] })
    (base : Nat) (e : TypeId) (i : TypeInfo) (z : Value) (m by_ : Nat) (hm : S.m = m) (ht : P.underlying t = some (.slice e)) (hi : P.info? e = some i) (hz : i.zero = some z) (hsize : i.size = m) (hby : i.bytes = by_) (hzs : z.cells.size = m) (hb1 : by_ ≤ 1000)
    (v u : Value) (M N : List α) (hs : a.eval s = v) (hx : a.eval x = u) (hM : Own S w base e v M) (hN : View S w u N) (hu : Shut u) (hl : M.length + N.length ≤ 1000000000) (hb : base ≤ w.heap.size)
    (h : ∀ v' w', Own S w' base e v' (M ++ N) → w.grownBy w' v.ownBlock → (∀ k, v'.ownBlock = some k → v.ownBlock = some k ∨ w.heap.size ≤ k) → wpList P ops Q rest (a.put o.dst v') w') : wpList P ops Q (o :: rest) a w := by
  rcases hM.form with ⟨hv, hM0⟩ | ⟨g, cap, hv, _⟩
  · subst hv
    subst hM0
    exact wpList_append_view w hgd s x t ho w.heap.size e i z m by_ hm ht hi hz hsize hby hzs hb1 _ u [] N hs hx (own_nil w w.heap.size e) hN hu hl (Nat.le_refl _) (fun v' w' h1 h2 => h v' w' (h1.mono hb) h2 (fun k hk => .inr (h1.lt k hk).1))
  · subst hv
    exact wpList_append_new w hgd s x t ho base e i z m by_ hm ht hi hz hsize hby hzs hb1 g _ cap u M N hs hx hM hN hu hl hb (fun v' w' h1 h2 h3 => h v' w' h1 h2 (fun k hk => by
      rcases h3 k hk with h | h
      · exact .inl (by rw [h]; rfl)
      · exact .inr (by omega)))
theorem step_append_where {P : Program} (w : World) {ops : Array Oper} {o : Oper} {a : Act} {K : Act → World → Prop} {Q : Exit → Act → World → Prop} {E' : Prop} (hgd : o.guard = none) (s x : Operand) (t : TypeId)
    (ho : o.op = .call { callee := .builtin .append, args := #[s, x], argTypes := #[t, t] })
    (base : Nat) (e : TypeId) (i : TypeInfo) (z : Value) (m by_ : Nat) (hm : S.m = m) (ht : P.underlying t = some (.slice e)) (hi : P.info? e = some i) (hz : i.zero = some z) (hsize : i.size = m) (hby : i.bytes = by_) (hzs : z.cells.size = m) (hb1 : by_ ≤ 1000)
    (v u : Value) (M N : List α) (hs : a.eval s = v) (hx : a.eval x = u) (hM : Own S w base e v M) (hN : View S w u N) (hu : Shut u) (hl : M.length + N.length ≤ 1000000000) (hb : base ≤ w.heap.size)
    (h : ∀ v' w', Own S w' base e v' (M ++ N) → w.grownBy w' v.ownBlock → (∀ k, v'.ownBlock = some k → v.ownBlock = some k ∨ w.heap.size ≤ k) → K (a.put o.dst v') w') : if Region.wanted o (yielded ops a.tmps) = true then Oper.wp P o a w K Q else E' := by
  rcases hM.form with ⟨hv, hM0⟩ | ⟨g, cap, hv, _⟩
  · subst hv
    subst hM0
    exact step_append_view w hgd s x t ho w.heap.size e i z m by_ hm ht hi hz hsize hby hzs hb1 _ u [] N hs hx (own_nil w w.heap.size e) hN hu hl (Nat.le_refl _) (fun v' w' h1 h2 => h v' w' (h1.mono hb) h2 (fun k hk => .inr (h1.lt k hk).1))
  · subst hv
    exact step_append_new w hgd s x t ho base e i z m by_ hm ht hi hz hsize hby hzs hb1 g _ cap u M N hs hx hM hN hu hl hb (fun v' w' h1 h2 h3 => h v' w' h1 h2 (fun k hk => by
      rcases h3 k hk with h | h
      · exact .inl (by rw [h]; rfl)
      · exact .inr (by omega)))
end
end Rk
end Go.Proofs.Ytfagldipjpaceaa

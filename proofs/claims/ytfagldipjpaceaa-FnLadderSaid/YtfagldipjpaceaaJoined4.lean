/- The walks of the law's own functions on lists of Order: sizes, copies, comparisons. The walks of the law's own marks on lists of Order. The walks of the law's own functions on older books: sizes, copies, comparisons, marks. A seen list put behind an owned one: the new list lies where the owned one lay, or in new memory. No function of the program here. -/
import Derived.Test.YtfagldipjpaceaaProg
import Derived.Test.YtfagldipjpaceaaOrderKit
import Derived.WalkKit
import Derived.WalkSpells
import Derived.WalkLawsBesides
import Derived.BigRegion
import Derived.Deep.RegionWith
import Derived.BigQuiet
import Derived.Lib.QuietBelow
import Derived.Test.YtfagldipjpaceaaRowsMore
import Derived.Deep.DeepAppendRoom
import Derived.Deep.AppendLies
namespace Go.Proofs.Ytfagldipjpaceaa
open Go.RowKit
set_option linter.unusedVariables false
set_option linter.unusedSimpArgs false
theorem infoOrder : (Try.prog.info? 40).map (fun i => (i.zero, i.size, i.bytes)) = some (some (.agg #[.int .i64 0, .int .i64 0, .int .i64 0, .int .i64 0, .bool false, .int .i64 0, .int .i64 0, .bool false]), 8, 64) := by kernel_rfl

end Go.Proofs.Ytfagldipjpaceaa

namespace Go.Proofs.Ytfagldipjpaceaa
open Go.RowKit
set_option linter.unusedVariables false
set_option linter.unusedSimpArgs false
namespace Or
/-- the marks of one place, counted from k -/
def mk1 (k i : Nat) : E := (((k + 8 * i : Nat) : Int), ((k + 8 * i + 1 : Nat) : Int), ((k + 8 * i + 2 : Nat) : Int), ((k + 8 * i + 3 : Nat) : Int), decide ((k + 8 * i + 4) % 3 = 0), ((k + 8 * i + 5 : Nat) : Int), ((k + 8 * i + 6 : Nat) : Int), decide ((k + 8 * i + 7) % 3 = 0))
/-- the marks of n places -/
def mks (k n : Nat) : List E := (List.range n).map (mk1 k)
theorem mks_length (k n : Nat) : (mks k n).length = n := by simp [mks]
theorem mks_at (k n i : Nat) (h : i < n) : Rk.at_ S (mks k n) i = mk1 k i := by simp [mks, Rk.at_, List.getD, h]
/-- the first places are marked -/
def part (k : Nat) (L : List E) (j : Nat) : List E := mks k j ++ L.drop j
theorem part_length (k : Nat) (L : List E) (j : Nat) (h : j ≤ L.length) : (part k L j).length = L.length := by simp [part, mks_length]; omega
theorem part_none (k : Nat) (L : List E) : part k L 0 = L := by simp [part, mks]
theorem part_all (k : Nat) (L : List E) : part k L L.length = mks k L.length := by simp [part]
theorem part_step (k : Nat) (L : List E) (j : Nat) (h : j < L.length) : (part k L j).set j (mk1 k j) = part k L (j + 1) := by
  unfold part
  rw [List.set_append_right _ _ (by rw [mks_length]; exact Nat.le_refl _), mks_length, Nat.sub_self, List.drop_eq_getElem_cons h, List.set_cons_zero]
  simp [mks, List.range_succ]
theorem put_at {w : World} {base g cap n : Nat} {e : TypeId} {M : List E} {c : E} {k : Nat} (h : Rk.Own S w base e (.slice (some ⟨g, 0, none⟩) n cap) (M.set k c)) (hk : k < M.length) (j : Nat) (hj : j < S.m) (u : Value) (f : E) (hf : S.cs f = (S.cs c).set j u) :
    Rk.Own S (w.setCell ⟨g, k * S.m + j, none⟩ u) base e (.slice (some ⟨g, 0, none⟩) n cap) (M.set k f) := by
  have := h.put (k := k) (by simpa using hk) j hj u f (by rw [Rk.at_set M k hk]; exact hf)
  rw [List.set_set] at this
  exact this
theorem tm3 (z : Int) (m : Nat) (h : z = (m : Int)) : decide (Int.tmod z 3 = 0) = decide (m % 3 = 0) := by
  subst h
  rw [Int.tmod_eq_emod_of_nonneg (by omega)]
  by_cases c : m % 3 = 0
  · rw [decide_eq_true c, decide_eq_true (by omega)]
  · rw [decide_eq_false c, decide_eq_false (by omega)]
end Or


end Go.Proofs.Ytfagldipjpaceaa

namespace Go.Proofs.Ytfagldipjpaceaa
open Go.RowKit
set_option linter.unusedVariables false
set_option linter.unusedSimpArgs false
/-- two owned lists that share no memory -/
structure Ob.Two (w : World) (base : Nat) (e : TypeId) (u v : Value) (B A : List Or.E) : Prop where
  b : Rk.Own Or.S w base e u B
  a : Rk.Own Or.S w base e v A
  ne : ∀ k, u.ownBlock = some k → v.ownBlock ≠ some k
theorem Ob.Two.below {w w' : World} {base : Nat} {e : TypeId} {u v : Value} {B A : List Or.E} (h : Ob.Two w base e u v B A) (hB : Below w.heap.size w w') : Ob.Two w' base e u v B A := ⟨h.b.below hB, h.a.below hB, h.ne⟩



end Go.Proofs.Ytfagldipjpaceaa

namespace Go.Proofs.Ytfagldipjpaceaa
open Go.RowKit
set_option linter.unusedVariables false
namespace Rk
section
variable {α : Type} {S : Shape α}
theorem wp_append_new {P : Program} (w : World) {o : Oper} {a : Act} {K : Act → World → Prop} {Q : Exit → Act → World → Prop} (s x : Operand) (t : TypeId)
    (ho : o.op = .call { callee := .builtin .append, args := #[s, x], argTypes := #[t, t] })
    (base : Nat) (e : TypeId) (i : TypeInfo) (z : Value) (m by_ : Nat) (hm : S.m = m) (ht : P.underlying t = some (.slice e)) (hi : P.info? e = some i) (hz : i.zero = some z) (hsize : i.size = m) (hby : i.bytes = by_) (hzs : z.cells.size = m) (hb1 : by_ ≤ 1000)
    (g n cap : Nat) (u : Value) (M N : List α) (hs : a.eval s = .slice (some ⟨g, 0, none⟩) n cap) (hx : a.eval x = u) (hM : Own S w base e (.slice (some ⟨g, 0, none⟩) n cap) M) (hN : View S w u N) (hu : Shut u) (hl : M.length + N.length ≤ 1000000000) (hb : base ≤ w.heap.size)
    (h : ∀ v' w', Own S w' base e v' (M ++ N) → w.grownBy w' (some g) → (∀ k, v'.ownBlock = some k → k = g ∨ k = w.heap.size) → K (a.put o.dst v') w') : o.wp P a w K Q := by
  subst hm
  have hn := hM.len
  subst hn
  have hcap : M.length ≤ cap := by
    obtain ⟨_, h1 | ⟨g', cap', cur, hv, _, _, hc, _⟩⟩ := hM
    · cases h1.1
    · simp only [Value.slice.injEq] at hv; omega
  obtain ⟨ao, cap', rfl, hN⟩ := hN
  cases ao with
  | none =>
    have hc := hu _ _ _ rfl rfl
    subst hc
    have hN0 : N = [] := by
      cases N with
      | nil => rfl
      | cons f r => obtain ⟨b, o', e', _⟩ := hN (by simp); cases e'
    subst hN0
    have hrun := run_append_owned_none (P := P) w base t o.type e i S.m ht hi _ M.length (flat S M) hM
    unfold Oper.wp
    have e0 : (Value.slice none ([] : List α).length 0) = .slice none 0 0 := rfl
    rw [e0] at hx
    simp [execOp, ho, resolve, invoke, builtin, hs, hx, hrun, Result.andThen]
    exact h _ w (by simpa using hM) (World.grownBy.refl _ _) (fun k hk => .inl (by simpa [Value.ownBlock] using hk.symm))
  | some ad =>
    have hc : ∀ j u, (flat S N)[j]? = some u → w.cell? (ad.add j) = some u := by
      intro j u hju
      have hp : 0 < N.length := by
        cases N with
        | nil => simp [flat] at hju
        | cons _ _ => simp
      obtain ⟨b, o', e', _, hsee⟩ := hN hp
      obtain rfl := Option.some.inj e'
      exact sees_cell hsee j u hju
    by_cases h0 : N.length = 0
    · refine wp_append_own_spare w s x t ho base e i S.m ht hi hsize g M.length cap (flat S M) hs hM ad N.length cap' (flat S N) hx (flat_length N) hc (flat_one N) (by omega) ?_
      intro w' h1 h2
      refine h _ w' ?_ h2 (fun k hk => .inl (by simpa [Value.ownBlock] using hk.symm))
      unfold Own
      rw [flat_append, List.length_append]
      exact h1
    · refine wp_append_lies w s x t ho base e i z S.m by_ ht hi hz hsize hby hzs S.pos _ M.length (flat S M) hs hM ad N.length cap' (flat S N) hx (flat_length N) hc (flat_one N) (by omega) (by unfold maxLen; omega) (Nat.le_trans (Nat.mul_le_mul hl hb1) (by decide)) hb w.heap.size rfl ?_
      intro g2 cap2 w' h1 h2 h3 _
      refine h _ w' ?_ h2 (fun k hk => ?_)
      · unfold Own
        rw [flat_append, List.length_append]
        exact h1
      · have e1 : k = g2 := by simpa [Value.ownBlock] using hk.symm
        rcases h3 with h3 | h3
        · left; have : g = g2 := by simpa [Value.ownBlock] using h3
          omega
        · right; omega
theorem wpList_append_new {P : Program} (w : World) {ops : Array Oper} {rest : List Oper} {o : Oper} {a : Act} {Q : Exit → Act → World → Prop} (hgd : o.guard = none) (s x : Operand) (t : TypeId)
    (ho : o.op = .call { callee := .builtin .append, args := #[s, x], argTypes := #[t, t] })
    (base : Nat) (e : TypeId) (i : TypeInfo) (z : Value) (m by_ : Nat) (hm : S.m = m) (ht : P.underlying t = some (.slice e)) (hi : P.info? e = some i) (hz : i.zero = some z) (hsize : i.size = m) (hby : i.bytes = by_) (hzs : z.cells.size = m) (hb1 : by_ ≤ 1000)
    (g n cap : Nat) (u : Value) (M N : List α) (hs : a.eval s = .slice (some ⟨g, 0, none⟩) n cap) (hx : a.eval x = u) (hM : Own S w base e (.slice (some ⟨g, 0, none⟩) n cap) M) (hN : View S w u N) (hu : Shut u) (hl : M.length + N.length ≤ 1000000000) (hb : base ≤ w.heap.size)
    (h : ∀ v' w', Own S w' base e v' (M ++ N) → w.grownBy w' (some g) → (∀ k, v'.ownBlock = some k → k = g ∨ k = w.heap.size) → wpList P ops Q rest (a.put o.dst v') w') : wpList P ops Q (o :: rest) a w :=
  wpList_plain hgd fun K hK => wp_append_new w s x t ho base e i z m by_ hm ht hi hz hsize hby hzs hb1 g n cap u M N hs hx hM hN hu hl hb (fun v' w' h1 h2 h3 => hK _ _ (h v' w' h1 h2 h3))
theorem step_append_new {P : Program} (w : World) {ops : Array Oper} {o : Oper} {a : Act} {K : Act → World → Prop} {Q : Exit → Act → World → Prop} {E : Prop} (hgd : o.guard = none) (s x : Operand) (t : TypeId)
    (ho : o.op = .call { callee := .builtin .append, args := #[s, x], argTypes := #[t, t] })
    (base : Nat) (e : TypeId) (i : TypeInfo) (z : Value) (m by_ : Nat) (hm : S.m = m) (ht : P.underlying t = some (.slice e)) (hi : P.info? e = some i) (hz : i.zero = some z) (hsize : i.size = m) (hby : i.bytes = by_) (hzs : z.cells.size = m) (hb1 : by_ ≤ 1000)
    (g n cap : Nat) (u : Value) (M N : List α) (hs : a.eval s = .slice (some ⟨g, 0, none⟩) n cap) (hx : a.eval x = u) (hM : Own S w base e (.slice (some ⟨g, 0, none⟩) n cap) M) (hN : View S w u N) (hu : Shut u) (hl : M.length + N.length ≤ 1000000000) (hb : base ≤ w.heap.size)
    (h : ∀ v' w', Own S w' base e v' (M ++ N) → w.grownBy w' (some g) → (∀ k, v'.ownBlock = some k → k = g ∨ k = w.heap.size) → K (a.put o.dst v') w') : if Region.wanted o (yielded ops a.tmps) = true then Oper.wp P o a w K Q else E := by
  have hw : Region.wanted o (yielded ops a.tmps) = true := by simp [Region.wanted, hgd]
  rw [if_pos hw]
  exact wp_append_new w s x t ho base e i z m by_ hm ht hi hz hsize hby hzs hb1 g n cap u M N hs hx hM hN hu hl hb h
end
end Rk
end Go.Proofs.Ytfagldipjpaceaa

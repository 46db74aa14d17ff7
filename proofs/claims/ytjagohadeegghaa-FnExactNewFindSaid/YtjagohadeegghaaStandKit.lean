/- Orders that rest, in a map by their ids: how the map's elements read, what a map holds. No function of the program here. -/
import Derived.Test.YtjagohadeegghaaOrderKit
import Derived.Maps.OwnSet
import Derived.Maps.Views
import Derived.Deep.RegionLaw
namespace Go.Proofs.Ytjagohadeegghaa
open Go.ChangeShapes Go.WideShapes Go.Deep Go.RowKit Go.Maps
set_option linter.unusedVariables false
set_option linter.unusedSimpArgs false
namespace So
/-- an order, and the side on which it rests -/
abbrev E := Or.E × Bool
def z : E := ((0, 0, 0, 0, false, 0, 0, false), false)
def vl (s : E) : Value := .agg #[.int .i64 s.1.1, .int .i64 s.1.2.1, .int .i64 s.1.2.2.1, .int .i64 s.1.2.2.2.1, .bool s.1.2.2.2.2.1, .int .i64 s.1.2.2.2.2.2.1, .int .i64 s.1.2.2.2.2.2.2.1, .bool s.1.2.2.2.2.2.2.2, .bool s.2]
def fd (s : E) : DataW Unit := .agg [.lit (.int .i64 s.1.1), .lit (.int .i64 s.1.2.1), .lit (.int .i64 s.1.2.2.1), .lit (.int .i64 s.1.2.2.2.1), .lit (.bool s.1.2.2.2.2.1), .lit (.int .i64 s.1.2.2.2.2.2.1), .lit (.int .i64 s.1.2.2.2.2.2.2.1), .lit (.bool s.1.2.2.2.2.2.2.2), .lit (.bool s.2)]
theorem fd_inj {s t : E} (h : fd s = fd t) : s = t := by
  obtain ⟨⟨a0, a1, a2, a3, a4, a5, a6, a7⟩, a8⟩ := s
  obtain ⟨⟨b0, b1, b2, b3, b4, b5, b6, b7⟩, b8⟩ := t
  simp only [fd, DataW.agg.injEq, List.cons.injEq, DataW.lit.injEq, Lit.bool.injEq, Lit.int.injEq, and_true, true_and] at h
  obtain ⟨h0, h1, h2, h3, h4, h5, h6, h7, h8⟩ := h
  subst h0 h1 h2 h3 h4 h5 h6 h7 h8
  rfl
def rd : Value → Option (DataW Unit × List MemPlace)
  | .agg ⟨[.int .i64 a0, .int .i64 a1, .int .i64 a2, .int .i64 a3, .bool a4, .int .i64 a5, .int .i64 a6, .bool a7, .bool a8]⟩ => some (fd ((a0, a1, a2, a3, a4, a5, a6, a7), a8), [])
  | _ => none
theorem rd_mk (s : E) : rd (vl s) = some (fd s, []) := rfl
theorem rd_inv {v : Value} {s : E} {ps : List MemPlace} (h : rd v = some (fd s, ps)) : v = vl s := by
  unfold rd at h
  split at h
  · simp only [Option.some.injEq, Prod.mk.injEq] at h
    have := fd_inj h.1
    subst this
    rfl
  · cases h
def kl (id : Int) : Lit := .int .i64 id
theorem kl_key (id : Int) : WideAt.IsKeyLit (kl id) := trivial
theorem kl_ne {a b : Int} (h : a ≠ b) : kl a ≠ kl b := fun e => h (by simpa [kl] using e)
/-- one more -/
def put (g : Int → E) (s : E) : Int → E := fun id => if id = s.1.1 then s else g id
/-- a map in block M that holds what g says -/
structure Holds (w : World) (P : Program) (k : TypeId) (M n : Nat) (g : Int → E) : Prop where
  ex : ∃ D, w.ownsMap P k rd M n D ∧ ∀ id, D.atKey (kl id) (fd z) = fd (g id)
theorem Holds.made (w : World) (P : Program) (k : TypeId) : Holds (w.alloc (.map #[] 0)) P k w.heap.size 0 (fun _ => z) :=
  ⟨.map [], World.ownsMap_made w P k rd, fun id => rfl⟩
theorem Holds.kept {w w' : World} {P : Program} {k : TypeId} {M n : Nat} {g : Int → E} {row : Option Nat} (h : Holds w P k M n g) (hg : w.grownBy w' row) (hne : some M ≠ row) : Holds w' P k M n g := by
  obtain ⟨D, h1, h2⟩ := h.ex
  exact ⟨D, h1.kept hg hne, h2⟩
theorem Holds.lt {w : World} {P : Program} {k : TypeId} {M n : Nat} {g : Int → E} (h : Holds w P k M n g) : M < w.heap.size := by
  obtain ⟨D, h1, _⟩ := h.ex
  exact h1.lt
theorem Holds.below {w w' : World} {P : Program} {k : TypeId} {M n : Nat} {g : Int → E} (h : Holds w P k M n g) (hB : Below w.heap.size w w') : Holds w' P k M n g := by
  obtain ⟨D, h1, h2⟩ := h.ex
  refine ⟨D, h1.kept (row := none) ⟨hB.os, hB.tape, hB.output, hB.size, fun k hk _ => hB.block k hk⟩ (by simp), h2⟩
theorem Holds.of_block {w w' : World} {P : Program} {k : TypeId} {M n : Nat} {g : Int → E} (h : Holds w P k M n g) (e : w'.heap[M]? = w.heap[M]?) : Holds w' P k M n g := by
  obtain ⟨D, h1, h2⟩ := h.ex
  refine ⟨D, ?_, h2⟩
  unfold World.ownsMap at h1 ⊢
  rw [e]
  exact h1
theorem Holds.store {w : World} {P : Program} {t k e : TypeId} {M n : Nat} {g : Int → E} (hh : Holds w P k M n g) (KK : Keyed P k) (ht : P.underlying t = some (.map k e)) (hn : n < maxLen) (s : E) {key : Value} (hkey : keyOf P k key = some (kl s.1.1)) :
    ∃ w', (Instr.mapUpdate t (.map (some M)) key (vl s)).run P w = .ok () w' ∧ Holds w' P k M (n + 1) (put g s) ∧ w.grownBy w' (some M) := by
  obtain ⟨D, h1, h2⟩ := hh.ex
  obtain ⟨w', hrun, r1, r2⟩ := h1.store KK ht hn hkey (rd_mk s)
  refine ⟨w', hrun, ⟨_, r1, fun id => ?_⟩, r2.grown⟩
  by_cases c : id = s.1.1
  · subst c
    rw [atKey_put_same h1.isMap (kl_key _)]
    simp [put]
  · rw [atKey_put_other (kl_ne c), h2 id]
    simp [put, c]
section
variable {P : Program} (w : World) {ops : Array Oper} {o : Oper} {a : Act} {K : Act → World → Prop} {Q : Exit → Act → World → Prop}
theorem wp_put (m x v : Operand) (t : TypeId) (hop : o.op = Op.mapUpdate t m x v)
    (k e : TypeId) (KK : Keyed P k) (ht : P.underlying t = some (.map k e)) (M n : Nat) (g : Int → E) (hm : a.eval m = .map (some M)) (hh : Holds w P k M n g) (hn : n < maxLen) (s : E) (key : Value) (hx : a.eval x = key) (hv : a.eval v = vl s) (hkey : keyOf P k key = some (kl s.1.1))
    (hK : ∀ w', Holds w' P k M (n + 1) (put g s) → w.grownBy w' (some M) → K (a.put o.dst undef) w') : o.wp P a w K Q := by
  obtain ⟨D, h1, h2⟩ := hh.ex
  obtain ⟨w', hrun, r1, r2⟩ := h1.store KK ht hn hkey (rd_mk s)
  unfold Oper.wp
  simp [execOp, hop, hm, hx, hv, hrun, Result.andThen]
  refine hK w' ⟨_, r1, fun id => ?_⟩ r2.grown
  by_cases c : id = s.1.1
  · subst c
    rw [atKey_put_same h1.isMap (kl_key _)]
    simp [put]
  · rw [atKey_put_other (kl_ne c), h2 id]
    simp [put, c]
theorem step_put {E' : Prop} (hgd : o.guard = none) (m x v : Operand) (t : TypeId) (hop : o.op = Op.mapUpdate t m x v)
    (k e : TypeId) (KK : Keyed P k) (ht : P.underlying t = some (.map k e)) (M n : Nat) (g : Int → E) (hm : a.eval m = .map (some M)) (hh : Holds w P k M n g) (hn : n < maxLen) (s : E) (key : Value) (hx : a.eval x = key) (hv : a.eval v = vl s) (hkey : keyOf P k key = some (kl s.1.1))
    (hK : ∀ w', Holds w' P k M (n + 1) (put g s) → w.grownBy w' (some M) → K (a.put o.dst undef) w') : if Region.wanted o (yielded ops a.tmps) = true then Oper.wp P o a w K Q else E' := by
  have hw : Region.wanted o (yielded ops a.tmps) = true := by simp [Region.wanted, hgd]
  rw [if_pos hw]
  exact wp_put w m x v t hop k e KK ht M n g hm hh hn s key hx hv hkey hK
end
section
variable {P : Program} (w : World) {ops : Array Oper} {rest : List Oper} {o : Oper} {a : Act} {Q : Exit → Act → World → Prop}
/-- an order is put into the map -/
theorem wpList_put (hg : o.guard = none) (m x v : Operand) (t : TypeId) (hop : o.op = Op.mapUpdate t m x v)
    (k e : TypeId) (K : Keyed P k) (ht : P.underlying t = some (.map k e)) (M n : Nat) (g : Int → E) (hm : a.eval m = .map (some M)) (hh : Holds w P k M n g) (hn : n < maxLen) (s : E) (key : Value) (hx : a.eval x = key) (hv : a.eval v = vl s) (hkey : keyOf P k key = some (kl s.1.1))
    (hK : ∀ w', Holds w' P k M (n + 1) (put g s) → w.grownBy w' (some M) → wpList P ops Q rest (a.put o.dst undef) w') : wpList P ops Q (o :: rest) a w := by
  obtain ⟨D, h1, h2⟩ := hh.ex
  refine wpList_mapUpdate_in w hg m x v t hop k e K ht rd M n D hm h1 hn key (vl s) (kl s.1.1) hx hv hkey (fd s) [] (rd_mk s) fun w' h3 h4 => hK w' ⟨_, h3, fun id => ?_⟩ h4.grown
  by_cases c : id = s.1.1
  · subst c
    rw [atKey_put_same h1.isMap (kl_key _)]
    simp [put]
  · rw [atKey_put_other (kl_ne c), h2 id]
    simp [put, c]
/-- an order is looked up -/
theorem wpList_look (hg : o.guard = none) (m x : Operand) (t : TypeId) (hop : o.op = Op.lookup t m x false)
    (k e : TypeId) (K : Keyed P k) (ht : P.underlying t = some (.map k e)) (hz : (zeroValue e).run P w = .ok (vl z) w) (M n : Nat) (g : Int → E) (hm : a.eval m = .map (some M)) (hh : Holds w P k M n g) (id : Int) (key : Value) (hx : a.eval x = key) (hkey : keyOf P k key = some (kl id))
    (hK : wpList P ops Q rest (a.put o.dst (vl (g id))) w) : wpList P ops Q (o :: rest) a w := by
  obtain ⟨D, h1, h2⟩ := hh.ex
  refine wpList_plain hg fun K' hK' => ?_
  obtain ⟨v, ps, hrun, hv⟩ := h1.lookup K ht hz (rd_mk z) hkey
  rw [h2 id] at hv
  rw [rd_inv hv] at hrun
  unfold Oper.wp
  simp [execOp, hop, hm, hx, hrun, Result.andThen]
  exact hK' _ _ hK
end
end So
end Go.Proofs.Ytjagohadeegghaa

/- The law's older book, read off an argument. No function of the program here. -/
import Derived.Test.YtnhpcknbnmhlhaaProg
import Derived.Test.YtnhpcknbnmhlhaaOrderKit
import Derived.Test.YtnhpcknbnmhlhaaRecOpen
namespace Go.Proofs.Ytnhpcknbnmhlhaa
open Go.ChangeShapes Go.WideShapes Go.Deep Go.RowKit
set_option linter.unusedVariables false
namespace Ob
section
variable {H : Type} {enc : TypeId × Value → H}
set_option maxRecDepth 100000 in
theorem open_order {w : World} : ∀ n cs' y, DataW.trod enc Try.prog w 0 (fun _ => true) true n 89 cs' = some y → cs'.length = Or.S.m → ∃ f, Or.Fit f ∧ cs' = Or.S.cs f := by
  intro n cs' y h hlen
  have cI : Try.prog.cellsOf 2 = 1 := by kernel_rfl
  have cB : Try.prog.cellsOf 4 = 1 := by kernel_rfl
  obtain ⟨xs, k, _, _, _, hxl, hff⟩ := DataW.trod_struct Try.underlying89 h
  clear h
  match cs', hlen with
  | [x0, x1, x2, x3, x4, x5, x6, x7], _ =>
  match xs, hxl with
  | [y0, y1, y2, y3, y4, y5, y6, y7], _ =>
    have g0 : DataW.trod enc Try.prog w 0 (fun _ => true) true k 2 (List.take (Try.prog.cellsOf 2) (List.drop 0 [x0, x1, x2, x3, x4, x5, x6, x7])) = [y0, y1, y2, y3, y4, y5, y6, y7][0]? := hff 0 _ rfl
    rw [cI] at g0
    have q0 : DataW.trod enc Try.prog w 0 (fun _ => true) true k 2 [x0] = some y0 := by simpa using g0
    clear g0
    have g1 : DataW.trod enc Try.prog w 0 (fun _ => true) true k 2 (List.take (Try.prog.cellsOf 2) (List.drop 1 [x0, x1, x2, x3, x4, x5, x6, x7])) = [y0, y1, y2, y3, y4, y5, y6, y7][1]? := hff 1 _ rfl
    rw [cI] at g1
    have q1 : DataW.trod enc Try.prog w 0 (fun _ => true) true k 2 [x1] = some y1 := by simpa using g1
    clear g1
    have g2 : DataW.trod enc Try.prog w 0 (fun _ => true) true k 2 (List.take (Try.prog.cellsOf 2) (List.drop 2 [x0, x1, x2, x3, x4, x5, x6, x7])) = [y0, y1, y2, y3, y4, y5, y6, y7][2]? := hff 2 _ rfl
    rw [cI] at g2
    have q2 : DataW.trod enc Try.prog w 0 (fun _ => true) true k 2 [x2] = some y2 := by simpa using g2
    clear g2
    have g3 : DataW.trod enc Try.prog w 0 (fun _ => true) true k 2 (List.take (Try.prog.cellsOf 2) (List.drop 3 [x0, x1, x2, x3, x4, x5, x6, x7])) = [y0, y1, y2, y3, y4, y5, y6, y7][3]? := hff 3 _ rfl
    rw [cI] at g3
    have q3 : DataW.trod enc Try.prog w 0 (fun _ => true) true k 2 [x3] = some y3 := by simpa using g3
    clear g3
    have g4 : DataW.trod enc Try.prog w 0 (fun _ => true) true k 4 (List.take (Try.prog.cellsOf 4) (List.drop 4 [x0, x1, x2, x3, x4, x5, x6, x7])) = [y0, y1, y2, y3, y4, y5, y6, y7][4]? := hff 4 _ rfl
    rw [cB] at g4
    have q4 : DataW.trod enc Try.prog w 0 (fun _ => true) true k 4 [x4] = some y4 := by simpa using g4
    clear g4
    have g5 : DataW.trod enc Try.prog w 0 (fun _ => true) true k 2 (List.take (Try.prog.cellsOf 2) (List.drop 5 [x0, x1, x2, x3, x4, x5, x6, x7])) = [y0, y1, y2, y3, y4, y5, y6, y7][5]? := hff 5 _ rfl
    rw [cI] at g5
    have q5 : DataW.trod enc Try.prog w 0 (fun _ => true) true k 2 [x5] = some y5 := by simpa using g5
    clear g5
    have g6 : DataW.trod enc Try.prog w 0 (fun _ => true) true k 2 (List.take (Try.prog.cellsOf 2) (List.drop 6 [x0, x1, x2, x3, x4, x5, x6, x7])) = [y0, y1, y2, y3, y4, y5, y6, y7][6]? := hff 6 _ rfl
    rw [cI] at g6
    have q6 : DataW.trod enc Try.prog w 0 (fun _ => true) true k 2 [x6] = some y6 := by simpa using g6
    clear g6
    have g7 : DataW.trod enc Try.prog w 0 (fun _ => true) true k 4 (List.take (Try.prog.cellsOf 4) (List.drop 7 [x0, x1, x2, x3, x4, x5, x6, x7])) = [y0, y1, y2, y3, y4, y5, y6, y7][7]? := hff 7 _ rfl
    rw [cB] at g7
    have q7 : DataW.trod enc Try.prog w 0 (fun _ => true) true k 4 [x7] = some y7 := by simpa using g7
    clear g7
    clear hff
    obtain ⟨z0, e0, _, b0⟩ := DataW.trod_int Try.underlying2 q0
    simp at e0
    subst e0
    clear q0
    simp [Lit.wf] at b0
    obtain ⟨z1, e1, _, b1⟩ := DataW.trod_int Try.underlying2 q1
    simp at e1
    subst e1
    clear q1
    simp [Lit.wf] at b1
    obtain ⟨z2, e2, _, b2⟩ := DataW.trod_int Try.underlying2 q2
    simp at e2
    subst e2
    clear q2
    simp [Lit.wf] at b2
    obtain ⟨z3, e3, _, b3⟩ := DataW.trod_int Try.underlying2 q3
    simp at e3
    subst e3
    clear q3
    simp [Lit.wf] at b3
    obtain ⟨z4, e4, _⟩ := DataW.trod_bool Try.underlying4 q4
    simp at e4
    subst e4
    clear q4
    obtain ⟨z5, e5, _, b5⟩ := DataW.trod_int Try.underlying2 q5
    simp at e5
    subst e5
    clear q5
    simp [Lit.wf] at b5
    obtain ⟨z6, e6, _, b6⟩ := DataW.trod_int Try.underlying2 q6
    simp at e6
    subst e6
    clear q6
    simp [Lit.wf] at b6
    obtain ⟨z7, e7, _⟩ := DataW.trod_bool Try.underlying4 q7
    simp at e7
    subst e7
    clear q7
    exact ⟨(z0, z1, z2, z3, z4, z5, z6, z7), ⟨b0, b1, b2, b3, trivial, b5, b6, trivial⟩, rfl⟩

set_option maxRecDepth 100000 in
theorem open_old {w : World} {r : Reach} {b0 : Nat} {v : Value} {d : DataW H} {p : List MemPlace} (hv : Value.okWide Try.prog w r b0 24 v) (h : DataW.Trod enc Try.prog w 0 (fun _ => true) true 24 v d p) :
    ∃ v0 v1 n B A, v = .agg #[v0, v1, .int .i64 n] ∧ (Lit.int .i64 n).wf = true ∧ ((∀ f ∈ B, Or.Fit f) ∧ (∀ f ∈ A, Or.Fit f)) ∧ (B.length ≤ maxLen ∧ A.length ≤ maxLen) ∧ (Rk.Shut v0 ∧ Rk.Shut v1) ∧ (Rk.View Or.S w v0 B ∧ Rk.View Or.S w v1 A) := by
  obtain ⟨cs, rfl, hsz⟩ := okWide_struct Try.underlying24 hv
  rw [show Try.prog.cellsOf 24 = 3 by kernel_rfl] at hsz
  obtain ⟨v0, v1, k0, rfl⟩ : ∃ v0 v1 k0, cs = #[v0, v1, k0] := by
    obtain ⟨l⟩ := cs
    match l, hsz with
    | [x, y, z], _ => exact ⟨x, y, z, rfl⟩
  obtain ⟨fuel, hf⟩ := h
  obtain ⟨xs, k, _, _, _, hxl, hff⟩ := DataW.trod_struct Try.underlying24 hf
  have cI : Try.prog.cellsOf 2 = 1 := by kernel_rfl
  have cS : Try.prog.cellsOf 22 = 1 := by kernel_rfl
  match xs, hxl with
  | [y0, y1, y2], _ =>
    have g0 : DataW.trod enc Try.prog w 0 (fun _ => true) true k 22 (List.take (Try.prog.cellsOf 22) (List.drop 0 (Value.agg #[v0, v1, k0]).cells.toList)) = [y0, y1, y2][0]? := hff 0 _ rfl
    have g1 : DataW.trod enc Try.prog w 0 (fun _ => true) true k 22 (List.take (Try.prog.cellsOf 22) (List.drop 1 (Value.agg #[v0, v1, k0]).cells.toList)) = [y0, y1, y2][1]? := hff 1 _ rfl
    have g2 : DataW.trod enc Try.prog w 0 (fun _ => true) true k 2 (List.take (Try.prog.cellsOf 2) (List.drop 2 (Value.agg #[v0, v1, k0]).cells.toList)) = [y0, y1, y2][2]? := hff 2 _ rfl
    rw [cS] at g0 g1
    rw [cI] at g2
    have q0 : DataW.trod enc Try.prog w 0 (fun _ => true) true k 22 [v0] = some y0 := by simpa [Value.cells] using g0
    have q1 : DataW.trod enc Try.prog w 0 (fun _ => true) true k 22 [v1] = some y1 := by simpa [Value.cells] using g1
    have q2 : DataW.trod enc Try.prog w 0 (fun _ => true) true k 2 [k0] = some y2 := by simpa [Value.cells] using g2
    obtain ⟨z, e0, _, wf⟩ := DataW.trod_int Try.underlying2 q2
    simp at e0
    subst e0
    obtain ⟨B, h1, h2, h3, h4⟩ := Rk.open_list (S := Or.S) Try.underlying22 (by kernel_rfl) Or.Fit open_order q0
    obtain ⟨A, l1, l2, l3, l4⟩ := Rk.open_list (S := Or.S) Try.underlying22 (by kernel_rfl) Or.Fit open_order q1
    exact ⟨v0, v1, z, B, A, rfl, wf, ⟨h1, l1⟩, ⟨h2, l2⟩, ⟨h4, l4⟩, ⟨h3, l3⟩⟩
end
end Ob
end Go.Proofs.Ytnhpcknbnmhlhaa

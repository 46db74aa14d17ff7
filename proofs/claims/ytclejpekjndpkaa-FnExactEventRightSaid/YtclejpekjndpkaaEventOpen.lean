/- A struct of numbers and bools, read off an argument of the law. No function of the program here. -/
import Derived.Test.YtclejpekjndpkaaProg
import Derived.Test.YtclejpekjndpkaaEventMath
import Derived.Deep.Strs
import Derived.Deep.Slices
import Derived.ChangeArms
namespace Go.Proofs.Ytclejpekjndpkaa
open Go.ChangeShapes Go.WideShapes Go.Deep Go.RowKit
set_option linter.unusedVariables false
namespace Ev
set_option maxRecDepth 100000 in
theorem open_event {H : Type} {enc : TypeId × Value → H} {w : World} {r : Reach} {b0 : Nat} {v : Value} {d : DataW H} {p : List MemPlace} (hv : Value.okWide Try.prog w r b0 37 v) (h : DataW.Trod enc Try.prog w 0 (fun _ => true) true 37 v d p) :
    ∃ c : E, v = .agg #[.int .i64 c.kind, .int .i64 c.id, .int .i64 c.other, .int .i64 c.price, .int .i64 c.amount] := by
  obtain ⟨cs, rfl, hsz⟩ := okWide_struct Try.underlying37 hv
  rw [show Try.prog.cellsOf 37 = 5 by kernel_rfl] at hsz
  have cI : Try.prog.cellsOf 2 = 1 := by kernel_rfl
  obtain ⟨x0, x1, x2, x3, x4, rfl⟩ : ∃ x0 x1 x2 x3 x4, cs = #[x0, x1, x2, x3, x4] := by
    obtain ⟨l⟩ := cs
    match l, hsz with
    | [x0, x1, x2, x3, x4], _ => exact ⟨x0, x1, x2, x3, x4, rfl⟩
  obtain ⟨fuel, hf⟩ := h
  obtain ⟨xs, k, _, _, _, hxl, hff⟩ := DataW.trod_struct Try.underlying37 hf
  match xs, hxl with
  | [y0, y1, y2, y3, y4], _ =>
    have g0 : DataW.trod enc Try.prog w 0 (fun _ => true) true k 2 (List.take (Try.prog.cellsOf 2) (List.drop 0 (Value.agg #[x0, x1, x2, x3, x4]).cells.toList)) = [y0, y1, y2, y3, y4][0]? := hff 0 _ rfl
    rw [cI] at g0
    have q0 : DataW.trod enc Try.prog w 0 (fun _ => true) true k 2 [x0] = some y0 := by simpa [Value.cells] using g0
    clear g0
    have g1 : DataW.trod enc Try.prog w 0 (fun _ => true) true k 2 (List.take (Try.prog.cellsOf 2) (List.drop 1 (Value.agg #[x0, x1, x2, x3, x4]).cells.toList)) = [y0, y1, y2, y3, y4][1]? := hff 1 _ rfl
    rw [cI] at g1
    have q1 : DataW.trod enc Try.prog w 0 (fun _ => true) true k 2 [x1] = some y1 := by simpa [Value.cells] using g1
    clear g1
    have g2 : DataW.trod enc Try.prog w 0 (fun _ => true) true k 2 (List.take (Try.prog.cellsOf 2) (List.drop 2 (Value.agg #[x0, x1, x2, x3, x4]).cells.toList)) = [y0, y1, y2, y3, y4][2]? := hff 2 _ rfl
    rw [cI] at g2
    have q2 : DataW.trod enc Try.prog w 0 (fun _ => true) true k 2 [x2] = some y2 := by simpa [Value.cells] using g2
    clear g2
    have g3 : DataW.trod enc Try.prog w 0 (fun _ => true) true k 2 (List.take (Try.prog.cellsOf 2) (List.drop 3 (Value.agg #[x0, x1, x2, x3, x4]).cells.toList)) = [y0, y1, y2, y3, y4][3]? := hff 3 _ rfl
    rw [cI] at g3
    have q3 : DataW.trod enc Try.prog w 0 (fun _ => true) true k 2 [x3] = some y3 := by simpa [Value.cells] using g3
    clear g3
    have g4 : DataW.trod enc Try.prog w 0 (fun _ => true) true k 2 (List.take (Try.prog.cellsOf 2) (List.drop 4 (Value.agg #[x0, x1, x2, x3, x4]).cells.toList)) = [y0, y1, y2, y3, y4][4]? := hff 4 _ rfl
    rw [cI] at g4
    have q4 : DataW.trod enc Try.prog w 0 (fun _ => true) true k 2 [x4] = some y4 := by simpa [Value.cells] using g4
    clear g4
    clear hff hf hv
    obtain ⟨z0, e0, _⟩ := DataW.trod_int Try.underlying2 q0
    simp at e0
    subst e0
    clear q0
    obtain ⟨z1, e1, _⟩ := DataW.trod_int Try.underlying2 q1
    simp at e1
    subst e1
    clear q1
    obtain ⟨z2, e2, _⟩ := DataW.trod_int Try.underlying2 q2
    simp at e2
    subst e2
    clear q2
    obtain ⟨z3, e3, _⟩ := DataW.trod_int Try.underlying2 q3
    simp at e3
    subst e3
    clear q3
    obtain ⟨z4, e4, _⟩ := DataW.trod_int Try.underlying2 q4
    simp at e4
    subst e4
    clear q4
    exact ⟨⟨z0, z1, z2, z3, z4⟩, rfl⟩
end Ev
end Go.Proofs.Ytclejpekjndpkaa

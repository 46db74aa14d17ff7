/- A struct of numbers and bools, read off an argument of the law. No function of the program here. -/
import Derived.Test.YtijlanpnngbciaaProg
import Derived.Test.YtijlanpnngbciaaCmdMath
import Derived.Deep.Strs
import Derived.Deep.Slices
import Derived.ChangeArms
namespace Go.Proofs.Ytijlanpnngbciaa
open Go.ChangeShapes Go.WideShapes Go.Deep Go.RowKit
set_option linter.unusedVariables false
namespace Cm
set_option maxRecDepth 100000 in
theorem open_cmd {H : Type} {enc : TypeId × Value → H} {w : World} {r : Reach} {b0 : Nat} {v : Value} {d : DataW H} {p : List MemPlace} (hv : Value.okWide Try.prog w r b0 33 v) (h : DataW.Trod enc Try.prog w 0 (fun _ => true) true 33 v d p) :
    ∃ c : C, v = .agg #[.int .i64 c.kind, .int .i64 c.owner, .int .i64 c.id, .bool c.buy, .int .i64 c.price, .int .i64 c.amount, .int .i64 c.life, .bool c.post, .int .i64 c.peak, .bool c.guard] := by
  obtain ⟨cs, rfl, hsz⟩ := okWide_struct Try.underlying33 hv
  rw [show Try.prog.cellsOf 33 = 10 by kernel_rfl] at hsz
  have cI : Try.prog.cellsOf 2 = 1 := by kernel_rfl
  have cB : Try.prog.cellsOf 4 = 1 := by kernel_rfl
  obtain ⟨x0, x1, x2, x3, x4, x5, x6, x7, x8, x9, rfl⟩ : ∃ x0 x1 x2 x3 x4 x5 x6 x7 x8 x9, cs = #[x0, x1, x2, x3, x4, x5, x6, x7, x8, x9] := by
    obtain ⟨l⟩ := cs
    match l, hsz with
    | [x0, x1, x2, x3, x4, x5, x6, x7, x8, x9], _ => exact ⟨x0, x1, x2, x3, x4, x5, x6, x7, x8, x9, rfl⟩
  obtain ⟨fuel, hf⟩ := h
  obtain ⟨xs, k, _, _, _, hxl, hff⟩ := DataW.trod_struct Try.underlying33 hf
  match xs, hxl with
  | [y0, y1, y2, y3, y4, y5, y6, y7, y8, y9], _ =>
    have g0 : DataW.trod enc Try.prog w 0 (fun _ => true) true k 2 (List.take (Try.prog.cellsOf 2) (List.drop 0 (Value.agg #[x0, x1, x2, x3, x4, x5, x6, x7, x8, x9]).cells.toList)) = [y0, y1, y2, y3, y4, y5, y6, y7, y8, y9][0]? := hff 0 _ rfl
    rw [cI] at g0
    have q0 : DataW.trod enc Try.prog w 0 (fun _ => true) true k 2 [x0] = some y0 := by simpa [Value.cells] using g0
    clear g0
    have g1 : DataW.trod enc Try.prog w 0 (fun _ => true) true k 2 (List.take (Try.prog.cellsOf 2) (List.drop 1 (Value.agg #[x0, x1, x2, x3, x4, x5, x6, x7, x8, x9]).cells.toList)) = [y0, y1, y2, y3, y4, y5, y6, y7, y8, y9][1]? := hff 1 _ rfl
    rw [cI] at g1
    have q1 : DataW.trod enc Try.prog w 0 (fun _ => true) true k 2 [x1] = some y1 := by simpa [Value.cells] using g1
    clear g1
    have g2 : DataW.trod enc Try.prog w 0 (fun _ => true) true k 2 (List.take (Try.prog.cellsOf 2) (List.drop 2 (Value.agg #[x0, x1, x2, x3, x4, x5, x6, x7, x8, x9]).cells.toList)) = [y0, y1, y2, y3, y4, y5, y6, y7, y8, y9][2]? := hff 2 _ rfl
    rw [cI] at g2
    have q2 : DataW.trod enc Try.prog w 0 (fun _ => true) true k 2 [x2] = some y2 := by simpa [Value.cells] using g2
    clear g2
    have g3 : DataW.trod enc Try.prog w 0 (fun _ => true) true k 4 (List.take (Try.prog.cellsOf 4) (List.drop 3 (Value.agg #[x0, x1, x2, x3, x4, x5, x6, x7, x8, x9]).cells.toList)) = [y0, y1, y2, y3, y4, y5, y6, y7, y8, y9][3]? := hff 3 _ rfl
    rw [cB] at g3
    have q3 : DataW.trod enc Try.prog w 0 (fun _ => true) true k 4 [x3] = some y3 := by simpa [Value.cells] using g3
    clear g3
    have g4 : DataW.trod enc Try.prog w 0 (fun _ => true) true k 2 (List.take (Try.prog.cellsOf 2) (List.drop 4 (Value.agg #[x0, x1, x2, x3, x4, x5, x6, x7, x8, x9]).cells.toList)) = [y0, y1, y2, y3, y4, y5, y6, y7, y8, y9][4]? := hff 4 _ rfl
    rw [cI] at g4
    have q4 : DataW.trod enc Try.prog w 0 (fun _ => true) true k 2 [x4] = some y4 := by simpa [Value.cells] using g4
    clear g4
    have g5 : DataW.trod enc Try.prog w 0 (fun _ => true) true k 2 (List.take (Try.prog.cellsOf 2) (List.drop 5 (Value.agg #[x0, x1, x2, x3, x4, x5, x6, x7, x8, x9]).cells.toList)) = [y0, y1, y2, y3, y4, y5, y6, y7, y8, y9][5]? := hff 5 _ rfl
    rw [cI] at g5
    have q5 : DataW.trod enc Try.prog w 0 (fun _ => true) true k 2 [x5] = some y5 := by simpa [Value.cells] using g5
    clear g5
    have g6 : DataW.trod enc Try.prog w 0 (fun _ => true) true k 2 (List.take (Try.prog.cellsOf 2) (List.drop 6 (Value.agg #[x0, x1, x2, x3, x4, x5, x6, x7, x8, x9]).cells.toList)) = [y0, y1, y2, y3, y4, y5, y6, y7, y8, y9][6]? := hff 6 _ rfl
    rw [cI] at g6
    have q6 : DataW.trod enc Try.prog w 0 (fun _ => true) true k 2 [x6] = some y6 := by simpa [Value.cells] using g6
    clear g6
    have g7 : DataW.trod enc Try.prog w 0 (fun _ => true) true k 4 (List.take (Try.prog.cellsOf 4) (List.drop 7 (Value.agg #[x0, x1, x2, x3, x4, x5, x6, x7, x8, x9]).cells.toList)) = [y0, y1, y2, y3, y4, y5, y6, y7, y8, y9][7]? := hff 7 _ rfl
    rw [cB] at g7
    have q7 : DataW.trod enc Try.prog w 0 (fun _ => true) true k 4 [x7] = some y7 := by simpa [Value.cells] using g7
    clear g7
    have g8 : DataW.trod enc Try.prog w 0 (fun _ => true) true k 2 (List.take (Try.prog.cellsOf 2) (List.drop 8 (Value.agg #[x0, x1, x2, x3, x4, x5, x6, x7, x8, x9]).cells.toList)) = [y0, y1, y2, y3, y4, y5, y6, y7, y8, y9][8]? := hff 8 _ rfl
    rw [cI] at g8
    have q8 : DataW.trod enc Try.prog w 0 (fun _ => true) true k 2 [x8] = some y8 := by simpa [Value.cells] using g8
    clear g8
    have g9 : DataW.trod enc Try.prog w 0 (fun _ => true) true k 4 (List.take (Try.prog.cellsOf 4) (List.drop 9 (Value.agg #[x0, x1, x2, x3, x4, x5, x6, x7, x8, x9]).cells.toList)) = [y0, y1, y2, y3, y4, y5, y6, y7, y8, y9][9]? := hff 9 _ rfl
    rw [cB] at g9
    have q9 : DataW.trod enc Try.prog w 0 (fun _ => true) true k 4 [x9] = some y9 := by simpa [Value.cells] using g9
    clear g9
    clear hff hf hv
    obtain ⟨z0, e0, _⟩ := DataW.trod_int Try.underlying2 q0
    simp at e0
    subst e0
    clear q0
    obtain ⟨z1, e1, _⟩ := DataW.trod_int Try.underlying2 q1
    simp at e1
    subst e1
    clear q1
    obtain ⟨z2, e2, _⟩ := DataW.trod_int Try.underlying2 q2
    simp at e2
    subst e2
    clear q2
    obtain ⟨z3, e3, _⟩ := DataW.trod_bool Try.underlying4 q3
    simp at e3
    subst e3
    clear q3
    obtain ⟨z4, e4, _⟩ := DataW.trod_int Try.underlying2 q4
    simp at e4
    subst e4
    clear q4
    obtain ⟨z5, e5, _⟩ := DataW.trod_int Try.underlying2 q5
    simp at e5
    subst e5
    clear q5
    obtain ⟨z6, e6, _⟩ := DataW.trod_int Try.underlying2 q6
    simp at e6
    subst e6
    clear q6
    obtain ⟨z7, e7, _⟩ := DataW.trod_bool Try.underlying4 q7
    simp at e7
    subst e7
    clear q7
    obtain ⟨z8, e8, _⟩ := DataW.trod_int Try.underlying2 q8
    simp at e8
    subst e8
    clear q8
    obtain ⟨z9, e9, _⟩ := DataW.trod_bool Try.underlying4 q9
    simp at e9
    subst e9
    clear q9
    exact ⟨⟨z0, z1, z2, z3, z4, z5, z6, z7, z8, z9⟩, rfl⟩
end Cm
end Go.Proofs.Ytijlanpnngbciaa

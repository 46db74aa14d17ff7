/- The law's Shadow, read off an argument: an older and a newer book. No function of the program here. -/
import Derived.Test.YtnhpcknbnmhlhaaOldOpen
import Derived.Test.YtnhpcknbnmhlhaaNewOpen
namespace Go.Proofs.Ytnhpcknbnmhlhaa
open Go.ChangeShapes Go.WideShapes Go.Deep Go.RowKit
set_option linter.unusedVariables false
namespace Sh
section
variable {H : Type} {enc : TypeId × Value → H}
set_option maxRecDepth 100000 in
theorem open_cells_old {w : World} {n : Nat} {v0 v1 k0 : Value} {y : DataW H × List MemPlace} (hf : DataW.trod enc Try.prog w 0 (fun _ => true) true n 24 [v0, v1, k0] = some y) :
    ∃ n B A, k0 = .int .i64 n ∧ (Lit.int .i64 n).wf = true ∧ ((∀ f ∈ B, Or.Fit f) ∧ (∀ f ∈ A, Or.Fit f)) ∧ (B.length ≤ maxLen ∧ A.length ≤ maxLen) ∧ (Rk.Shut v0 ∧ Rk.Shut v1) ∧ (Rk.View Or.S w v0 B ∧ Rk.View Or.S w v1 A) := by
  obtain ⟨xs, k, _, _, _, hxl, hff⟩ := DataW.trod_struct Try.underlying24 hf
  have cI : Try.prog.cellsOf 2 = 1 := by kernel_rfl
  have cS : Try.prog.cellsOf 22 = 1 := by kernel_rfl
  match xs, hxl with
  | [y0, y1, y2], _ =>
    have g0 : DataW.trod enc Try.prog w 0 (fun _ => true) true k 22 (List.take (Try.prog.cellsOf 22) (List.drop 0 [v0, v1, k0])) = [y0, y1, y2][0]? := hff 0 _ rfl
    have g1 : DataW.trod enc Try.prog w 0 (fun _ => true) true k 22 (List.take (Try.prog.cellsOf 22) (List.drop 1 [v0, v1, k0])) = [y0, y1, y2][1]? := hff 1 _ rfl
    have g2 : DataW.trod enc Try.prog w 0 (fun _ => true) true k 2 (List.take (Try.prog.cellsOf 2) (List.drop 2 [v0, v1, k0])) = [y0, y1, y2][2]? := hff 2 _ rfl
    rw [cS] at g0 g1
    rw [cI] at g2
    have q0 : DataW.trod enc Try.prog w 0 (fun _ => true) true k 22 [v0] = some y0 := by simpa using g0
    have q1 : DataW.trod enc Try.prog w 0 (fun _ => true) true k 22 [v1] = some y1 := by simpa using g1
    have q2 : DataW.trod enc Try.prog w 0 (fun _ => true) true k 2 [k0] = some y2 := by simpa using g2
    obtain ⟨z, e0, _, wf⟩ := DataW.trod_int Try.underlying2 q2
    simp at e0
    subst e0
    obtain ⟨B, h1, h2, h3, h4⟩ := Rk.open_list (S := Or.S) Try.underlying22 (by kernel_rfl) Or.Fit Ob.open_order q0
    obtain ⟨A, l1, l2, l3, l4⟩ := Rk.open_list (S := Or.S) Try.underlying22 (by kernel_rfl) Or.Fit Ob.open_order q1
    exact ⟨z, B, A, rfl, wf, ⟨h1, l1⟩, ⟨h2, l2⟩, ⟨h4, l4⟩, ⟨h3, l3⟩⟩
set_option maxRecDepth 100000 in
theorem open_cells_new {w : World} {n : Nat} {v0 v1 k0 : Value} {y : DataW H × List MemPlace} (hf : DataW.trod enc Try.prog w 0 (fun _ => true) true n 27 [v0, v1, k0] = some y) :
    ∃ n B A, k0 = .int .i64 n ∧ (Lit.int .i64 n).wf = true ∧ (B.length ≤ maxLen ∧ A.length ≤ maxLen) ∧ ((∀ i, i < B.length → (Lv.at' B i).2.length ≤ maxLen) ∧ (∀ i, i < A.length → (Lv.at' A i).2.length ≤ maxLen)) ∧ (Lv.View w v0 B ∧ Lv.View w v1 A) := by
  obtain ⟨xs, k, _, _, _, hxl, hff⟩ := DataW.trod_struct Try.underlying27 hf
  have cI : Try.prog.cellsOf 2 = 1 := by kernel_rfl
  have cS : Try.prog.cellsOf 25 = 1 := by kernel_rfl
  match xs, hxl with
  | [y0, y1, y2], _ =>
    have g0 : DataW.trod enc Try.prog w 0 (fun _ => true) true k 25 (List.take (Try.prog.cellsOf 25) (List.drop 0 [v0, v1, k0])) = [y0, y1, y2][0]? := hff 0 _ rfl
    have g1 : DataW.trod enc Try.prog w 0 (fun _ => true) true k 25 (List.take (Try.prog.cellsOf 25) (List.drop 1 [v0, v1, k0])) = [y0, y1, y2][1]? := hff 1 _ rfl
    have g2 : DataW.trod enc Try.prog w 0 (fun _ => true) true k 2 (List.take (Try.prog.cellsOf 2) (List.drop 2 [v0, v1, k0])) = [y0, y1, y2][2]? := hff 2 _ rfl
    rw [cS] at g0 g1
    rw [cI] at g2
    have q0 : DataW.trod enc Try.prog w 0 (fun _ => true) true k 25 [v0] = some y0 := by simpa using g0
    have q1 : DataW.trod enc Try.prog w 0 (fun _ => true) true k 25 [v1] = some y1 := by simpa using g1
    have q2 : DataW.trod enc Try.prog w 0 (fun _ => true) true k 2 [k0] = some y2 := by simpa using g2
    obtain ⟨z, e0, _, wf⟩ := DataW.trod_int Try.underlying2 q2
    simp at e0
    subst e0
    obtain ⟨B, h2, h3, h4⟩ := Nb.open_levels q0
    obtain ⟨A, l2, l3, l4⟩ := Nb.open_levels q1
    exact ⟨z, B, A, rfl, wf, ⟨h2, l2⟩, ⟨h3, l3⟩, ⟨h4, l4⟩⟩
set_option maxRecDepth 100000 in
theorem open_shadow {w : World} {r : Reach} {b0 : Nat} {v : Value} {d : DataW H} {p : List MemPlace} (hv : Value.okWide Try.prog w r b0 29 v) (h : DataW.Trod enc Try.prog w 0 (fun _ => true) true 29 v d p) :
    ∃ v0 v1 n B A v2 v3 m C D, v = .agg #[v0, v1, .int .i64 n, v2, v3, .int .i64 m] ∧ (Lit.int .i64 n).wf = true ∧ ((∀ f ∈ B, Or.Fit f) ∧ (∀ f ∈ A, Or.Fit f)) ∧ (B.length ≤ maxLen ∧ A.length ≤ maxLen) ∧ (Rk.Shut v0 ∧ Rk.Shut v1) ∧ (Rk.View Or.S w v0 B ∧ Rk.View Or.S w v1 A) ∧ (Lit.int .i64 m).wf = true ∧ (C.length ≤ maxLen ∧ D.length ≤ maxLen) ∧ ((∀ i, i < C.length → (Lv.at' C i).2.length ≤ maxLen) ∧ (∀ i, i < D.length → (Lv.at' D i).2.length ≤ maxLen)) ∧ (Lv.View w v2 C ∧ Lv.View w v3 D) := by
  obtain ⟨cs, rfl, hsz⟩ := okWide_struct Try.underlying29 hv
  rw [show Try.prog.cellsOf 29 = 6 by kernel_rfl] at hsz
  obtain ⟨v0, v1, k0, v2, v3, k1, rfl⟩ : ∃ v0 v1 k0 v2 v3 k1, cs = #[v0, v1, k0, v2, v3, k1] := by
    obtain ⟨l⟩ := cs
    match l, hsz with
    | [x, y, z, x', y', z'], _ => exact ⟨x, y, z, x', y', z', rfl⟩
  obtain ⟨fuel, hf⟩ := h
  obtain ⟨xs, k, _, _, _, hxl, hff⟩ := DataW.trod_struct Try.underlying29 hf
  have cO : Try.prog.cellsOf 24 = 3 := by kernel_rfl
  have cN : Try.prog.cellsOf 27 = 3 := by kernel_rfl
  match xs, hxl with
  | [y0, y1], _ =>
    have g0 : DataW.trod enc Try.prog w 0 (fun _ => true) true k 24 (List.take (Try.prog.cellsOf 24) (List.drop 0 (Value.agg #[v0, v1, k0, v2, v3, k1]).cells.toList)) = [y0, y1][0]? := hff 0 _ rfl
    have g1 : DataW.trod enc Try.prog w 0 (fun _ => true) true k 27 (List.take (Try.prog.cellsOf 27) (List.drop 3 (Value.agg #[v0, v1, k0, v2, v3, k1]).cells.toList)) = [y0, y1][1]? := hff 1 _ rfl
    rw [cO] at g0
    rw [cN] at g1
    have q0 : DataW.trod enc Try.prog w 0 (fun _ => true) true k 24 [v0, v1, k0] = some y0 := by simpa [Value.cells] using g0
    have q1 : DataW.trod enc Try.prog w 0 (fun _ => true) true k 27 [v2, v3, k1] = some y1 := by simpa [Value.cells] using g1
    obtain ⟨n, B, A, rfl, wf, h1, h2, h3, h4⟩ := open_cells_old q0
    obtain ⟨m, C, D, rfl, wf', l1, l2, l3⟩ := open_cells_new q1
    exact ⟨v0, v1, n, B, A, v2, v3, m, C, D, rfl, wf, h1, h2, h3, h4, wf', l1, l2, l3⟩
end
end Sh
end Go.Proofs.Ytnhpcknbnmhlhaa

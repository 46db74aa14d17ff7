/- The law's own lists of Trade, read off an argument. No function of the program here. -/
import Derived.Test.YtficlppngnnpoaaProg
import Derived.Test.YtficlppngnnpoaaTradesKit
import Derived.Test.YtficlppngnnpoaaRecOpen
namespace Go.Proofs.Ytficlppngnnpoaa
open Go.ChangeShapes Go.WideShapes Go.Deep Go.RowKit
set_option linter.unusedVariables false
section
variable {H : Type} {enc : TypeId × Value → H}
set_option maxRecDepth 100000 in
theorem Td.open_one {w : World} : ∀ n cs' y, DataW.trod enc Try.prog w 0 (fun _ => true) true n 75 cs' = some y → cs'.length = Td.S.m → ∃ f, Td.Fit f ∧ cs' = Td.S.cs f := by
  intro n cs' y h hlen
  have cI : Try.prog.cellsOf 2 = 1 := by kernel_rfl
  obtain ⟨xs, k, _, _, _, hxl, hff⟩ := DataW.trod_struct Try.underlying75 h
  clear h
  match cs', hlen with
  | [x0, x1], _ =>
  match xs, hxl with
  | [y0, y1], _ =>
    have g0 : DataW.trod enc Try.prog w 0 (fun _ => true) true k 2 (List.take (Try.prog.cellsOf 2) (List.drop 0 [x0, x1])) = [y0, y1][0]? := hff 0 _ rfl
    rw [cI] at g0
    have q0 : DataW.trod enc Try.prog w 0 (fun _ => true) true k 2 [x0] = some y0 := by simpa using g0
    clear g0
    have g1 : DataW.trod enc Try.prog w 0 (fun _ => true) true k 2 (List.take (Try.prog.cellsOf 2) (List.drop 1 [x0, x1])) = [y0, y1][1]? := hff 1 _ rfl
    rw [cI] at g1
    have q1 : DataW.trod enc Try.prog w 0 (fun _ => true) true k 2 [x1] = some y1 := by simpa using g1
    clear g1
    clear hff
    obtain ⟨z0, e0, _, b0⟩ := DataW.trod_int Try.underlying2 q0
    simp at e0
    subst e0
    clear q0
    simp [Lit.wf] at b0
    obtain ⟨z1, e1, _, b1⟩ := DataW.trod_int Try.underlying2 q1
    simp at e1
    subst e1
    clear q1
    simp [Lit.wf] at b1
    exact ⟨(z0, z1), ⟨b0, b1⟩, rfl⟩
set_option maxRecDepth 100000 in
theorem Td.open_list {w : World} {r : Reach} {b0 : Nat} {v : Value} {d : DataW H} {p : List MemPlace} (hv : Value.okWide Try.prog w r b0 46 v) (h : DataW.Trod enc Try.prog w 0 (fun _ => true) true 46 v d p) :
    ∃ L : List Td.E, (∀ f ∈ L, Td.Fit f) ∧ L.length ≤ maxLen ∧ Rk.Shut v ∧ Rk.View Td.S w v L := by
  obtain ⟨a, n, c, rfl⟩ := okWide_slice Try.underlying46 hv
  obtain ⟨fuel, hf⟩ := h
  have q : DataW.trod enc Try.prog w 0 (fun _ => true) true fuel 46 [.slice a n c] = some (d, p) := hf
  obtain ⟨L, h1, h2, h3, h4⟩ := Rk.open_list (S := Td.S) Try.underlying46 (by kernel_rfl) Td.Fit Td.open_one q
  exact ⟨L, h1, h2, h4, h3⟩
end
end Go.Proofs.Ytficlppngnnpoaa

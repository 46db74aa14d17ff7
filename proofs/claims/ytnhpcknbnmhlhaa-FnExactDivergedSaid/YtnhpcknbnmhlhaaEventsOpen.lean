/- The law's own lists of Event, read off an argument. No function of the program here. -/
import Derived.Test.YtnhpcknbnmhlhaaProg
import Derived.Test.YtnhpcknbnmhlhaaEventsKit
import Derived.Test.YtnhpcknbnmhlhaaRecOpen
namespace Go.Proofs.Ytnhpcknbnmhlhaa
open Go.ChangeShapes Go.WideShapes Go.Deep Go.RowKit
set_option linter.unusedVariables false
section
variable {H : Type} {enc : TypeId × Value → H}
set_option maxRecDepth 100000 in
theorem Vt.open_one {w : World} : ∀ n cs' y, DataW.trod enc Try.prog w 0 (fun _ => true) true n 60 cs' = some y → cs'.length = Vt.S.m → ∃ f, Vt.Fit f ∧ cs' = Vt.S.cs f := by
  intro n cs' y h hlen
  have cI : Try.prog.cellsOf 2 = 1 := by kernel_rfl
  obtain ⟨xs, k, _, _, _, hxl, hff⟩ := DataW.trod_struct Try.underlying60 h
  clear h
  match cs', hlen with
  | [x0, x1, x2, x3, x4], _ =>
  match xs, hxl with
  | [y0, y1, y2, y3, y4], _ =>
    have g0 : DataW.trod enc Try.prog w 0 (fun _ => true) true k 2 (List.take (Try.prog.cellsOf 2) (List.drop 0 [x0, x1, x2, x3, x4])) = [y0, y1, y2, y3, y4][0]? := hff 0 _ rfl
    rw [cI] at g0
    have q0 : DataW.trod enc Try.prog w 0 (fun _ => true) true k 2 [x0] = some y0 := by simpa using g0
    clear g0
    have g1 : DataW.trod enc Try.prog w 0 (fun _ => true) true k 2 (List.take (Try.prog.cellsOf 2) (List.drop 1 [x0, x1, x2, x3, x4])) = [y0, y1, y2, y3, y4][1]? := hff 1 _ rfl
    rw [cI] at g1
    have q1 : DataW.trod enc Try.prog w 0 (fun _ => true) true k 2 [x1] = some y1 := by simpa using g1
    clear g1
    have g2 : DataW.trod enc Try.prog w 0 (fun _ => true) true k 2 (List.take (Try.prog.cellsOf 2) (List.drop 2 [x0, x1, x2, x3, x4])) = [y0, y1, y2, y3, y4][2]? := hff 2 _ rfl
    rw [cI] at g2
    have q2 : DataW.trod enc Try.prog w 0 (fun _ => true) true k 2 [x2] = some y2 := by simpa using g2
    clear g2
    have g3 : DataW.trod enc Try.prog w 0 (fun _ => true) true k 2 (List.take (Try.prog.cellsOf 2) (List.drop 3 [x0, x1, x2, x3, x4])) = [y0, y1, y2, y3, y4][3]? := hff 3 _ rfl
    rw [cI] at g3
    have q3 : DataW.trod enc Try.prog w 0 (fun _ => true) true k 2 [x3] = some y3 := by simpa using g3
    clear g3
    have g4 : DataW.trod enc Try.prog w 0 (fun _ => true) true k 2 (List.take (Try.prog.cellsOf 2) (List.drop 4 [x0, x1, x2, x3, x4])) = [y0, y1, y2, y3, y4][4]? := hff 4 _ rfl
    rw [cI] at g4
    have q4 : DataW.trod enc Try.prog w 0 (fun _ => true) true k 2 [x4] = some y4 := by simpa using g4
    clear g4
    clear hff
    obtain ⟨z0, e0, _, b0⟩ := DataW.trod_int Try.underlying2 q0
    simp at e0
    subst e0
    clear q0
    simp [Lit.wf] at b0
    obtain ⟨z1, e1, _, b1⟩ := DataW.trod_int Try.underlying2 q1
    simp at e1
    subst e1
    clear q1
    simp [Lit.wf] at b1
    obtain ⟨z2, e2, _, b2⟩ := DataW.trod_int Try.underlying2 q2
    simp at e2
    subst e2
    clear q2
    simp [Lit.wf] at b2
    obtain ⟨z3, e3, _, b3⟩ := DataW.trod_int Try.underlying2 q3
    simp at e3
    subst e3
    clear q3
    simp [Lit.wf] at b3
    obtain ⟨z4, e4, _, b4⟩ := DataW.trod_int Try.underlying2 q4
    simp at e4
    subst e4
    clear q4
    simp [Lit.wf] at b4
    exact ⟨(z0, z1, z2, z3, z4), ⟨b0, b1, b2, b3, b4⟩, rfl⟩
set_option maxRecDepth 100000 in
theorem Vt.open_list {w : World} {r : Reach} {b0 : Nat} {v : Value} {d : DataW H} {p : List MemPlace} (hv : Value.okWide Try.prog w r b0 43 v) (h : DataW.Trod enc Try.prog w 0 (fun _ => true) true 43 v d p) :
    ∃ L : List Vt.E, (∀ f ∈ L, Vt.Fit f) ∧ L.length ≤ maxLen ∧ Rk.Shut v ∧ Rk.View Vt.S w v L := by
  obtain ⟨a, n, c, rfl⟩ := okWide_slice Try.underlying43 hv
  obtain ⟨fuel, hf⟩ := h
  have q : DataW.trod enc Try.prog w 0 (fun _ => true) true fuel 43 [.slice a n c] = some (d, p) := hf
  obtain ⟨L, h1, h2, h3, h4⟩ := Rk.open_list (S := Vt.S) Try.underlying43 (by kernel_rfl) Vt.Fit Vt.open_one q
  exact ⟨L, h1, h2, h4, h3⟩
end
end Go.Proofs.Ytnhpcknbnmhlhaa

/- The law's newer book, read off an argument. No function of the program here. -/
import Derived.Test.YtnhpcknbnmhlhaaOldOpen
import Derived.Test.YtnhpcknbnmhlhaaLevelKit
namespace Go.Proofs.Ytnhpcknbnmhlhaa
open Go.ChangeShapes Go.WideShapes Go.Deep Go.RowKit
set_option linter.unusedVariables false
namespace Nb
section
variable {H : Type} {enc : TypeId × Value → H}
/-- a level's head that is read, with its orders -/
def Fit (w : World) (h : Lv.H) : Prop := ∃ M : List Or.E, M.length ≤ maxLen ∧ Rk.View Or.S w (Lv.sl h) M ∧ Rk.Shut (Lv.sl h)
set_option maxRecDepth 100000 in
theorem open_level {w : World} : ∀ n cs' y, DataW.trod enc Try.prog w 0 (fun _ => true) true n 81 cs' = some y → cs'.length = Lv.S.m → ∃ f, Fit w f ∧ cs' = Lv.S.cs f := by
  intro n cs' y h hlen
  have cI : Try.prog.cellsOf 2 = 1 := by kernel_rfl
  have cS : Try.prog.cellsOf 22 = 1 := by kernel_rfl
  obtain ⟨xs, k, _, _, _, hxl, hff⟩ := DataW.trod_struct Try.underlying81 h
  clear h
  match cs', hlen with
  | [x0, x1], _ =>
  match xs, hxl with
  | [y0, y1], _ =>
    have g0 : DataW.trod enc Try.prog w 0 (fun _ => true) true k 2 (List.take (Try.prog.cellsOf 2) (List.drop 0 [x0, x1])) = [y0, y1][0]? := hff 0 _ rfl
    rw [cI] at g0
    have q0 : DataW.trod enc Try.prog w 0 (fun _ => true) true k 2 [x0] = some y0 := by simpa using g0
    have g1 : DataW.trod enc Try.prog w 0 (fun _ => true) true k 22 (List.take (Try.prog.cellsOf 22) (List.drop 1 [x0, x1])) = [y0, y1][1]? := hff 1 _ rfl
    rw [cS] at g1
    have q1 : DataW.trod enc Try.prog w 0 (fun _ => true) true k 22 [x1] = some y1 := by simpa using g1
    obtain ⟨z, e0, _, wf⟩ := DataW.trod_int Try.underlying2 q0
    simp at e0
    subst e0
    obtain ⟨M, _, h2, h3, h4⟩ := Rk.open_list (S := Or.S) Try.underlying22 (by kernel_rfl) Or.Fit Ob.open_order q1
    obtain ⟨a, cap, rfl, hs⟩ := h3
    exact ⟨(z, a, M.length, cap), ⟨M, h2, ⟨a, cap, rfl, hs⟩, h4⟩, rfl⟩
theorem open_levels {w : World} {k : Nat} {v : Value} {y : DataW H × List MemPlace} (hs : DataW.trod enc Try.prog w 0 (fun _ => true) true k 25 [v] = some y) :
    ∃ L : List Lv.E, L.length ≤ maxLen ∧ (∀ i, i < L.length → (Lv.at' L i).2.length ≤ maxLen) ∧ Lv.View w v L := by
  obtain ⟨Hs, h1, h2, h3, h4⟩ := Rk.open_list (S := Lv.S) Try.underlying25 (by kernel_rfl) (Fit w) open_level hs
  have each : ∀ h : Lv.H, ∃ M : List Or.E, h ∈ Hs → M.length ≤ maxLen ∧ Rk.View Or.S w (Lv.sl h) M ∧ Rk.Shut (Lv.sl h) := fun h => by
    by_cases hh : h ∈ Hs
    · obtain ⟨M, hM⟩ := h1 h hh
      exact ⟨M, fun _ => hM⟩
    · exact ⟨[], fun e => absurd e hh⟩
  obtain ⟨F, hF⟩ : ∃ F : Lv.H → List Or.E, ∀ h, h ∈ Hs → (F h).length ≤ maxLen ∧ Rk.View Or.S w (Lv.sl h) (F h) ∧ Rk.Shut (Lv.sl h) := ⟨fun h => (each h).choose, fun h => (each h).choose_spec⟩
  have hat : ∀ i, i < Hs.length → Lv.at' (Hs.map fun h => (h.1, F h)) i = ((Rk.at_ Lv.S Hs i).1, F (Rk.at_ Lv.S Hs i)) := fun i hi => by
    rw [Lv.at_get _ _ (by simpa using hi), Rk.at_get _ _ hi, List.getElem_map]
  refine ⟨Hs.map fun h => (h.1, F h), by simpa using h2, fun i hi => ?_, Hs, by simp, h3, fun i hi => ?_⟩
  · have hi' : i < Hs.length := by simpa using hi
    rw [hat i hi']
    exact (hF _ (Rk.at_mem Hs i hi')).1
  · have hi' : i < Hs.length := by simpa using hi
    have hx := hF _ (Rk.at_mem (S := Lv.S) Hs i hi')
    refine ⟨?_, ?_, hx.2.2⟩
    · rw [hat i hi']
    · rw [hat i hi']; exact hx.2.1
set_option maxRecDepth 100000 in
theorem open_new {w : World} {r : Reach} {b0 : Nat} {v : Value} {d : DataW H} {p : List MemPlace} (hv : Value.okWide Try.prog w r b0 27 v) (h : DataW.Trod enc Try.prog w 0 (fun _ => true) true 27 v d p) :
    ∃ v0 v1 n B A, v = .agg #[v0, v1, .int .i64 n] ∧ (Lit.int .i64 n).wf = true ∧ (B.length ≤ maxLen ∧ A.length ≤ maxLen) ∧ ((∀ i, i < B.length → (Lv.at' B i).2.length ≤ maxLen) ∧ (∀ i, i < A.length → (Lv.at' A i).2.length ≤ maxLen)) ∧ (Lv.View w v0 B ∧ Lv.View w v1 A) := by
  obtain ⟨cs, rfl, hsz⟩ := okWide_struct Try.underlying27 hv
  rw [show Try.prog.cellsOf 27 = 3 by kernel_rfl] at hsz
  obtain ⟨v0, v1, k0, rfl⟩ : ∃ v0 v1 k0, cs = #[v0, v1, k0] := by
    obtain ⟨l⟩ := cs
    match l, hsz with
    | [x, y, z], _ => exact ⟨x, y, z, rfl⟩
  obtain ⟨fuel, hf⟩ := h
  obtain ⟨xs, k, _, _, _, hxl, hff⟩ := DataW.trod_struct Try.underlying27 hf
  have cI : Try.prog.cellsOf 2 = 1 := by kernel_rfl
  have cS : Try.prog.cellsOf 25 = 1 := by kernel_rfl
  match xs, hxl with
  | [y0, y1, y2], _ =>
    have g0 : DataW.trod enc Try.prog w 0 (fun _ => true) true k 25 (List.take (Try.prog.cellsOf 25) (List.drop 0 (Value.agg #[v0, v1, k0]).cells.toList)) = [y0, y1, y2][0]? := hff 0 _ rfl
    have g1 : DataW.trod enc Try.prog w 0 (fun _ => true) true k 25 (List.take (Try.prog.cellsOf 25) (List.drop 1 (Value.agg #[v0, v1, k0]).cells.toList)) = [y0, y1, y2][1]? := hff 1 _ rfl
    have g2 : DataW.trod enc Try.prog w 0 (fun _ => true) true k 2 (List.take (Try.prog.cellsOf 2) (List.drop 2 (Value.agg #[v0, v1, k0]).cells.toList)) = [y0, y1, y2][2]? := hff 2 _ rfl
    rw [cS] at g0 g1
    rw [cI] at g2
    have q0 : DataW.trod enc Try.prog w 0 (fun _ => true) true k 25 [v0] = some y0 := by simpa [Value.cells] using g0
    have q1 : DataW.trod enc Try.prog w 0 (fun _ => true) true k 25 [v1] = some y1 := by simpa [Value.cells] using g1
    have q2 : DataW.trod enc Try.prog w 0 (fun _ => true) true k 2 [k0] = some y2 := by simpa [Value.cells] using g2
    obtain ⟨z, e0, _, wf⟩ := DataW.trod_int Try.underlying2 q2
    simp at e0
    subst e0
    obtain ⟨B, h2, h3, h4⟩ := open_levels q0
    obtain ⟨A, l2, l3, l4⟩ := open_levels q1
    exact ⟨v0, v1, z, B, A, rfl, wf, ⟨h2, l2⟩, ⟨h3, l3⟩, ⟨h4, l4⟩⟩
end
end Nb
end Go.Proofs.Ytnhpcknbnmhlhaa

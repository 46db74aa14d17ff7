/- Bytes, read off an argument of the law. No function of the program here. -/
import Derived.Test.YtficlppngnnpoaaRecOpen
import Derived.Test.YtficlppngnnpoaaDraws
namespace Go.Proofs.Ytficlppngnnpoaa
open Go.ChangeShapes Go.WideShapes Go.Deep Go.RowKit
set_option linter.unusedVariables false
namespace Dk
/-- a byte as a list's element -/
def S8 : Rk.Shape Int where
  m := 1
  cs i := [.int .u8 i]
  z := 0
  pos := by decide
  len := fun _ => rfl
  one := fun a u hu => by simp at hu; subst hu; rfl
theorem open_bytes {H : Type} {enc : TypeId × Value → H} {P : Program} {w : World} {r : Reach} {b0 : Nat} {tSl tInt : TypeId} (hSl : P.underlying tSl = some (.slice tInt)) (hInt : P.underlying tInt = some (.int .u8)) (cInt : P.cellsOf tInt = 1)
    {v : Value} {d : DataW H} {p : List MemPlace} (hv : Value.okWide P w r b0 tSl v) (h : DataW.Trod enc P w 0 (fun _ => true) true tSl v d p) :
    ∃ (a : Option Addr) (n c : Nat), v = .slice a n c ∧ n ≤ maxLen ∧ Bytes w.heap.size w a n := by
  obtain ⟨a, n, c, rfl⟩ := okWide_slice hSl hv
  obtain ⟨fuel, hf⟩ := h
  have q : DataW.trod enc P w 0 (fun _ => true) true fuel tSl [.slice a n c] = some (d, p) := hf
  obtain ⟨T, h1, h2, h3, h4⟩ := Rk.open_list (S := S8) hSl cInt (fun i => 0 ≤ i ∧ i ≤ 255) (fun n cs' y hy hlen => by
    obtain ⟨s0, e0, _, z0⟩ := DataW.trod_int hInt hy
    have e1 : IntKind.u8.min = 0 := rfl
    have e2 : IntKind.u8.max = 255 := rfl
    simp [Lit.wf, e1, e2] at z0
    exact ⟨s0, z0, e0⟩) q
  obtain ⟨a', c', e, hs⟩ := h3
  simp only [Value.slice.injEq] at e
  obtain ⟨rfl, rfl, rfl⟩ := e
  refine ⟨_, _, _, rfl, h2, fun i hi => ?_⟩
  obtain ⟨b, o, e', hb, hsee⟩ := hs (by omega)
  have hx := h1 T[i] (List.getElem_mem hi)
  refine ⟨b, o, T[i], e', hb, ⟨hx.1, by omega⟩, ?_⟩
  have := hsee i hi 0 (by decide)
  simpa [S8, Rk.at_, List.getD, List.getElem?_eq_getElem hi] using this
end Dk
end Go.Proofs.Ytficlppngnnpoaa

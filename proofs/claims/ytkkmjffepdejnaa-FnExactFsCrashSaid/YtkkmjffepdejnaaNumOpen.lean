/- A list of numbers, read off an argument of the law. No function of the program here. -/
import Derived.Test.YtkkmjffepdejnaaRecOpen
import Derived.Test.YtkkmjffepdejnaaNumKit
namespace Go.Proofs.Ytkkmjffepdejnaa
open Go.ChangeShapes Go.WideShapes Go.Deep Go.RowKit
set_option linter.unusedVariables false
namespace Ik
/-- a number as a list's element -/
def S : Rk.Shape Int where
  m := 1
  cs i := [.int .i64 i]
  z := 0
  pos := by decide
  len := fun _ => rfl
  one := fun a u hu => by simp at hu; subst hu; rfl
theorem open_nums {H : Type} {enc : TypeId × Value → H} {P : Program} {w : World} {r : Reach} {b0 : Nat} {tSl tInt : TypeId} (hSl : P.underlying tSl = some (.slice tInt)) (hInt : P.underlying tInt = some (.int .i64)) (cInt : P.cellsOf tInt = 1)
    {v : Value} {d : DataW H} {p : List MemPlace} (hv : Value.okWide P w r b0 tSl v) (h : DataW.Trod enc P w 0 (fun _ => true) true tSl v d p) :
    ∃ T : List Int, (∀ i ∈ T, -9223372036854775808 ≤ i ∧ i ≤ 9223372036854775807) ∧ T.length ≤ maxLen ∧ Rk.Shut v ∧ View w v T := by
  obtain ⟨a, n, c, rfl⟩ := okWide_slice hSl hv
  obtain ⟨fuel, hf⟩ := h
  have q : DataW.trod enc P w 0 (fun _ => true) true fuel tSl [.slice a n c] = some (d, p) := hf
  obtain ⟨T, h1, h2, h3, h4⟩ := Rk.open_list (S := S) hSl cInt (fun i => -9223372036854775808 ≤ i ∧ i ≤ 9223372036854775807) (fun n cs' y hy hlen => by
    obtain ⟨s0, e0, _, z0⟩ := DataW.trod_int hInt hy
    simp [Lit.wf] at z0
    exact ⟨s0, z0, e0⟩) q
  refine ⟨T, h1, h2, h4, ?_⟩
  obtain ⟨a', c', e, hs⟩ := h3
  refine ⟨a', c', e, fun h0 => ?_⟩
  obtain ⟨b, o, e', hb, hsee⟩ := hs h0
  refine ⟨b, o, e', hb, fun i hi => ?_⟩
  have := hsee i hi 0 (by decide)
  simpa [S, Rk.at_, at_] using this
end Ik
end Go.Proofs.Ytkkmjffepdejnaa

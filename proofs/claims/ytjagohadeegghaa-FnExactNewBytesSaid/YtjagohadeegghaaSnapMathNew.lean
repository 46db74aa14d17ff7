/- Plain mathematics of a newer book's bytes. No function of the program here. -/
import Derived.Test.YtjagohadeegghaaSnapMath
import Derived.Test.YtjagohadeegghaaNewMath
namespace Go.Proofs.Ytjagohadeegghaa
namespace Sp
def newBytes (B A : List Lv.E) (n s : Int) : ByteArray := if Nb.right B A n && seqOk s then made true (Nb.flat B) (Nb.flat A) n s else ByteArray.empty
theorem fit_new {B A : List Lv.E} {n : Int} (h : Nb.right B A n = true) : (∀ k, k < (Nb.flat B).length → Or.Fit (Ob.at' (Nb.flat B) k)) ∧ (∀ k, k < (Nb.flat A).length → Or.Fit (Ob.at' (Nb.flat A) k)) ∧ 1 ≤ n ∧ n ≤ 1000000 ∧ (Nb.flat B).length ≤ 24 ∧ (Nb.flat A).length ≤ 24 := by
  simp only [Nb.right, Ob.both, Bool.and_eq_true, decide_eq_true_eq] at h
  obtain ⟨_, _, ⟨hf, h0, h1, _⟩, hp⟩ := h
  have hn := hf.2.1
  have hl := hf.2.2
  refine ⟨fun k hk => ?_, fun k hk => ?_, hf.1, hn, by omega, by omega⟩
  · have a := Ob.upTo_inv h0 k hk
    simp only [Ob.stepN, Bool.and_eq_true] at a
    have b := Ob.upTo_inv hp k (by rw [List.length_append]; omega)
    simp only [Ob.at_left _ _ k hk, Nb.peak, Bool.and_eq_true, decide_eq_true_eq] at b
    exact fit_of a.1 hn b.1 b.2.1
  · have a := Ob.upTo_inv h1 k hk
    simp only [Ob.stepN, Bool.and_eq_true] at a
    have b := Ob.upTo_inv hp ((Nb.flat B).length + k) (by rw [List.length_append]; omega)
    simp only [Ob.at_right, Nb.peak, Bool.and_eq_true, decide_eq_true_eq] at b
    exact fit_of a.1 hn b.1 b.2.1
end Sp
end Go.Proofs.Ytjagohadeegghaa

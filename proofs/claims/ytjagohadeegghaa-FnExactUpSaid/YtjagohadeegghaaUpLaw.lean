/- The law's own marks on what Up tells, as one step over its rows. -/
import Derived.Test.YtjagohadeegghaaNewMark2
import Derived.Test.YtjagohadeegghaaAnsKit
namespace Go.Proofs.Ytjagohadeegghaa
open Go.RowKit
set_option linter.unusedVariables false
theorem markUp_any (u v : Value) (n : Int) (P Q : List Lv.E) (a b : Nat) (w : World) (h : Aw.Lev w 103 55 a b u v P Q) (l0 : P.length ≤ 1048576) (l1 : Q.length ≤ 1048576) (m0 : (Nb.flat P).length ≤ 1048576) (m1 : (Nb.flat Q).length ≤ 1048576) :
    Calls Try.prog 22 #[.agg #[u, v, .int .i64 n], .int .i64 1] w fun e w' => (e = .returned (.int .i64 ((Lv.pos (Lv.pos 1 P P.length) Q Q.length : Nat) : Int)) ∧ Lv.View w' u (Lv.mks 1 P) ∧ Lv.View w' v (Lv.mks (Lv.pos 1 P P.length) Q)) ∧ Lv.Only a b w w' := by
  obtain ⟨HB, HA, mid, h1, h2, h3, h4, h5, h6, h7⟩ := h
  refine (markNew_all u v n P Q HB HA 1 a mid b w h1 h2 h3 h4 h5 h6 h7 l0 l1 m0 m1 (by decide) (by decide)).mono ?_
  rintro e w' ⟨⟨k1, rfl, e1, v1, v2⟩, g⟩
  exact ⟨⟨e1, v1, v2⟩, g⟩
end Go.Proofs.Ytjagohadeegghaa

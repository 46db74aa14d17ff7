/- What lies where, told by the types of blocks. No function of the program here. The walks of the law's own functions on lists of Event: sizes, copies, comparisons. -/
import Derived.Test.YtfagldipjpaceaaRowsKit
import Derived.Test.YtfagldipjpaceaaProg
import Derived.Test.YtfagldipjpaceaaJoined2
import Derived.WalkKit
import Derived.WalkSpells
import Derived.WalkLawsBesides
import Derived.BigRegion
import Derived.Deep.RegionWith
namespace Go.Proofs.Ytfagldipjpaceaa
open Go.RowKit
set_option linter.unusedVariables false
set_option linter.unusedSimpArgs false
/-- a block of cells of a type -/
def Wq.Kind (w : World) (b : Nat) (T : TypeId) : Prop := ∃ cs fr, w.heap[b]? = some (.cells cs T fr)
theorem Wq.Kind.of_block {w w' : World} {b : Nat} {T : TypeId} (h : Wq.Kind w b T) (e : w'.heap[b]? = w.heap[b]?) : Wq.Kind w' b T := by
  obtain ⟨cs, fr, h⟩ := h
  exact ⟨cs, fr, e.trans h⟩
theorem Wq.Kind.lt {w : World} {b : Nat} {T : TypeId} (h : Wq.Kind w b T) : b < w.heap.size := by
  obtain ⟨cs, fr, h⟩ := h
  exact (Array.getElem?_eq_some_iff.1 h).1
theorem Wq.Kind.setCell {w : World} {b : Nat} {T : TypeId} (h : Wq.Kind w b T) (p : Addr) (u : Value) : Wq.Kind (w.setCell p u) b T := by
  obtain ⟨cs, fr, h⟩ := h
  unfold Wq.Kind World.setCell
  simp only [Array.getElem?_modify, h]
  split
  · exact ⟨_, _, rfl⟩
  · exact ⟨_, _, rfl⟩
/-- rows of another type lie elsewhere -/
theorem Wq.Kind.off {α : Type} {S : Rk.Shape α} {w : World} {b base : Nat} {T e : TypeId} {v : Value} {L : List α} (h : Wq.Kind w b T) (ho : Rk.Own S w base e v L) (hne : T ≠ e) : v.ownBlock ≠ some b := by
  intro hb
  obtain ⟨cs, fr, h⟩ := h
  obtain ⟨_, hn | ⟨g, cap, cur, hv, _, hg, _⟩⟩ := ho
  · rw [hn.1] at hb; cases hb
  · rw [hv] at hb
    have : g = b := by simpa [Value.ownBlock] using hb
    subst this
    rw [hg] at h
    simp only [Option.some.injEq, Obj.cells.injEq] at h
    exact hne h.2.1.symm
/-- an owned list stays where its block stays -/
theorem Rk.own_block {α : Type} {S : Rk.Shape α} {w w' : World} {base : Nat} {e : TypeId} {v : Value} {L : List α} (h : Rk.Own S w base e v L) (hb : ∀ k, v.ownBlock = some k → w'.heap[k]? = w.heap[k]?) : Rk.Own S w' base e v L := by
  obtain ⟨hl, hn | ⟨g, cap, cur, hv, hbb, hg, r⟩⟩ := h
  · exact ⟨hl, .inl hn⟩
  · exact ⟨hl, .inr ⟨g, cap, cur, hv, hbb, (hb g (by rw [hv]; rfl)).trans hg, r⟩⟩
end Go.Proofs.Ytfagldipjpaceaa

namespace Go.Proofs.Ytfagldipjpaceaa
open Go.RowKit
set_option linter.unusedVariables false
set_option linter.unusedSimpArgs false
theorem infoEvent : (Try.prog.info? 48).map (fun i => (i.zero, i.size, i.bytes)) = some (some (.agg #[.int .i64 0, .int .i64 0, .int .i64 0, .int .i64 0, .int .i64 0]), 5, 40) := by kernel_rfl

end Go.Proofs.Ytfagldipjpaceaa

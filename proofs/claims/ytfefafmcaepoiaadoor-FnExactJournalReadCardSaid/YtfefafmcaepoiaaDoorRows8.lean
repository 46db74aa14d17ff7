/- A block of bytes of the call's own: what it holds, a store into it, its text. -/
import Derived.WalkKit
import Derived.Laws.BytesArg
namespace Go.Proofs.YtfefafmcaepoiaaDoor
/-- block b holds the bytes ys, and may be written -/
def Row8 (w : World) (b : Nat) (ys : List Int) : Prop :=
  (∀ i, i < ys.length → w.cell? ⟨b, i, none⟩ = some (.int .u8 (ys.getD i 0))) ∧ ∀ i, w.frozen? ⟨b, i, none⟩ = false

theorem row8_set {w : World} {b : Nat} {ys : List Int} (h : Row8 w b ys) (i : Nat) (x : Int) (hi : i < ys.length) : Row8 (w.setCell ⟨b, i, none⟩ (.int .u8 x)) b (ys.set i x) := by
  refine ⟨fun j hj => ?_, fun j => ?_⟩
  · simp at hj
    by_cases e : j = i
    · subst e
      rw [World.cell?_setCell_same _ _ _ (h.1 j hi)]
      simp [hi]
    · rw [World.cell?_setCell_other _ _ _ _ (by simp), h.1 j hj]
      simp [Ne.symm e]
  · rw [World.frozen?_setCell]; exact h.2 j

theorem row8_new (w : World) (t : TypeId) (ys : List Int) : Row8 (w.alloc (.cells (ys.map (Value.int .u8)).toArray t)) w.heap.size ys := by
  refine ⟨fun i hi => ?_, fun i => World.frozen?_alloc_new _ _ _ _⟩
  rw [World.cell?_alloc_new]
  simp [hi]

/-- the first k of them as a text -/
theorem row8_text {P : Program} {w : World} {b : Nat} {ys : List Int} (h : Row8 w b ys) (src dst e : TypeId) (hs : P.underlying src = some (.slice e)) (he : P.underlying e = some (.int .u8))
    (hd : P.underlying dst = some .string) (k cap : Nat) (hk : k ≤ ys.length) : (convert src dst (.slice (some ⟨b, 0, none⟩) k cap)).run P w = .ok (.string (strOfNums (ys.take k))) w :=
  run_convert_bytes_arg w src e hs he b 0 k cap (ys.take k) (by simp; omega) (fun i hi => by
    rw [show 0 + i = i by omega, h.1 i (by omega)]
    simp [hi]) dst hd

/-- an owned row of bytes as a text -/
theorem own8_text {P : Program} {w : World} {base : Nat} {v : Value} {n : Nat} {xs : List Int} {e : TypeId} (h : w.ownsRow base e 1 v n (xs.map (Value.int .u8))) (src dst : TypeId)
    (hs : P.underlying src = some (.slice e)) (he : P.underlying e = some (.int .u8)) (hd : P.underlying dst = some .string) : (convert src dst v).run P w = .ok (.string (strOfNums xs)) w := by
  obtain ⟨hl, h⟩ := h
  simp at hl
  rcases h with ⟨rfl, rfl⟩ | ⟨g, cap, cur, rfl, _, hb, hn, _, hc, ht⟩
  · have : xs = [] := List.length_eq_zero_iff.1 hl
    subst this
    exact run_convert_bytes_nil w src e hs he 0 0 dst hd
  · refine run_convert_bytes_arg w src e hs he g 0 n cap xs hl (fun i hi => ?_) dst hd
    have e1 : w.cell? ⟨g, 0 + i, none⟩ = cur[i]? := by simp [World.cell?, hb]
    rw [e1]
    have e2 : (cur.toList.take (n * 1))[i]? = cur[i]? := by simp [hi]
    rw [← e2, ht]
    simp [List.getElem?_map, List.getElem?_eq_getElem (show i < xs.length by omega)]
end Go.Proofs.YtfefafmcaepoiaaDoor

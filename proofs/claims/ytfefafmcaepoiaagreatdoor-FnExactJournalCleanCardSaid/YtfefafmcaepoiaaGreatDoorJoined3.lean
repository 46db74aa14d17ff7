/- A block of bytes of the call's own: what it holds, a store into it, its text. Bytes made, copied and cut: laws for the walk over a block of bytes of the call's own. -/
import Derived.WalkKit
import Derived.Laws.BytesArg
import Derived.Test.YtfefafmcaepoiaaGreatDoorProg
import Derived.Lib.LazyBuf
namespace Go.Proofs.YtfefafmcaepoiaaGreatDoor
/-- block b holds the bytes ys, and may be written -/
def Row8 (w : World) (b : Nat) (ys : List Int) : Prop :=
  (∀ i, i < ys.length → w.cell? ⟨b, i, none⟩ = some (.int .u8 (ys.getD i 0))) ∧ ∀ i, w.frozen? ⟨b, i, none⟩ = false

theorem row8_set {w : World} {b : Nat} {ys : List Int} (h : Row8 w b ys) (i : Nat) (x : Int) (hi : i < ys.length) : Row8 (w.setCell ⟨b, i, none⟩ (.int .u8 x)) b (ys.set i x) := by
  refine ⟨fun j hj => ?_, fun j => ?_⟩
  · simp at hj
    by_cases e : j = i
    · subst e
      rw [World.cell?_setCell_same _ _ _ (h.1 j hi)]
      simp [hi]
    · rw [World.cell?_setCell_other _ _ _ _ (by simp), h.1 j hj]
      simp [Ne.symm e]
  · rw [World.frozen?_setCell]; exact h.2 j

theorem row8_new (w : World) (t : TypeId) (ys : List Int) : Row8 (w.alloc (.cells (ys.map (Value.int .u8)).toArray t)) w.heap.size ys := by
  refine ⟨fun i hi => ?_, fun i => World.frozen?_alloc_new _ _ _ _⟩
  rw [World.cell?_alloc_new]
  simp [hi]

/-- the first k of them as a text -/
theorem row8_text {P : Program} {w : World} {b : Nat} {ys : List Int} (h : Row8 w b ys) (src dst e : TypeId) (hs : P.underlying src = some (.slice e)) (he : P.underlying e = some (.int .u8))
    (hd : P.underlying dst = some .string) (k cap : Nat) (hk : k ≤ ys.length) : (convert src dst (.slice (some ⟨b, 0, none⟩) k cap)).run P w = .ok (.string (strOfNums (ys.take k))) w :=
  run_convert_bytes_arg w src e hs he b 0 k cap (ys.take k) (by simp; omega) (fun i hi => by
    rw [show 0 + i = i by omega, h.1 i (by omega)]
    simp [hi]) dst hd

/-- an owned row of bytes as a text -/
theorem own8_text {P : Program} {w : World} {base : Nat} {v : Value} {n : Nat} {xs : List Int} {e : TypeId} (h : w.ownsRow base e 1 v n (xs.map (Value.int .u8))) (src dst : TypeId)
    (hs : P.underlying src = some (.slice e)) (he : P.underlying e = some (.int .u8)) (hd : P.underlying dst = some .string) : (convert src dst v).run P w = .ok (.string (strOfNums xs)) w := by
  obtain ⟨hl, h⟩ := h
  simp at hl
  rcases h with ⟨rfl, rfl⟩ | ⟨g, cap, cur, rfl, _, hb, hn, _, hc, ht⟩
  · have : xs = [] := List.length_eq_zero_iff.1 hl
    subst this
    exact run_convert_bytes_nil w src e hs he 0 0 dst hd
  · refine run_convert_bytes_arg w src e hs he g 0 n cap xs hl (fun i hi => ?_) dst hd
    have e1 : w.cell? ⟨g, 0 + i, none⟩ = cur[i]? := by simp [World.cell?, hb]
    rw [e1]
    have e2 : (cur.toList.take (n * 1))[i]? = cur[i]? := by simp [hi]
    rw [← e2, ht]
    simp [List.getElem?_map, List.getElem?_eq_getElem (show i < xs.length by omega)]
end Go.Proofs.YtfefafmcaepoiaaGreatDoor

namespace Go.Proofs.YtfefafmcaepoiaaGreatDoor
open Go.RowKit

/-- a text's bytes as numbers -/
def nums (t : ByteArray) : List Int := t.data.toList.map fun x => (x.toNat : Int)

theorem nums_length (t : ByteArray) : (nums t).length = t.size := by simp [nums]

theorem str_nums (t : ByteArray) : strOfNums (nums t) = t := by
  unfold strOfNums nums
  rw [List.map_map]
  have : (fun n : Int => UInt8.ofNat n.toNat) ∘ (fun x : UInt8 => (x.toNat : Int)) = id := by
    funext x; simp
  rw [this]; simp

theorem str_append (a b : List Int) : strOfNums (a ++ b) = strOfNums a ++ strOfNums b := by
  apply ByteArray.ext
  simp [strOfNums, ByteArray.data_append]

theorem str_join (a b : ByteArray) : strOfNums (nums a ++ nums b) = a ++ b := by rw [str_append, str_nums, str_nums]

theorem row8_setCells : ∀ (l : List Int) (o : Nat) (w : World) (b : Nat) (ys : List Int), Row8 w b ys → o + l.length ≤ ys.length → Row8 (w.setCells b o (l.map (Value.int .u8))) b (ys.take o ++ l ++ ys.drop (o + l.length))
  | [], o, w, b, ys, h, _ => by simpa [World.setCells] using h
  | x :: l, o, w, b, ys, h, hl => by
    simp at hl
    have := row8_setCells l (o + 1) _ b _ (row8_set h o x (by omega)) (by simp; omega)
    rw [List.map_cons, World.setCells]
    have e : (ys.set o x).take (o + 1) ++ l ++ (ys.set o x).drop (o + 1 + l.length) = ys.take o ++ (x :: l) ++ ys.drop (o + (x :: l).length) := by
      rw [List.take_succ_eq_append_getElem (by simp; omega), List.take_set_of_le (Nat.le_refl _), List.drop_set_of_lt (by omega)]
      simp [show o + 1 + l.length = o + (l.length + 1) by omega]
    rw [e] at this
    exact this

theorem size_setCells (b : Nat) : ∀ (vs : List Value) (o : Nat) (w : World), (w.setCells b o vs).heap.size = w.heap.size
  | [], _, _ => rfl
  | v :: r, o, w => by rw [World.setCells, size_setCells b r (o + 1)]; simp [World.setCell]

/-- 'copy(dst, text)' into a block of bytes of the call's own: its run, over a world that is told by what it holds -/
theorem copy8_run {P : Program} {w : World} (dT sT ty e : TypeId) (hu : P.underlying dT = some (.slice e)) (hz : ∀ w, (Go.sizeOf e).run P w = .ok 1 w)
    (b off dLen dCap : Nat) (t : ByteArray) (ys : List Int) (hrow : Row8 w b ys) (hle : t.size ≤ dLen) (hfit : off + t.size ≤ ys.length) :
    ∃ w', (Builtin.copy_ #[dT, sT] ty #[.slice (some ⟨b, off, none⟩) dLen dCap, .string t]).run P w = .ok (goInt t.size) w' ∧ Row8 w' b (ys.take off ++ nums t ++ ys.drop (off + t.size)) ∧ Below b w w' ∧ w'.heap.size = w.heap.size := by
  refine ⟨_, run_copy_string (P := P) w dT sT ty e b off dLen dCap t hu hz hle (fun j hj => by rw [hrow.1 (off + j) (by omega)]; rfl) (fun j _ => hrow.2 _), ?_, below_setCells (Nat.le_refl _) _ _ _ (Below.refl _ _), size_setCells _ _ _ _⟩
  have := row8_setCells (nums t) off w b ys hrow (by rw [nums_length]; exact hfit)
  rw [nums_length] at this
  unfold nums at this
  rw [List.map_map] at this
  exact this

/-- 'make([]byte, n)' -/
theorem wpList_make8 {P : Program} (w : World) {ops : Array Oper} {rest : List Oper} {o : Oper} {a : Act} {Q : Exit → Act → World → Prop}
    (hg : o.guard = none) (l c : Operand) (t : TypeId) (hop : o.op = Op.makeSlice t l c) (e : TypeId) (i : TypeInfo) (h1 : P.underlying t = some (.slice e)) (h2 : P.info? e = some i) (h3 : i.zero = some (.int .u8 0)) (h4 : i.size = 1) (h5 : i.bytes = 1)
    (n : Nat) (hl : a.eval l = .int .i64 n) (hc : a.eval c = .int .i64 n) (hn : n ≤ 281474976710656)
    (hK : ∀ w', Row8 w' w.heap.size (List.replicate n 0) → Below w.heap.size w w' → w'.heap.size = w.heap.size + 1 → wpList P ops Q rest (a.put o.dst (.slice (some ⟨w.heap.size, 0, none⟩) n n)) w') :
    wpList P ops Q (o :: rest) a w := by
  refine wpList_plain hg fun K hK' => ?_
  have hrun := run_make (P := P) w t e i (.int .u8 0) h1 h2 h3 .i64 .i64 n n (by omega) (by omega) (by rw [h5]; omega) (by omega)
  have e1 : madeCells (Value.int .u8 0).cells (n * i.size) = ((List.replicate n (0 : Int)).map (Value.int .u8)).toArray := by
    rw [h4]
    apply Array.ext
    · simp [size_madeCells]
    · intro j _ _
      simp [madeCells, Value.cells, Nat.mod_one]
  rw [Int.toNat_natCast, e1] at hrun
  unfold Oper.wp
  simp [execOp, hop, hl, hc, hrun, Result.andThen]
  refine hK' _ _ (hK _ ?_ ((Below.refl _ _).alloc (Nat.le_refl _) _) (by simp))
  simpa using row8_new w e (List.replicate n 0)

theorem Tryz.infoU8 : (Tryz.prog.info? 5).map (fun i => (i.zero, i.size, i.bytes)) = some (some (.int .u8 0), 1, 1) := by kernel_rfl
theorem size8 (w : World) : (sizeOf 5).run Tryz.prog w = .ok 1 w := by kernel_rfl
end Go.Proofs.YtfefafmcaepoiaaGreatDoor

/- The walk of the program's records one by one: what the iterator hands out, and that its bytes are there when it does. -/
import Derived.Test.YtfefafmcaepoiaaGreatDoorFindEntry
import Derived.Test.YtfefafmcaepoiaaGreatDoorRangeMem
import Derived.Test.YtfefafmcaepoiaaGreatDoorJoined3
import Derived.Laws.IdiomStrings
import Derived.RangeFuncBound
import Derived.Shelf.Abstract
import Derived.Shelf.RegionOpen
import Derived.OwnWalkIn
import Derived.TacticsInMore
import Derived.LoopNIn
import Derived.LoopIn
namespace Go.Proofs.YtfefafmcaepoiaaGreatDoor
set_option linter.unusedSimpArgs false
open Go.RowKit Go.Shelf
set_option linter.unusedVariables false
namespace Jn
/-- what the body is handed: the place behind a record, where its text lies, the text -/
structure Pc where
  q : Int
  b : Nat
  o : Nat
  t : ByteArray
def Pc.vals (x : Pc) : Array Value := #[.int .i64 x.q, .slice (some ⟨x.b, x.o, none⟩) x.t.size x.t.size]
def Pc.ent (x : Pc) : ByteArray × Int := (x.t, x.q)
/-- the text's bytes lie where it says, in a row of bytes -/
def There (s : ByteArray) (pre : List Pc) (x : Pc) (W : World) : Prop :=
  (pre.length : Int) ≤ s.size ∧ x.t.size ≤ 300 ∧ 0 ≤ x.q ∧ x.q ≤ s.size ∧
  ∃ cs fr, W.heap[x.b]? = some (.cells cs 5 fr) ∧ ∀ i, i < x.t.size → cs[x.o + i]? = some (.int .u8 ((nums x.t).getD i 0))
/-- what a round keeps: rows of bytes, and the box of the text -/
structure Kp (db : Nat) (W W' : World) : Prop where
  size : W.heap.size ≤ W'.heap.size
  rows : ∀ (b : Nat) cs fr, W.heap[b]? = some (.cells cs 5 fr) → W'.heap[b]? = some (.cells cs 5 fr)
  box : ∀ o, W.heap[db]? = some o → W'.heap[db]? = some o
theorem Kp.refl (db : Nat) (W : World) : Kp db W W := ⟨Nat.le_refl _, fun _ _ _ h => h, fun _ h => h⟩
theorem Kp.trans {db : Nat} {A B C : World} (h : Kp db A B) (k : Kp db B C) : Kp db A C :=
  ⟨Nat.le_trans h.size k.size, fun b cs fr hb => k.rows b cs fr (h.rows b cs fr hb), fun o ho => k.box o (h.box o ho)⟩
theorem Kp.put {db n : Nat} (hn : db < n) (W : World) (l : Nat) (o o' : Obj) (hl : n ≤ l) (h : W.heap[l]? = some o) (hc : o.isCells = false) : Kp db W (W.putObj l o') := by
  refine ⟨by simp, fun b cs fr hb => ?_, fun x hx => (World.putObj_heap_other (by omega)).trans hx⟩
  refine (World.putObj_heap_other (fun e => ?_)).trans hb
  subst e
  rw [h] at hb
  cases hb
  cases hc
theorem Kp.below {db : Nat} {W W' : World} (h : Below W.heap.size W W') : Kp db W W' :=
  ⟨h.size, fun b cs fr hb => (h.block b (Array.getElem?_eq_some_iff.1 hb).1).trans hb, fun o ho => (h.block db (Array.getElem?_eq_some_iff.1 ho).1).trans ho⟩
theorem There.own (s : ByteArray) (B : Nat) (x : Pc) (pre : List Pc) : OwnFrom B (fun (_ : Unit) W => There s pre x W) := by
  rintro _ X Y row ⟨h1, h2, h3, h4, cs, fr, hb, hc⟩ hg hr
  refine ⟨h1, h2, h3, h4, cs, fr, (hg.block _ (Array.getElem?_eq_some_iff.1 hb).1 (fun e => ?_)).trans hb, hc⟩
  obtain ⟨_, o, ho, hcl⟩ := hr x.b e.symm
  rw [hb] at ho
  cases ho
  cases hcl
theorem row_at (s : ByteArray) (cap i : Nat) (h : i < s.size) : (bytesRow s cap)[i]? = some (.int .u8 ((nums s).getD i 0)) := by
  have e : (nums s).getD i 0 = ((s.data[i]'(by simpa using h)).toNat : Int) := by
    simp [nums, List.getD, h]
  have h' : i < s.data.size := h
  rw [e]
  unfold bytesRow
  rw [Array.getElem?_append_left (by simpa using h')]
  simp
  exact ⟨_, Array.getElem?_eq_getElem h', rfl⟩
theorem nums_extract (s : ByteArray) (x e i : Nat) (he : e ≤ s.size) (h : i < (s.extract x e).size) : (nums (s.extract x e)).getD i 0 = (nums s).getD (x + i) 0 := by
  rw [ByteArray.size_extract] at h
  have h1 : x + i < s.size := by omega
  have h2 : i < (s.extract x e).data.toList.length := by
    simp [ByteArray.size_extract]
    omega
  simp only [nums, List.getD]
  rw [List.getElem?_map, List.getElem?_map, List.getElem?_eq_getElem h2, List.getElem?_eq_getElem (by simpa using h1)]
  simp [ByteArray.data_extract]
end Jn

theorem entriesIn_any (s : ByteArray) (w : World) :
    Calls Tryz.prog 78 #[.string s] w fun e w' => e = .returned (.func (.func 85) #[] #[.pointer (some ⟨w.heap.size, 0, none⟩)]) ∧ w' = w.alloc (.cells #[.string s] 9) := by
  go_enter Tryz.func78, Tryz.ntmps78
  go_wp2_with fail
  go_ret
  exact ⟨rfl, rfl⟩
end Go.Proofs.YtfefafmcaepoiaaGreatDoor

/- Lists of levels, each with a list of orders of its own: how such lists lie in memory, and how they are kept. No function of the program here. -/
import Derived.Test.YtnhpcknbnmhlhaaOrderKit
namespace Go.Proofs.Ytnhpcknbnmhlhaa
open Go.RowKit
set_option linter.unusedVariables false
set_option linter.unusedSimpArgs false
namespace Lv
/-- a level's head: its price, and where its orders lie -/
abbrev H := Int × Option Addr × Nat × Nat
def sl (h : H) : Value := .slice h.2.1 h.2.2.1 h.2.2.2
def S : Rk.Shape H where
  m := 2
  cs h := [.int .i64 h.1, sl h]
  z := (0, none, 0, 0)
  pos := by decide
  len := fun _ => rfl
  one := fun a u hu => by
    simp at hu
    rcases hu with rfl | rfl <;> rfl
/-- a level -/
abbrev E := Int × List Or.E
def at' (L : List E) (i : Nat) : E := L.getD i (0, [])
theorem at_get (L : List E) (i : Nat) (h : i < L.length) : at' L i = L[i] := by simp [at', List.getD, h]
theorem at_mem (L : List E) (i : Nat) (h : i < L.length) : at' L i ∈ L := by rw [at_get L i h]; exact List.getElem_mem h
theorem c0 {w : World} {b o k : Nat} {L : List H} (h : Rk.Sees S w b o L) (hk : k < L.length) : w.cell? ⟨b, o + k * 2, none⟩ = some (.int .i64 (Rk.at_ S L k).1) := h k hk 0 (by decide)
theorem c1 {w : World} {b o k : Nat} {L : List H} (h : Rk.Sees S w b o L) (hk : k < L.length) : w.cell? ⟨b, o + k * 2 + 1, none⟩ = some (sl (Rk.at_ S L k)) := h k hk 1 (by decide)
theorem o0 {w : World} {base g n cap k : Nat} {e : TypeId} {L : List H} (h : Rk.Own S w base e (.slice (some ⟨g, 0, none⟩) n cap) L) (hk : k < L.length) : w.cell? ⟨g, k * 2, none⟩ = some (.int .i64 (Rk.at_ S L k).1) := h.at hk 0 (by decide)
theorem o1 {w : World} {base g n cap k : Nat} {e : TypeId} {L : List H} (h : Rk.Own S w base e (.slice (some ⟨g, 0, none⟩) n cap) L) (hk : k < L.length) : w.cell? ⟨g, k * 2 + 1, none⟩ = some (sl (Rk.at_ S L k)) := h.at hk 1 (by decide)
theorem own_set {w : World} {base g n cap k : Nat} {e : TypeId} {L : List H} (h : Rk.Own S w base e (.slice (some ⟨g, 0, none⟩) n cap) L) (hk : k < L.length) (f : H) :
    Rk.Own S ((w.setCell ⟨g, k * 2, none⟩ (.int .i64 f.1)).setCell ⟨g, k * 2 + 1, none⟩ (sl f)) base e (.slice (some ⟨g, 0, none⟩) n cap) (L.set k f) := h.set hk f
/-- the orders of the level at a place are seen -/
structure Lies (w : World) (Hs : List H) (L : List E) (i : Nat) : Prop where
  price : (Rk.at_ S Hs i).1 = (at' L i).1
  view : Rk.View Or.S w (sl (Rk.at_ S Hs i)) (at' L i).2
  shut : Rk.Shut (sl (Rk.at_ S Hs i))
/-- a slice value that is the list of levels -/
def View (w : World) (v : Value) (L : List E) : Prop := ∃ Hs : List H, Hs.length = L.length ∧ Rk.View S w v Hs ∧ ∀ i, i < L.length → Lies w Hs L i
theorem Lies.below {w w' : World} {Hs : List H} {L : List E} {i : Nat} (h : Lies w Hs L i) (hB : Below w.heap.size w w') : Lies w' Hs L i := ⟨h.price, h.view.below hB, h.shut⟩
theorem View.below {w w' : World} {v : Value} {L : List E} (h : View w v L) (hB : Below w.heap.size w w') : View w' v L := by
  obtain ⟨Hs, h1, h2, h3⟩ := h
  exact ⟨Hs, h1, h2.below hB, fun i hi => (h3 i hi).below hB⟩
theorem View.slice {w : World} {v : Value} {L : List E} (h : View w v L) : ∃ a cap, v = .slice a L.length cap := by
  obtain ⟨Hs, h1, ⟨a, cap, rfl, _⟩, _⟩ := h
  exact ⟨a, cap, by rw [h1]⟩
theorem view_none (w : World) : View w (.slice none 0 0) [] := ⟨[], rfl, Rk.view_none w, fun i hi => absurd hi (by simp)⟩
/-- what is seen at a place: where it lies, its price, its orders -/
theorem View.at {w : World} {a : Option Addr} {n cap : Nat} {L : List E} (h : View w (.slice a n cap) L) {i : Nat} (hi : i < L.length) :
    ∃ b o q m c, a = some ⟨b, o, none⟩ ∧ b < w.heap.size ∧ w.cell? ⟨b, o + i * 2, none⟩ = some (.int .i64 (at' L i).1) ∧ w.cell? ⟨b, o + i * 2 + 1, none⟩ = some (.slice q m c) ∧ m = (at' L i).2.length ∧ Rk.View Or.S w (.slice q m c) (at' L i).2 ∧ Rk.Shut (.slice q m c) := by
  obtain ⟨Hs, h1, ⟨a', cap', e, hs⟩, h3⟩ := h
  simp only [Value.slice.injEq] at e
  obtain ⟨b, o, e', hb, hs'⟩ := hs (by omega)
  have l := h3 i hi
  have p0 := c0 hs' (k := i) (by omega)
  have p1 := c1 hs' (k := i) (by omega)
  rw [l.price] at p0
  have hm : (Rk.at_ S Hs i).2.2.1 = (at' L i).2.length := by
    obtain ⟨a2, c2, e2, _⟩ := l.view
    simp only [sl, Value.slice.injEq] at e2
    exact e2.2.1
  exact ⟨b, o, _, _, _, by rw [e.1, e'], hb, p0, p1, hm, l.view, l.shut⟩
/-- a list of levels that the call itself has made: the levels' row, and each level's orders, in rows of their own -/
structure Own (w : World) (base : Nat) (eh eo : TypeId) (v : Value) (L : List E) (Hs : List H) : Prop where
  len : Hs.length = L.length
  row : Rk.Own S w base eh v Hs
  price : ∀ i, i < L.length → (Rk.at_ S Hs i).1 = (at' L i).1
  each : ∀ i, i < L.length → Rk.Own Or.S w base eo (sl (Rk.at_ S Hs i)) (at' L i).2
  off : ∀ i, i < L.length → ∀ k, (sl (Rk.at_ S Hs i)).ownBlock = some k → v.ownBlock ≠ some k
  ne : ∀ i j, i < L.length → j < L.length → i ≠ j → ∀ k, (sl (Rk.at_ S Hs i)).ownBlock = some k → (sl (Rk.at_ S Hs j)).ownBlock ≠ some k
theorem Own.view {w : World} {base : Nat} {eh eo : TypeId} {v : Value} {L : List E} {Hs : List H} (h : Own w base eh eo v L Hs) : View w v L :=
  ⟨Hs, h.len, h.row.view, fun i hi => ⟨h.price i hi, (h.each i hi).view, (h.each i hi).shut⟩⟩
theorem Own.below {w w' : World} {base : Nat} {eh eo : TypeId} {v : Value} {L : List E} {Hs : List H} (h : Own w base eh eo v L Hs) (hB : Below w.heap.size w w') : Own w' base eh eo v L Hs :=
  ⟨h.len, h.row.below hB, h.price, fun i hi => (h.each i hi).below hB, h.off, h.ne⟩
theorem Own.mono {w : World} {base base' : Nat} {eh eo : TypeId} {v : Value} {L : List E} {Hs : List H} (h : Own w base eh eo v L Hs) (hb : base' ≤ base) : Own w base' eh eo v L Hs :=
  ⟨h.len, h.row.mono hb, h.price, fun i hi => (h.each i hi).mono hb, h.off, h.ne⟩
theorem own_nil (w : World) (base : Nat) (eh eo : TypeId) : Own w base eh eo (.slice none 0 0) [] [] :=
  ⟨rfl, Rk.own_nil w base eh, fun i hi => absurd hi (by simp), fun i hi => absurd hi (by simp), fun i hi => absurd hi (by simp), fun i j hi => absurd hi (by simp)⟩
/-- nothing but what lies in rows of these numbers has changed -/
structure Only (lo hi : Nat) (w w' : World) : Prop where
  os : w'.os = w.os
  tape : w'.tape = w.tape
  output : w'.output = w.output
  size : w.heap.size ≤ w'.heap.size
  block : ∀ k, k < w.heap.size → (k < lo ∨ hi ≤ k) → w'.heap[k]? = w.heap[k]?
theorem Only.refl (lo hi : Nat) (w : World) : Only lo hi w w := ⟨rfl, rfl, rfl, Nat.le_refl _, fun _ _ _ => rfl⟩
theorem Only.trans {lo hi : Nat} {a b c : World} (h : Only lo hi a b) (k : Only lo hi b c) : Only lo hi a c :=
  ⟨k.os.trans h.os, k.tape.trans h.tape, k.output.trans h.output, Nat.le_trans h.size k.size, fun i hi ho => (k.block i (Nat.lt_of_lt_of_le hi h.size) ho).trans (h.block i hi ho)⟩
theorem Only.of_grown {lo hi : Nat} {w w' : World} {row : Option Nat} (h : w.grownBy w' row) (hr : ∀ k, row = some k → lo ≤ k ∧ k < hi) : Only lo hi w w' :=
  ⟨h.os, h.tape, h.output, h.size, fun k hk ho => h.block k hk (fun e => by have := hr k e.symm; omega)⟩
theorem Only.of_below {lo hi : Nat} {w w' : World} (h : Below w.heap.size w w') : Only lo hi w w' := ⟨h.os, h.tape, h.output, h.size, fun k hk _ => h.block k hk⟩
theorem Only.below {B lo hi : Nat} {a w w' : World} (h : Only lo hi w w') (hB : Below B a w) (h0 : B ≤ w.heap.size) (h1 : B ≤ lo) : Below B a w' :=
  hB.trans ⟨h.os, h.tape, h.output, h.size, fun k hk => h.block k (by omega) (.inl (by omega))⟩
theorem Only.cell {lo hi : Nat} {w w' : World} (h : Only lo hi w w') {p : Addr} {v : Value} (hp : w.cell? p = some v) (ho : p.block < lo ∨ hi ≤ p.block) : w'.cell? p = some v :=
  (World.cell?_of_block (h.block p.block (World.block_lt_of_cell? w p hp) ho)).trans hp
theorem Only.keeps {α : Type} {S : Rk.Shape α} {lo hi base : Nat} {w w' : World} {e : TypeId} {v : Value} {L : List α} (h : Only lo hi w w') (ho : Rk.Own S w base e v L) (hv : ∀ k, v.ownBlock = some k → k < lo ∨ hi ≤ k) : Rk.Own S w' base e v L := by
  obtain ⟨hl, hn | ⟨g, cap, cur, hv', hbb, hg, r⟩⟩ := ho
  · exact ⟨hl, .inl hn⟩
  · refine ⟨hl, .inr ⟨g, cap, cur, hv', hbb, ?_, r⟩⟩
    rw [h.block g (Array.getElem?_eq_some_iff.1 hg).1 (hv g (by rw [hv']; rfl))]
    exact hg
end Lv
end Go.Proofs.Ytnhpcknbnmhlhaa

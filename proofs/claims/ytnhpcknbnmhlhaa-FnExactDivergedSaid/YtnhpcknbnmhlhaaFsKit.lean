/- Files in memory: a list of files (a name, data, how much is synced) as it lies behind a slice of structs, how it is read off an argument of the law, and how it is kept while new memory is made. No function of the program here. -/
import Derived.Deep.Slices
import Derived.Deep.Strs
import Derived.Deep.Heap
import Derived.Below
import Derived.OwnWalk
import Derived.Carry
import Derived.ChangeSame
namespace Go.Proofs.Ytnhpcknbnmhlhaa
open Go.ChangeShapes Go.WideShapes Go.Deep Go.RowKit
namespace Fk
theorem hide {p : Prop} (h : p) : Hid p := h
/-- a file: its name, its data, how much of it is synced -/
abbrev Fl := ByteArray × ByteArray × Int
def none_ : Fl := (ByteArray.empty, ByteArray.empty, 0)
def nm (L : List Fl) (i : Nat) : ByteArray := (L.getD i none_).1
def dt (L : List Fl) (i : Nat) : ByteArray := (L.getD i none_).2.1
def sy (L : List Fl) (i : Nat) : Int := (L.getD i none_).2.2
/-- the three cells of a file -/
def flc (f : Fl) : List Value := [.string f.1, .string f.2.1, .int .i64 f.2.2]
/-- the cells of a list of files, end to end -/
def flat (L : List Fl) : List Value := L.flatMap flc
/-- texts and numbers that a machine can hold -/
def Fit1 (f : Fl) : Prop := f.1.size ≤ maxLen ∧ f.2.1.size ≤ maxLen ∧ (-9223372036854775808 ≤ f.2.2 ∧ f.2.2 ≤ 9223372036854775807)
def Fits (L : List Fl) : Prop := ∀ f ∈ L, Fit1 f
/-- the files lie from the address on -/
structure Sees (w : World) (b o : Nat) (L : List Fl) : Prop where
  c0 : ∀ i, i < L.length → w.cell? ⟨b, o + i * 3, none⟩ = some (.string (nm L i))
  c1 : ∀ i, i < L.length → w.cell? ⟨b, o + i * 3 + 1, none⟩ = some (.string (dt L i))
  c2 : ∀ i, i < L.length → w.cell? ⟨b, o + i * 3 + 2, none⟩ = some (.int .i64 (sy L i))
/-- a slice value that is the list: where it has files, they lie at its address -/
def View (w : World) (v : Value) (L : List Fl) : Prop :=
  ∃ a cap, v = .slice a L.length cap ∧ (0 < L.length → ∃ b o, a = some ⟨b, o, none⟩ ∧ b < w.heap.size ∧ Sees w b o L)

theorem flat_length (L : List Fl) : (flat L).length = L.length * 3 := by
  induction L with
  | nil => rfl
  | cons f r ih =>
    have e : flat (f :: r) = flc f ++ flat r := by simp [flat]
    rw [e, List.length_append, ih]
    simp [flc]; omega

theorem flat_append (A B : List Fl) : flat (A ++ B) = flat A ++ flat B := by simp [flat]

theorem flat_get (L : List Fl) (i : Nat) (h : i < L.length) : (flat L)[i * 3]? = some (.string (nm L i)) ∧ (flat L)[i * 3 + 1]? = some (.string (dt L i)) ∧ (flat L)[i * 3 + 2]? = some (.int .i64 (sy L i)) := by
  induction L generalizing i with
  | nil => simp at h
  | cons f r ih =>
    have e : flat (f :: r) = flc f ++ flat r := by simp [flat]
    rw [e]
    cases i with
    | zero => simp [flc, nm, dt, sy]
    | succ j =>
      have hj : j < r.length := by simpa using h
      have := ih j hj
      have l3 : (flc f).length = 3 := by simp [flc]
      refine ⟨?_, ?_, ?_⟩
      · rw [List.getElem?_append_right (by omega), l3, show (j + 1) * 3 - 3 = j * 3 by omega]; simpa [nm] using this.1
      · rw [List.getElem?_append_right (by omega), l3, show (j + 1) * 3 + 1 - 3 = j * 3 + 1 by omega]; simpa [dt] using this.2.1
      · rw [List.getElem?_append_right (by omega), l3, show (j + 1) * 3 + 2 - 3 = j * 3 + 2 by omega]; simpa [sy] using this.2.2

theorem flat_one (L : List Fl) : ∀ u ∈ flat L, u.oneCell' = true := by
  intro u hu
  obtain ⟨f, _, hf⟩ := List.mem_flatMap.1 hu
  simp [flc] at hf
  rcases hf with rfl | rfl | rfl <;> rfl

/-- what is owned is seen -/
theorem sees_of_owns {w : World} {base : Nat} {e : TypeId} {g cap : Nat} {L : List Fl} (h : w.ownsRow base e 3 (.slice (some ⟨g, 0, none⟩) L.length cap) L.length (flat L)) : Sees w g 0 L := by
  obtain ⟨_, hn | ⟨g', cap', cur, hv, _, hg, _, _, _, ht⟩⟩ := h
  · cases hn.1
  · simp only [Value.slice.injEq, Option.some.injEq, Addr.mk.injEq] at hv
    obtain ⟨⟨rfl, _⟩, _, rfl⟩ := hv
    have key : ∀ j u, (flat L)[j]? = some u → w.cell? ⟨g, 0 + j, none⟩ = some u := by
      intro j u hu
      rw [← ht] at hu
      have := List.getElem?_take (l := cur.toList) (i := L.length * 3) (j := j)
      rw [hu] at this
      split at this
      · simp [World.cell?, hg]; simpa using this.symm
      · cases this
    refine ⟨fun i hi => ?_, fun i hi => ?_, fun i hi => ?_⟩
    · exact key _ _ (flat_get L i hi).1
    · have := key _ _ (flat_get L i hi).2.1; simpa [Nat.add_assoc] using this
    · have := key _ _ (flat_get L i hi).2.2; simpa [Nat.add_assoc] using this

theorem view_of_owns {w : World} {base : Nat} {e : TypeId} {v : Value} {L : List Fl} (h : w.ownsRow base e 3 v L.length (flat L)) : View w v L := by
  have h' := h
  obtain ⟨_, hn | ⟨g, cap, cur, rfl, _, hg, _, _, _, _⟩⟩ := h
  · exact ⟨none, 0, by rw [hn.1, hn.2], fun h0 => absurd h0 (by omega)⟩
  · exact ⟨_, cap, rfl, fun _ => ⟨g, 0, rfl, (Array.getElem?_eq_some_iff.1 hg).1, sees_of_owns h'⟩⟩

theorem Sees.below {B : Nat} {w w' : World} {b o : Nat} {L : List Fl} (h : Sees w b o L) (hb : b < B) (hB : Below B w w') : Sees w' b o L :=
  ⟨fun i hi => by rw [hB.cell (by exact hb)]; exact h.c0 i hi, fun i hi => by rw [hB.cell (by exact hb)]; exact h.c1 i hi, fun i hi => by rw [hB.cell (by exact hb)]; exact h.c2 i hi⟩

theorem View.below {w w' : World} {v : Value} {L : List Fl} (h : View w v L) (hB : Below w.heap.size w w') : View w' v L := by
  obtain ⟨a, cap, e, hs⟩ := h
  refine ⟨a, cap, e, fun h0 => ?_⟩
  obtain ⟨b, o, e', hb, hs'⟩ := hs h0
  exact ⟨b, o, e', Nat.lt_of_lt_of_le hb hB.size, hs'.below hb hB⟩

theorem owns_below {w w' : World} {base : Nat} {e : TypeId} {size : Nat} {v : Value} {n : Nat} {xs : List Value} (h : w.ownsRow base e size v n xs) (hB : Below w.heap.size w w') : w'.ownsRow base e size v n xs := by
  obtain ⟨hl, hn | ⟨g, cap, cur, hv, hb, hg, r⟩⟩ := h
  · exact ⟨hl, .inl hn⟩
  · refine ⟨hl, .inr ⟨g, cap, cur, hv, hb, ?_, r⟩⟩
    rw [hB.block g (Array.getElem?_eq_some_iff.1 hg).1]
    exact hg

theorem fits_get {L : List Fl} (h : Fits L) (i : Nat) : (nm L i).size ≤ maxLen ∧ (dt L i).size ≤ maxLen ∧ (-9223372036854775808 ≤ sy L i ∧ sy L i ≤ 9223372036854775807) := by
  by_cases hi : i < L.length
  · have := h (L.getD i none_) (by simp [List.getD, List.getElem?_eq_getElem hi])
    exact this
  · have e : L.getD i none_ = none_ := by simp [List.getD, List.getElem?_eq_none (Nat.le_of_not_lt hi)]
    unfold nm dt sy
    rw [e]
    refine ⟨?_, ?_, ?_, ?_⟩
    · exact Nat.zero_le _
    · exact Nat.zero_le _
    · decide
    · decide

theorem cellTop (w : World) (c : Array Value) (t : TypeId) (b j : Nat) (h : b = w.heap.size) : (w.alloc (.cells c t)).cell? ⟨b, j, none⟩ = c[j]? := by
  subst h
  have e : (w.alloc (.cells c t)).heap[w.heap.size]? = some (.cells c t) := by show (w.heap.push _)[w.heap.size]? = _; simp
  unfold World.cell?
  rw [e]
  rfl
theorem cellOld (w : World) (o : Obj) (b j : Nat) (h : b < w.heap.size) : (w.alloc o).cell? ⟨b, j, none⟩ = w.cell? ⟨b, j, none⟩ := by
  unfold World.cell?
  rw [blk_alloc_lt w o b h]
theorem frozTop (w : World) (c : Array Value) (t : TypeId) (b j : Nat) (h : b = w.heap.size) : (w.alloc (.cells c t)).frozen? ⟨b, j, none⟩ = false := by
  subst h
  have e : (w.alloc (.cells c t)).heap[w.heap.size]? = some (.cells c t) := by show (w.heap.push _)[w.heap.size]? = _; simp
  unfold World.frozen?
  rw [e]
  simp
theorem frozOld (w : World) (o : Obj) (b j : Nat) (h : b < w.heap.size) : (w.alloc o).frozen? ⟨b, j, none⟩ = w.frozen? ⟨b, j, none⟩ := by
  unfold World.frozen?
  rw [blk_alloc_lt w o b h]

/-- the list is owned: a slice that the call itself has made -/
def Own (w : World) (base : Nat) (e : TypeId) (v : Value) (L : List Fl) : Prop := w.ownsRow base e 3 v L.length (flat L)

theorem flat_set (L : List Fl) (k : Nat) (h : k < L.length) (f : Fl) : flat (L.set k f) = (((flat L).set (k * 3) (.string f.1)).set (k * 3 + 1) (.string f.2.1)).set (k * 3 + 2) (.int .i64 f.2.2) := by
  induction L generalizing k with
  | nil => simp at h
  | cons g r ih =>
    have e : flat (g :: r) = .string g.1 :: .string g.2.1 :: .int .i64 g.2.2 :: flat r := by simp [flat, flc]
    cases k with
    | zero => rw [e]; simp [flat, flc]
    | succ j =>
      have hj : j < r.length := by simpa using h
      have e2 : flat ((g :: r).set (j + 1) f) = .string g.1 :: .string g.2.1 :: .int .i64 g.2.2 :: flat (r.set j f) := by simp [flat, flc]
      rw [e2, e, ih j hj, show (j + 1) * 3 = j * 3 + 3 by omega, show j * 3 + 3 + 1 = j * 3 + 1 + 3 by omega, show j * 3 + 3 + 2 = j * 3 + 2 + 3 by omega]
      simp only [List.set_cons_succ]

theorem flat_set_data (L : List Fl) (k : Nat) (h : k < L.length) (d : ByteArray) : flat (L.set k (nm L k, d, sy L k)) = (flat L).set (k * 3 + 1) (.string d) := by
  rw [flat_set L k h]
  have g := flat_get L k h
  apply List.ext_getElem?
  intro j
  simp only [List.getElem?_set, List.length_set]
  by_cases h1 : k * 3 + 2 = j
  · subst h1
    have n1 : k * 3 + 2 < (flat L).length := by rw [flat_length]; omega
    rw [if_pos rfl, if_pos n1, if_neg (by omega), g.2.2]
  · rw [if_neg h1]
    by_cases h2 : k * 3 + 1 = j
    · rw [if_pos h2, if_pos h2]
    · rw [if_neg h2, if_neg h2]
      by_cases h3 : k * 3 = j
      · subst h3
        have n1 : k * 3 < (flat L).length := by rw [flat_length]; omega
        rw [if_pos rfl, if_pos n1, g.1]
      · rw [if_neg h3]

theorem flat_set_sync (L : List Fl) (k : Nat) (h : k < L.length) (s : Int) : flat (L.set k (nm L k, dt L k, s)) = (flat L).set (k * 3 + 2) (.int .i64 s) := by
  rw [flat_set L k h]
  have g := flat_get L k h
  apply List.ext_getElem?
  intro j
  simp only [List.getElem?_set, List.length_set]
  by_cases h1 : k * 3 + 2 = j
  · rw [if_pos h1, if_pos h1]
  · rw [if_neg h1, if_neg h1]
    by_cases h2 : k * 3 + 1 = j
    · subst h2
      have n1 : k * 3 + 1 < (flat L).length := by rw [flat_length]; omega
      rw [if_pos rfl, if_pos n1, g.2.1]
    · rw [if_neg h2]
      by_cases h3 : k * 3 = j
      · subst h3
        have n1 : k * 3 < (flat L).length := by rw [flat_length]; omega
        rw [if_pos rfl, if_pos n1, g.1]
      · rw [if_neg h3]

theorem flat_set_name (L : List Fl) (k : Nat) (h : k < L.length) (a : ByteArray) : flat (L.set k (a, dt L k, sy L k)) = (flat L).set (k * 3) (.string a) := by
  rw [flat_set L k h]
  have g := flat_get L k h
  apply List.ext_getElem?
  intro j
  simp only [List.getElem?_set, List.length_set]
  by_cases h1 : k * 3 + 2 = j
  · subst h1
    have n1 : k * 3 + 2 < (flat L).length := by rw [flat_length]; omega
    rw [if_pos rfl, if_pos n1, if_neg (by omega), g.2.2]
  · rw [if_neg h1]
    by_cases h2 : k * 3 + 1 = j
    · subst h2
      have n1 : k * 3 + 1 < (flat L).length := by rw [flat_length]; omega
      rw [if_pos rfl, if_pos n1, if_neg (by omega), g.2.1]
    · rw [if_neg h2]

theorem own_set_name {w : World} {base g cap : Nat} {e : TypeId} {L : List Fl} (h : Own w base e (.slice (some ⟨g, 0, none⟩) L.length cap) L) {k : Nat} (hk : k < L.length) (a : ByteArray) :
    Own (w.setCell ⟨g, k * 3, none⟩ (.string a)) base e (.slice (some ⟨g, 0, none⟩) L.length cap) (L.set k (a, dt L k, sy L k)) := by
  unfold Own
  rw [flat_set_name L k hk, List.length_set]
  exact (World.ownsRow.stored h (k * 3) (.string a)).1

theorem nm_set (L : List Fl) (k : Nat) (h : k < L.length) (f : Fl) : nm (L.set k f) k = f.1 ∧ dt (L.set k f) k = f.2.1 ∧ sy (L.set k f) k = f.2.2 := by
  simp [nm, dt, sy, List.getD, h]

theorem grownBy_trans {a b c : World} {row : Option Nat} (h : a.grownBy b row) (k : b.grownBy c row) : a.grownBy c row :=
  ⟨k.os.trans h.os, k.tape.trans h.tape, k.output.trans h.output, Nat.le_trans h.size k.size, fun i hi hr => (k.block i (Nat.lt_of_lt_of_le hi h.size) hr).trans (h.block i hi hr)⟩

theorem grownBy_below {a b : World} (row : Option Nat) (h : Below a.heap.size a b) : a.grownBy b row := ⟨h.os, h.tape, h.output, h.size, fun i hi _ => h.block i hi⟩

theorem grownBy_setCell (w : World) (g j : Nat) (u : Value) : w.grownBy (w.setCell ⟨g, j, none⟩ u) (some g) :=
  ⟨rfl, rfl, rfl, by simp [World.setCell], fun k _ hk => blk_setCell_other w ⟨g, j, none⟩ u k (fun e => hk (by rw [e]))⟩

theorem Own.kept {w w' : World} {base : Nat} {e : TypeId} {v : Value} {L : List Fl} {row : Option Nat} (h : Own w base e v L) (hg : w.grownBy w' row) (hne : ∀ k, v.ownBlock = some k → some k ≠ row) : Own w' base e v L := by
  refine World.ownsRow.kept h hg ?_
  cases hv : v.ownBlock with
  | none => exact .inl rfl
  | some k => exact .inr (hne k hv)

/-- one file stored whole into an owned row -/
theorem own_set {w : World} {base g cap : Nat} {e : TypeId} {L : List Fl} (h : Own w base e (.slice (some ⟨g, 0, none⟩) L.length cap) L) {k : Nat} (hk : k < L.length) (f : Fl) :
    Own (((w.setCell ⟨g, k * 3, none⟩ (.string f.1)).setCell ⟨g, k * 3 + 1, none⟩ (.string f.2.1)).setCell ⟨g, k * 3 + 2, none⟩ (.int .i64 f.2.2)) base e (.slice (some ⟨g, 0, none⟩) L.length cap) (L.set k f) := by
  have := (((World.ownsRow.stored h (k * 3) (.string f.1)).1.stored (k * 3 + 1) (.string f.2.1)).1.stored (k * 3 + 2) (.int .i64 f.2.2)).1
  unfold Own
  rw [flat_set L k hk, List.length_set]
  exact this

theorem own_set_data {w : World} {base g cap : Nat} {e : TypeId} {L : List Fl} (h : Own w base e (.slice (some ⟨g, 0, none⟩) L.length cap) L) {k : Nat} (hk : k < L.length) (d : ByteArray) :
    Own (w.setCell ⟨g, k * 3 + 1, none⟩ (.string d)) base e (.slice (some ⟨g, 0, none⟩) L.length cap) (L.set k (nm L k, d, sy L k)) := by
  unfold Own
  rw [flat_set_data L k hk, List.length_set]
  exact (World.ownsRow.stored h (k * 3 + 1) (.string d)).1

theorem own_set_sync {w : World} {base g cap : Nat} {e : TypeId} {L : List Fl} (h : Own w base e (.slice (some ⟨g, 0, none⟩) L.length cap) L) {k : Nat} (hk : k < L.length) (s : Int) :
    Own (w.setCell ⟨g, k * 3 + 2, none⟩ (.int .i64 s)) base e (.slice (some ⟨g, 0, none⟩) L.length cap) (L.set k (nm L k, dt L k, s)) := by
  unfold Own
  rw [flat_set_sync L k hk, List.length_set]
  exact (World.ownsRow.stored h (k * 3 + 2) (.int .i64 s)).1

theorem Own.below {w w' : World} {base : Nat} {e : TypeId} {v : Value} {L : List Fl} (h : Own w base e v L) (hB : Below w.heap.size w w') : Own w' base e v L := owns_below h hB

theorem Own.view {w : World} {base : Nat} {e : TypeId} {v : Value} {L : List Fl} (h : Own w base e v L) : View w v L := view_of_owns h

theorem Own.mono {w : World} {base base' : Nat} {e : TypeId} {v : Value} {L : List Fl} (h : Own w base e v L) (hb : base' ≤ base) : Own w base' e v L := by
  obtain ⟨hl, hn | ⟨g, cap, cur, hv, hbb, r⟩⟩ := h
  · exact ⟨hl, .inl hn⟩
  · exact ⟨hl, .inr ⟨g, cap, cur, hv, Nat.le_trans hb hbb, r⟩⟩

/-- an owned list, at one place: the cells, and that they may be written -/
theorem Own.at {w : World} {base g cap n : Nat} {e : TypeId} {L : List Fl} (h : Own w base e (.slice (some ⟨g, 0, none⟩) n cap) L) {k : Nat} (hk : k < L.length) :
    (w.cell? ⟨g, k * 3, none⟩ = some (.string (nm L k)) ∧ w.cell? ⟨g, k * 3 + 1, none⟩ = some (.string (dt L k)) ∧ w.cell? ⟨g, k * 3 + 2, none⟩ = some (.int .i64 (sy L k))) ∧
    (w.frozen? ⟨g, k * 3, none⟩ = false ∧ w.frozen? ⟨g, k * 3 + 1, none⟩ = false ∧ w.frozen? ⟨g, k * 3 + 2, none⟩ = false) := by
  have hn : n = L.length := by
    obtain ⟨_, h1 | ⟨g', cap', cur, hv, _⟩⟩ := h
    · cases h1.1
    · simp only [Value.slice.injEq] at hv; exact hv.2.1
  subst hn
  have g3 := flat_get L k hk
  have e0 := World.ownsRow.cellAt h (k * 3) (by omega)
  have e1 := World.ownsRow.cellAt h (k * 3 + 1) (by omega)
  have e2 := World.ownsRow.cellAt h (k * 3 + 2) (by omega)
  exact ⟨⟨e0.trans g3.1, e1.trans g3.2.1, e2.trans g3.2.2⟩, World.ownsRow.frozenAt h _, World.ownsRow.frozenAt h _, World.ownsRow.frozenAt h _⟩

theorem Own.form {w : World} {base : Nat} {e : TypeId} {v : Value} {L : List Fl} (h : Own w base e v L) : (v = .slice none 0 0 ∧ L = []) ∨ ∃ g cap, v = .slice (some ⟨g, 0, none⟩) L.length cap ∧ base ≤ g ∧ g < w.heap.size := by
  obtain ⟨_, h1 | ⟨g, cap, cur, hv, hb, hg, _⟩⟩ := h
  · exact .inl ⟨h1.1, List.eq_nil_of_length_eq_zero h1.2⟩
  · exact .inr ⟨g, cap, hv, hb, (Array.getElem?_eq_some_iff.1 hg).1⟩

theorem Own.slice {w : World} {base : Nat} {e : TypeId} {v : Value} {L : List Fl} (h : Own w base e v L) : ∃ a cap, v = .slice a L.length cap := by
  rcases h.form with ⟨h1, h2⟩ | ⟨g, c, h1, _⟩
  · subst h2; exact ⟨_, _, h1⟩
  · exact ⟨_, _, h1⟩

theorem Own.len {w : World} {base g cap n : Nat} {e : TypeId} {L : List Fl} (h : Own w base e (.slice (some ⟨g, 0, none⟩) n cap) L) : n = L.length := by
  obtain ⟨_, h1 | ⟨g', cap', cur, hv, _⟩⟩ := h
  · cases h1.1
  · simp only [Value.slice.injEq] at hv; exact hv.2.1

theorem Own.putName {w : World} {base g cap n : Nat} {e : TypeId} {L : List Fl} (h : Own w base e (.slice (some ⟨g, 0, none⟩) n cap) L) {k : Nat} (hk : k < L.length) (a : ByteArray) :
    Own (w.setCell ⟨g, k * 3, none⟩ (.string a)) base e (.slice (some ⟨g, 0, none⟩) n cap) (L.set k (a, dt L k, sy L k)) := by
  have hn := h.len
  subst hn
  exact own_set_name h hk a
theorem Own.putData {w : World} {base g cap n : Nat} {e : TypeId} {L : List Fl} (h : Own w base e (.slice (some ⟨g, 0, none⟩) n cap) L) {k : Nat} (hk : k < L.length) (d : ByteArray) :
    Own (w.setCell ⟨g, k * 3 + 1, none⟩ (.string d)) base e (.slice (some ⟨g, 0, none⟩) n cap) (L.set k (nm L k, d, sy L k)) := by
  have hn := h.len
  subst hn
  exact own_set_data h hk d
theorem Own.putSync {w : World} {base g cap n : Nat} {e : TypeId} {L : List Fl} (h : Own w base e (.slice (some ⟨g, 0, none⟩) n cap) L) {k : Nat} (hk : k < L.length) (s : Int) :
    Own (w.setCell ⟨g, k * 3 + 2, none⟩ (.int .i64 s)) base e (.slice (some ⟨g, 0, none⟩) n cap) (L.set k (nm L k, dt L k, s)) := by
  have hn := h.len
  subst hn
  exact own_set_sync h hk s

/-- the first files, and empty ones behind them -/
def fill (L : List Fl) (k : Nat) : List Fl := L.take k ++ List.replicate (L.length - k) none_
theorem fill_length (L : List Fl) (k : Nat) (h : k ≤ L.length) : (fill L k).length = L.length := by simp [fill]; omega
theorem fill_all (L : List Fl) : fill L L.length = L := by simp [fill]
theorem fill_none (L : List Fl) : fill L 0 = List.replicate L.length none_ := by simp [fill]
theorem fill_step (L : List Fl) (k : Nat) (h : k < L.length) : (fill L k).set k (nm L k, dt L k, sy L k) = fill L (k + 1) := by
  have e : (nm L k, dt L k, sy L k) = L[k] := by simp [nm, dt, sy, List.getD, List.getElem?_eq_getElem h]
  rw [e]
  unfold fill
  rw [show L.length - k = L.length - (k + 1) + 1 by omega, List.replicate_succ, List.set_append_right _ _ (by simp; omega)]
  have e2 : k - (L.take k).length = 0 := by simp; omega
  have t : L.take (k + 1) = L.take k ++ [L[k]] := by rw [List.take_add_one, List.getElem?_eq_getElem h]; rfl
  rw [e2, List.set_cons_zero, t, List.append_assoc]
  rfl

/-- what 'make' lays -/
theorem flat_made (n : Nat) : (madeCells #[.string ByteArray.empty, .string ByteArray.empty, .int .i64 0] (n * 3)).toList = flat (List.replicate n none_) := by
  apply List.ext_getElem?
  intro j
  by_cases hj : j < n * 3
  · have hi : j / 3 < (List.replicate n none_).length := by simp; omega
    have g := flat_get (List.replicate n none_) (j / 3) hi
    have e0 : nm (List.replicate n none_) (j / 3) = ByteArray.empty ∧ dt (List.replicate n none_) (j / 3) = ByteArray.empty ∧ sy (List.replicate n none_) (j / 3) = 0 := by
      have hi' : j / 3 < n := by simpa using hi
      simp [nm, dt, sy, List.getD, hi', none_]
    rw [e0.1, e0.2.1, e0.2.2] at g
    have h3 : j % 3 = 0 ∨ j % 3 = 1 ∨ j % 3 = 2 := by omega
    rcases h3 with h3 | h3 | h3
    · have ej : j = j / 3 * 3 := by omega
      have := g.1
      rw [← ej] at this
      rw [this]; simp [madeCells, hj, h3]
    · have ej : j = j / 3 * 3 + 1 := by omega
      have := g.2.1
      rw [← ej] at this
      rw [this]; simp [madeCells, hj, h3]
    · have ej : j = j / 3 * 3 + 2 := by omega
      have := g.2.2
      rw [← ej] at this
      rw [this]; simp [madeCells, hj, h3]
  · rw [List.getElem?_eq_none (by simp [madeCells]; omega), List.getElem?_eq_none (by rw [flat_length]; simp; omega)]

/-- '.agg' of a file -/
def val (f : Fl) : Value := .agg #[.string f.1, .string f.2.1, .int .i64 f.2.2]

section
variable {H : Type} {enc : TypeId × Value → H} {P : Program}

/-- an argument of the type of the law's files, opened -/
theorem open_fs {w : World} {r : Reach} {b0 : Nat} {tFs tSl tFl tStr tInt : TypeId} {f0 g0 g1 g2 : Field}
    (hFs : P.underlying tFs = some (.struct #[f0])) (cFs : P.cellsOf tFs = 1) (oF : f0.offset = 0) (tF : f0.type = tSl) (cSl : P.cellsOf tSl = 1)
    (hSl : P.underlying tSl = some (.slice tFl)) (hFl : P.underlying tFl = some (.struct #[g0, g1, g2])) (cFl : P.cellsOf tFl = 3)
    (o0 : g0.offset = 0) (o1 : g1.offset = 1) (o2 : g2.offset = 2) (t0 : g0.type = tStr) (t1 : g1.type = tStr) (t2 : g2.type = tInt)
    (cStr : P.cellsOf tStr = 1) (cInt : P.cellsOf tInt = 1) (hStr : P.underlying tStr = some .string) (hInt : P.underlying tInt = some (.int .i64))
    {v : Value} {d : DataW H} {p : List MemPlace} (hv : Value.okWide P w r b0 tFs v) (h : DataW.Trod enc P w 0 (fun _ => true) true tFs v d p) :
    ∃ v0 L, v = .agg #[v0] ∧ Fits L ∧ L.length ≤ maxLen ∧ View w v0 L := by
  obtain ⟨cs, rfl, hsz⟩ := okWide_struct hFs hv
  rw [cFs] at hsz
  obtain ⟨v0, rfl⟩ : ∃ v0, cs = #[v0] := by
    obtain ⟨l⟩ := cs
    match l, hsz with
    | [x], _ => exact ⟨x, rfl⟩
  obtain ⟨fuel, hf⟩ := h
  obtain ⟨y0, n, _, _, hs⟩ := trod_struct1 hFs hf
  rw [oF, tF, cSl] at hs
  have hs' : DataW.trod enc P w 0 (fun _ => true) true n tSl [v0] = some y0 := by simpa [Value.cells] using hs
  rcases open_slice hSl hs' with ⟨e, _⟩ | ⟨a, len, cap, m, n', D, Pl, e, _, hl, hm, hmm, _, hx⟩
  · simp at e
    subst e
    exact ⟨_, [], rfl, (fun f hf => by cases hf), Nat.zero_le _, ⟨none, 0, rfl, fun h => absurd h (by simp)⟩⟩
  · simp at e
    subst e
    have hmc : m = cap := by simpa using hmm
    have each : ∀ i, i < len → ∃ f : Fl, Fit1 f ∧ w.cell? (a.add (i * 3)) = some (.string f.1) ∧ w.cell? (a.add (i * 3 + 1)) = some (.string f.2.1) ∧ w.cell? (a.add (i * 3 + 2)) = some (.int .i64 f.2.2) := by
      intro i hi
      obtain ⟨cs', h1, h2⟩ := hx i (by omega)
      rw [cFl] at h1
      obtain ⟨_, hlen, hcell⟩ := World.cells?_some h1
      obtain ⟨y0, y1, y2, k, _, _, g0', g1', g2'⟩ := trod_struct3 hFl h2
      match cs', hlen with
      | [u0, u1, u2], _ =>
        rw [o0, t0, cStr] at g0'
        rw [o1, t1, cStr] at g1'
        rw [o2, t2, cInt] at g2'
        have q0 : DataW.trod enc P w 0 (fun _ => true) true k tStr [u0] = some y0 := by simpa using g0'
        have q1 : DataW.trod enc P w 0 (fun _ => true) true k tStr [u1] = some y1 := by simpa using g1'
        have q2 : DataW.trod enc P w 0 (fun _ => true) true k tInt [u2] = some y2 := by simpa using g2'
        obtain ⟨s0, e0, _, z0⟩ := DataW.trod_string hStr q0
        obtain ⟨s1, e1, _, z1⟩ := DataW.trod_string hStr q1
        obtain ⟨s2, e2, _, z2⟩ := DataW.trod_int hInt q2
        simp at e0 e1 e2
        subst e0 e1 e2
        have c0 := hcell 0 (by omega)
        have c1 := hcell 1 (by omega)
        have c2 := hcell 2 (by omega)
        rw [add_add] at c0 c1 c2
        simp [Lit.wf] at z2
        refine ⟨(s0, s1, s2), ⟨z0, z1, ?_⟩, by simpa using c0, by simpa using c1, by simpa using c2⟩
        exact z2
    obtain ⟨F, hF⟩ := choose_lt (α := Fl) each
    refine ⟨_, (List.range len).map F, rfl, ?_, by simp; omega, ?_⟩
    · intro f hf
      obtain ⟨i, hi, rfl⟩ := List.mem_map.1 hf
      exact (hF i (by simpa using hi)).1
    · by_cases h0 : len = 0
      · subst h0
        exact ⟨_, _, rfl, fun h => absurd h (by simp)⟩
      · obtain ⟨b, o, spot⟩ := a
        have hspot : spot = none := by
          have := (hF 0 (by omega)).2.1
          simpa [Addr.add] using World.cell?_spot this
        subst hspot
        have hlen : ((List.range len).map F).length = len := by simp
        have hg : ∀ i, i < len → ((List.range len).map F).getD i none_ = F i := fun i hi => by simp [List.getD, hi]
        refine ⟨_, cap, by rw [hlen], fun _ => ⟨b, o, rfl, ?_, ?_, ?_, ?_⟩⟩
        · have := (hF 0 (by omega)).2.1
          simp only [World.cell?, Nat.zero_mul, Addr.add, if_true] at this
          by_cases hb : b < w.heap.size
          · exact hb
          · simp [Array.getElem?_eq_none (Nat.le_of_not_lt hb)] at this
        · intro i hi
          rw [hlen] at hi
          have := (hF i hi).2.1
          rw [add_plain] at this
          unfold nm
          rw [hg i hi]
          exact this
        · intro i hi
          rw [hlen] at hi
          have := (hF i hi).2.2.1
          rw [add_plain, ← Nat.add_assoc] at this
          unfold dt
          rw [hg i hi]
          exact this
        · intro i hi
          rw [hlen] at hi
          have := (hF i hi).2.2.2
          rw [add_plain, ← Nat.add_assoc] at this
          unfold sy
          rw [hg i hi]
          exact this
end
end Fk
end Go.Proofs.Ytnhpcknbnmhlhaa

/- Lists of structs of any shape in memory: how such a list lies behind a slice, how it is kept while new memory is made, stored into, made, put behind another, and read off an argument of the law. No function of the program here. -/
import Derived.Test.YtnhpcknbnmhlhaaFsKit
import Derived.Lib.LazyBuf
namespace Go.Proofs.Ytnhpcknbnmhlhaa
open Go.ChangeShapes Go.WideShapes Go.Deep Go.RowKit
namespace Rk
/-- how a thing lies in cells -/
structure Shape (α : Type) where
  m : Nat
  cs : α → List Value
  z : α
  pos : 0 < m
  len : ∀ a, (cs a).length = m
  one : ∀ a, ∀ u ∈ cs a, u.oneCell' = true
section
variable {α : Type} (S : Shape α)
def at_ (L : List α) (i : Nat) : α := L.getD i S.z
def flat (L : List α) : List Value := L.flatMap S.cs
/-- the things lie from the address on -/
def Sees (w : World) (b o : Nat) (L : List α) : Prop := ∀ i, i < L.length → ∀ j, j < S.m → w.cell? ⟨b, o + i * S.m + j, none⟩ = (S.cs (at_ S L i))[j]?
/-- a slice value that is the list -/
def View (w : World) (v : Value) (L : List α) : Prop :=
  ∃ a cap, v = .slice a L.length cap ∧ (0 < L.length → ∃ b o, a = some ⟨b, o, none⟩ ∧ b < w.heap.size ∧ Sees S w b o L)
/-- a slice that the call itself has made -/
def Own (w : World) (base : Nat) (e : TypeId) (v : Value) (L : List α) : Prop := w.ownsRow base e S.m v L.length (flat S L)
end
section
variable {α : Type} {S : Shape α}
theorem flat_cons (f : α) (r : List α) : flat S (f :: r) = S.cs f ++ flat S r := by simp [flat]
theorem flat_append (A B : List α) : flat S (A ++ B) = flat S A ++ flat S B := by simp [flat]
theorem flat_length (L : List α) : (flat S L).length = L.length * S.m := by
  induction L with
  | nil => simp [flat]
  | cons f r ih => rw [flat_cons, List.length_append, ih, S.len, List.length_cons, Nat.succ_mul, Nat.add_comm]
theorem flat_get (L : List α) (i : Nat) (h : i < L.length) (j : Nat) (hj : j < S.m) : (flat S L)[i * S.m + j]? = (S.cs (at_ S L i))[j]? := by
  induction L generalizing i with
  | nil => simp at h
  | cons f r ih =>
    rw [flat_cons]
    cases i with
    | zero => rw [Nat.zero_mul, Nat.zero_add, List.getElem?_append_left (by rw [S.len]; exact hj)]; rfl
    | succ k =>
      have hk : k < r.length := by simpa using h
      have e : (k + 1) * S.m + j - (S.cs f).length = k * S.m + j := by rw [S.len, Nat.succ_mul]; omega
      rw [List.getElem?_append_right (by rw [S.len, Nat.succ_mul]; omega), e, ih k hk]
      rfl
theorem flat_one (L : List α) : ∀ u ∈ flat S L, u.oneCell' = true := by
  intro u hu
  obtain ⟨f, _, hf⟩ := List.mem_flatMap.1 hu
  exact S.one f u hf
theorem at_get (L : List α) (i : Nat) (h : i < L.length) : at_ S L i = L[i] := by simp [at_, List.getD, h]
theorem at_mem (L : List α) (i : Nat) (h : i < L.length) : at_ S L i ∈ L := by rw [at_get L i h]; exact List.getElem_mem h
theorem at_append_left (A B : List α) (i : Nat) (h : i < A.length) : at_ S (A ++ B) i = at_ S A i := by rw [at_get _ _ (by simp; omega), at_get _ _ h, List.getElem_append_left h]
theorem at_set (L : List α) (k : Nat) (h : k < L.length) (f : α) : at_ S (L.set k f) k = f := by simp [at_, List.getD, h]
theorem at_set_ne (L : List α) (k i : Nat) (h : k ≠ i) (f : α) : at_ S (L.set k f) i = at_ S L i := by simp [at_, List.getD, h]
theorem take_at (L : List α) (k : Nat) (h : k < L.length) : L.take (k + 1) = L.take k ++ [at_ S L k] := by
  rw [List.take_add_one, List.getElem?_eq_getElem h, at_get L k h]; rfl

theorem Own.form {w : World} {base : Nat} {e : TypeId} {v : Value} {L : List α} (h : Own S w base e v L) : (v = .slice none 0 0 ∧ L = []) ∨ ∃ g cap, v = .slice (some ⟨g, 0, none⟩) L.length cap ∧ base ≤ g ∧ g < w.heap.size := by
  obtain ⟨_, h1 | ⟨g, cap, cur, hv, hb, hg, _⟩⟩ := h
  · exact .inl ⟨h1.1, List.eq_nil_of_length_eq_zero h1.2⟩
  · exact .inr ⟨g, cap, hv, hb, (Array.getElem?_eq_some_iff.1 hg).1⟩
theorem Own.slice {w : World} {base : Nat} {e : TypeId} {v : Value} {L : List α} (h : Own S w base e v L) : ∃ a cap, v = .slice a L.length cap := by
  rcases h.form with ⟨h1, h2⟩ | ⟨g, c, h1, _⟩
  · subst h2; exact ⟨_, _, h1⟩
  · exact ⟨_, _, h1⟩
theorem Own.slice' {w : World} {base : Nat} {e : TypeId} {v : Value} {L : List α} (h : Own S w base e v L) : ∃ a n cap, v = .slice a n cap := by
  obtain ⟨a, c, h1⟩ := h.slice
  exact ⟨_, _, _, h1⟩
theorem Own.len {w : World} {base g cap n : Nat} {e : TypeId} {L : List α} (h : Own S w base e (.slice (some ⟨g, 0, none⟩) n cap) L) : n = L.length := by
  obtain ⟨_, h1 | ⟨g', cap', cur, hv, _⟩⟩ := h
  · cases h1.1
  · simp only [Value.slice.injEq] at hv; exact hv.2.1
theorem Own.at {w : World} {base g cap n : Nat} {e : TypeId} {L : List α} (h : Own S w base e (.slice (some ⟨g, 0, none⟩) n cap) L) {k : Nat} (hk : k < L.length) (j : Nat) (hj : j < S.m) :
    w.cell? ⟨g, k * S.m + j, none⟩ = (S.cs (at_ S L k))[j]? := by
  have hn := h.len
  subst hn
  have hlt : k * S.m + j < L.length * S.m := Nat.lt_of_lt_of_le (by omega : k * S.m + j < k * S.m + S.m) (by rw [← Nat.succ_mul]; exact Nat.mul_le_mul_right _ hk)
  rw [World.ownsRow.cellAt h _ hlt, flat_get L k hk j hj]
theorem Own.frozen {w : World} {base g cap n : Nat} {e : TypeId} {L : List α} (h : Own S w base e (.slice (some ⟨g, 0, none⟩) n cap) L) (j : Nat) : w.frozen? ⟨g, j, none⟩ = false := by
  have hn := h.len
  subst hn
  exact World.ownsRow.frozenAt h j
theorem Own.view {w : World} {base : Nat} {e : TypeId} {v : Value} {L : List α} (h : Own S w base e v L) : View S w v L := by
  rcases h.form with ⟨rfl, rfl⟩ | ⟨g, c, rfl, _, hg⟩
  · exact ⟨_, _, rfl, fun h0 => absurd h0 (Nat.lt_irrefl _)⟩
  · exact ⟨_, _, rfl, fun _ => ⟨g, 0, rfl, hg, fun i hi j hj => by rw [Nat.zero_add]; exact h.at hi j hj⟩⟩
theorem Sees.below {B : Nat} {w w' : World} {b o : Nat} {L : List α} (h : Sees S w b o L) (hb : b < B) (hB : Below B w w') : Sees S w' b o L :=
  fun i hi j hj => by rw [hB.cell (by exact hb)]; exact h i hi j hj
theorem View.below {w w' : World} {v : Value} {L : List α} (h : View S w v L) (hB : Below w.heap.size w w') : View S w' v L := by
  obtain ⟨a, cap, e, hs⟩ := h
  refine ⟨a, cap, e, fun h0 => ?_⟩
  obtain ⟨b, o, e', hb, hs'⟩ := hs h0
  exact ⟨b, o, e', Nat.lt_of_lt_of_le hb hB.size, hs'.below hb hB⟩
theorem Own.below {w w' : World} {base : Nat} {e : TypeId} {v : Value} {L : List α} (h : Own S w base e v L) (hB : Below w.heap.size w w') : Own S w' base e v L := Fk.owns_below h hB
theorem Own.mono {w : World} {base base' : Nat} {e : TypeId} {v : Value} {L : List α} (h : Own S w base e v L) (hb : base' ≤ base) : Own S w base' e v L := by
  obtain ⟨hl, hn | ⟨g, cap, cur, hv, hbb, r⟩⟩ := h
  · exact ⟨hl, .inl hn⟩
  · exact ⟨hl, .inr ⟨g, cap, cur, hv, Nat.le_trans hb hbb, r⟩⟩
theorem Own.kept {w w' : World} {base : Nat} {e : TypeId} {v : Value} {L : List α} {row : Option Nat} (h : Own S w base e v L) (hg : w.grownBy w' row) (hne : ∀ k, v.ownBlock = some k → some k ≠ row) : Own S w' base e v L := by
  refine World.ownsRow.kept h hg ?_
  cases hv : v.ownBlock with
  | none => exact .inl rfl
  | some k => exact .inr (hne k hv)
theorem Own.lt {w : World} {base : Nat} {e : TypeId} {v : Value} {L : List α} (h : Own S w base e v L) : ∀ k, v.ownBlock = some k → base ≤ k ∧ k < w.heap.size := World.ownsRow.lt h
theorem own_nil (w : World) (base : Nat) (e : TypeId) : Own S w base e (.slice none 0 0) [] := World.ownsRow_nil w base e S.m
theorem own_empty (w : World) (e : TypeId) (base : Nat) (hb : base ≤ w.heap.size) : Own S (w.alloc (.cells #[] e)) base e (.slice (some ⟨w.heap.size, 0, none⟩) 0 0) [] :=
  World.ownsRow_lit w #[] 0 hb (by unfold maxLen; omega) (by simp)
/-- a literal list of one -/
theorem own_lit1 (w : World) (e : TypeId) (base : Nat) (hb : base ≤ w.heap.size) (cs : Array Value) (f : α) (hc : cs.toList = S.cs f) : Own S (w.alloc (.cells cs e)) base e (.slice (some ⟨w.heap.size, 0, none⟩) 1 1) [f] := by
  have hs : cs.size = 1 * S.m := by rw [← Array.length_toList, hc, S.len, Nat.one_mul]
  have := World.ownsRow_lit (e := e) (size := S.m) w cs 1 hb (by unfold maxLen; omega) hs
  have e2 : flat S [f] = cs.toList := by rw [hc]; simp [flat]
  unfold Own
  rw [e2]
  exact this

/-- cells written over, from a place on -/
def over (xs : List Value) (j : Nat) : List Value → List Value
  | [] => xs
  | v :: r => over (xs.set j v) (j + 1) r
theorem over_eq : ∀ (vs xs : List Value) (j : Nat), j + vs.length ≤ xs.length → over xs j vs = xs.take j ++ vs ++ xs.drop (j + vs.length)
  | [], xs, j, _ => by simp [over]
  | v :: r, xs, j, h => by
    simp only [List.length_cons] at h
    rw [over, over_eq r _ _ (by simp; omega)]
    rw [List.take_succ_eq_append_getElem (by simp; omega), List.take_set_of_le (Nat.le_refl _), List.drop_set_of_lt (by omega)]
    simp [show j + 1 + r.length = j + (r.length + 1) by omega]
theorem stored_list {base g cap n size : Nat} {e : TypeId} : ∀ (vs : List Value) (j : Nat) (w : World) (xs : List Value), w.ownsRow base e size (.slice (some ⟨g, 0, none⟩) n cap) n xs →
    (w.setCells g j vs).ownsRow base e size (.slice (some ⟨g, 0, none⟩) n cap) n (over xs j vs)
  | [], j, w, xs, h => h
  | v :: r, j, w, xs, h => by
    rw [World.setCells, over]
    exact stored_list r (j + 1) _ _ (World.ownsRow.stored h j v).1
theorem flat_split (L : List α) (k : Nat) (h : k < L.length) (f : α) : flat S (L.set k f) = flat S (L.take k) ++ S.cs f ++ flat S (L.drop (k + 1)) := by
  rw [List.set_eq_take_append_cons_drop, if_pos h, flat_append, flat_cons, List.append_assoc]
theorem take_flat (L : List α) (k : Nat) (h : k ≤ L.length) : (flat S L).take (k * S.m) = flat S (L.take k) := by
  have e : L = L.take k ++ L.drop k := (List.take_append_drop k L).symm
  have hl : (flat S (L.take k)).length = k * S.m := by rw [flat_length, List.length_take, Nat.min_eq_left h]
  conv => lhs; rw [e, flat_append]
  rw [List.take_append_of_le_length (by omega), List.take_of_length_le (by omega)]
theorem drop_flat (L : List α) (k : Nat) (h : k ≤ L.length) : (flat S L).drop (k * S.m) = flat S (L.drop k) := by
  have e : L = L.take k ++ L.drop k := (List.take_append_drop k L).symm
  have hl : (flat S (L.take k)).length = k * S.m := by rw [flat_length, List.length_take, Nat.min_eq_left h]
  conv => lhs; rw [e, flat_append]
  rw [List.drop_append_of_le_length (by omega), List.drop_of_length_le (by omega), List.nil_append]
theorem Own.set {w : World} {base g cap n : Nat} {e : TypeId} {L : List α} (h : Own S w base e (.slice (some ⟨g, 0, none⟩) n cap) L) {k : Nat} (hk : k < L.length) (f : α) :
    Own S (w.setCells g (k * S.m) (S.cs f)) base e (.slice (some ⟨g, 0, none⟩) n cap) (L.set k f) := by
  have hn := h.len
  subst hn
  have hle : k * S.m + S.m ≤ L.length * S.m := by rw [← Nat.succ_mul]; exact Nat.mul_le_mul_right _ hk
  have := stored_list (S.cs f) (k * S.m) w _ h
  unfold Own
  rw [List.length_set]
  rw [over_eq _ _ _ (by rw [S.len, flat_length]; exact hle), S.len, take_flat L k (by omega), ← Nat.succ_mul, drop_flat L (k + 1) hk] at this
  rw [flat_split L k hk]
  exact this
/-- one cell of one thing is stored -/
theorem Own.put {w : World} {base g cap n : Nat} {e : TypeId} {L : List α} (h : Own S w base e (.slice (some ⟨g, 0, none⟩) n cap) L) {k : Nat} (hk : k < L.length) (j : Nat) (hj : j < S.m) (u : Value) (f : α) (hf : S.cs f = (S.cs (at_ S L k)).set j u) :
    Own S (w.setCell ⟨g, k * S.m + j, none⟩ u) base e (.slice (some ⟨g, 0, none⟩) n cap) (L.set k f) := by
  have hn := h.len
  subst hn
  have := (World.ownsRow.stored h (k * S.m + j) u).1
  unfold Own
  rw [List.length_set]
  have e1 : flat S L = flat S (L.take k) ++ S.cs (at_ S L k) ++ flat S (L.drop (k + 1)) := by
    have := flat_split (S := S) L k hk (at_ S L k)
    rw [at_get L k hk, List.set_getElem_self] at this
    rw [at_get L k hk]; exact this
  have hl : (flat S (L.take k)).length = k * S.m := by rw [flat_length, List.length_take, Nat.min_eq_left (by omega)]
  have e2 : flat S (L.set k f) = (flat S L).set (k * S.m + j) u := by
    rw [flat_split L k hk, e1, hf, List.append_assoc, List.append_assoc, List.set_append_right _ _ (by omega), hl, Nat.add_sub_cancel_left, List.set_append_left _ _ (by rw [S.len]; exact hj)]
  rw [e2]
  exact this

/-- the first things, and zeros behind them -/
def fill (S : Shape α) (L : List α) (k : Nat) : List α := L.take k ++ List.replicate (L.length - k) S.z
theorem fill_length (L : List α) (k : Nat) (h : k ≤ L.length) : (fill S L k).length = L.length := by simp [fill]; omega
theorem fill_all (L : List α) : fill S L L.length = L := by simp [fill]
theorem fill_none (L : List α) : fill S L 0 = List.replicate L.length S.z := by simp [fill]
theorem fill_step (L : List α) (k : Nat) (h : k < L.length) : (fill S L k).set k (at_ S L k) = fill S L (k + 1) := by
  unfold fill
  rw [show L.length - k = L.length - (k + 1) + 1 by omega, List.replicate_succ, List.set_append_right _ _ (by simp; omega)]
  have e2 : k - (L.take k).length = 0 := by simp; omega
  rw [e2, List.set_cons_zero, take_at (S := S) L k h, List.append_assoc]
  rfl
/-- what 'make' lays -/
theorem flat_made (n : Nat) (zc : Array Value) (hz : zc.toList = S.cs S.z) : (madeCells zc (n * S.m)).toList = flat S (List.replicate n S.z) := by
  have hs : zc.size = S.m := by rw [← Array.length_toList, hz, S.len]
  apply List.ext_getElem?
  intro j
  by_cases hj : j < n * S.m
  · have hi : j / S.m < (List.replicate n S.z).length := by rw [List.length_replicate]; exact (Nat.div_lt_iff_lt_mul S.pos).2 hj
    have hm : j % S.m < S.m := Nat.mod_lt _ S.pos
    have g := flat_get (S := S) (List.replicate n S.z) (j / S.m) hi (j % S.m) hm
    rw [Nat.mul_comm, Nat.div_add_mod] at g
    rw [g, at_get _ _ hi, List.getElem_replicate, ← hz]
    have hm2 : j % S.m < zc.size := by omega
    simp [madeCells, hj, hs]
    rw [getElem!_pos zc (j % S.m) hm2, Array.getElem?_eq_getElem hm2]
  · rw [List.getElem?_eq_none (by simp [madeCells]; omega), List.getElem?_eq_none (by rw [flat_length, List.length_replicate]; omega)]

/-- a nil slice has no room -/
def Shut (u : Value) : Prop := ∀ a n c, u = .slice a n c → a = none → c = 0
theorem shut_some (a : Addr) (n c : Nat) : Shut (.slice (some a) n c) := fun _ _ _ h e => by cases h; cases e
theorem shut_none : Shut (.slice none 0 0) := fun _ _ _ h e => by cases h; rfl
theorem Own.shut {w : World} {base : Nat} {e : TypeId} {v : Value} {L : List α} (h : Own S w base e v L) : Shut v := by
  rcases h.form with ⟨h1, _⟩ | ⟨g, c', h1, _⟩
  · rw [h1]; exact shut_none
  · rw [h1]; exact shut_some _ _ _
theorem sees_cell {w : World} {b o : Nat} {L : List α} (h : Sees S w b o L) : ∀ j u, (flat S L)[j]? = some u → w.cell? ((⟨b, o, none⟩ : Addr).add j) = some u := by
  intro j u hu
  have hj : j < L.length * S.m := by
    have := (List.getElem?_eq_some_iff.1 hu).1
    rwa [flat_length] at this
  have hi : j / S.m < L.length := (Nat.div_lt_iff_lt_mul S.pos).2 hj
  have hm : j % S.m < S.m := Nat.mod_lt _ S.pos
  have g := flat_get L (j / S.m) hi (j % S.m) hm
  have c := h (j / S.m) hi (j % S.m) hm
  have ej : j / S.m * S.m + j % S.m = j := by rw [Nat.mul_comm]; exact Nat.div_add_mod _ _
  rw [Nat.add_assoc, ej] at c
  rw [ej] at g
  rw [Addr.add_lit, c, ← g, hu]
theorem view_of {w : World} {b o n c : Nat} {N : List α} (h : Sees S w b o N) (hb : b < w.heap.size) (hn : n = N.length) : View S w (.slice (some ⟨b, o, none⟩) n c) N :=
  ⟨_, c, by rw [hn], fun _ => ⟨b, o, rfl, hb, h⟩⟩
theorem view_none (w : World) : View S w (.slice none 0 0) [] := ⟨none, 0, rfl, fun h => absurd h (Nat.lt_irrefl _)⟩
theorem view_lit1 (w : World) (e : TypeId) (cs : Array Value) (f : α) (hc : cs.toList = S.cs f) : View S (w.alloc (.cells cs e)) (.slice (some ⟨w.heap.size, 0, none⟩) 1 1) [f] :=
  (own_lit1 w e 0 (Nat.zero_le _) cs f hc).view
theorem sees_take {w : World} {b o : Nat} {L : List α} (h : Sees S w b o L) (k : Nat) : Sees S w b o (L.take k) := by
  intro i hi j hj
  have hi' : i < L.length := by simp at hi; omega
  have e : at_ S (L.take k) i = at_ S L i := by rw [at_get _ _ hi, at_get _ _ hi', List.getElem_take]
  rw [e]; exact h i hi' j hj
theorem sees_drop {w : World} {b o : Nat} {L : List α} (h : Sees S w b o L) (k : Nat) : Sees S w b (o + k * S.m) (L.drop k) := by
  intro i hi j hj
  have hi' : k + i < L.length := by simp at hi; omega
  have e : at_ S (L.drop k) i = at_ S L (k + i) := by rw [at_get _ _ hi, at_get _ _ hi', List.getElem_drop]
  have := h (k + i) hi' j hj
  rw [Nat.add_mul, ← Nat.add_assoc] at this
  rw [e]; exact this

/-- a seen list put behind an owned one -/
theorem wpList_append_view {P : Program} (w : World) {ops : Array Oper} {rest : List Oper} {o : Oper} {a : Act} {Q : Exit → Act → World → Prop} (hgd : o.guard = none) (s x : Operand) (t : TypeId)
    (ho : o.op = .call { callee := .builtin .append, args := #[s, x], argTypes := #[t, t] })
    (base : Nat) (e : TypeId) (i : TypeInfo) (z : Value) (m by_ : Nat) (hm : S.m = m) (ht : P.underlying t = some (.slice e)) (hi : P.info? e = some i) (hz : i.zero = some z) (hsize : i.size = m) (hby : i.bytes = by_) (hzs : z.cells.size = m) (hb1 : by_ ≤ 1000)
    (v u : Value) (M N : List α) (hs : a.eval s = v) (hx : a.eval x = u) (hM : Own S w base e v M) (hN : View S w u N) (hu : Shut u) (hl : M.length + N.length ≤ 1000000000) (hb : base ≤ w.heap.size)
    (h : ∀ v' w', Own S w' base e v' (M ++ N) → w.grownBy w' v.ownBlock → wpList P ops Q rest (a.put o.dst v') w') : wpList P ops Q (o :: rest) a w := by
  subst hm
  obtain ⟨ao, cap, rfl, hN⟩ := hN
  have fin : ∀ v' w', w'.ownsRow base e S.m v' (M.length + N.length) (flat S M ++ flat S N) → Own S w' base e v' (M ++ N) := fun v' w' hr => by
    unfold Own
    rw [flat_append, List.length_append]
    exact hr
  cases ao with
  | none =>
    have hc := hu _ _ _ rfl rfl
    subst hc
    have hN0 : N = [] := by
      cases N with
      | nil => rfl
      | cons f r => obtain ⟨b, o', e', _⟩ := hN (by simp); cases e'
    subst hN0
    refine wpList_plain hgd fun K hK => ?_
    have hrun := run_append_owned_none (P := P) w base t o.type e i S.m ht hi v M.length (flat S M) hM
    unfold Oper.wp
    have e0 : (Value.slice none ([] : List α).length 0) = .slice none 0 0 := rfl
    rw [e0] at hx
    simp [execOp, ho, resolve, invoke, builtin, hs, hx, hrun, Result.andThen]
    exact hK _ _ (h _ w (by simpa using hM) (World.grownBy.refl _ _))
  | some ad =>
    refine wpList_append_own w hgd s x t ho base e i z S.m by_ ht hi hz hsize hby hzs S.pos v M.length (flat S M) hs hM ad N.length cap (flat S N) hx (flat_length N) ?_ (flat_one N) (by unfold maxLen; omega) ?_ hb ?_
    · intro j u hju
      have hp : 0 < N.length := by
        cases N with
        | nil => simp [flat] at hju
        | cons _ _ => simp
      obtain ⟨b, o', e', _, hsee⟩ := hN hp
      obtain rfl := Option.some.inj e'
      exact sees_cell hsee j u hju
    · exact Nat.le_trans (Nat.mul_le_mul hl hb1) (by decide)
    · intro v' w' h1 h2 _
      exact h v' w' (fin v' w' h1) h2
end
end Rk
end Go.Proofs.Ytnhpcknbnmhlhaa

/- Lists of levels that grow by a level, and levels whose orders are replaced. No function of the program here. -/
import Derived.Test.YtnhpcknbnmhlhaaLevelMore
import Derived.Test.YtnhpcknbnmhlhaaLevelMark
import Derived.Test.YtnhpcknbnmhlhaaOrderMark
namespace Go.Proofs.Ytnhpcknbnmhlhaa
open Go.RowKit
set_option linter.unusedVariables false
set_option linter.unusedSimpArgs false
namespace Lv
theorem at_append_left (L M : List E) (i : Nat) (h : i < L.length) : at' (L ++ M) i = at' L i := by simp [at', List.getD, List.getElem?_append_left h]
theorem at_last (L : List E) (e : E) : at' (L ++ [e]) L.length = e := by simp [at', List.getD]
theorem h_last (L : List H) (e : H) : Rk.at_ S (L ++ [e]) L.length = e := by simp [Rk.at_, List.getD]
/-- one level more behind the list; its orders lie apart -/
theorem Own.push {w w' : World} {base : Nat} {eh eo : TypeId} {v v' : Value} {L : List E} {Hs : List H} (h : Own w base eh eo v L Hs) (f : H) (O : List Or.E) (ho : Rk.Own Or.S w base eo (sl f) O)
    (hs : ∀ k, (sl f).ownBlock = some k → v.ownBlock ≠ some k ∧ ∀ i, i < L.length → (sl (Rk.at_ S Hs i)).ownBlock ≠ some k)
    (hr : Rk.Own S w' base eh v' (Hs ++ [f])) (hg : w.grownBy w' v.ownBlock) (hv : ∀ k, v'.ownBlock = some k → v.ownBlock = some k ∨ w.heap.size ≤ k) :
    Own w' base eh eo v' (L ++ [(f.1, O)]) (Hs ++ [f]) := by
  have hl := h.len
  have left : ∀ i, i < L.length → Rk.at_ S (Hs ++ [f]) i = Rk.at_ S Hs i := fun i hi => Rk.at_append_left _ _ _ (by omega)
  have last : Rk.at_ S (Hs ++ [f]) L.length = f := by rw [← hl]; exact h_last _ _
  have cases' : ∀ i, i < (L ++ [(f.1, O)]).length → i < L.length ∨ i = L.length := fun i hi => by simp at hi; omega
  refine ⟨by simp [hl], hr, fun i hi => ?_, fun i hi => ?_, fun i hi k hk => ?_, fun i j hi hj hne k hk => ?_⟩
  · rcases cases' i hi with c | rfl
    · rw [left i c, at_append_left _ _ _ c]; exact h.price i c
    · rw [last, at_last]
  · rcases cases' i hi with c | rfl
    · rw [left i c, at_append_left _ _ _ c]
      exact (h.each i c).kept hg (fun k hk e => h.off i c k hk e.symm)
    · rw [last, at_last]
      exact ho.kept hg (fun k hk e => (hs k hk).1 e.symm)
  · intro e
    rcases cases' i hi with c | rfl
    · rw [left i c] at hk
      rcases hv k e with e2 | e2
      · exact h.off i c k hk e2
      · have := ((h.each i c).lt k hk).2; omega
    · rw [last] at hk
      rcases hv k e with e2 | e2
      · exact (hs k hk).1 e2
      · have := (ho.lt k hk).2; omega
  · rcases cases' i hi with c | rfl
    · rw [left i c] at hk
      rcases cases' j hj with d | rfl
      · rw [left j d]; exact h.ne i j c d hne k hk
      · rw [last]; exact fun e => (hs k e).2 i c hk
    · rw [last] at hk
      rcases cases' j hj with d | rfl
      · rw [left j d]; exact (hs k hk).2 j d
      · exact absurd rfl hne
/-- made behind all that was there -/
theorem Own.push_new {w0 w w' : World} {base : Nat} {eh eo : TypeId} {v v' : Value} {L : List E} {Hs : List H} (h0 : Own w0 base eh eo v L Hs) (hB : Below w0.heap.size w0 w) (hb : base ≤ w0.heap.size) (f : H) (O : List Or.E) (ho : Rk.Own Or.S w w0.heap.size eo (sl f) O)
    (hr : Rk.Own S w' base eh v' (Hs ++ [f])) (hg : w.grownBy w' v.ownBlock) (hv : ∀ k, v'.ownBlock = some k → v.ownBlock = some k ∨ w.heap.size ≤ k) :
    Own w' base eh eo v' (L ++ [(f.1, O)]) (Hs ++ [f]) :=
  (h0.below hB).push f O (ho.mono hb) (fun k hk => by
    have h1 := (ho.lt k hk).1
    exact ⟨fun e => by have := h0.under.row k e; omega, fun i hi e => by have := h0.under.each i hi k e; omega⟩) hr hg hv
/-- other orders at a level; they lie apart -/
theorem Own.setOrders {w : World} {base g n cap : Nat} {eh eo : TypeId} {L : List E} {Hs : List H} (h : Own w base eh eo (.slice (some ⟨g, 0, none⟩) n cap) L Hs) {i : Nat} (hi : i < L.length) (f : H) (O : List Or.E) (hf : f.1 = (at' L i).1) (ho : Rk.Own Or.S w base eo (sl f) O)
    (hs : ∀ k, (sl f).ownBlock = some k → k ≠ g ∧ ∀ j, j < L.length → j ≠ i → (sl (Rk.at_ S Hs j)).ownBlock ≠ some k) :
    Own (w.setCell ⟨g, i * 2 + 1, none⟩ (sl f)) base eh eo (.slice (some ⟨g, 0, none⟩) n cap) (L.set i (f.1, O)) (Hs.set i f) := by
  have hl := h.len
  have hi' : i < Hs.length := by omega
  have hg := grown_set w ⟨g, i * 2 + 1, none⟩ (sl f)
  have hrow := h.row.put hi' 1 (by decide) (sl f) f (by rw [show (S.cs (Rk.at_ S Hs i)) = [.int .i64 (Rk.at_ S Hs i).1, sl (Rk.at_ S Hs i)] from rfl, h.price i hi, ← hf]; rfl)
  have ate : ∀ j, at' (L.set i (f.1, O)) j = if j = i then (f.1, O) else at' L j := fun j => by
    by_cases c : j = i
    · subst c; rw [if_pos rfl]; simp [at', List.getD, hi]
    · rw [if_neg c]; simp [at', List.getD, List.getElem?_set_ne (Ne.symm c)]
  have ath : ∀ j, Rk.at_ S (Hs.set i f) j = if j = i then f else Rk.at_ S Hs j := fun j => by
    by_cases c : j = i
    · subst c; rw [if_pos rfl]; exact Rk.at_set _ _ hi' _
    · rw [if_neg c]; exact Rk.at_set_ne _ _ _ (Ne.symm c) _
  refine ⟨by simp [hl], hrow, fun j hj => ?_, fun j hj => ?_, fun j hj k hk e => ?_, fun a b ha hb hne k hk => ?_⟩
  · rw [ate, ath]
    by_cases c : j = i
    · rw [if_pos c, if_pos c]
    · rw [if_neg c, if_neg c]; exact h.price j (by simpa using hj)
  · rw [ate, ath]
    by_cases c : j = i
    · rw [if_pos c, if_pos c]
      exact ho.kept hg (fun k hk e => (hs k hk).1 (by simpa using e))
    · rw [if_neg c, if_neg c]
      have hj' : j < L.length := by simpa using hj
      exact (h.each j hj').kept hg (fun k hk e => h.off j hj' k hk (by simpa [Value.ownBlock] using e.symm))
  · rw [ath] at hk
    have e2 : g = k := by simpa [Value.ownBlock] using e
    by_cases c : j = i
    · rw [if_pos c] at hk; exact (hs k hk).1 e2.symm
    · rw [if_neg c] at hk; exact h.off j (by simpa using hj) k hk (by simp [Value.ownBlock, e2])
  · rw [ath] at hk ⊢
    have ha' : a < L.length := by simpa using ha
    have hb' : b < L.length := by simpa using hb
    by_cases c : a = i
    · rw [if_pos c] at hk
      by_cases d : b = i
      · omega
      · rw [if_neg d]; exact (hs k hk).2 b hb' d
    · rw [if_neg c] at hk
      by_cases d : b = i
      · rw [if_pos d]; exact fun e => (hs k e).2 a ha' c hk
      · rw [if_neg d]; exact h.ne a b ha' hb' hne k hk
/-- where the mark of a level stands, counted from k -/
def pos (k : Nat) (L : List E) (i : Nat) : Nat := k + i + 8 * (Nb.flat (L.take i)).length
theorem pos_none (k : Nat) (L : List E) : pos k L 0 = k := by simp [pos, Nb.flat]
theorem pos_step (k : Nat) (L : List E) (i : Nat) (h : i < L.length) : pos k L (i + 1) = pos k L i + 1 + 8 * (at' L i).2.length := by
  unfold pos
  rw [Nb.flat_step L i h, List.length_append]
  omega
theorem pos_all (k : Nat) (L : List E) : pos k L L.length = k + L.length + 8 * (Nb.flat L).length := by unfold pos; rw [Nb.flat_all]
/-- the marks of levels, counted from k -/
def mks (k : Nat) (L : List E) : List E := (List.range L.length).map fun i => ((pos k L i : Nat), Or.mks (pos k L i + 1) (at' L i).2.length)
theorem mks_length (k : Nat) (L : List E) : (mks k L).length = L.length := by simp [mks]
theorem mks_at (k : Nat) (L : List E) (i : Nat) (h : i < L.length) : at' (mks k L) i = (((pos k L i : Nat) : Int), Or.mks (pos k L i + 1) (at' L i).2.length) := by simp [mks, at', List.getD, h]
/-- the first levels are written over with their marks -/
structure Mw (w : World) (base : Nat) (eh eo : TypeId) (v : Value) (L : List E) (Hs Hs' : List H) (k j : Nat) : Prop where
  part : Mk w base eh eo v L Hs Hs' j
  price : ∀ i, i < j → i < L.length → (Rk.at_ S Hs' i).1 = ((pos k L i : Nat) : Int)
  done : ∀ i, i < j → i < L.length → Rk.Own Or.S w base eo (sl (Rk.at_ S Hs i)) (Or.mks (pos k L i + 1) (at' L i).2.length)
theorem Own.writes {w : World} {base : Nat} {eh eo : TypeId} {v : Value} {L : List E} {Hs : List H} (h : Own w base eh eo v L Hs) (k : Nat) : Mw w base eh eo v L Hs Hs k 0 :=
  ⟨h.marks, fun i hi => absurd hi (by omega), fun i hi => absurd hi (by omega)⟩
theorem Mw.next {w w' : World} {base g n cap k m : Nat} {eh eo : TypeId} {L : List E} {Hs Hs' : List H} {j : Nat} (h : Mw w base eh eo (.slice (some ⟨g, 0, none⟩) n cap) L Hs Hs' k j) (hj : j < L.length) (hm : m = pos k L j)
    (hg : (w.setCell ⟨g, j * 2, none⟩ (.int .i64 (m : Int))).grownBy w' (sl (Rk.at_ S Hs j)).ownBlock) (ho : Rk.Own Or.S w' base eo (sl (Rk.at_ S Hs j)) (Or.mks (m + 1) (at' L j).2.length)) :
    Mw w' base eh eo (.slice (some ⟨g, 0, none⟩) n cap) L Hs (Hs'.set j ((m : Int), (Rk.at_ S Hs' j).2)) k (j + 1) := by
  subst hm
  have hj' : j < Hs'.length := by rw [h.part.len]; exact hj
  refine ⟨(h.part.price hj _).next hj hg, fun i hi hl => ?_, fun i hi hl => ?_⟩
  · by_cases c : i = j
    · subst c; rw [Rk.at_set _ _ hj']
    · rw [Rk.at_set_ne _ _ _ (Ne.symm c)]; exact h.price i (by omega) hl
  · by_cases c : i = j
    · subst c; exact ho
    · exact ((h.done i (by omega) hl).kept (grown_set _ _ _) (fun b hb e => h.part.off i hl b hb (by simpa [Value.ownBlock] using e.symm))).kept hg (fun b hb e => h.part.ne i j hl hj c b hb e.symm)
theorem Mw.all {w : World} {base k : Nat} {eh eo : TypeId} {v : Value} {L : List E} {Hs Hs' : List H} (h : Mw w base eh eo v L Hs Hs' k L.length) : Own w base eh eo v (mks k L) Hs' := by
  have hsame := h.part.same
  refine ⟨by rw [mks_length]; exact h.part.len, h.part.row, fun i hi => ?_, fun i hi => ?_, fun i hi b hb => ?_, fun i j hi hj hne b hb => ?_⟩ <;> rw [mks_length] at *
  · rw [mks_at k L i hi]; exact h.price i hi hi
  · rw [mks_at k L i hi, hsame i hi]; exact h.done i hi hi
  · rw [hsame i hi] at hb; exact h.part.off i hi b hb
  · rw [hsame i hi] at hb; rw [hsame j hj]; exact h.part.ne i j hi hj hne b hb
end Lv
end Go.Proofs.Ytnhpcknbnmhlhaa

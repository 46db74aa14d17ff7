/- 'copy' of a seen list of structs into a list of the call's own, from a place on. No function of the program here. -/
import Derived.Test.YtnhpcknbnmhlhaaRowsKit
import Derived.Laws.IdiomCopy
namespace Go.Proofs.Ytnhpcknbnmhlhaa
open Go.RowKit
set_option linter.unusedVariables false
set_option linter.unusedSimpArgs false
namespace Rk
section
variable {α : Type} {S : Shape α}
/-- the cells that a seen list has -/
theorem View.cells {w : World} {a : Option Addr} {n cap : Nat} {L : List α} (h : View S w (.slice a n cap) L) (hp : 0 < L.length) : ∃ ad, a = some ad ∧ ∀ j u, (flat S L)[j]? = some u → w.cell? (ad.add j) = some u := by
  obtain ⟨a', cap', e, hs⟩ := h
  simp only [Value.slice.injEq] at e
  obtain ⟨b, o, e', _, hsee⟩ := hs hp
  exact ⟨_, e.1.trans e', fun j u hu => sees_cell hsee j u hu⟩
theorem view_len {w : World} {a : Option Addr} {n cap : Nat} {L : List α} (h : View S w (.slice a n cap) L) : n = L.length := by
  obtain ⟨a', cap', e, _⟩ := h
  simp only [Value.slice.injEq] at e
  exact e.2.1
/-- the run of 'copy' where elements have m cells -/
theorem run_copy_many {P : Program} (w : World) (dT sT ty elem : TypeId) (m b o dLen dCap : Nat) (a : Addr) (sLen sCap : Nat) (cs : List Value)
    (hu : P.underlying dT = some (.slice elem)) (hs : (P.info? elem).map (·.size) = some m) (hn : cs.length = Nat.min sLen dLen * m)
    (hsrc : ∀ j v, cs[j]? = some v → w.cell? (a.add j) = some v) (hc : ∀ j, j < cs.length → (w.cell? ⟨b, o + j, none⟩).isSome = true) (hf : ∀ j, j < cs.length → w.frozen? ⟨b, o + j, none⟩ = false) (h1 : ∀ v ∈ cs, v.oneCell' = true) :
    (Builtin.copy_ #[dT, sT] ty #[.slice (some ⟨b, o, none⟩) dLen dCap, .slice (some a) sLen sCap]).run P w = .ok (goInt (Nat.min sLen dLen)) (w.setCells b o cs) := by
  have hl := run_loadCells_list (P := P) w a cs hsrc
  have hst := run_storeCells_cells (P := P) b o cs 0 w (by simpa using hc) (by simpa using hf) h1
  cases hq : P.info? elem with
  | none => simp [hq] at hs
  | some i =>
    have hi : i.size = m := by simpa [hq] using hs
    simp [Builtin.copy_, run_underlying hu, Builtin.lenOf, Builtin.firstCells, sizeOf, typeInfo, hq, hi, ← hn, hl, hst]
theorem run_copy_zero {P : Program} (w : World) (dT sT ty elem : TypeId) (m : Nat) (d a : Option Addr) (dLen dCap sLen sCap : Nat)
    (hu : P.underlying dT = some (.slice elem)) (hs : (P.info? elem).map (·.size) = some m) (hn : Nat.min sLen dLen = 0) :
    (Builtin.copy_ #[dT, sT] ty #[.slice d dLen dCap, .slice a sLen sCap]).run P w = .ok (goInt 0) w := by
  cases hq : P.info? elem with
  | none => simp [hq] at hs
  | some i =>
    have hl : ∀ (x : Addr), (loadCells x 0).run P w = .ok #[] w := fun x => by simpa using run_loadCells_list (P := P) w x [] (by simp)
    cases d <;> cases a <;> simp [Builtin.copy_, run_underlying hu, Builtin.lenOf, Builtin.firstCells, sizeOf, typeInfo, hq, hn, storeCells, hl]
/-- a list with another one written over it, from a place on -/
def laid (M N : List α) (k : Nat) : List α := M.take k ++ N ++ M.drop (k + N.length)
theorem laid_length (M N : List α) (k : Nat) (h : k + N.length ≤ M.length) : (laid M N k).length = M.length := by simp [laid]; omega
theorem laid_none (M : List α) (k : Nat) : laid M [] k = M := by simp [laid]
/-- what lies behind an owned list when cells are written into it -/
theorem Own.laid {w : World} {base g n cap k : Nat} {e : TypeId} {M N : List α} (h : Own S w base e (.slice (some ⟨g, 0, none⟩) n cap) M) (hk : k + N.length ≤ M.length) :
    Own S (w.setCells g (k * S.m) (Rk.flat S N)) base e (.slice (some ⟨g, 0, none⟩) n cap) (laid M N k) := by
  have hn := h.len
  subst hn
  have hle : k * S.m + N.length * S.m ≤ M.length * S.m := by rw [← Nat.add_mul]; exact Nat.mul_le_mul_right _ hk
  have := stored_list (Rk.flat S N) (k * S.m) w _ h
  unfold Own
  rw [laid_length M N k hk]
  rw [over_eq _ _ _ (by rw [flat_length, flat_length]; exact hle), flat_length, take_flat M k (by omega), ← Nat.add_mul, drop_flat M (k + N.length) hk] at this
  unfold Rk.laid
  rw [flat_append, flat_append]
  exact this
theorem grown_setCells (b : Nat) : ∀ (vs : List Value) (o : Nat) (w : World), w.grownBy (w.setCells b o vs) (some b)
  | [], _, w => World.grownBy.refl _ _
  | v :: r, o, w => by rw [World.setCells]; exact Fk.grownBy_trans (Fk.grownBy_setCell w b o v) (grown_setCells b r (o + 1) _)
/-- 'copy(dst[k:], src)', src no longer than what is there -/
theorem copy_run {P : Program} {w : World} (dT sT ty e : TypeId) (m : Nat) (hm : S.m = m) (hu : P.underlying dT = some (.slice e)) (hs : (P.info? e).map (·.size) = some m)
    (base g n cap k dLen dCap : Nat) (a : Option Addr) (sLen sCap : Nat) (M N : List α) (ho : Own S w base e (.slice (some ⟨g, 0, none⟩) n cap) M) (hv : View S w (.slice a sLen sCap) N) (hk : k + N.length ≤ M.length) (hd : N.length ≤ dLen) :
    ∃ w', (Builtin.copy_ #[dT, sT] ty #[.slice (some ⟨g, k * m, none⟩) dLen dCap, .slice a sLen sCap]).run P w = .ok (goInt N.length) w' ∧ Own S w' base e (.slice (some ⟨g, 0, none⟩) n cap) (Rk.laid M N k) ∧ w.grownBy w' (some g) := by
  subst hm
  have hl := view_len hv
  subst hl
  by_cases hz : N.length = 0
  · have e0 := List.eq_nil_of_length_eq_zero hz
    subst e0
    exact ⟨w, run_copy_zero w dT sT ty e S.m _ _ _ _ _ _ hu hs (by simp), by rw [laid_none]; exact ho, World.grownBy.refl _ _⟩
  · obtain ⟨ad, rfl, hc⟩ := hv.cells (by omega)
    have hn := ho.len
    have hmin : Nat.min N.length dLen = N.length := Nat.min_eq_left hd
    have hlt : ∀ j, j < (Rk.flat S N).length → k * S.m + j < M.length * S.m := fun j hj => by
      rw [flat_length] at hj
      have : k * S.m + N.length * S.m ≤ M.length * S.m := by rw [← Nat.add_mul]; exact Nat.mul_le_mul_right _ hk
      omega
    have hr := run_copy_many (P := P) w dT sT ty e S.m g (k * S.m) dLen dCap ad N.length sCap (Rk.flat S N) hu hs (by rw [hmin, flat_length]) hc (fun j hj => by
        subst hn
        have := World.ownsRow.cellAt ho (k * S.m + j) (hlt j hj)
        rw [this]
        have h2 := hlt j hj
        rw [← flat_length (S := S) M] at h2
        rw [List.getElem?_eq_getElem h2]; rfl) (fun j _ => ho.frozen _) (flat_one N)
    rw [hmin] at hr
    exact ⟨_, hr, ho.laid hk, grown_setCells _ _ _ _⟩
theorem flat_take_get (R : List α) (n : Nat) (j : Nat) (u : Value) (h : (Rk.flat S (R.take n))[j]? = some u) : (Rk.flat S R)[j]? = some u := by
  have e : R = R.take n ++ R.drop n := (List.take_append_drop n R).symm
  rw [e, flat_append, List.getElem?_append_left (List.getElem?_eq_some_iff.1 h).1]
  exact h
/-- 'copy(dst, src)', src no shorter than dst -/
theorem copy_front {P : Program} {w : World} (dT sT ty e : TypeId) (m : Nat) (hm : S.m = m) (hu : P.underlying dT = some (.slice e)) (hs : (P.info? e).map (·.size) = some m)
    (base g n cap dLen dCap : Nat) (a : Option Addr) (sLen sCap : Nat) (M R : List α) (ho : Own S w base e (.slice (some ⟨g, 0, none⟩) n cap) M) (hv : View S w (.slice a sLen sCap) R) (hk : dLen = M.length) (hd : dLen ≤ R.length) :
    ∃ w', (Builtin.copy_ #[dT, sT] ty #[.slice (some ⟨g, 0, none⟩) dLen dCap, .slice a sLen sCap]).run P w = .ok (goInt dLen) w' ∧ Own S w' base e (.slice (some ⟨g, 0, none⟩) n cap) (R.take dLen) ∧ w.grownBy w' (some g) := by
  subst hm
  have hl := view_len hv
  subst hl
  have hlt : (R.take dLen).length = dLen := by rw [List.length_take]; omega
  have hlaid : Rk.laid M (R.take dLen) 0 = R.take dLen := by unfold Rk.laid; rw [hlt]; simp [hk]
  by_cases hz : dLen = 0
  · subst hz
    have e0 : M = [] := List.eq_nil_of_length_eq_zero hk.symm
    subst e0
    exact ⟨w, run_copy_zero w dT sT ty e S.m _ _ _ _ _ _ hu hs (by simp), by simpa using ho, World.grownBy.refl _ _⟩
  · obtain ⟨ad, rfl, hc⟩ := hv.cells (by omega)
    have hn := ho.len
    have hmin : Nat.min R.length dLen = dLen := Nat.min_eq_right hd
    have hr := run_copy_many (P := P) w dT sT ty e S.m g 0 dLen dCap ad R.length sCap (Rk.flat S (R.take dLen)) hu hs (by rw [hmin, flat_length, hlt]) (fun j v hj => hc j v (flat_take_get R dLen j v hj)) (fun j hj => by
        rw [flat_length, hlt] at hj
        subst hn
        have h1 : 0 + j < M.length * S.m := by rw [← hk]; omega
        rw [World.ownsRow.cellAt ho (0 + j) h1]
        rw [← flat_length (S := S) M] at h1
        rw [List.getElem?_eq_getElem h1]; rfl) (fun j _ => ho.frozen _) (flat_one _)
    rw [hmin] at hr
    have h2 := ho.laid (k := 0) (N := R.take dLen) (by rw [hlt]; omega)
    rw [Nat.zero_mul, hlaid] at h2
    exact ⟨_, hr, h2, grown_setCells _ _ _ _⟩
end
end Rk
end Go.Proofs.Ytnhpcknbnmhlhaa

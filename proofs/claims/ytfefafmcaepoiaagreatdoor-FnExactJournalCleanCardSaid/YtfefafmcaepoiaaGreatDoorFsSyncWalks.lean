/- The walks of FsSync, the program's and the specification's: both answer alike. -/
import Derived.Test.YtfefafmcaepoiaaGreatDoorFsMethods
namespace Go.Proofs.YtfefafmcaepoiaaGreatDoor
open Go.RowKit Go.Maps
set_option linter.unusedVariables false


namespace Fk
/-- one file of a rising list laid anew: it rises, and has just that one in the place of the old one -/
theorem set_rises {L : List Fl} (h : Rises L) {k : Nat} (hk : k < L.length) (n b : ByteArray) (c : Int) (hnk : nm L k = n) : Rises (L.set k (n, b, c)) ∧ ∀ g, g ∈ L.set k (n, b, c) ↔ g ∈ without L n ++ [(n, b, c)] := by
  have hk1 : L[k].1 = n := by rw [← hnk]; simp [nm, List.getD, List.getElem?_eq_getElem hk]
  have hlt := List.pairwise_iff_getElem.1 h
  constructor
  · refine List.pairwise_iff_getElem.2 fun i j hi hj hij => ?_
    simp only [List.length_set] at hi hj
    have hb := hlt i j hi hj hij
    rw [List.getElem_set, List.getElem_set]
    split
    · rename_i e1
      subst e1
      rw [if_neg (by omega)]
      rw [hk1] at hb
      exact hb
    · split
      · rename_i _ e2
        subst e2
        rw [hk1] at hb
        exact hb
      · exact hb
  · intro g
    rw [List.mem_append, List.mem_singleton]
    constructor
    · intro hg
      obtain ⟨i, hi, e⟩ := List.getElem_of_mem hg
      simp only [List.length_set] at hi
      rw [List.getElem_set] at e
      split at e
      · exact .inr e.symm
      · rename_i hki
        left
        subst e
        refine List.mem_filter.2 ⟨List.getElem_mem hi, ?_⟩
        simp only [Bool.not_eq_true', decide_eq_false_iff_not]
        intro e'
        rcases Nat.lt_or_gt_of_ne hki with hc | hc
        · exact less_ne (hlt k i hk hi hc) (hk1.trans e'.symm)
        · exact less_ne (hlt i k hi hk hc) (e'.trans hk1.symm)
    · intro hg
      rcases hg with hg | hg
      · obtain ⟨hm, hne⟩ := List.mem_filter.1 hg
        obtain ⟨i, hi, e⟩ := List.getElem_of_mem hm
        have hki : k ≠ i := by
          intro e'
          subst e'
          rw [← e, hk1] at hne
          simp at hne
        refine List.mem_iff_getElem.2 ⟨i, by simpa using hi, ?_⟩
        rw [List.getElem_set, if_neg hki]
        exact e
      · exact List.mem_iff_getElem.2 ⟨k, by simpa using hk, by rw [List.getElem_set, if_pos rfl]; exact hg.symm⟩
end Fk

set_option maxHeartbeats 1000000 in
theorem l02Ill_any (c : Int) (w : World) : Calls Tryz.prog 17 #[.int .i64 c] w fun e w' => e = .returned (.agg #[.slice none 0 0, .int .i64 c]) ∧ Below w.heap.size w w' := by
  go_enter Tryz.func17, Tryz.ntmps17
  go_wp2
  refine bodyPost_ret (v := .agg #[.slice none 0 0, .int .i64 c]) (by simp [results, Tryz.results17, go_sem] <;> rfl) rfl ⟨rfl, ?_⟩
  repeat (first | exact Below.refl _ _ | refine Below.setCell ?_ (by simp <;> omega) _ | refine Below.alloc ?_ (by simp <;> omega) _)
end Go.Proofs.YtfefafmcaepoiaaGreatDoor

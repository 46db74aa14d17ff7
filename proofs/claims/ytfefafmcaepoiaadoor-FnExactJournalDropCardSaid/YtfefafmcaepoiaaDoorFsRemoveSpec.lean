/- The walk of the specification's FsRemove. -/
import Derived.Test.YtfefafmcaepoiaaDoorFsRemoveWalks
import Derived.Test.YtfefafmcaepoiaaDoorFsTake
namespace Go.Proofs.YtfefafmcaepoiaaDoor
open Go.RowKit Go.Maps
set_option linter.unusedVariables false

namespace Fk
theorem out_rises {L : List Fl} (h : Rises L) {k : Nat} (hk : k < L.length) {n : ByteArray} (hnk : nm L k = n) : Rises (L.take k ++ L.drop (k + 1)) ∧ ∀ g, g ∈ L.take k ++ L.drop (k + 1) ↔ g ∈ without L n := by
  rw [← List.eraseIdx_eq_take_drop_succ]
  have hk1 : L[k].1 = n := by rw [← hnk]; simp [nm, List.getD, List.getElem?_eq_getElem hk]
  have hlt := List.pairwise_iff_getElem.1 h
  refine ⟨h.sublist (List.eraseIdx_sublist ..), fun g => ?_⟩
  rw [List.mem_eraseIdx_iff_getElem]
  constructor
  · rintro ⟨i, hi, hki, rfl⟩
    refine List.mem_filter.2 ⟨List.getElem_mem _, ?_⟩
    simp only [Bool.not_eq_true', decide_eq_false_iff_not]
    intro e'
    rcases Nat.lt_or_gt_of_ne hki with hc | hc
    · exact less_ne (hlt i k (by omega) hk hc) (e'.trans hk1.symm)
    · exact less_ne (hlt k i hk (by omega) hc) (hk1.trans e'.symm)
  · intro hg
    obtain ⟨hm, hne⟩ := List.mem_filter.1 hg
    obtain ⟨i, hi, e⟩ := List.getElem_of_mem hm
    have hki : i ≠ k := by
      intro e'
      subst e'
      rw [← e, hk1] at hne
      simp at hne
    exact ⟨i, hi, hki, e⟩
theorem remove_short (L : List Fl) (name : ByteArray) : opn L [name] = 0 → ∀ M, resRemove L name = .inr M → M.length ≤ 1000 := by
  intro h0 M hM
  have h12 := (right_inv L (opn_right L _ h0)).1
  have hw : (without L name).length ≤ L.length := List.length_filter_le _ _
  unfold resRemove at hM
  split at hM
  · cases hM
  · obtain rfl := Sum.inr.inj hM
    omega
end Fk

set_option maxHeartbeats 2000000 in
theorem fsRemove_spec (v : Value) (L : List Fk.Fl) (name : ByteArray) (w : World) (base : Nat) (ho : Fk.Own w base 60 v L) (hL : Fk.Fits L) (hl : L.length ≤ maxLen) (hn : name.size ≤ maxLen) :
    Calls Tryd.prog 35 #[.agg #[v], .string name] w fun e w' => (∃ u R c, e = .returned (.agg #[u, .int .i64 c]) ∧ Fk.Own w' w.heap.size 60 u R ∧ Fk.Ans (Fk.opn L [name]) (Fk.resRemove L name) R c) ∧ Below w.heap.size w w' := by
  obtain ⟨W, hW⟩ : ∃ W, W = (w.alloc (.cells #[v] 32)).alloc (.cells #[.slice none 0 0, .int .i64 0] 40) := ⟨_, rfl⟩
  have b0 : Below w.heap.size w W := by
    rw [hW]
    repeat (first | exact Below.refl _ _ | refine Below.alloc ?_ (by simp <;> omega) _)
  have hsz : W.heap.size = w.heap.size + 2 := by rw [hW]; simp
  have hcell : W.cell? ⟨w.heap.size, 0, none⟩ = some v := by rw [hW, Fk.cellOld _ _ _ _ (by simp), Fk.cellTop _ _ _ _ _ rfl]; rfl
  have q0 : W.cell? ⟨w.heap.size + 1, 0, none⟩ = some (.slice none 0 0) := by rw [hW, Fk.cellTop _ _ _ _ _ (by simp)]; rfl
  have q1 : W.cell? ⟨w.heap.size + 1, 1, none⟩ = some (.int .i64 0) := by rw [hW, Fk.cellTop _ _ _ _ _ (by simp)]; rfl
  have f0 : ∀ j, W.frozen? ⟨w.heap.size + 1, j, none⟩ = false := fun j => by rw [hW, Fk.frozTop _ _ _ _ _ (by simp)]
  have hv' := ho.view.below b0
  have HO0 := Fk.hide (ho.below b0)
  have HW := Fk.hide hW
  clear hW ho
  have hvW := hv'
  obtain ⟨a, cap, rfl, hs⟩ := hv'
  clear hs
  go_enter Tryd.func35, Tryd.ntmps35
  go_wp2_with fail
  rw [← HW.out]
  refine (l02Begin_any _ L name _ hvW hL hl hn).mono ?_
  rintro e w1 ⟨h1, b1⟩
  have B1 := Fk.hide (b0.trans (b1.mono b0.size))
  have hcell1 : w1.cell? ⟨w.heap.size, 0, none⟩ = some (.slice a L.length cap) := (b1.cell (by show w.heap.size < _; omega)).trans hcell
  have p0 : w1.cell? ⟨w.heap.size + 1, 0, none⟩ = some (.slice none 0 0) := (b1.cell (by show w.heap.size + 1 < _; omega)).trans q0
  have p1 : w1.cell? ⟨w.heap.size + 1, 1, none⟩ = some (.int .i64 0) := (b1.cell (by show w.heap.size + 1 < _; omega)).trans q1
  have pf : ∀ j, w1.frozen? ⟨w.heap.size + 1, j, none⟩ = false := fun j => (b1.frozen (by show w.heap.size + 1 < _; omega)).trans (f0 j)
  have HO1 := Fk.hide (HO0.out.below b1)
  have hsz1 : w.heap.size + 2 ≤ w1.heap.size := by have := b1.size; omega
  clear b1 hcell q0 q1 f0 hvW
  have FIN : Hid (∀ (w5 : World) (u : Value) (R : List Fk.Fl) (c : Int), Below w.heap.size w w5 → Fk.Own w5 (w.heap.size + 2) 60 u R → Fk.Own ((w5.setCell ⟨w.heap.size + 1, 0, none⟩ u).setCell ⟨w.heap.size + 1, 1, none⟩ (.int .i64 c)) w.heap.size 60 u R ∧ Below w.heap.size w ((w5.setCell ⟨w.heap.size + 1, 0, none⟩ u).setCell ⟨w.heap.size + 1, 1, none⟩ (.int .i64 c))) :=
    fun w5 u R c hb ho => ⟨Fk.Own.mono (ownsRow_setCell_below (ownsRow_setCell_below ho (by show w.heap.size + 1 < _; omega) _) (by show w.heap.size + 1 < _; omega) _) (by omega), (hb.setCell (by simp) _).setCell (by simp) _⟩
  rcases h1 with ⟨h, rfl⟩ | ⟨h, rfl⟩ | ⟨h, hg, rfl⟩ | ⟨h, k, hk, hk1, hg, rfl⟩
  · have HA : Hid (Fk.Ans (Fk.opn L [name]) (Fk.resRemove L name) [] 2) := .inl ⟨h, rfl, rfl⟩
    clear h
    go_wp2_with fail
    refine (l02Ill_any 2 _).mono ?_
    rintro e w3 ⟨rfl, b3⟩
    have t0 : w3.cell? ⟨w.heap.size + 1, 0, none⟩ = some (.slice none 0 0) := (b3.cell (by show w.heap.size + 1 < _; omega)).trans p0
    have t1 : w3.cell? ⟨w.heap.size + 1, 1, none⟩ = some (.int .i64 0) := (b3.cell (by show w.heap.size + 1 < _; omega)).trans p1
    have tf : ∀ j, w3.frozen? ⟨w.heap.size + 1, j, none⟩ = false := fun j => (b3.frozen (by show w.heap.size + 1 < _; omega)).trans (pf j)
    have E3 := Fk.hide (FIN.out w3 (.slice none 0 0) [] 2 (B1.out.trans (b3.mono B1.out.size)) (Fk.own_nil _ _ _))
    clear b3 p0 p1 pf
    go_wp2_with fail
    exact bodyPost_ret (v := .agg #[.slice none 0 0, .int .i64 2]) (by simp [results, Tryd.results35, go_sem, t0, t1] <;> rfl) rfl ⟨⟨_, _, _, rfl, E3.out.1, HA.out⟩, E3.out.2⟩
  · have HA : Hid (Fk.Ans (Fk.opn L [name]) (Fk.resRemove L name) [] 1) := .inr (.inl ⟨h, rfl, rfl⟩)
    clear h
    go_wp2_with fail
    refine (l02Ill_any 1 _).mono ?_
    rintro e w3 ⟨rfl, b3⟩
    have t0 : w3.cell? ⟨w.heap.size + 1, 0, none⟩ = some (.slice none 0 0) := (b3.cell (by show w.heap.size + 1 < _; omega)).trans p0
    have t1 : w3.cell? ⟨w.heap.size + 1, 1, none⟩ = some (.int .i64 0) := (b3.cell (by show w.heap.size + 1 < _; omega)).trans p1
    have tf : ∀ j, w3.frozen? ⟨w.heap.size + 1, j, none⟩ = false := fun j => (b3.frozen (by show w.heap.size + 1 < _; omega)).trans (pf j)
    have E3 := Fk.hide (FIN.out w3 (.slice none 0 0) [] 1 (B1.out.trans (b3.mono B1.out.size)) (Fk.own_nil _ _ _))
    clear b3 p0 p1 pf
    go_wp2_with fail
    exact bodyPost_ret (v := .agg #[.slice none 0 0, .int .i64 1]) (by simp [results, Tryd.results35, go_sem, t0, t1] <;> rfl) rfl ⟨⟨_, _, _, rfl, E3.out.1, HA.out⟩, E3.out.2⟩
  · have HA : Hid (Fk.Ans (Fk.opn L [name]) (Fk.resRemove L name) [] 6) := .inr (.inr ⟨h, .inl ⟨6, by simp [Fk.resRemove, hg], rfl, rfl⟩⟩)
    clear h hg
    go_wp2_with fail
    refine (l02Ill_any 6 _).mono ?_
    rintro e w3 ⟨rfl, b3⟩
    have t0 : w3.cell? ⟨w.heap.size + 1, 0, none⟩ = some (.slice none 0 0) := (b3.cell (by show w.heap.size + 1 < _; omega)).trans p0
    have t1 : w3.cell? ⟨w.heap.size + 1, 1, none⟩ = some (.int .i64 0) := (b3.cell (by show w.heap.size + 1 < _; omega)).trans p1
    have tf : ∀ j, w3.frozen? ⟨w.heap.size + 1, j, none⟩ = false := fun j => (b3.frozen (by show w.heap.size + 1 < _; omega)).trans (pf j)
    have E3 := Fk.hide (FIN.out w3 (.slice none 0 0) [] 6 (B1.out.trans (b3.mono B1.out.size)) (Fk.own_nil _ _ _))
    clear b3 p0 p1 pf
    go_wp2_with fail
    exact bodyPost_ret (v := .agg #[.slice none 0 0, .int .i64 6]) (by simp [results, Tryd.results35, go_sem, t0, t1] <;> rfl) rfl ⟨⟨_, _, _, rfl, E3.out.1, HA.out⟩, E3.out.2⟩
  · have hR := Fk.opn_right L [name] h
    have h12 := (Fk.right_inv L hR).1
    have HA : Hid (Fk.Ans (Fk.opn L [name]) (Fk.resRemove L name) (L.take k ++ L.drop (k + 1)) 0) := by
      have hsr := Fk.out_rises (Fk.right_rises L hR) hk hk1
      exact .inr (.inr ⟨h, .inr ⟨_, by simp only [Fk.resRemove, hg], rfl, hsr.1, hsr.2⟩⟩)
    clear h hg hk1
    go_wp2_with fail
    refine (l02Out_any _ L k base _ HO1.out hk (by omega)).mono ?_
    rintro e w3 ⟨⟨u, rfl, ho⟩, b3⟩
    have HO3 := Fk.hide ho
    obtain ⟨ua, uc, rfl⟩ := ho.slice
    have t0 : w3.cell? ⟨w.heap.size + 1, 0, none⟩ = some (.slice none 0 0) := (b3.cell (by show w.heap.size + 1 < _; omega)).trans p0
    have t1 : w3.cell? ⟨w.heap.size + 1, 1, none⟩ = some (.int .i64 0) := (b3.cell (by show w.heap.size + 1 < _; omega)).trans p1
    have tf : ∀ j, w3.frozen? ⟨w.heap.size + 1, j, none⟩ = false := fun j => (b3.frozen (by show w.heap.size + 1 < _; omega)).trans (pf j)
    have E3 := Fk.hide (FIN.out w3 _ _ 0 (B1.out.trans (b3.mono B1.out.size)) (HO3.out.mono (by omega)))
    clear b3 p0 p1 pf ho
    obtain ⟨rl, hrl⟩ : ∃ rl, rl = (L.take k ++ L.drop (k + 1)).length := ⟨_, rfl⟩
    rw [← hrl] at E3
    rw [← hrl]
    clear hrl HO3
    go_wp2_with fail
    exact bodyPost_ret (v := .agg #[.slice ua rl uc, .int .i64 0]) (by simp [results, Tryd.results35, go_sem, t0, t1] <;> rfl) rfl ⟨⟨_, _, _, rfl, E3.out.1, HA.out⟩, E3.out.2⟩
end Go.Proofs.YtfefafmcaepoiaaDoor

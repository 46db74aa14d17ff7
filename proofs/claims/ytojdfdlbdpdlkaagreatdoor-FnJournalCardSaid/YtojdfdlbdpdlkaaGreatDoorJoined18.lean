/- The walk of the specification's FsRename. The walk of the program's FsCut. -/
import Derived.Test.YtojdfdlbdpdlkaaGreatDoorJoined17
import Derived.Test.YtojdfdlbdpdlkaaGreatDoorFsPut
import Derived.Test.YtojdfdlbdpdlkaaGreatDoorJoined10
namespace Go.Proofs.YtojdfdlbdpdlkaaGreatDoor
open Go.RowKit Go.Maps
set_option linter.unusedVariables false
set_option linter.unusedSimpArgs false
namespace Fk
theorem opn_b_long (L : List Fl) (a b : ByteArray) (h : 8000 < b.size) : opn L [a, b] = 1 := by
  unfold opn; rw [if_pos (by simp [h])]
theorem opn_a_long (L : List Fl) (a b : ByteArray) (h : opn L [a] = 1) : opn L [a, b] = 1 := by
  unfold opn at *
  split at h
  · rename_i h1
    rw [if_pos (by simp at h1 ⊢; exact .inl h1)]
  · split at h
    · cases h
    · split at h <;> cases h
theorem opn_a_ill (L : List Fl) (a b : ByteArray) (h : opn L [a] = 2) (hb : ¬ 8000 < b.size) : opn L [a, b] = 2 := by
  unfold opn at *
  split at h
  · cases h
  · rename_i h1
    rw [if_neg (by simp at h1 ⊢; omega)]
    split at h
    · rename_i h2; rw [if_pos h2]
    · rename_i h2
      rw [if_neg h2]
      split at h
      · rename_i h3; rw [if_pos (by simp at h3 ⊢; exact .inl h3)]
      · cases h
theorem opn_a_ok (L : List Fl) (a b : ByteArray) (h : opn L [a] = 0) (hb : ¬ 8000 < b.size) : opn L [a, b] = if Nm.nameB b then 0 else 2 := by
  unfold opn at *
  split at h
  · cases h
  · rename_i h1
    rw [if_neg (by simp at h1 ⊢; omega)]
    split at h
    · cases h
    · rename_i h2
      rw [if_neg h2]
      split at h
      · cases h
      · rename_i h3
        simp at h3
        cases hn : Nm.nameB b
        · rw [if_pos (by simp [hn])]; rfl
        · rw [if_neg (by simp [hn, h3])]; rfl
theorem mem_put_out {L : List Fl} (h : Rises L) {k : Nat} (hk : k < L.length) {n : ByteArray} (hnk : nm L k = n) {x : Fl} {k2 : Nat} {q : Bool} (hp : Place (L.take k ++ L.drop (k + 1)) x k2 q) :
    Rises (put (L.take k ++ L.drop (k + 1)) x k2 q) ∧ ∀ g, g ∈ put (L.take k ++ L.drop (k + 1)) x k2 q ↔ g ∈ without (without L n) x.1 ++ [x] := by
  obtain ⟨r1, r2⟩ := out_rises h hk hnk
  obtain ⟨s1, s2⟩ := put_rises r1 hp
  refine ⟨s1, fun g => (s2 g).trans ?_⟩
  simp only [List.mem_append, without, List.mem_filter] at r2 ⊢
  rw [r2 g]
end Fk

set_option maxRecDepth 20000 in
set_option maxHeartbeats 4000000 in
theorem fsRename_spec (v : Value) (L : List Fk.Fl) (name to : ByteArray) (w : World) (base : Nat) (ho : Fk.Own w base 75 v L) (hL : Fk.Fits L) (hl : L.length ≤ maxLen) (hn : name.size ≤ maxLen) (ht : to.size ≤ maxLen) :
    Calls Tryz.prog 72 #[.agg #[v], .string name, .string to] w fun e w' => (∃ u R c, e = .returned (.agg #[u, .int .i64 c]) ∧ Fk.Own w' w.heap.size 75 u R ∧ Fk.Ans (Fk.opn L [name, to]) (Fk.resRename L name to) R c) ∧ Below w.heap.size w w' := by
  obtain ⟨W, hW⟩ : ∃ W, W = (w.alloc (.cells #[v] 25)).alloc (.cells #[.slice none 0 0, .int .i64 0] 29) := ⟨_, rfl⟩
  have b0 : Below w.heap.size w W := by
    rw [hW]
    repeat (first | exact Below.refl _ _ | refine Below.alloc ?_ (by simp <;> omega) _)
  have hsz : W.heap.size = w.heap.size + 2 := by rw [hW]; simp
  have hcell : W.cell? ⟨w.heap.size, 0, none⟩ = some v := by rw [hW, Fk.cellOld _ _ _ _ (by simp), Fk.cellTop _ _ _ _ _ rfl]; rfl
  have q0 : W.cell? ⟨w.heap.size + 1, 0, none⟩ = some (.slice none 0 0) := by rw [hW, Fk.cellTop _ _ _ _ _ (by simp)]; rfl
  have q1 : W.cell? ⟨w.heap.size + 1, 1, none⟩ = some (.int .i64 0) := by rw [hW, Fk.cellTop _ _ _ _ _ (by simp)]; rfl
  have f0 : ∀ j, W.frozen? ⟨w.heap.size + 1, j, none⟩ = false := fun j => by rw [hW, Fk.frozTop _ _ _ _ _ (by simp)]
  have hv' := ho.view.below b0
  have HO0 := Fk.hide (ho.below b0)
  have HW := Fk.hide hW
  clear hW ho
  have hvW := hv'
  obtain ⟨a, cap, rfl, hs⟩ := hv'
  clear hs
  have FIN : Hid (∀ (w5 : World) (u : Value) (R : List Fk.Fl) (c : Int), Below w.heap.size w w5 → Fk.Own w5 (w.heap.size + 2) 75 u R → Fk.Own ((w5.setCell ⟨w.heap.size + 1, 0, none⟩ u).setCell ⟨w.heap.size + 1, 1, none⟩ (.int .i64 c)) w.heap.size 75 u R ∧ Below w.heap.size w ((w5.setCell ⟨w.heap.size + 1, 0, none⟩ u).setCell ⟨w.heap.size + 1, 1, none⟩ (.int .i64 c))) :=
    fun w5 u R c hb ho => ⟨Fk.Own.mono (ownsRow_setCell_below (ownsRow_setCell_below ho (by show w.heap.size + 1 < _; omega) _) (by show w.heap.size + 1 < _; omega) _) (by omega), (hb.setCell (by simp) _).setCell (by simp) _⟩
  have ht' := ht
  unfold maxLen at ht'
  by_cases hbig : (8000 : Int) < (to.size : Int)
  · have HA : Hid (Fk.Ans (Fk.opn L [name, to]) (Fk.resRename L name to) [] 2) := .inl ⟨Fk.opn_b_long L name to (by omega), rfl, rfl⟩
    go_enter Tryz.func72, Tryz.ntmps72
    go_wp2_with fail
    rw [← HW.out]
    have B1 := Fk.hide b0
    refine (l02Ill_any 2 _).mono ?_
    rintro e w3 ⟨rfl, b3⟩
    have t0 : w3.cell? ⟨w.heap.size + 1, 0, none⟩ = some (.slice none 0 0) := (b3.cell (by show w.heap.size + 1 < _; omega)).trans q0
    have t1 : w3.cell? ⟨w.heap.size + 1, 1, none⟩ = some (.int .i64 0) := (b3.cell (by show w.heap.size + 1 < _; omega)).trans q1
    have tf : ∀ j, w3.frozen? ⟨w.heap.size + 1, j, none⟩ = false := fun j => (b3.frozen (by show w.heap.size + 1 < _; omega)).trans (f0 j)
    have E3 := Fk.hide (FIN.out w3 (.slice none 0 0) [] 2 (B1.out.trans (b3.mono B1.out.size)) (Fk.own_nil _ _ _))
    clear b3 q0 q1 f0
    go_wp2_with fail
    exact bodyPost_ret (v := .agg #[.slice none 0 0, .int .i64 2]) (by simp [results, Tryz.results72, go_sem, t0, t1] <;> rfl) rfl ⟨⟨_, _, _, rfl, E3.out.1, HA.out⟩, E3.out.2⟩
  have hbig' : ¬ 8000 < to.size := by omega
  go_enter Tryz.func72, Tryz.ntmps72
  go_wp2_with fail
  rw [← HW.out]
  refine (l02Begin_any _ L name _ hvW hL hl hn).mono ?_
  rintro e w1 ⟨h1, b1⟩
  have B1 := Fk.hide (b0.trans (b1.mono b0.size))
  have hcell1 : w1.cell? ⟨w.heap.size, 0, none⟩ = some (.slice a L.length cap) := (b1.cell (by show w.heap.size < _; omega)).trans hcell
  have p0 : w1.cell? ⟨w.heap.size + 1, 0, none⟩ = some (.slice none 0 0) := (b1.cell (by show w.heap.size + 1 < _; omega)).trans q0
  have p1 : w1.cell? ⟨w.heap.size + 1, 1, none⟩ = some (.int .i64 0) := (b1.cell (by show w.heap.size + 1 < _; omega)).trans q1
  have pf : ∀ j, w1.frozen? ⟨w.heap.size + 1, j, none⟩ = false := fun j => (b1.frozen (by show w.heap.size + 1 < _; omega)).trans (f0 j)
  have HO1 := Fk.hide (HO0.out.below b1)
  have hv1 := hvW.below b1
  have hsz1 : w.heap.size + 2 ≤ w1.heap.size := by have := b1.size; omega
  clear b1 hcell q0 q1 f0 hvW
  have HNM : Hid (∀ w', Calls Tryz.prog 59 #[.string to] w' fun e w'' => e = .returned (.bool (Nm.nameB to)) ∧ w'' = w') := fun w' => specName_any to w' ht
  rcases h1 with ⟨h, rfl⟩ | ⟨h, rfl⟩ | ⟨h, hg, rfl⟩ | ⟨h, k, hk, hk1, hg, rfl⟩
  · skip
    have HA : Hid (Fk.Ans (Fk.opn L [name, to]) (Fk.resRename L name to) [] 2) := .inl ⟨Fk.opn_a_long L name to h, rfl, rfl⟩
    clear h
    go_wp2_with fail
    refine (l02Ill_any 2 _).mono ?_
    rintro e w3 ⟨rfl, b3⟩
    have t0 : w3.cell? ⟨w.heap.size + 1, 0, none⟩ = some (.slice none 0 0) := (b3.cell (by show w.heap.size + 1 < _; omega)).trans p0
    have t1 : w3.cell? ⟨w.heap.size + 1, 1, none⟩ = some (.int .i64 0) := (b3.cell (by show w.heap.size + 1 < _; omega)).trans p1
    have tf : ∀ j, w3.frozen? ⟨w.heap.size + 1, j, none⟩ = false := fun j => (b3.frozen (by show w.heap.size + 1 < _; omega)).trans (pf j)
    have E3 := Fk.hide (FIN.out w3 (.slice none 0 0) [] 2 (B1.out.trans (b3.mono B1.out.size)) (Fk.own_nil _ _ _))
    clear b3 p0 p1 pf
    go_wp2_with fail
    exact bodyPost_ret (v := .agg #[.slice none 0 0, .int .i64 2]) (by simp [results, Tryz.results72, go_sem, t0, t1] <;> rfl) rfl ⟨⟨_, _, _, rfl, E3.out.1, HA.out⟩, E3.out.2⟩
  · skip
    go_wp2_with fail
    refine (HNM.out _).mono ?_
    rintro e w1' ⟨rfl, e1'⟩
    rw [e1']
    clear e1' w1'
    cases hq : Nm.nameB to with
    | true =>
      have HA : Hid (Fk.Ans (Fk.opn L [name, to]) (Fk.resRename L name to) [] 1) := .inr (.inl ⟨Fk.opn_a_ill L name to h hbig', rfl, rfl⟩)
      clear h hq
      go_wp2_with fail
      refine (l02Ill_any 1 _).mono ?_
      rintro e w3 ⟨rfl, b3⟩
      have t0 : w3.cell? ⟨w.heap.size + 1, 0, none⟩ = some (.slice none 0 0) := (b3.cell (by show w.heap.size + 1 < _; omega)).trans p0
      have t1 : w3.cell? ⟨w.heap.size + 1, 1, none⟩ = some (.int .i64 0) := (b3.cell (by show w.heap.size + 1 < _; omega)).trans p1
      have tf : ∀ j, w3.frozen? ⟨w.heap.size + 1, j, none⟩ = false := fun j => (b3.frozen (by show w.heap.size + 1 < _; omega)).trans (pf j)
      have E3 := Fk.hide (FIN.out w3 (.slice none 0 0) [] 1 (B1.out.trans (b3.mono B1.out.size)) (Fk.own_nil _ _ _))
      clear b3 p0 p1 pf
      go_wp2_with fail
      exact bodyPost_ret (v := .agg #[.slice none 0 0, .int .i64 1]) (by simp [results, Tryz.results72, go_sem, t0, t1] <;> rfl) rfl ⟨⟨_, _, _, rfl, E3.out.1, HA.out⟩, E3.out.2⟩
    | false =>
      have HA : Hid (Fk.Ans (Fk.opn L [name, to]) (Fk.resRename L name to) [] 1) := .inr (.inl ⟨Fk.opn_a_ill L name to h hbig', rfl, rfl⟩)
      clear h hq
      go_wp2_with fail
      refine (l02Ill_any 1 _).mono ?_
      rintro e w3 ⟨rfl, b3⟩
      have t0 : w3.cell? ⟨w.heap.size + 1, 0, none⟩ = some (.slice none 0 0) := (b3.cell (by show w.heap.size + 1 < _; omega)).trans p0
      have t1 : w3.cell? ⟨w.heap.size + 1, 1, none⟩ = some (.int .i64 0) := (b3.cell (by show w.heap.size + 1 < _; omega)).trans p1
      have tf : ∀ j, w3.frozen? ⟨w.heap.size + 1, j, none⟩ = false := fun j => (b3.frozen (by show w.heap.size + 1 < _; omega)).trans (pf j)
      have E3 := Fk.hide (FIN.out w3 (.slice none 0 0) [] 1 (B1.out.trans (b3.mono B1.out.size)) (Fk.own_nil _ _ _))
      clear b3 p0 p1 pf
      go_wp2_with fail
      exact bodyPost_ret (v := .agg #[.slice none 0 0, .int .i64 1]) (by simp [results, Tryz.results72, go_sem, t0, t1] <;> rfl) rfl ⟨⟨_, _, _, rfl, E3.out.1, HA.out⟩, E3.out.2⟩
  · have hoo := Fk.opn_a_ok L name to h hbig'
    go_wp2_with fail
    refine (HNM.out _).mono ?_
    rintro e w1' ⟨rfl, e1'⟩
    rw [e1']
    clear e1' w1'
    cases hq : Nm.nameB to with
    | true =>
      rw [hq] at hoo
      have HA : Hid (Fk.Ans (Fk.opn L [name, to]) (Fk.resRename L name to) [] 6) := .inr (.inr ⟨hoo, .inl ⟨6, by simp [Fk.resRename, hg], rfl, rfl⟩⟩)
      clear h hg hoo hq
      go_wp2_with fail
      refine (l02Ill_any 6 _).mono ?_
      rintro e w3 ⟨rfl, b3⟩
      have t0 : w3.cell? ⟨w.heap.size + 1, 0, none⟩ = some (.slice none 0 0) := (b3.cell (by show w.heap.size + 1 < _; omega)).trans p0
      have t1 : w3.cell? ⟨w.heap.size + 1, 1, none⟩ = some (.int .i64 0) := (b3.cell (by show w.heap.size + 1 < _; omega)).trans p1
      have tf : ∀ j, w3.frozen? ⟨w.heap.size + 1, j, none⟩ = false := fun j => (b3.frozen (by show w.heap.size + 1 < _; omega)).trans (pf j)
      have E3 := Fk.hide (FIN.out w3 (.slice none 0 0) [] 6 (B1.out.trans (b3.mono B1.out.size)) (Fk.own_nil _ _ _))
      clear b3 p0 p1 pf
      go_wp2_with fail
      exact bodyPost_ret (v := .agg #[.slice none 0 0, .int .i64 6]) (by simp [results, Tryz.results72, go_sem, t0, t1] <;> rfl) rfl ⟨⟨_, _, _, rfl, E3.out.1, HA.out⟩, E3.out.2⟩
    | false =>
      rw [hq] at hoo
      have HA : Hid (Fk.Ans (Fk.opn L [name, to]) (Fk.resRename L name to) [] 1) := .inr (.inl ⟨hoo, rfl, rfl⟩)
      clear h hg hoo hq
      go_wp2_with fail
      refine (l02Ill_any 1 _).mono ?_
      rintro e w3 ⟨rfl, b3⟩
      have t0 : w3.cell? ⟨w.heap.size + 1, 0, none⟩ = some (.slice none 0 0) := (b3.cell (by show w.heap.size + 1 < _; omega)).trans p0
      have t1 : w3.cell? ⟨w.heap.size + 1, 1, none⟩ = some (.int .i64 0) := (b3.cell (by show w.heap.size + 1 < _; omega)).trans p1
      have tf : ∀ j, w3.frozen? ⟨w.heap.size + 1, j, none⟩ = false := fun j => (b3.frozen (by show w.heap.size + 1 < _; omega)).trans (pf j)
      have E3 := Fk.hide (FIN.out w3 (.slice none 0 0) [] 1 (B1.out.trans (b3.mono B1.out.size)) (Fk.own_nil _ _ _))
      clear b3 p0 p1 pf
      go_wp2_with fail
      exact bodyPost_ret (v := .agg #[.slice none 0 0, .int .i64 1]) (by simp [results, Tryz.results72, go_sem, t0, t1] <;> rfl) rfl ⟨⟨_, _, _, rfl, E3.out.1, HA.out⟩, E3.out.2⟩
  · have hoo := Fk.opn_a_ok L name to h hbig'
    go_wp2_with fail
    refine (HNM.out _).mono ?_
    rintro e w1' ⟨rfl, e1'⟩
    rw [e1']
    clear e1' w1'
    cases hq : Nm.nameB to with
    | false =>
      rw [hq] at hoo
      have HA : Hid (Fk.Ans (Fk.opn L [name, to]) (Fk.resRename L name to) [] 1) := .inr (.inl ⟨hoo, rfl, rfl⟩)
      clear h hg hoo hq
      go_wp2_with fail
      refine (l02Ill_any 1 _).mono ?_
      rintro e w3 ⟨rfl, b3⟩
      have t0 : w3.cell? ⟨w.heap.size + 1, 0, none⟩ = some (.slice none 0 0) := (b3.cell (by show w.heap.size + 1 < _; omega)).trans p0
      have t1 : w3.cell? ⟨w.heap.size + 1, 1, none⟩ = some (.int .i64 0) := (b3.cell (by show w.heap.size + 1 < _; omega)).trans p1
      have tf : ∀ j, w3.frozen? ⟨w.heap.size + 1, j, none⟩ = false := fun j => (b3.frozen (by show w.heap.size + 1 < _; omega)).trans (pf j)
      have E3 := Fk.hide (FIN.out w3 (.slice none 0 0) [] 1 (B1.out.trans (b3.mono B1.out.size)) (Fk.own_nil _ _ _))
      clear b3 p0 p1 pf
      go_wp2_with fail
      exact bodyPost_ret (v := .agg #[.slice none 0 0, .int .i64 1]) (by simp [results, Tryz.results72, go_sem, t0, t1] <;> rfl) rfl ⟨⟨_, _, _, rfl, E3.out.1, HA.out⟩, E3.out.2⟩
    | true =>
      rw [hq] at hoo
      have hR := Fk.opn_right L [name] h
      have h12 := (Fk.right_inv L hR).1
      have HA : Hid (∀ k2 q2, Fk.Place (L.take k ++ L.drop (k + 1)) (to, Fk.dt L k, Fk.sy L k) k2 q2 → Fk.Ans (Fk.opn L [name, to]) (Fk.resRename L name to) (Fk.put (L.take k ++ L.drop (k + 1)) (to, Fk.dt L k, Fk.sy L k) k2 q2) 0) := fun k2 q2 hp => by
        have hsr := Fk.mem_put_out (Fk.right_rises L hR) hk hk1 hp
        exact .inr (.inr ⟨hoo, .inr ⟨_, by simp only [Fk.resRename, hg], rfl, hsr.1, hsr.2⟩⟩)
      clear h hg hk1 hoo hq
      obtain ⟨a', cap', ev, hs1⟩ := hv1
      simp only [Value.slice.injEq] at ev
      obtain ⟨rfl, _, rfl⟩ := ev
      obtain ⟨b, o, rfl, hb1, hs2⟩ := hs1 (by omega)
      have x0 := hs2.c0 k hk
      have x1 := hs2.c1 k hk
      have x2 := hs2.c2 k hk
      clear hs1 hs2
      obtain ⟨W2, hW2⟩ : ∃ W2, W2 = w1.alloc (.cells #[.string to, .string (Fk.dt L k), .int .i64 (Fk.sy L k)] 75) := ⟨_, rfl⟩
      have b2 : Below w1.heap.size w1 W2 := by rw [hW2]; exact (Below.refl _ _).alloc (Nat.le_refl _) _
      have hz2 : W2.heap.size = w1.heap.size + 1 := by rw [hW2]; simp
      have y0 : W2.cell? ⟨w1.heap.size, 0, none⟩ = some (.string to) := by rw [hW2, Fk.cellTop _ _ _ _ _ rfl]; rfl
      have y1 : W2.cell? ⟨w1.heap.size, 1, none⟩ = some (.string (Fk.dt L k)) := by rw [hW2, Fk.cellTop _ _ _ _ _ rfl]; rfl
      have y2 : W2.cell? ⟨w1.heap.size, 2, none⟩ = some (.int .i64 (Fk.sy L k)) := by rw [hW2, Fk.cellTop _ _ _ _ _ rfl]; rfl
      have hcell2 : W2.cell? ⟨w.heap.size, 0, none⟩ = some (.slice (some ⟨b, o, none⟩) L.length cap) := (b2.cell (by show w.heap.size < _; omega)).trans hcell1
      have t0 : W2.cell? ⟨w.heap.size + 1, 0, none⟩ = some (.slice none 0 0) := (b2.cell (by show w.heap.size + 1 < _; omega)).trans p0
      have t1 : W2.cell? ⟨w.heap.size + 1, 1, none⟩ = some (.int .i64 0) := (b2.cell (by show w.heap.size + 1 < _; omega)).trans p1
      have tf : ∀ j, W2.frozen? ⟨w.heap.size + 1, j, none⟩ = false := fun j => (b2.frozen (by show w.heap.size + 1 < _; omega)).trans (pf j)
      have HO2 : Hid (Fk.Own W2.drew base 75 (.slice (some ⟨b, o, none⟩) L.length cap) L) := (HO1.out.below b2).below (Below.drew (Below.refl _ _))
      have B2 : Hid (Below w.heap.size w W2) := B1.out.trans (b2.mono B1.out.size)
      have HW2 := Fk.hide hW2
      clear hW2 b2 p0 p1 pf
      go_wp2_with fail
      rw [← HW2.out]
      clear x0 x1 x2 hcell1
      go_region_with (first
        | (go_at_call 69; refine (l02Out_any _ L k base _ HO2.out hk (by omega)).mono ?_; rintro e X1 ⟨⟨u1, rfl, o1⟩, m1⟩; have HO3 := Fk.hide o1; obtain ⟨a1, n1, c1, rfl⟩ := o1.slice'; have g0 : X1.cell? ⟨w1.heap.size, 0, none⟩ = some (.string to) := (m1.cell (by show w1.heap.size < W2.heap.size; omega)).trans y0; have g1 : X1.cell? ⟨w1.heap.size, 1, none⟩ = some (.string (Fk.dt L k)) := (m1.cell (by show w1.heap.size < W2.heap.size; omega)).trans y1; have g2 : X1.cell? ⟨w1.heap.size, 2, none⟩ = some (.int .i64 (Fk.sy L k)) := (m1.cell (by show w1.heap.size < W2.heap.size; omega)).trans y2; clear o1)
        | (go_at_call 62; refine (l02Put_any _ (L.take k ++ L.drop (k + 1)) (to, Fk.dt L k, Fk.sy L k) _ _ HO3.out (by simp; omega)).mono ?_; rintro e X2 ⟨⟨u2, k2, q2, rfl, hp, o2⟩, m2⟩; have HO4 := Fk.hide o2; obtain ⟨a2, n2, c2, rfl⟩ := o2.slice'; have mm : Below W2.heap.size W2 X2 := (Below.trans (Below.drew (Below.refl _ _)) m1).trans (m2.mono m1.size); have HP := Fk.hide hp; have s0 : X2.cell? ⟨w.heap.size + 1, 0, none⟩ = some (.slice none 0 0) := (mm.cell (by show w.heap.size + 1 < _; omega)).trans t0; have s1 : X2.cell? ⟨w.heap.size + 1, 1, none⟩ = some (.int .i64 0) := (mm.cell (by show w.heap.size + 1 < _; omega)).trans t1; have sf : ∀ j, X2.frozen? ⟨w.heap.size + 1, j, none⟩ = false := fun j => (mm.frozen (by show w.heap.size + 1 < _; omega)).trans (tf j); have E5 := Fk.hide (FIN.out X2 _ _ 0 (B2.out.trans (mm.mono B2.out.size)) (HO4.out.mono (by have := m1.size; have e : W2.drew.heap.size = W2.heap.size := rfl; omega))); clear o2 hp m1 m2 mm))
      all_goals
        go_wp2_with fail
        exact bodyPost_ret (v := .agg #[.slice a2 n2 c2, .int .i64 0]) (by simp [results, Tryz.results72, go_sem, s0, s1] <;> rfl) rfl ⟨⟨_, _, _, rfl, E5.out.1, HA.out _ _ HP.out⟩, E5.out.2⟩
end Go.Proofs.YtojdfdlbdpdlkaaGreatDoor

namespace Go.Proofs.YtojdfdlbdpdlkaaGreatDoor
open Go.RowKit Go.Maps
set_option linter.unusedVariables false

end Go.Proofs.YtojdfdlbdpdlkaaGreatDoor

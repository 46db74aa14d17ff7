/- The walk of the specification's FsAppend. -/
import Derived.Test.YtojdfdlbdpdlkaaGreatDoorJoined15
import Derived.Test.YtojdfdlbdpdlkaaGreatDoorFsPut
namespace Go.Proofs.YtojdfdlbdpdlkaaGreatDoor
open Go.RowKit Go.Maps
set_option linter.unusedVariables false
set_option linter.unusedSimpArgs false

set_option maxRecDepth 20000 in
set_option maxHeartbeats 4000000 in
theorem fsAppend_spec (v : Value) (L : List Fk.Fl) (name text : ByteArray) (w : World) (base : Nat) (ho : Fk.Own w base 75 v L) (hL : Fk.Fits L) (hl : L.length ≤ maxLen) (hn : name.size ≤ maxLen) (ht : text.size ≤ maxLen) :
    Calls Tryz.prog 35 #[.agg #[v], .string name, .string text] w fun e w' => (∃ u R c, e = .returned (.agg #[u, .int .i64 c]) ∧ Fk.Own w' w.heap.size 75 u R ∧ Fk.Ans (Fk.opnA L name text) (Fk.resAppend L name text) R c) ∧ Below w.heap.size w w' := by
  obtain ⟨W, hW⟩ : ∃ W, W = (w.alloc (.cells #[v] 25)).alloc (.cells #[.slice none 0 0, .int .i64 0] 29) := ⟨_, rfl⟩
  have b0 : Below w.heap.size w W := by
    rw [hW]
    repeat (first | exact Below.refl _ _ | refine Below.alloc ?_ (by simp <;> omega) _)
  have hsz : W.heap.size = w.heap.size + 2 := by rw [hW]; simp
  have hcell : W.cell? ⟨w.heap.size, 0, none⟩ = some v := by rw [hW, Fk.cellOld _ _ _ _ (by simp), Fk.cellTop _ _ _ _ _ rfl]; rfl
  have q0 : W.cell? ⟨w.heap.size + 1, 0, none⟩ = some (.slice none 0 0) := by rw [hW, Fk.cellTop _ _ _ _ _ (by simp)]; rfl
  have q1 : W.cell? ⟨w.heap.size + 1, 1, none⟩ = some (.int .i64 0) := by rw [hW, Fk.cellTop _ _ _ _ _ (by simp)]; rfl
  have f0 : ∀ j, W.frozen? ⟨w.heap.size + 1, j, none⟩ = false := fun j => by rw [hW, Fk.frozTop _ _ _ _ _ (by simp)]
  have hv' := ho.view.below b0
  have HO0 := Fk.hide (ho.below b0)
  have HW := Fk.hide hW
  clear hW ho
  have hvW := hv'
  obtain ⟨a, cap, rfl, hs⟩ := hv'
  clear hs
  have FIN : Hid (∀ (w5 : World) (u : Value) (R : List Fk.Fl) (c : Int), Below w.heap.size w w5 → Fk.Own w5 (w.heap.size + 2) 75 u R → Fk.Own ((w5.setCell ⟨w.heap.size + 1, 0, none⟩ u).setCell ⟨w.heap.size + 1, 1, none⟩ (.int .i64 c)) w.heap.size 75 u R ∧ Below w.heap.size w ((w5.setCell ⟨w.heap.size + 1, 0, none⟩ u).setCell ⟨w.heap.size + 1, 1, none⟩ (.int .i64 c))) :=
    fun w5 u R c hb ho => ⟨Fk.Own.mono (ownsRow_setCell_below (ownsRow_setCell_below ho (by show w.heap.size + 1 < _; omega) _) (by show w.heap.size + 1 < _; omega) _) (by omega), (hb.setCell (by simp) _).setCell (by simp) _⟩
  have ht' := ht
  unfold maxLen at ht'
  by_cases hbig : (8000 : Int) < (text.size : Int)
  · have HA : Hid (Fk.Ans (Fk.opnA L name text) (Fk.resAppend L name text) [] 2) := .inl ⟨by unfold Fk.opnA; rw [if_pos (by omega)], rfl, rfl⟩
    go_enter Tryz.func35, Tryz.ntmps35
    go_wp2_with fail
    rw [← HW.out]
    have B1 := Fk.hide b0
    refine (l02Ill_any 2 _).mono ?_
    rintro e w3 ⟨rfl, b3⟩
    have t0 : w3.cell? ⟨w.heap.size + 1, 0, none⟩ = some (.slice none 0 0) := (b3.cell (by show w.heap.size + 1 < _; omega)).trans q0
    have t1 : w3.cell? ⟨w.heap.size + 1, 1, none⟩ = some (.int .i64 0) := (b3.cell (by show w.heap.size + 1 < _; omega)).trans q1
    have tf : ∀ j, w3.frozen? ⟨w.heap.size + 1, j, none⟩ = false := fun j => (b3.frozen (by show w.heap.size + 1 < _; omega)).trans (f0 j)
    have E3 := Fk.hide (FIN.out w3 (.slice none 0 0) [] 2 (B1.out.trans (b3.mono B1.out.size)) (Fk.own_nil _ _ _))
    clear b3 q0 q1 f0
    go_wp2_with fail
    exact bodyPost_ret (v := .agg #[.slice none 0 0, .int .i64 2]) (by simp [results, Tryz.results35, go_sem, t0, t1] <;> rfl) rfl ⟨⟨_, _, _, rfl, E3.out.1, HA.out⟩, E3.out.2⟩
  have hbig' : ¬ 8000 < text.size := by omega
  go_enter Tryz.func35, Tryz.ntmps35
  go_wp2_with fail
  rw [← HW.out]
  refine (l02Begin_any _ L name _ hvW hL hl hn).mono ?_
  rintro e w1 ⟨h1, b1⟩
  have B1 := Fk.hide (b0.trans (b1.mono b0.size))
  have hcell1 : w1.cell? ⟨w.heap.size, 0, none⟩ = some (.slice a L.length cap) := (b1.cell (by show w.heap.size < _; omega)).trans hcell
  have p0 : w1.cell? ⟨w.heap.size + 1, 0, none⟩ = some (.slice none 0 0) := (b1.cell (by show w.heap.size + 1 < _; omega)).trans q0
  have p1 : w1.cell? ⟨w.heap.size + 1, 1, none⟩ = some (.int .i64 0) := (b1.cell (by show w.heap.size + 1 < _; omega)).trans q1
  have pf : ∀ j, w1.frozen? ⟨w.heap.size + 1, j, none⟩ = false := fun j => (b1.frozen (by show w.heap.size + 1 < _; omega)).trans (f0 j)
  have HO1 := Fk.hide (HO0.out.below b1)
  have hv1 := hvW.below b1
  have hsz1 : w.heap.size + 2 ≤ w1.heap.size := by have := b1.size; omega
  clear b1 hcell q0 q1 f0 hvW
  have hA0 : Hid (Fk.opnA L name text = Fk.opn L [name]) := by show _ = _; unfold Fk.opnA; rw [if_neg hbig']
  have KB : Hid (∀ cs, Below w.heap.size w (w1.alloc (.cells cs 75)) ∧ (w1.alloc (.cells cs 75)).cell? ⟨w.heap.size + 1, 0, none⟩ = some (.slice none 0 0) ∧ (w1.alloc (.cells cs 75)).cell? ⟨w.heap.size + 1, 1, none⟩ = some (.int .i64 0) ∧ (∀ j, (w1.alloc (.cells cs 75)).frozen? ⟨w.heap.size + 1, j, none⟩ = false) ∧ (w1.alloc (.cells cs 75)).cell? ⟨w.heap.size, 0, none⟩ = some (.slice a L.length cap) ∧ Fk.Own (w1.alloc (.cells cs 75)) base 75 (.slice a L.length cap) L ∧ w.heap.size + 2 ≤ (w1.alloc (.cells cs 75)).heap.size) := by
    intro cs
    have b2 : Below w1.heap.size w1 (w1.alloc (.cells cs 75)) := (Below.refl _ _).alloc (Nat.le_refl _) _
    exact ⟨B1.out.trans (b2.mono B1.out.size), (b2.cell (by show w.heap.size + 1 < _; omega)).trans p0, (b2.cell (by show w.heap.size + 1 < _; omega)).trans p1, fun j => (b2.frozen (by show w.heap.size + 1 < _; omega)).trans (pf j), (b2.cell (by show w.heap.size < _; omega)).trans hcell1, HO1.out.below b2, by simp; omega⟩
  rcases h1 with ⟨h, rfl⟩ | ⟨h, rfl⟩ | ⟨h, hg, rfl⟩ | ⟨h, k, hk, hk1, hg, rfl⟩
  · skip
    have HA : Hid (Fk.Ans (Fk.opnA L name text) (Fk.resAppend L name text) [] 2) := .inl ⟨hA0.out.trans h, rfl, rfl⟩
    clear h
    go_wp2_with fail
    refine (l02Ill_any 2 _).mono ?_
    rintro e w3 ⟨rfl, b3⟩
    have t0 : w3.cell? ⟨w.heap.size + 1, 0, none⟩ = some (.slice none 0 0) := (b3.cell (by have := (KB.out #[.string name, .string { data := #[] }, .int .i64 0]).2.2.2.2.2.2; show w.heap.size + 1 < _; simp at this ⊢; omega)).trans (KB.out _).2.1
    have t1 : w3.cell? ⟨w.heap.size + 1, 1, none⟩ = some (.int .i64 0) := (b3.cell (by have := (KB.out #[.string name, .string { data := #[] }, .int .i64 0]).2.2.2.2.2.2; show w.heap.size + 1 < _; simp at this ⊢; omega)).trans (KB.out _).2.2.1
    have tf : ∀ j, w3.frozen? ⟨w.heap.size + 1, j, none⟩ = false := fun j => (b3.frozen (by have := (KB.out #[.string name, .string { data := #[] }, .int .i64 0]).2.2.2.2.2.2; show w.heap.size + 1 < _; simp at this ⊢; omega)).trans ((KB.out _).2.2.2.1 j)
    have E3 := Fk.hide (FIN.out w3 (.slice none 0 0) [] 2 ((KB.out _).1.trans (b3.mono (KB.out _).1.size)) (Fk.own_nil _ _ _))
    clear b3 p0 p1 pf
    go_wp2_with fail
    exact bodyPost_ret (v := .agg #[.slice none 0 0, .int .i64 2]) (by simp [results, Tryz.results35, go_sem, t0, t1] <;> rfl) rfl ⟨⟨_, _, _, rfl, E3.out.1, HA.out⟩, E3.out.2⟩
  · skip
    have HA : Hid (Fk.Ans (Fk.opnA L name text) (Fk.resAppend L name text) [] 1) := .inr (.inl ⟨hA0.out.trans h, rfl, rfl⟩)
    clear h
    go_wp2_with fail
    refine (l02Ill_any 1 _).mono ?_
    rintro e w3 ⟨rfl, b3⟩
    have t0 : w3.cell? ⟨w.heap.size + 1, 0, none⟩ = some (.slice none 0 0) := (b3.cell (by have := (KB.out #[.string name, .string { data := #[] }, .int .i64 0]).2.2.2.2.2.2; show w.heap.size + 1 < _; simp at this ⊢; omega)).trans (KB.out _).2.1
    have t1 : w3.cell? ⟨w.heap.size + 1, 1, none⟩ = some (.int .i64 0) := (b3.cell (by have := (KB.out #[.string name, .string { data := #[] }, .int .i64 0]).2.2.2.2.2.2; show w.heap.size + 1 < _; simp at this ⊢; omega)).trans (KB.out _).2.2.1
    have tf : ∀ j, w3.frozen? ⟨w.heap.size + 1, j, none⟩ = false := fun j => (b3.frozen (by have := (KB.out #[.string name, .string { data := #[] }, .int .i64 0]).2.2.2.2.2.2; show w.heap.size + 1 < _; simp at this ⊢; omega)).trans ((KB.out _).2.2.2.1 j)
    have E3 := Fk.hide (FIN.out w3 (.slice none 0 0) [] 1 ((KB.out _).1.trans (b3.mono (KB.out _).1.size)) (Fk.own_nil _ _ _))
    clear b3 p0 p1 pf
    go_wp2_with fail
    exact bodyPost_ret (v := .agg #[.slice none 0 0, .int .i64 1]) (by simp [results, Tryz.results35, go_sem, t0, t1] <;> rfl) rfl ⟨⟨_, _, _, rfl, E3.out.1, HA.out⟩, E3.out.2⟩
  · have hR := Fk.opn_right L [name] h
    have h12 := (Fk.right_inv L hR).1
    have hcx := (KB.out #[.string name, .string { data := #[] }, .int .i64 0]).2.2.2.2.1
    by_cases hfull : (12 : Int) ≤ (L.length : Int)
    · skip
      have HA : Hid (Fk.Ans (Fk.opnA L name text) (Fk.resAppend L name text) [] 9) := .inr (.inr ⟨hA0.out.trans h, .inl ⟨9, by simp only [Fk.resAppend, hg]; rw [if_pos (by omega)], rfl, rfl⟩⟩)
      clear h hg
      go_wp2_with fail
      refine (l02Ill_any 9 _).mono ?_
      rintro e w3 ⟨rfl, b3⟩
      have t0 : w3.cell? ⟨w.heap.size + 1, 0, none⟩ = some (.slice none 0 0) := (b3.cell (by have := (KB.out #[.string name, .string { data := #[] }, .int .i64 0]).2.2.2.2.2.2; show w.heap.size + 1 < _; simp at this ⊢; omega)).trans (KB.out _).2.1
      have t1 : w3.cell? ⟨w.heap.size + 1, 1, none⟩ = some (.int .i64 0) := (b3.cell (by have := (KB.out #[.string name, .string { data := #[] }, .int .i64 0]).2.2.2.2.2.2; show w.heap.size + 1 < _; simp at this ⊢; omega)).trans (KB.out _).2.2.1
      have tf : ∀ j, w3.frozen? ⟨w.heap.size + 1, j, none⟩ = false := fun j => (b3.frozen (by have := (KB.out #[.string name, .string { data := #[] }, .int .i64 0]).2.2.2.2.2.2; show w.heap.size + 1 < _; simp at this ⊢; omega)).trans ((KB.out _).2.2.2.1 j)
      have E3 := Fk.hide (FIN.out w3 (.slice none 0 0) [] 9 ((KB.out _).1.trans (b3.mono (KB.out _).1.size)) (Fk.own_nil _ _ _))
      clear b3 p0 p1 pf
      go_wp2_with fail
      exact bodyPost_ret (v := .agg #[.slice none 0 0, .int .i64 9]) (by simp [results, Tryz.results35, go_sem, t0, t1] <;> rfl) rfl ⟨⟨_, _, _, rfl, E3.out.1, HA.out⟩, E3.out.2⟩
    by_cases hbig2 : (3000 : Int) < (text.size : Int)
    · skip
      have HA : Hid (Fk.Ans (Fk.opnA L name text) (Fk.resAppend L name text) [] 9) := .inr (.inr ⟨hA0.out.trans h, .inl ⟨9, by simp only [Fk.resAppend, hg]; rw [if_neg (by omega), if_pos (by omega)], rfl, rfl⟩⟩)
      clear h hg
      go_wp2_with fail
      refine (l02Ill_any 9 _).mono ?_
      rintro e w3 ⟨rfl, b3⟩
      have t0 : w3.cell? ⟨w.heap.size + 1, 0, none⟩ = some (.slice none 0 0) := (b3.cell (by have := (KB.out #[.string name, .string { data := #[] }, .int .i64 0]).2.2.2.2.2.2; show w.heap.size + 1 < _; simp at this ⊢; omega)).trans (KB.out _).2.1
      have t1 : w3.cell? ⟨w.heap.size + 1, 1, none⟩ = some (.int .i64 0) := (b3.cell (by have := (KB.out #[.string name, .string { data := #[] }, .int .i64 0]).2.2.2.2.2.2; show w.heap.size + 1 < _; simp at this ⊢; omega)).trans (KB.out _).2.2.1
      have tf : ∀ j, w3.frozen? ⟨w.heap.size + 1, j, none⟩ = false := fun j => (b3.frozen (by have := (KB.out #[.string name, .string { data := #[] }, .int .i64 0]).2.2.2.2.2.2; show w.heap.size + 1 < _; simp at this ⊢; omega)).trans ((KB.out _).2.2.2.1 j)
      have E3 := Fk.hide (FIN.out w3 (.slice none 0 0) [] 9 ((KB.out _).1.trans (b3.mono (KB.out _).1.size)) (Fk.own_nil _ _ _))
      clear b3 p0 p1 pf
      go_wp2_with fail
      exact bodyPost_ret (v := .agg #[.slice none 0 0, .int .i64 9]) (by simp [results, Tryz.results35, go_sem, t0, t1] <;> rfl) rfl ⟨⟨_, _, _, rfl, E3.out.1, HA.out⟩, E3.out.2⟩
    have HA : Hid (∀ k2 q2, Fk.Place L (name, ByteArray.empty ++ text, 0) k2 q2 → Fk.Ans (Fk.opnA L name text) (Fk.resAppend L name text) (Fk.put L (name, ByteArray.empty ++ text, 0) k2 q2) 0) := fun k2 q2 hp => by
      have hsr := Fk.put_rises (Fk.right_rises L hR) hp
      exact .inr (.inr ⟨hA0.out.trans h, .inr ⟨_, by simp only [Fk.resAppend, hg]; rw [if_neg (by omega), if_neg (by omega)], rfl, hsr.1, hsr.2⟩⟩)
    clear h hg
    have hcy := (KB.out #[.string name, .string ({ data := #[] } ++ text), .int .i64 0]).2.2.2.2.1
    go_wp2_with fail
    refine (l02Put_any _ L (name, ByteArray.empty ++ text, 0) base _ (KB.out _).2.2.2.2.2.1 (by omega)).mono ?_
    rintro e w3 ⟨⟨u, k2, q2, rfl, hp, o3⟩, b3⟩
    have HO3 := Fk.hide o3
    have HP := Fk.hide hp
    obtain ⟨a3, n3, c3, rfl⟩ := o3.slice'
    have hz3 := (KB.out #[.string name, .string ({ data := #[] } ++ text), .int .i64 0]).2.2.2.2.2.2
    have t0 : w3.cell? ⟨w.heap.size + 1, 0, none⟩ = some (.slice none 0 0) := (b3.cell (by show w.heap.size + 1 < _; simp at hz3 ⊢; omega)).trans (KB.out _).2.1
    have t1 : w3.cell? ⟨w.heap.size + 1, 1, none⟩ = some (.int .i64 0) := (b3.cell (by show w.heap.size + 1 < _; simp at hz3 ⊢; omega)).trans (KB.out _).2.2.1
    have tf : ∀ j, w3.frozen? ⟨w.heap.size + 1, j, none⟩ = false := fun j => (b3.frozen (by show w.heap.size + 1 < _; simp at hz3 ⊢; omega)).trans ((KB.out _).2.2.2.1 j)
    have E3 := Fk.hide (FIN.out w3 _ _ 0 ((KB.out _).1.trans (b3.mono (KB.out _).1.size)) (HO3.out.mono (by simp at hz3 ⊢; omega)))
    clear b3 p0 p1 pf o3 hp hz3
    go_wp2_with fail
    exact bodyPost_ret (v := .agg #[.slice a3 n3 c3, .int .i64 0]) (by simp [results, Tryz.results35, go_sem, t0, t1] <;> rfl) rfl ⟨⟨_, _, _, rfl, E3.out.1, HA.out _ _ HP.out⟩, E3.out.2⟩
  · have hR := Fk.opn_right L [name] h
    have h12 := (Fk.right_inv L hR).1
    have hfk := (Fk.right_fit hR _ (Fk.get_some hg).1).2
    simp only at hfk
    have hcx := (KB.out #[.string name, .string { data := #[] }, .int .i64 0]).2.2.2.2.1
    have b2 : Below w1.heap.size w1 (w1.alloc (.cells #[.string name, .string { data := #[] }, .int .i64 0] 75)) := (Below.refl _ _).alloc (Nat.le_refl _) _
    obtain ⟨a', cap', ev, hs1⟩ := hv1
    simp only [Value.slice.injEq] at ev
    obtain ⟨rfl, _, rfl⟩ := ev
    obtain ⟨b, o, rfl, hb1, hs2⟩ := hs1 (by omega)
    have hs3 := hs2.below hb1 b2
    have x0 := hs3.c0 k hk
    have x1 := hs3.c1 k hk
    have x2 := hs3.c2 k hk
    clear hs1 hs2 hs3 b2
    have hwr : IntKind.i64.wrap (((Fk.dt L k).size : Int) + (text.size : Int)) = ((Fk.dt L k).size : Int) + (text.size : Int) := by rw [IntKind.wrap_i64]; omega
    by_cases hbig2 : (3000 : Int) < ((Fk.dt L k).size : Int) + (text.size : Int)
    · skip
      have HA : Hid (Fk.Ans (Fk.opnA L name text) (Fk.resAppend L name text) [] 9) := .inr (.inr ⟨hA0.out.trans h, .inl ⟨9, by simp only [Fk.resAppend, hg]; rw [if_pos (by omega)], rfl, rfl⟩⟩)
      clear h hg
      go_wp2_with fail
      refine (l02Ill_any 9 _).mono ?_
      rintro e w3 ⟨rfl, b3⟩
      have t0 : w3.cell? ⟨w.heap.size + 1, 0, none⟩ = some (.slice none 0 0) := (b3.cell (by have := (KB.out #[.string (Fk.nm L k), .string (Fk.dt L k), .int .i64 (Fk.sy L k)]).2.2.2.2.2.2; show w.heap.size + 1 < _; simp at this ⊢; omega)).trans (KB.out _).2.1
      have t1 : w3.cell? ⟨w.heap.size + 1, 1, none⟩ = some (.int .i64 0) := (b3.cell (by have := (KB.out #[.string (Fk.nm L k), .string (Fk.dt L k), .int .i64 (Fk.sy L k)]).2.2.2.2.2.2; show w.heap.size + 1 < _; simp at this ⊢; omega)).trans (KB.out _).2.2.1
      have tf : ∀ j, w3.frozen? ⟨w.heap.size + 1, j, none⟩ = false := fun j => (b3.frozen (by have := (KB.out #[.string (Fk.nm L k), .string (Fk.dt L k), .int .i64 (Fk.sy L k)]).2.2.2.2.2.2; show w.heap.size + 1 < _; simp at this ⊢; omega)).trans ((KB.out _).2.2.2.1 j)
      have E3 := Fk.hide (FIN.out w3 (.slice none 0 0) [] 9 ((KB.out _).1.trans (b3.mono (KB.out _).1.size)) (Fk.own_nil _ _ _))
      clear b3 p0 p1 pf
      go_wp2_with fail
      exact bodyPost_ret (v := .agg #[.slice none 0 0, .int .i64 9]) (by simp [results, Tryz.results35, go_sem, t0, t1] <;> rfl) rfl ⟨⟨_, _, _, rfl, E3.out.1, HA.out⟩, E3.out.2⟩
    have HA : Hid (∀ k2 q2, Fk.Place L (Fk.nm L k, Fk.dt L k ++ text, Fk.sy L k) k2 q2 → Fk.Ans (Fk.opnA L name text) (Fk.resAppend L name text) (Fk.put L (Fk.nm L k, Fk.dt L k ++ text, Fk.sy L k) k2 q2) 0) := fun k2 q2 hp => by
      have hsr := Fk.put_rises (Fk.right_rises L hR) hp
      refine .inr (.inr ⟨hA0.out.trans h, .inr ⟨_, by simp only [Fk.resAppend, hg]; rw [if_neg (by omega)], rfl, hsr.1, fun g => (hsr.2 g).trans ?_⟩⟩)
      rw [hk1]
    clear h hg hk1
    have hcy := (KB.out #[.string (Fk.nm L k), .string (Fk.dt L k ++ text), .int .i64 (Fk.sy L k)]).2.2.2.2.1
    go_wp2_with fail
    refine (l02Put_any _ L (Fk.nm L k, Fk.dt L k ++ text, Fk.sy L k) base _ (KB.out _).2.2.2.2.2.1 (by omega)).mono ?_
    rintro e w3 ⟨⟨u, k2, q2, rfl, hp, o3⟩, b3⟩
    have HO3 := Fk.hide o3
    have HP := Fk.hide hp
    obtain ⟨a3, n3, c3, rfl⟩ := o3.slice'
    have hz3 := (KB.out #[.string (Fk.nm L k), .string (Fk.dt L k ++ text), .int .i64 (Fk.sy L k)]).2.2.2.2.2.2
    have t0 : w3.cell? ⟨w.heap.size + 1, 0, none⟩ = some (.slice none 0 0) := (b3.cell (by show w.heap.size + 1 < _; simp at hz3 ⊢; omega)).trans (KB.out _).2.1
    have t1 : w3.cell? ⟨w.heap.size + 1, 1, none⟩ = some (.int .i64 0) := (b3.cell (by show w.heap.size + 1 < _; simp at hz3 ⊢; omega)).trans (KB.out _).2.2.1
    have tf : ∀ j, w3.frozen? ⟨w.heap.size + 1, j, none⟩ = false := fun j => (b3.frozen (by show w.heap.size + 1 < _; simp at hz3 ⊢; omega)).trans ((KB.out _).2.2.2.1 j)
    have E3 := Fk.hide (FIN.out w3 _ _ 0 ((KB.out _).1.trans (b3.mono (KB.out _).1.size)) (HO3.out.mono (by simp at hz3 ⊢; omega)))
    clear b3 p0 p1 pf o3 hp hz3
    go_wp2_with fail
    exact bodyPost_ret (v := .agg #[.slice a3 n3 c3, .int .i64 0]) (by simp [results, Tryz.results35, go_sem, t0, t1] <;> rfl) rfl ⟨⟨_, _, _, rfl, E3.out.1, HA.out _ _ HP.out⟩, E3.out.2⟩
end Go.Proofs.YtojdfdlbdpdlkaaGreatDoor

/- The walk of the specification's FsCut. -/
import Derived.Test.YtojdfdlbdpdlkaaGreatDoorJoined18
namespace Go.Proofs.YtojdfdlbdpdlkaaGreatDoor
open Go.RowKit Go.Maps
set_option linter.unusedVariables false
set_option linter.unusedSimpArgs false

theorem l01Min_any (x y : Int) (w : World) : Calls Tryz.prog 47 #[.int .i64 x, .int .i64 y] w fun e w' => e = .returned (.int .i64 (min y x)) ∧ Below w.heap.size w w' := by
  by_cases h : x < y
  · have e : min y x = x := by omega
    rw [e]
    clear e
    go_enter Tryz.func47, Tryz.ntmps47
    go_wp2
    go_ret
    exact ⟨rfl, Below.refl _ _⟩
  · have e : min y x = y := by omega
    rw [e]
    clear e
    go_enter Tryz.func47, Tryz.ntmps47
    go_wp2
    go_ret
    exact ⟨rfl, Below.refl _ _⟩

set_option maxRecDepth 20000 in
set_option maxHeartbeats 4000000 in
theorem fsCut_spec (v : Value) (L : List Fk.Fl) (name : ByteArray) (sz : Int) (w : World) (hv : Fk.View w v L) (hsh : Fk.Shut v) (hL : Fk.Fits L) (hl : L.length ≤ maxLen) (hn : name.size ≤ maxLen) (hsz : (Lit.int .i64 sz).wf = true) :
    Calls Tryz.prog 43 #[.agg #[v], .string name, .int .i64 sz] w fun e w' => (∃ u R c, e = .returned (.agg #[u, .int .i64 c]) ∧ Fk.Own w' w.heap.size 75 u R ∧ Fk.Ans (Fk.opn L [name]) (Fk.resCut L name sz) R c) ∧ Below w.heap.size w w' := by
  obtain ⟨W, hW⟩ : ∃ W, W = (w.alloc (.cells #[v] 25)).alloc (.cells #[.slice none 0 0, .int .i64 0] 29) := ⟨_, rfl⟩
  have b0 : Below w.heap.size w W := by
    rw [hW]
    repeat (first | exact Below.refl _ _ | refine Below.alloc ?_ (by simp <;> omega) _)
  have hsz : W.heap.size = w.heap.size + 2 := by rw [hW]; simp
  have hcell : W.cell? ⟨w.heap.size, 0, none⟩ = some v := by rw [hW, Fk.cellOld _ _ _ _ (by simp), Fk.cellTop _ _ _ _ _ rfl]; rfl
  have q0 : W.cell? ⟨w.heap.size + 1, 0, none⟩ = some (.slice none 0 0) := by rw [hW, Fk.cellTop _ _ _ _ _ (by simp)]; rfl
  have q1 : W.cell? ⟨w.heap.size + 1, 1, none⟩ = some (.int .i64 0) := by rw [hW, Fk.cellTop _ _ _ _ _ (by simp)]; rfl
  have f0 : ∀ j, W.frozen? ⟨w.heap.size + 1, j, none⟩ = false := fun j => by rw [hW, Fk.frozTop _ _ _ _ _ (by simp)]
  have hv' := hv.below b0
  have HW := Fk.hide hW
  clear hW hv
  have hvW := hv'
  obtain ⟨a, cap, rfl, hs⟩ := hv'
  clear hs
  go_enter Tryz.func43, Tryz.ntmps43
  go_wp2_with fail
  rw [← HW.out]
  refine (l02Begin_any _ L name _ hvW hL hl hn).mono ?_
  rintro e w1 ⟨h1, b1⟩
  have B1 := Fk.hide (b0.trans (b1.mono b0.size))
  have hcell1 : w1.cell? ⟨w.heap.size, 0, none⟩ = some (.slice a L.length cap) := (b1.cell (by show w.heap.size < _; omega)).trans hcell
  have p0 : w1.cell? ⟨w.heap.size + 1, 0, none⟩ = some (.slice none 0 0) := (b1.cell (by show w.heap.size + 1 < _; omega)).trans q0
  have p1 : w1.cell? ⟨w.heap.size + 1, 1, none⟩ = some (.int .i64 0) := (b1.cell (by show w.heap.size + 1 < _; omega)).trans q1
  have pf : ∀ j, w1.frozen? ⟨w.heap.size + 1, j, none⟩ = false := fun j => (b1.frozen (by show w.heap.size + 1 < _; omega)).trans (f0 j)
  have hv1 := hvW.below b1
  have hsz1 : w.heap.size + 2 ≤ w1.heap.size := by have := b1.size; omega
  clear b1 hcell q0 q1 f0 hvW
  have FIN : Hid (∀ (w5 : World) (u : Value) (R : List Fk.Fl) (c : Int), Below w.heap.size w w5 → Fk.Own w5 (w.heap.size + 2) 75 u R → Fk.Own ((w5.setCell ⟨w.heap.size + 1, 0, none⟩ u).setCell ⟨w.heap.size + 1, 1, none⟩ (.int .i64 c)) w.heap.size 75 u R ∧ Below w.heap.size w ((w5.setCell ⟨w.heap.size + 1, 0, none⟩ u).setCell ⟨w.heap.size + 1, 1, none⟩ (.int .i64 c))) :=
    fun w5 u R c hb ho => ⟨Fk.Own.mono (ownsRow_setCell_below (ownsRow_setCell_below ho (by show w.heap.size + 1 < _; omega) _) (by show w.heap.size + 1 < _; omega) _) (by omega), (hb.setCell (by simp) _).setCell (by simp) _⟩
  rcases h1 with ⟨h, rfl⟩ | ⟨h, rfl⟩ | ⟨h, hg, rfl⟩ | ⟨h, k, hk, hk1, hg, rfl⟩
  · have HA : Hid (Fk.Ans (Fk.opn L [name]) (Fk.resCut L name sz) [] 2) := .inl ⟨h, rfl, rfl⟩
    clear h
    go_wp2_with fail
    refine (l02Ill_any 2 _).mono ?_
    rintro e w3 ⟨rfl, b3⟩
    have t0 : w3.cell? ⟨w.heap.size + 1, 0, none⟩ = some (.slice none 0 0) := (b3.cell (by show w.heap.size + 1 < _; omega)).trans p0
    have t1 : w3.cell? ⟨w.heap.size + 1, 1, none⟩ = some (.int .i64 0) := (b3.cell (by show w.heap.size + 1 < _; omega)).trans p1
    have tf : ∀ j, w3.frozen? ⟨w.heap.size + 1, j, none⟩ = false := fun j => (b3.frozen (by show w.heap.size + 1 < _; omega)).trans (pf j)
    have E3 := Fk.hide (FIN.out w3 (.slice none 0 0) [] 2 (B1.out.trans (b3.mono B1.out.size)) (Fk.own_nil _ _ _))
    clear b3 p0 p1 pf
    go_wp2_with fail
    exact bodyPost_ret (v := .agg #[.slice none 0 0, .int .i64 2]) (by simp [results, Tryz.results43, go_sem, t0, t1] <;> rfl) rfl ⟨⟨_, _, _, rfl, E3.out.1, HA.out⟩, E3.out.2⟩
  · have HA : Hid (Fk.Ans (Fk.opn L [name]) (Fk.resCut L name sz) [] 1) := .inr (.inl ⟨h, rfl, rfl⟩)
    clear h
    go_wp2_with fail
    refine (l02Ill_any 1 _).mono ?_
    rintro e w3 ⟨rfl, b3⟩
    have t0 : w3.cell? ⟨w.heap.size + 1, 0, none⟩ = some (.slice none 0 0) := (b3.cell (by show w.heap.size + 1 < _; omega)).trans p0
    have t1 : w3.cell? ⟨w.heap.size + 1, 1, none⟩ = some (.int .i64 0) := (b3.cell (by show w.heap.size + 1 < _; omega)).trans p1
    have tf : ∀ j, w3.frozen? ⟨w.heap.size + 1, j, none⟩ = false := fun j => (b3.frozen (by show w.heap.size + 1 < _; omega)).trans (pf j)
    have E3 := Fk.hide (FIN.out w3 (.slice none 0 0) [] 1 (B1.out.trans (b3.mono B1.out.size)) (Fk.own_nil _ _ _))
    clear b3 p0 p1 pf
    go_wp2_with fail
    exact bodyPost_ret (v := .agg #[.slice none 0 0, .int .i64 1]) (by simp [results, Tryz.results43, go_sem, t0, t1] <;> rfl) rfl ⟨⟨_, _, _, rfl, E3.out.1, HA.out⟩, E3.out.2⟩
  · have HA : Hid (Fk.Ans (Fk.opn L [name]) (Fk.resCut L name sz) [] 6) := .inr (.inr ⟨h, .inl ⟨6, by simp [Fk.resCut, hg], rfl, rfl⟩⟩)
    clear h hg
    go_wp2_with fail
    refine (l02Ill_any 6 _).mono ?_
    rintro e w3 ⟨rfl, b3⟩
    have t0 : w3.cell? ⟨w.heap.size + 1, 0, none⟩ = some (.slice none 0 0) := (b3.cell (by show w.heap.size + 1 < _; omega)).trans p0
    have t1 : w3.cell? ⟨w.heap.size + 1, 1, none⟩ = some (.int .i64 0) := (b3.cell (by show w.heap.size + 1 < _; omega)).trans p1
    have tf : ∀ j, w3.frozen? ⟨w.heap.size + 1, j, none⟩ = false := fun j => (b3.frozen (by show w.heap.size + 1 < _; omega)).trans (pf j)
    have E3 := Fk.hide (FIN.out w3 (.slice none 0 0) [] 6 (B1.out.trans (b3.mono B1.out.size)) (Fk.own_nil _ _ _))
    clear b3 p0 p1 pf
    go_wp2_with fail
    exact bodyPost_ret (v := .agg #[.slice none 0 0, .int .i64 6]) (by simp [results, Tryz.results43, go_sem, t0, t1] <;> rfl) rfl ⟨⟨_, _, _, rfl, E3.out.1, HA.out⟩, E3.out.2⟩
  · have hR := Fk.opn_right L [name] h
    have h12 := (Fk.right_inv L hR).1
    have HV1 := Fk.hide hv1
    obtain ⟨a', cap', ev, hs1⟩ := hv1
    simp only [Value.slice.injEq] at ev
    obtain ⟨rfl, _, rfl⟩ := ev
    obtain ⟨b, o, rfl, hb1, hs2⟩ := hs1 (by omega)
    clear hs1
    have x1 := hs2.c1 k hk
    have HS := Fk.hide hs2
    have x2 := Fk.hide (hs2.c2 k hk)
    clear hs2
    go_wp2_with fail
    refine (l02Is_any sz 0 ((Fk.dt L k).size : Int) _).mono ?_
    rintro e w1' ⟨rfl, e1'⟩
    rw [e1']
    clear e1' w1'
    by_cases hin : 0 ≤ sz ∧ sz ≤ ((Fk.dt L k).size : Int)
    · rw [decide_eq_true hin]
      have HA : Hid (Fk.Ans (Fk.opn L [name]) (Fk.resCut L name sz) (L.set k (name, (Fk.dt L k).extract 0 sz.toNat, min (Fk.sy L k) sz)) 0) := by
        have hsr := Fk.set_rises (Fk.right_rises L hR) hk name ((Fk.dt L k).extract 0 sz.toNat) (min (Fk.sy L k) sz) hk1
        refine .inr (.inr ⟨h, .inr ⟨_, ?_, rfl, hsr.1, hsr.2⟩⟩)
        simp only [Fk.resCut, hg]
        rw [if_pos hin]
        simp only [Fk.cutTo, hk1]
      obtain ⟨t, ht⟩ : ∃ t, t = (Fk.dt L k).extract 0 sz.toNat := ⟨_, rfl⟩
      obtain ⟨m, hm⟩ : ∃ m, m = min (Fk.sy L k) sz := ⟨_, rfl⟩
      have hsl : ∀ W, (Instr.slice 9 (.string (Fk.dt L k)) none (some (.int .i64 sz)) none).run Tryz.prog W = .ok (.string t) W := fun W => by
        rw [ht, run_slice_string_h _ _ _ Tryz.underlying9 _ _ hin.1 hin.2]
      have fm : ∀ w', Calls Tryz.prog 47 #[.int .i64 sz, .int .i64 (Fk.sy L k)] w' fun e w'' => e = .returned (.int .i64 m) ∧ Below w'.heap.size w' w'' := fun w' => by rw [hm]; exact l01Min_any sz (Fk.sy L k) w'
      rw [← ht, ← hm] at HA
      have FM := Fk.hide fm
      have HSL := Fk.hide hsl
      clear h hg ht hm fm hsl
      have HN := Fk.hide hk1
      clear hk1 hin
      go_wp2_with fail
      refine (l02Copy_any _ L _ HV1.out hsh (by omega)).mono ?_
      rintro e w3 ⟨⟨u, rfl, ho⟩, b3⟩
      have B3 := Fk.hide (B1.out.trans (b3.mono B1.out.size))
      have hcell3 : w3.cell? ⟨w.heap.size, 0, none⟩ = some (.slice (some ⟨b, o, none⟩) L.length cap) := (b3.cell (by show w.heap.size < _; omega)).trans hcell1
      have t0 : w3.cell? ⟨w.heap.size + 1, 0, none⟩ = some (.slice none 0 0) := (b3.cell (by show w.heap.size + 1 < _; omega)).trans p0
      have t1 : w3.cell? ⟨w.heap.size + 1, 1, none⟩ = some (.int .i64 0) := (b3.cell (by show w.heap.size + 1 < _; omega)).trans p1
      have tf : ∀ j, w3.frozen? ⟨w.heap.size + 1, j, none⟩ = false := fun j => (b3.frozen (by show w.heap.size + 1 < _; omega)).trans (pf j)
      have x3 : w3.cell? ⟨b, o + k * 3 + 1, none⟩ = some (.string (Fk.dt L k)) := (b3.cell (by show b < _; omega)).trans x1
      have y3 : w3.cell? ⟨b, o + k * 3 + 2, none⟩ = some (.int .i64 (Fk.sy L k)) := (b3.cell (by show b < _; omega)).trans x2.out
      have hsz3 : w1.heap.size ≤ w3.heap.size := b3.size
      clear b3 hcell1 p0 p1 pf x1 x2
      obtain ⟨g, cu, rfl, hgb, hgs⟩ : ∃ g cu, u = .slice (some ⟨g, 0, none⟩) L.length cu ∧ w1.heap.size ≤ g ∧ g < w3.heap.size := by
        rcases ho.form with ⟨h1, h2⟩ | ⟨g, c, h1, h2, h3⟩
        · rw [h2] at hk; simp at hk
        · exact ⟨g, c, h1, h2, h3⟩
      obtain ⟨W4, hW4⟩ : ∃ W4, W4 = w3.alloc (.cells #[.slice (some ⟨g, 0, none⟩) L.length cu] 25) := ⟨_, rfl⟩
      have b4 : Below w3.heap.size w3 W4 := by rw [hW4]; exact (Below.refl _ _).alloc (Nat.le_refl _) _
      have d4 : W4.cell? ⟨w3.heap.size, 0, none⟩ = some (.slice (some ⟨g, 0, none⟩) L.length cu) := by rw [hW4, Fk.cellTop _ _ _ _ _ rfl]; rfl
      have hsz4 : W4.heap.size = w3.heap.size + 1 := by rw [hW4]; simp
      have o4 := Fk.hide (ho.below b4)
      have hcell4 : W4.cell? ⟨w.heap.size, 0, none⟩ = some (.slice (some ⟨b, o, none⟩) L.length cap) := (b4.cell (by show w.heap.size < _; omega)).trans hcell3
      have t40 : W4.cell? ⟨w.heap.size + 1, 0, none⟩ = some (.slice none 0 0) := (b4.cell (by show w.heap.size + 1 < _; omega)).trans t0
      have t41 : W4.cell? ⟨w.heap.size + 1, 1, none⟩ = some (.int .i64 0) := (b4.cell (by show w.heap.size + 1 < _; omega)).trans t1
      have t4f : ∀ j, W4.frozen? ⟨w.heap.size + 1, j, none⟩ = false := fun j => (b4.frozen (by show w.heap.size + 1 < _; omega)).trans (tf j)
      have x4 : W4.cell? ⟨b, o + k * 3 + 1, none⟩ = some (.string (Fk.dt L k)) := (b4.cell (by show b < _; omega)).trans x3
      have y4 : W4.cell? ⟨b, o + k * 3 + 2, none⟩ = some (.int .i64 (Fk.sy L k)) := (b4.cell (by show b < _; omega)).trans y3
      have B4 := Fk.hide (B3.out.trans (b4.mono B3.out.size))
      have HW4 := Fk.hide hW4
      have hgne : g ≠ w3.heap.size := by omega
      have hgne2 : g ≠ w.heap.size + 1 := by omega
      have hgne3 : g ≠ w.heap.size := by omega
      have hgne4 : g ≠ b := by omega
      clear hW4 b4 hcell3 t0 t1 tf x3 y3 ho
      go_wp2_with fail
      rw [← HW4.out]
      have r1 := cell_regrown x4
      have r2 := cell_regrown hcell4
      have r3 := cell_regrown d4
      have hsl := HSL.out
      refine Qt.region_below_tail 13 (by kernel_rfl) (by kernel_rfl) ?_
      simp only [List.take_succ_cons, List.take_zero, List.drop_succ_cons, List.drop_zero]
      repeat (go_big_quiet_step (fail))
      refine wpQuiet_nil ?_
      intro w5 hw'
      obtain ⟨⟨dq, osq⟩, hw''⟩ := hw'
      have b5 : Below W4.heap.size W4 w5 := by rw [hw'']; exact below_regrown W4 dq osq
      have B5 := Fk.hide (B4.out.trans (b5.mono B4.out.size))
      have o5 := Fk.hide (o4.out.below b5)
      obtain ⟨⟨v0, v1, v2⟩, v3, v4, v5⟩ := o5.out.at hk
      have hz5 : W4.heap.size ≤ w5.heap.size := b5.size
      have c5 : w5.cell? ⟨w.heap.size, 0, none⟩ = some (.slice (some ⟨b, o, none⟩) L.length cap) := (b5.cell (by show w.heap.size < _; omega)).trans hcell4
      have d5 : w5.cell? ⟨w3.heap.size, 0, none⟩ = some (.slice (some ⟨g, 0, none⟩) L.length cu) := (b5.cell (by show w3.heap.size < _; omega)).trans d4
      have z0 : w5.cell? ⟨w.heap.size + 1, 0, none⟩ = some (.slice none 0 0) := (b5.cell (by show w.heap.size + 1 < _; omega)).trans t40
      have z1 : w5.cell? ⟨w.heap.size + 1, 1, none⟩ = some (.int .i64 0) := (b5.cell (by show w.heap.size + 1 < _; omega)).trans t41
      have zf : ∀ j, w5.frozen? ⟨w.heap.size + 1, j, none⟩ = false := fun j => (b5.frozen (by show w.heap.size + 1 < _; omega)).trans (t4f j)
      have y5 : w5.cell? ⟨b, o + k * 3 + 2, none⟩ = some (.int .i64 (Fk.sy L k)) := (b5.cell (by show b < _; omega)).trans y4
      obtain ⟨W6, hW6⟩ : ∃ W6, W6 = w5.setCell ⟨g, k * 3 + 1, none⟩ (.string t) := ⟨_, rfl⟩
      have o6 := Fk.hide (o5.out.putData hk t)
      rw [← hW6] at o6
      have hz6 : w5.heap.size = W6.heap.size := by rw [hW6]; simp
      have c6 : W6.cell? ⟨w.heap.size, 0, none⟩ = some (.slice (some ⟨b, o, none⟩) L.length cap) := by rw [hW6, World.cell?_of_block (w := w5) (Deep.blk_setCell_other _ _ _ _ (fun e => hgne3 e.symm))]; exact c5
      have d6 : W6.cell? ⟨w3.heap.size, 0, none⟩ = some (.slice (some ⟨g, 0, none⟩) L.length cu) := by rw [hW6, World.cell?_of_block (w := w5) (Deep.blk_setCell_other _ _ _ _ (fun e => hgne e.symm))]; exact d5
      have y6 : W6.cell? ⟨b, o + k * 3 + 2, none⟩ = some (.int .i64 (Fk.sy L k)) := by rw [hW6, World.cell?_of_block (w := w5) (Deep.blk_setCell_other _ _ _ _ (fun e => hgne4 e.symm))]; exact y5
      have z60 : W6.cell? ⟨w.heap.size + 1, 0, none⟩ = some (.slice none 0 0) := by rw [hW6, World.cell?_of_block (w := w5) (Deep.blk_setCell_other _ _ _ _ (fun e => hgne2 e.symm))]; exact z0
      have z61 : W6.cell? ⟨w.heap.size + 1, 1, none⟩ = some (.int .i64 0) := by rw [hW6, World.cell?_of_block (w := w5) (Deep.blk_setCell_other _ _ _ _ (fun e => hgne2 e.symm))]; exact z1
      have z6f : ∀ j, W6.frozen? ⟨w.heap.size + 1, j, none⟩ = false := fun j => by rw [hW6, World.frozen?_of_block (w := w5) (Deep.blk_setCell_other _ _ _ _ (fun e => hgne2 e.symm))]; exact zf j
      have B6 : Hid (Below w.heap.size w W6) := by rw [hW6]; exact B5.out.setCell (by show w.heap.size ≤ g; omega) _
      have HW6 := Fk.hide hW6
      clear hw'' b5 r1 r2 r3 x4 d4 hcell4 t40 t41 t4f y4 z0 z1 zf y5 c5 hsl hW6 v0 v2 v3 v5
      go_wp2_with fail
      rw [← HW6.out]
      have fm := FM.out
      have s1 := cell_regrown y6
      have s2 := cell_regrown c6
      have s3 := cell_regrown d6
      refine Qt.region_below_tail 13 (by kernel_rfl) (by kernel_rfl) ?_
      simp only [List.take_succ_cons, List.take_zero, List.drop_succ_cons, List.drop_zero]
      repeat (go_big_quiet_step (first | (go_at_call 47; exact Calls.regrown_of (fm _))))
      refine wpQuiet_nil ?_
      intro w7 hw'
      obtain ⟨⟨dq7, osq7⟩, hw''⟩ := hw'
      have b7 : Below W6.heap.size W6 w7 := by rw [hw'']; exact below_regrown W6 dq7 osq7
      have B7 := Fk.hide (B6.out.trans (b7.mono B6.out.size))
      have o7 := Fk.hide (o6.out.below b7)
      have hk7 : k < (L.set k (Fk.nm L k, t, Fk.sy L k)).length := by simpa using hk
      obtain ⟨⟨v0, v1, v2⟩, v3, v4, v5⟩ := o7.out.at hk7
      have d7 : w7.cell? ⟨w3.heap.size, 0, none⟩ = some (.slice (some ⟨g, 0, none⟩) L.length cu) := (b7.cell (by show w3.heap.size < _; omega)).trans d6
      have z0 : w7.cell? ⟨w.heap.size + 1, 0, none⟩ = some (.slice none 0 0) := (b7.cell (by show w.heap.size + 1 < _; omega)).trans z60
      have z1 : w7.cell? ⟨w.heap.size + 1, 1, none⟩ = some (.int .i64 0) := (b7.cell (by show w.heap.size + 1 < _; omega)).trans z61
      have zf : ∀ j, w7.frozen? ⟨w.heap.size + 1, j, none⟩ = false := fun j => (b7.frozen (by show w.heap.size + 1 < _; omega)).trans (z6f j)
      obtain ⟨W8, hW8⟩ : ∃ W8, W8 = w7.setCell ⟨g, k * 3 + 2, none⟩ (.int .i64 m) := ⟨_, rfl⟩
      have o8 := Fk.hide (o7.out.putSync hk7 m)
      rw [← hW8] at o8
      have d8 : W8.cell? ⟨w3.heap.size, 0, none⟩ = some (.slice (some ⟨g, 0, none⟩) L.length cu) := by rw [hW8, World.cell?_of_block (w := w7) (Deep.blk_setCell_other _ _ _ _ (fun e => hgne e.symm))]; exact d7
      have z80 : W8.cell? ⟨w.heap.size + 1, 0, none⟩ = some (.slice none 0 0) := by rw [hW8, World.cell?_of_block (w := w7) (Deep.blk_setCell_other _ _ _ _ (fun e => hgne2 e.symm))]; exact z0
      have z81 : W8.cell? ⟨w.heap.size + 1, 1, none⟩ = some (.int .i64 0) := by rw [hW8, World.cell?_of_block (w := w7) (Deep.blk_setCell_other _ _ _ _ (fun e => hgne2 e.symm))]; exact z1
      have z8f : ∀ j, W8.frozen? ⟨w.heap.size + 1, j, none⟩ = false := fun j => by rw [hW8, World.frozen?_of_block (w := w7) (Deep.blk_setCell_other _ _ _ _ (fun e => hgne2 e.symm))]; exact zf j
      have B8 : Hid (Below w.heap.size w W8) := by rw [hW8]; exact B7.out.setCell (by show w.heap.size ≤ g; omega) _
      have O9 : Hid (Fk.Own W8 (w.heap.size + 2) 75 (.slice (some ⟨g, 0, none⟩) L.length cu) (L.set k (name, t, m))) := by
        have := o8.out
        have e1 : Fk.nm (L.set k (Fk.nm L k, t, Fk.sy L k)) k = name := by rw [← HN.out]; simp [Fk.nm, List.getD, hk]
        have e2 : Fk.dt (L.set k (Fk.nm L k, t, Fk.sy L k)) k = t := by simp [Fk.dt, List.getD, hk]
        rw [e1, e2, List.set_set] at this
        exact this.mono (by omega)
      have E9 := Fk.hide (FIN.out W8 _ _ 0 B8.out O9.out)
      clear hw'' b7 s1 s2 s3 y6 d6 d7 c6 z0 z1 zf z60 z61 z6f o8 fm
      subst hW8
      go_wp2_with fail
      exact bodyPost_ret (v := .agg #[.slice (some ⟨g, 0, none⟩) L.length cu, .int .i64 0]) (by simp [results, Tryz.results43, go_sem, z80, z81] <;> rfl) rfl ⟨⟨_, _, _, rfl, E9.out.1, HA.out⟩, E9.out.2⟩
    · rw [decide_eq_false hin]
      have HA : Hid (Fk.Ans (Fk.opn L [name]) (Fk.resCut L name sz) [] 8) := .inr (.inr ⟨h, .inl ⟨8, by simp only [Fk.resCut, hg]; rw [if_neg hin], rfl, rfl⟩⟩)
      clear h hg hin
      go_wp2_with fail
      refine (l02Ill_any 8 _).mono ?_
      rintro e w3 ⟨rfl, b3⟩
      have t0 : w3.cell? ⟨w.heap.size + 1, 0, none⟩ = some (.slice none 0 0) := (b3.cell (by show w.heap.size + 1 < _; omega)).trans p0
      have t1 : w3.cell? ⟨w.heap.size + 1, 1, none⟩ = some (.int .i64 0) := (b3.cell (by show w.heap.size + 1 < _; omega)).trans p1
      have tf : ∀ j, w3.frozen? ⟨w.heap.size + 1, j, none⟩ = false := fun j => (b3.frozen (by show w.heap.size + 1 < _; omega)).trans (pf j)
      have E3 := Fk.hide (FIN.out w3 (.slice none 0 0) [] 8 (B1.out.trans (b3.mono B1.out.size)) (Fk.own_nil _ _ _))
      clear b3 p0 p1 pf
      go_wp2_with fail
      exact bodyPost_ret (v := .agg #[.slice none 0 0, .int .i64 8]) (by simp [results, Tryz.results43, go_sem, t0, t1] <;> rfl) rfl ⟨⟨_, _, _, rfl, E3.out.1, HA.out⟩, E3.out.2⟩
end Go.Proofs.YtojdfdlbdpdlkaaGreatDoor

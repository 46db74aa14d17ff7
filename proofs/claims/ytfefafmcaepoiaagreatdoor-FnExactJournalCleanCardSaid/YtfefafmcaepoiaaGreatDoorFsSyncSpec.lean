/- The walk of the specification's FsSync. -/
import Derived.Test.YtfefafmcaepoiaaGreatDoorFsSyncWalks
namespace Go.Proofs.YtfefafmcaepoiaaGreatDoor
open Go.RowKit Go.Maps
set_option linter.unusedVariables false

set_option maxHeartbeats 2000000 in
theorem fsSync_spec (v : Value) (L : List Fk.Fl) (name : ByteArray) (w : World) (hv : Fk.View w v L) (hsh : Fk.Shut v) (hL : Fk.Fits L) (hl : L.length ≤ maxLen) (hn : name.size ≤ maxLen) :
    Calls Tryz.prog 22 #[.agg #[v], .string name] w fun e w' => (∃ u R c, e = .returned (.agg #[u, .int .i64 c]) ∧ Fk.Own w' w.heap.size 73 u R ∧ Fk.Ans (Fk.opn L [name]) (Fk.resSync L name) R c) ∧ Below w.heap.size w w' := by
  obtain ⟨W, hW⟩ : ∃ W, W = (w.alloc (.cells #[v] 28)).alloc (.cells #[.slice none 0 0, .int .i64 0] 30) := ⟨_, rfl⟩
  have b0 : Below w.heap.size w W := by
    rw [hW]
    repeat (first | exact Below.refl _ _ | refine Below.alloc ?_ (by simp <;> omega) _)
  have hsz : W.heap.size = w.heap.size + 2 := by rw [hW]; simp
  have hcell : W.cell? ⟨w.heap.size, 0, none⟩ = some v := by rw [hW, Fk.cellOld _ _ _ _ (by simp), Fk.cellTop _ _ _ _ _ rfl]; rfl
  have q0 : W.cell? ⟨w.heap.size + 1, 0, none⟩ = some (.slice none 0 0) := by rw [hW, Fk.cellTop _ _ _ _ _ (by simp)]; rfl
  have q1 : W.cell? ⟨w.heap.size + 1, 1, none⟩ = some (.int .i64 0) := by rw [hW, Fk.cellTop _ _ _ _ _ (by simp)]; rfl
  have f0 : ∀ j, W.frozen? ⟨w.heap.size + 1, j, none⟩ = false := fun j => by rw [hW, Fk.frozTop _ _ _ _ _ (by simp)]
  have hv' := hv.below b0
  have HW := Fk.hide hW
  clear hW hv
  have hvW := hv'
  obtain ⟨a, cap, rfl, hs⟩ := hv'
  clear hs
  go_enter Tryz.func22, Tryz.ntmps22
  go_wp2_with fail
  rw [← HW.out]
  refine (l02Begin_any _ L name _ hvW hL hl hn).mono ?_
  rintro e w1 ⟨h1, b1⟩
  have B1 := Fk.hide (b0.trans (b1.mono b0.size))
  have hcell1 : w1.cell? ⟨w.heap.size, 0, none⟩ = some (.slice a L.length cap) := (b1.cell (by show w.heap.size < _; omega)).trans hcell
  have p0 : w1.cell? ⟨w.heap.size + 1, 0, none⟩ = some (.slice none 0 0) := (b1.cell (by show w.heap.size + 1 < _; omega)).trans q0
  have p1 : w1.cell? ⟨w.heap.size + 1, 1, none⟩ = some (.int .i64 0) := (b1.cell (by show w.heap.size + 1 < _; omega)).trans q1
  have pf : ∀ j, w1.frozen? ⟨w.heap.size + 1, j, none⟩ = false := fun j => (b1.frozen (by show w.heap.size + 1 < _; omega)).trans (f0 j)
  have hv1 := hvW.below b1
  have hsz1 : w.heap.size + 2 ≤ w1.heap.size := by have := b1.size; omega
  clear b1 hcell q0 q1 f0 hvW
  have FIN : Hid (∀ (w5 : World) (u : Value) (R : List Fk.Fl) (c : Int), Below w.heap.size w w5 → Fk.Own w5 (w.heap.size + 2) 73 u R → Fk.Own ((w5.setCell ⟨w.heap.size + 1, 0, none⟩ u).setCell ⟨w.heap.size + 1, 1, none⟩ (.int .i64 c)) w.heap.size 73 u R ∧ Below w.heap.size w ((w5.setCell ⟨w.heap.size + 1, 0, none⟩ u).setCell ⟨w.heap.size + 1, 1, none⟩ (.int .i64 c))) :=
    fun w5 u R c hb ho => ⟨Fk.Own.mono (ownsRow_setCell_below (ownsRow_setCell_below ho (by show w.heap.size + 1 < _; omega) _) (by show w.heap.size + 1 < _; omega) _) (by omega), (hb.setCell (by simp) _).setCell (by simp) _⟩
  rcases h1 with ⟨h, rfl⟩ | ⟨h, rfl⟩ | ⟨h, hg, rfl⟩ | ⟨h, k, hk, hk1, hg, rfl⟩
  · have HA : Hid (Fk.Ans (Fk.opn L [name]) (Fk.resSync L name) [] 2) := .inl ⟨h, rfl, rfl⟩
    clear h
    go_wp2_with fail
    refine (l02Ill_any 2 _).mono ?_
    rintro e w3 ⟨rfl, b3⟩
    have t0 : w3.cell? ⟨w.heap.size + 1, 0, none⟩ = some (.slice none 0 0) := (b3.cell (by show w.heap.size + 1 < _; omega)).trans p0
    have t1 : w3.cell? ⟨w.heap.size + 1, 1, none⟩ = some (.int .i64 0) := (b3.cell (by show w.heap.size + 1 < _; omega)).trans p1
    have tf : ∀ j, w3.frozen? ⟨w.heap.size + 1, j, none⟩ = false := fun j => (b3.frozen (by show w.heap.size + 1 < _; omega)).trans (pf j)
    have E3 := Fk.hide (FIN.out w3 (.slice none 0 0) [] 2 (B1.out.trans (b3.mono B1.out.size)) (Fk.own_nil _ _ _))
    clear b3 p0 p1 pf
    go_wp2_with fail
    exact bodyPost_ret (v := .agg #[.slice none 0 0, .int .i64 2]) (by simp [results, Tryz.results22, go_sem, t0, t1] <;> rfl) rfl ⟨⟨_, _, _, rfl, E3.out.1, HA.out⟩, E3.out.2⟩
  · have HA : Hid (Fk.Ans (Fk.opn L [name]) (Fk.resSync L name) [] 1) := .inr (.inl ⟨h, rfl, rfl⟩)
    clear h
    go_wp2_with fail
    refine (l02Ill_any 1 _).mono ?_
    rintro e w3 ⟨rfl, b3⟩
    have t0 : w3.cell? ⟨w.heap.size + 1, 0, none⟩ = some (.slice none 0 0) := (b3.cell (by show w.heap.size + 1 < _; omega)).trans p0
    have t1 : w3.cell? ⟨w.heap.size + 1, 1, none⟩ = some (.int .i64 0) := (b3.cell (by show w.heap.size + 1 < _; omega)).trans p1
    have tf : ∀ j, w3.frozen? ⟨w.heap.size + 1, j, none⟩ = false := fun j => (b3.frozen (by show w.heap.size + 1 < _; omega)).trans (pf j)
    have E3 := Fk.hide (FIN.out w3 (.slice none 0 0) [] 1 (B1.out.trans (b3.mono B1.out.size)) (Fk.own_nil _ _ _))
    clear b3 p0 p1 pf
    go_wp2_with fail
    exact bodyPost_ret (v := .agg #[.slice none 0 0, .int .i64 1]) (by simp [results, Tryz.results22, go_sem, t0, t1] <;> rfl) rfl ⟨⟨_, _, _, rfl, E3.out.1, HA.out⟩, E3.out.2⟩
  · have HA : Hid (Fk.Ans (Fk.opn L [name]) (Fk.resSync L name) [] 6) := .inr (.inr ⟨h, .inl ⟨6, by simp [Fk.resSync, hg], rfl, rfl⟩⟩)
    clear h hg
    go_wp2_with fail
    refine (l02Ill_any 6 _).mono ?_
    rintro e w3 ⟨rfl, b3⟩
    have t0 : w3.cell? ⟨w.heap.size + 1, 0, none⟩ = some (.slice none 0 0) := (b3.cell (by show w.heap.size + 1 < _; omega)).trans p0
    have t1 : w3.cell? ⟨w.heap.size + 1, 1, none⟩ = some (.int .i64 0) := (b3.cell (by show w.heap.size + 1 < _; omega)).trans p1
    have tf : ∀ j, w3.frozen? ⟨w.heap.size + 1, j, none⟩ = false := fun j => (b3.frozen (by show w.heap.size + 1 < _; omega)).trans (pf j)
    have E3 := Fk.hide (FIN.out w3 (.slice none 0 0) [] 6 (B1.out.trans (b3.mono B1.out.size)) (Fk.own_nil _ _ _))
    clear b3 p0 p1 pf
    go_wp2_with fail
    exact bodyPost_ret (v := .agg #[.slice none 0 0, .int .i64 6]) (by simp [results, Tryz.results22, go_sem, t0, t1] <;> rfl) rfl ⟨⟨_, _, _, rfl, E3.out.1, HA.out⟩, E3.out.2⟩
  · have hR := Fk.opn_right L [name] h
    have h12 := (Fk.right_inv L hR).1
    have HA : Hid (Fk.Ans (Fk.opn L [name]) (Fk.resSync L name) (L.set k (name, Fk.dt L k, ((Fk.dt L k).size : Int))) 0) := by
      have hsr := Fk.set_rises (Fk.right_rises L hR) hk name (Fk.dt L k) ((Fk.dt L k).size : Int) hk1
      exact .inr (.inr ⟨h, .inr ⟨_, by simp only [Fk.resSync, hg]; rw [hk1], rfl, hsr.1, hsr.2⟩⟩)
    clear h hg
    have HN := Fk.hide hk1
    clear hk1
    go_wp2_with fail
    refine (l02Copy_any _ L _ hv1 hsh (by omega)).mono ?_
    rintro e w3 ⟨⟨u, rfl, ho⟩, b3⟩
    have hv3 := hv1.below b3
    have B3 := Fk.hide (B1.out.trans (b3.mono B1.out.size))
    have hcell3 : w3.cell? ⟨w.heap.size, 0, none⟩ = some (.slice a L.length cap) := (b3.cell (by show w.heap.size < _; omega)).trans hcell1
    have t0 : w3.cell? ⟨w.heap.size + 1, 0, none⟩ = some (.slice none 0 0) := (b3.cell (by show w.heap.size + 1 < _; omega)).trans p0
    have t1 : w3.cell? ⟨w.heap.size + 1, 1, none⟩ = some (.int .i64 0) := (b3.cell (by show w.heap.size + 1 < _; omega)).trans p1
    have tf : ∀ j, w3.frozen? ⟨w.heap.size + 1, j, none⟩ = false := fun j => (b3.frozen (by show w.heap.size + 1 < _; omega)).trans (pf j)
    have hsz3 : w1.heap.size ≤ w3.heap.size := b3.size
    clear b3 hcell1 p0 p1 pf hv1
    obtain ⟨g, cu, rfl, hgb, hgs⟩ : ∃ g cu, u = .slice (some ⟨g, 0, none⟩) L.length cu ∧ w1.heap.size ≤ g ∧ g < w3.heap.size := by
      rcases ho.form with ⟨h1, h2⟩ | ⟨g, c, h1, h2, h3⟩
      · rw [h2] at hk; simp at hk
      · exact ⟨g, c, h1, h2, h3⟩
    obtain ⟨W4, hW4⟩ : ∃ W4, W4 = w3.alloc (.cells #[.slice (some ⟨g, 0, none⟩) L.length cu] 28) := ⟨_, rfl⟩
    have b4 : Below w3.heap.size w3 W4 := by rw [hW4]; exact (Below.refl _ _).alloc (Nat.le_refl _) _
    have d4 : W4.cell? ⟨w3.heap.size, 0, none⟩ = some (.slice (some ⟨g, 0, none⟩) L.length cu) := by rw [hW4, Fk.cellTop _ _ _ _ _ rfl]; rfl
    have hsz4 : W4.heap.size = w3.heap.size + 1 := by rw [hW4]; simp
    have hv4 := hv3.below b4
    have o4 := Fk.hide (ho.below b4)
    have hcell4 : W4.cell? ⟨w.heap.size, 0, none⟩ = some (.slice a L.length cap) := (b4.cell (by show w.heap.size < _; omega)).trans hcell3
    have t40 : W4.cell? ⟨w.heap.size + 1, 0, none⟩ = some (.slice none 0 0) := (b4.cell (by show w.heap.size + 1 < _; omega)).trans t0
    have t41 : W4.cell? ⟨w.heap.size + 1, 1, none⟩ = some (.int .i64 0) := (b4.cell (by show w.heap.size + 1 < _; omega)).trans t1
    have t4f : ∀ j, W4.frozen? ⟨w.heap.size + 1, j, none⟩ = false := fun j => (b4.frozen (by show w.heap.size + 1 < _; omega)).trans (tf j)
    have B4 := Fk.hide (B3.out.trans (b4.mono B3.out.size))
    have HW4 := Fk.hide hW4
    clear hW4 b4 hcell3 t0 t1 tf hv3 ho
    go_wp2_with fail
    rw [← HW4.out]
    obtain ⟨a', cap', ev, hs1⟩ := hv4
    simp only [Value.slice.injEq] at ev
    obtain ⟨rfl, _, rfl⟩ := ev
    obtain ⟨b, o, rfl, hb1, hs2⟩ := hs1 (by omega)
    have x1 := hs2.c1 k hk
    have r1 := cell_regrown x1
    have r2 := cell_regrown hcell4
    have r3 := cell_regrown d4
    clear hs1
    refine Qt.region_below_tail 12 (by kernel_rfl) (by kernel_rfl) ?_
    simp only [List.take_succ_cons, List.take_zero, List.drop_succ_cons, List.drop_zero]
    repeat (go_big_quiet_step (fail))
    refine wpQuiet_nil ?_
    intro w5 hw'
    obtain ⟨⟨dq, osq⟩, hw''⟩ := hw'
    have b5 : Below W4.heap.size W4 w5 := by rw [hw'']; exact below_regrown W4 dq osq
    have B5 := Fk.hide (B4.out.trans (b5.mono B4.out.size))
    have o5 := Fk.hide (o4.out.below b5)
    obtain ⟨⟨y0, y1, y2⟩, y3, y4, y5⟩ := o5.out.at hk
    have d5 : w5.cell? ⟨w3.heap.size, 0, none⟩ = some (.slice (some ⟨g, 0, none⟩) L.length cu) := (b5.cell (by show w3.heap.size < _; omega)).trans d4
    have z0 : w5.cell? ⟨w.heap.size + 1, 0, none⟩ = some (.slice none 0 0) := (b5.cell (by show w.heap.size + 1 < _; omega)).trans t40
    have z1 : w5.cell? ⟨w.heap.size + 1, 1, none⟩ = some (.int .i64 0) := (b5.cell (by show w.heap.size + 1 < _; omega)).trans t41
    have zf : ∀ j, w5.frozen? ⟨w.heap.size + 1, j, none⟩ = false := fun j => (b5.frozen (by show w.heap.size + 1 < _; omega)).trans (t4f j)
    have hgne : g ≠ w3.heap.size := by omega
    have hgne2 : g ≠ w.heap.size + 1 := by omega
    obtain ⟨W6, hW6⟩ : ∃ W6, W6 = w5.setCell ⟨g, k * 3 + 2, none⟩ (.int .i64 ((Fk.dt L k).size : Int)) := ⟨_, rfl⟩
    have o6 := Fk.hide (o5.out.putSync hk ((Fk.dt L k).size : Int))
    rw [← hW6] at o6
    have d6 : W6.cell? ⟨w3.heap.size, 0, none⟩ = some (.slice (some ⟨g, 0, none⟩) L.length cu) := by rw [hW6, World.cell?_of_block (w := w5) (Deep.blk_setCell_other _ _ _ _ (fun e => hgne e.symm))]; exact d5
    have z60 : W6.cell? ⟨w.heap.size + 1, 0, none⟩ = some (.slice none 0 0) := by rw [hW6, World.cell?_of_block (w := w5) (Deep.blk_setCell_other _ _ _ _ (fun e => hgne2 e.symm))]; exact z0
    have z61 : W6.cell? ⟨w.heap.size + 1, 1, none⟩ = some (.int .i64 0) := by rw [hW6, World.cell?_of_block (w := w5) (Deep.blk_setCell_other _ _ _ _ (fun e => hgne2 e.symm))]; exact z1
    have z6f : ∀ j, W6.frozen? ⟨w.heap.size + 1, j, none⟩ = false := fun j => by rw [hW6, World.frozen?_of_block (w := w5) (Deep.blk_setCell_other _ _ _ _ (fun e => hgne2 e.symm))]; exact zf j
    have B6 : Hid (Below w.heap.size w W6) := by rw [hW6]; exact B5.out.setCell (by show w.heap.size ≤ g; omega) _
    have O7 : Hid (Fk.Own W6 (w.heap.size + 2) 73 (.slice (some ⟨g, 0, none⟩) L.length cu) (L.set k (name, Fk.dt L k, ((Fk.dt L k).size : Int)))) := by
      have := o6.out
      rw [HN.out] at this
      exact this.mono (by omega)
    have E7 := Fk.hide (FIN.out W6 _ _ 0 B6.out O7.out)
    clear hw'' b5 r1 r2 r3 x1 d4 d5 z0 z1 zf t40 t41 t4f hcell4 o6
    subst hW6
    go_wp2_with fail
    exact bodyPost_ret (v := .agg #[.slice (some ⟨g, 0, none⟩) L.length cu, .int .i64 0]) (by simp [results, Tryz.results22, go_sem, z60, z61] <;> rfl) rfl ⟨⟨_, _, _, rfl, E7.out.1, HA.out⟩, E7.out.2⟩
end Go.Proofs.YtfefafmcaepoiaaGreatDoor

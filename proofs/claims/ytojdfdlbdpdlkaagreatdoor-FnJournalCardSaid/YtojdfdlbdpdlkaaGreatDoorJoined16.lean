/- The walk of the specification's FsSync. The walk of the specification's JournalAdd. -/
import Derived.Test.YtojdfdlbdpdlkaaGreatDoorJoined10
import Derived.Test.YtojdfdlbdpdlkaaGreatDoorJoined14
import Derived.Test.YtojdfdlbdpdlkaaGreatDoorJoined15
import Derived.Test.YtojdfdlbdpdlkaaGreatDoorFsAppendSpec
import Derived.Deep.RegionHeld3
namespace Go.Proofs.YtojdfdlbdpdlkaaGreatDoor
open Go.RowKit Go.Maps
set_option linter.unusedVariables false

set_option maxHeartbeats 2000000 in
theorem fsSync_spec (v : Value) (L : List Fk.Fl) (name : ByteArray) (w : World) (hv : Fk.View w v L) (hsh : Fk.Shut v) (hL : Fk.Fits L) (hl : L.length ≤ maxLen) (hn : name.size ≤ maxLen) :
    Calls Tryz.prog 38 #[.agg #[v], .string name] w fun e w' => (∃ u R c, e = .returned (.agg #[u, .int .i64 c]) ∧ Fk.Own w' w.heap.size 75 u R ∧ Fk.Ans (Fk.opn L [name]) (Fk.resSync L name) R c) ∧ Below w.heap.size w w' := by
  obtain ⟨W, hW⟩ : ∃ W, W = (w.alloc (.cells #[v] 25)).alloc (.cells #[.slice none 0 0, .int .i64 0] 29) := ⟨_, rfl⟩
  have b0 : Below w.heap.size w W := by
    rw [hW]
    repeat (first | exact Below.refl _ _ | refine Below.alloc ?_ (by simp <;> omega) _)
  have hsz : W.heap.size = w.heap.size + 2 := by rw [hW]; simp
  have hcell : W.cell? ⟨w.heap.size, 0, none⟩ = some v := by rw [hW, Fk.cellOld _ _ _ _ (by simp), Fk.cellTop _ _ _ _ _ rfl]; rfl
  have q0 : W.cell? ⟨w.heap.size + 1, 0, none⟩ = some (.slice none 0 0) := by rw [hW, Fk.cellTop _ _ _ _ _ (by simp)]; rfl
  have q1 : W.cell? ⟨w.heap.size + 1, 1, none⟩ = some (.int .i64 0) := by rw [hW, Fk.cellTop _ _ _ _ _ (by simp)]; rfl
  have f0 : ∀ j, W.frozen? ⟨w.heap.size + 1, j, none⟩ = false := fun j => by rw [hW, Fk.frozTop _ _ _ _ _ (by simp)]
  have hv' := hv.below b0
  have HW := Fk.hide hW
  clear hW hv
  have hvW := hv'
  obtain ⟨a, cap, rfl, hs⟩ := hv'
  clear hs
  go_enter Tryz.func38, Tryz.ntmps38
  go_wp2_with fail
  rw [← HW.out]
  refine (l02Begin_any _ L name _ hvW hL hl hn).mono ?_
  rintro e w1 ⟨h1, b1⟩
  have B1 := Fk.hide (b0.trans (b1.mono b0.size))
  have hcell1 : w1.cell? ⟨w.heap.size, 0, none⟩ = some (.slice a L.length cap) := (b1.cell (by show w.heap.size < _; omega)).trans hcell
  have p0 : w1.cell? ⟨w.heap.size + 1, 0, none⟩ = some (.slice none 0 0) := (b1.cell (by show w.heap.size + 1 < _; omega)).trans q0
  have p1 : w1.cell? ⟨w.heap.size + 1, 1, none⟩ = some (.int .i64 0) := (b1.cell (by show w.heap.size + 1 < _; omega)).trans q1
  have pf : ∀ j, w1.frozen? ⟨w.heap.size + 1, j, none⟩ = false := fun j => (b1.frozen (by show w.heap.size + 1 < _; omega)).trans (f0 j)
  have hv1 := hvW.below b1
  have hsz1 : w.heap.size + 2 ≤ w1.heap.size := by have := b1.size; omega
  clear b1 hcell q0 q1 f0 hvW
  have FIN : Hid (∀ (w5 : World) (u : Value) (R : List Fk.Fl) (c : Int), Below w.heap.size w w5 → Fk.Own w5 (w.heap.size + 2) 75 u R → Fk.Own ((w5.setCell ⟨w.heap.size + 1, 0, none⟩ u).setCell ⟨w.heap.size + 1, 1, none⟩ (.int .i64 c)) w.heap.size 75 u R ∧ Below w.heap.size w ((w5.setCell ⟨w.heap.size + 1, 0, none⟩ u).setCell ⟨w.heap.size + 1, 1, none⟩ (.int .i64 c))) :=
    fun w5 u R c hb ho => ⟨Fk.Own.mono (ownsRow_setCell_below (ownsRow_setCell_below ho (by show w.heap.size + 1 < _; omega) _) (by show w.heap.size + 1 < _; omega) _) (by omega), (hb.setCell (by simp) _).setCell (by simp) _⟩
  rcases h1 with ⟨h, rfl⟩ | ⟨h, rfl⟩ | ⟨h, hg, rfl⟩ | ⟨h, k, hk, hk1, hg, rfl⟩
  · have HA : Hid (Fk.Ans (Fk.opn L [name]) (Fk.resSync L name) [] 2) := .inl ⟨h, rfl, rfl⟩
    clear h
    go_wp2_with fail
    refine (l02Ill_any 2 _).mono ?_
    rintro e w3 ⟨rfl, b3⟩
    have t0 : w3.cell? ⟨w.heap.size + 1, 0, none⟩ = some (.slice none 0 0) := (b3.cell (by show w.heap.size + 1 < _; omega)).trans p0
    have t1 : w3.cell? ⟨w.heap.size + 1, 1, none⟩ = some (.int .i64 0) := (b3.cell (by show w.heap.size + 1 < _; omega)).trans p1
    have tf : ∀ j, w3.frozen? ⟨w.heap.size + 1, j, none⟩ = false := fun j => (b3.frozen (by show w.heap.size + 1 < _; omega)).trans (pf j)
    have E3 := Fk.hide (FIN.out w3 (.slice none 0 0) [] 2 (B1.out.trans (b3.mono B1.out.size)) (Fk.own_nil _ _ _))
    clear b3 p0 p1 pf
    go_wp2_with fail
    exact bodyPost_ret (v := .agg #[.slice none 0 0, .int .i64 2]) (by simp [results, Tryz.results38, go_sem, t0, t1] <;> rfl) rfl ⟨⟨_, _, _, rfl, E3.out.1, HA.out⟩, E3.out.2⟩
  · have HA : Hid (Fk.Ans (Fk.opn L [name]) (Fk.resSync L name) [] 1) := .inr (.inl ⟨h, rfl, rfl⟩)
    clear h
    go_wp2_with fail
    refine (l02Ill_any 1 _).mono ?_
    rintro e w3 ⟨rfl, b3⟩
    have t0 : w3.cell? ⟨w.heap.size + 1, 0, none⟩ = some (.slice none 0 0) := (b3.cell (by show w.heap.size + 1 < _; omega)).trans p0
    have t1 : w3.cell? ⟨w.heap.size + 1, 1, none⟩ = some (.int .i64 0) := (b3.cell (by show w.heap.size + 1 < _; omega)).trans p1
    have tf : ∀ j, w3.frozen? ⟨w.heap.size + 1, j, none⟩ = false := fun j => (b3.frozen (by show w.heap.size + 1 < _; omega)).trans (pf j)
    have E3 := Fk.hide (FIN.out w3 (.slice none 0 0) [] 1 (B1.out.trans (b3.mono B1.out.size)) (Fk.own_nil _ _ _))
    clear b3 p0 p1 pf
    go_wp2_with fail
    exact bodyPost_ret (v := .agg #[.slice none 0 0, .int .i64 1]) (by simp [results, Tryz.results38, go_sem, t0, t1] <;> rfl) rfl ⟨⟨_, _, _, rfl, E3.out.1, HA.out⟩, E3.out.2⟩
  · have HA : Hid (Fk.Ans (Fk.opn L [name]) (Fk.resSync L name) [] 6) := .inr (.inr ⟨h, .inl ⟨6, by simp [Fk.resSync, hg], rfl, rfl⟩⟩)
    clear h hg
    go_wp2_with fail
    refine (l02Ill_any 6 _).mono ?_
    rintro e w3 ⟨rfl, b3⟩
    have t0 : w3.cell? ⟨w.heap.size + 1, 0, none⟩ = some (.slice none 0 0) := (b3.cell (by show w.heap.size + 1 < _; omega)).trans p0
    have t1 : w3.cell? ⟨w.heap.size + 1, 1, none⟩ = some (.int .i64 0) := (b3.cell (by show w.heap.size + 1 < _; omega)).trans p1
    have tf : ∀ j, w3.frozen? ⟨w.heap.size + 1, j, none⟩ = false := fun j => (b3.frozen (by show w.heap.size + 1 < _; omega)).trans (pf j)
    have E3 := Fk.hide (FIN.out w3 (.slice none 0 0) [] 6 (B1.out.trans (b3.mono B1.out.size)) (Fk.own_nil _ _ _))
    clear b3 p0 p1 pf
    go_wp2_with fail
    exact bodyPost_ret (v := .agg #[.slice none 0 0, .int .i64 6]) (by simp [results, Tryz.results38, go_sem, t0, t1] <;> rfl) rfl ⟨⟨_, _, _, rfl, E3.out.1, HA.out⟩, E3.out.2⟩
  · have hR := Fk.opn_right L [name] h
    have h12 := (Fk.right_inv L hR).1
    have HA : Hid (Fk.Ans (Fk.opn L [name]) (Fk.resSync L name) (L.set k (name, Fk.dt L k, ((Fk.dt L k).size : Int))) 0) := by
      have hsr := Fk.set_rises (Fk.right_rises L hR) hk name (Fk.dt L k) ((Fk.dt L k).size : Int) hk1
      exact .inr (.inr ⟨h, .inr ⟨_, by simp only [Fk.resSync, hg]; rw [hk1], rfl, hsr.1, hsr.2⟩⟩)
    clear h hg
    have HN := Fk.hide hk1
    clear hk1
    go_wp2_with fail
    refine (l02Copy_any _ L _ hv1 hsh (by omega)).mono ?_
    rintro e w3 ⟨⟨u, rfl, ho⟩, b3⟩
    have hv3 := hv1.below b3
    have B3 := Fk.hide (B1.out.trans (b3.mono B1.out.size))
    have hcell3 : w3.cell? ⟨w.heap.size, 0, none⟩ = some (.slice a L.length cap) := (b3.cell (by show w.heap.size < _; omega)).trans hcell1
    have t0 : w3.cell? ⟨w.heap.size + 1, 0, none⟩ = some (.slice none 0 0) := (b3.cell (by show w.heap.size + 1 < _; omega)).trans p0
    have t1 : w3.cell? ⟨w.heap.size + 1, 1, none⟩ = some (.int .i64 0) := (b3.cell (by show w.heap.size + 1 < _; omega)).trans p1
    have tf : ∀ j, w3.frozen? ⟨w.heap.size + 1, j, none⟩ = false := fun j => (b3.frozen (by show w.heap.size + 1 < _; omega)).trans (pf j)
    have hsz3 : w1.heap.size ≤ w3.heap.size := b3.size
    clear b3 hcell1 p0 p1 pf hv1
    obtain ⟨g, cu, rfl, hgb, hgs⟩ : ∃ g cu, u = .slice (some ⟨g, 0, none⟩) L.length cu ∧ w1.heap.size ≤ g ∧ g < w3.heap.size := by
      rcases ho.form with ⟨h1, h2⟩ | ⟨g, c, h1, h2, h3⟩
      · rw [h2] at hk; simp at hk
      · exact ⟨g, c, h1, h2, h3⟩
    obtain ⟨W4, hW4⟩ : ∃ W4, W4 = w3.alloc (.cells #[.slice (some ⟨g, 0, none⟩) L.length cu] 25) := ⟨_, rfl⟩
    have b4 : Below w3.heap.size w3 W4 := by rw [hW4]; exact (Below.refl _ _).alloc (Nat.le_refl _) _
    have d4 : W4.cell? ⟨w3.heap.size, 0, none⟩ = some (.slice (some ⟨g, 0, none⟩) L.length cu) := by rw [hW4, Fk.cellTop _ _ _ _ _ rfl]; rfl
    have hsz4 : W4.heap.size = w3.heap.size + 1 := by rw [hW4]; simp
    have hv4 := hv3.below b4
    have o4 := Fk.hide (ho.below b4)
    have hcell4 : W4.cell? ⟨w.heap.size, 0, none⟩ = some (.slice a L.length cap) := (b4.cell (by show w.heap.size < _; omega)).trans hcell3
    have t40 : W4.cell? ⟨w.heap.size + 1, 0, none⟩ = some (.slice none 0 0) := (b4.cell (by show w.heap.size + 1 < _; omega)).trans t0
    have t41 : W4.cell? ⟨w.heap.size + 1, 1, none⟩ = some (.int .i64 0) := (b4.cell (by show w.heap.size + 1 < _; omega)).trans t1
    have t4f : ∀ j, W4.frozen? ⟨w.heap.size + 1, j, none⟩ = false := fun j => (b4.frozen (by show w.heap.size + 1 < _; omega)).trans (tf j)
    have B4 := Fk.hide (B3.out.trans (b4.mono B3.out.size))
    have HW4 := Fk.hide hW4
    clear hW4 b4 hcell3 t0 t1 tf hv3 ho
    go_wp2_with fail
    rw [← HW4.out]
    obtain ⟨a', cap', ev, hs1⟩ := hv4
    simp only [Value.slice.injEq] at ev
    obtain ⟨rfl, _, rfl⟩ := ev
    obtain ⟨b, o, rfl, hb1, hs2⟩ := hs1 (by omega)
    have x1 := hs2.c1 k hk
    have r1 := cell_regrown x1
    have r2 := cell_regrown hcell4
    have r3 := cell_regrown d4
    clear hs1
    refine Qt.region_below_tail 12 (by kernel_rfl) (by kernel_rfl) ?_
    simp only [List.take_succ_cons, List.take_zero, List.drop_succ_cons, List.drop_zero]
    repeat (go_big_quiet_step (fail))
    refine wpQuiet_nil ?_
    intro w5 hw'
    obtain ⟨⟨dq, osq⟩, hw''⟩ := hw'
    have b5 : Below W4.heap.size W4 w5 := by rw [hw'']; exact below_regrown W4 dq osq
    have B5 := Fk.hide (B4.out.trans (b5.mono B4.out.size))
    have o5 := Fk.hide (o4.out.below b5)
    obtain ⟨⟨y0, y1, y2⟩, y3, y4, y5⟩ := o5.out.at hk
    have d5 : w5.cell? ⟨w3.heap.size, 0, none⟩ = some (.slice (some ⟨g, 0, none⟩) L.length cu) := (b5.cell (by show w3.heap.size < _; omega)).trans d4
    have z0 : w5.cell? ⟨w.heap.size + 1, 0, none⟩ = some (.slice none 0 0) := (b5.cell (by show w.heap.size + 1 < _; omega)).trans t40
    have z1 : w5.cell? ⟨w.heap.size + 1, 1, none⟩ = some (.int .i64 0) := (b5.cell (by show w.heap.size + 1 < _; omega)).trans t41
    have zf : ∀ j, w5.frozen? ⟨w.heap.size + 1, j, none⟩ = false := fun j => (b5.frozen (by show w.heap.size + 1 < _; omega)).trans (t4f j)
    have hgne : g ≠ w3.heap.size := by omega
    have hgne2 : g ≠ w.heap.size + 1 := by omega
    obtain ⟨W6, hW6⟩ : ∃ W6, W6 = w5.setCell ⟨g, k * 3 + 2, none⟩ (.int .i64 ((Fk.dt L k).size : Int)) := ⟨_, rfl⟩
    have o6 := Fk.hide (o5.out.putSync hk ((Fk.dt L k).size : Int))
    rw [← hW6] at o6
    have d6 : W6.cell? ⟨w3.heap.size, 0, none⟩ = some (.slice (some ⟨g, 0, none⟩) L.length cu) := by rw [hW6, World.cell?_of_block (w := w5) (Deep.blk_setCell_other _ _ _ _ (fun e => hgne e.symm))]; exact d5
    have z60 : W6.cell? ⟨w.heap.size + 1, 0, none⟩ = some (.slice none 0 0) := by rw [hW6, World.cell?_of_block (w := w5) (Deep.blk_setCell_other _ _ _ _ (fun e => hgne2 e.symm))]; exact z0
    have z61 : W6.cell? ⟨w.heap.size + 1, 1, none⟩ = some (.int .i64 0) := by rw [hW6, World.cell?_of_block (w := w5) (Deep.blk_setCell_other _ _ _ _ (fun e => hgne2 e.symm))]; exact z1
    have z6f : ∀ j, W6.frozen? ⟨w.heap.size + 1, j, none⟩ = false := fun j => by rw [hW6, World.frozen?_of_block (w := w5) (Deep.blk_setCell_other _ _ _ _ (fun e => hgne2 e.symm))]; exact zf j
    have B6 : Hid (Below w.heap.size w W6) := by rw [hW6]; exact B5.out.setCell (by show w.heap.size ≤ g; omega) _
    have O7 : Hid (Fk.Own W6 (w.heap.size + 2) 75 (.slice (some ⟨g, 0, none⟩) L.length cu) (L.set k (name, Fk.dt L k, ((Fk.dt L k).size : Int)))) := by
      have := o6.out
      rw [HN.out] at this
      exact this.mono (by omega)
    have E7 := Fk.hide (FIN.out W6 _ _ 0 B6.out O7.out)
    clear hw'' b5 r1 r2 r3 x1 d4 d5 z0 z1 zf t40 t41 t4f hcell4 o6
    subst hW6
    go_wp2_with fail
    exact bodyPost_ret (v := .agg #[.slice (some ⟨g, 0, none⟩) L.length cu, .int .i64 0]) (by simp [results, Tryz.results38, go_sem, z60, z61] <;> rfl) rfl ⟨⟨_, _, _, rfl, E7.out.1, HA.out⟩, E7.out.2⟩
end Go.Proofs.YtojdfdlbdpdlkaaGreatDoor

namespace Go.Proofs.YtojdfdlbdpdlkaaGreatDoor
open Go.RowKit Go.Maps
set_option linter.unusedVariables false

set_option maxHeartbeats 4000000 in
theorem journalAdd_spec (v : Value) (L : List Fk.Fl) (t : ByteArray) (sy : Bool) (w : World) (base : Nat) (ho : Fk.Own w base 75 v L) (hL : Fk.Fits L) (hl : L.length ≤ maxLen) (ht : t.size ≤ maxLen) :
    Calls Tryz.prog 11 #[.agg #[v], .string t, .bool sy] w fun e w' => (∃ u R c, e = .returned (.agg #[u, .int .i64 c]) ∧ Fk.Own w' w.heap.size 75 u R ∧ Fk.Ans (Jn.oAdd L t) (Jn.resAdd L t sy) R c) ∧ Below w.heap.size w w' := by
  obtain ⟨W, hW⟩ : ∃ W, W = (w.alloc (.cells #[v] 25)).alloc (.cells #[.slice none 0 0, .int .i64 0] 29) := ⟨_, rfl⟩
  have b0 : Below w.heap.size w W := by
    rw [hW]
    repeat (first | exact Below.refl _ _ | refine Below.alloc ?_ (by simp <;> omega) _)
  have hsz : W.heap.size = w.heap.size + 2 := by rw [hW]; simp
  have hcell : W.cell? ⟨w.heap.size, 0, none⟩ = some v := by rw [hW, Fk.cellOld _ _ _ _ (by simp), Fk.cellTop _ _ _ _ _ rfl]; rfl
  have q0 : W.cell? ⟨w.heap.size + 1, 0, none⟩ = some (.slice none 0 0) := by rw [hW, Fk.cellTop _ _ _ _ _ (by simp)]; rfl
  have q1 : W.cell? ⟨w.heap.size + 1, 1, none⟩ = some (.int .i64 0) := by rw [hW, Fk.cellTop _ _ _ _ _ (by simp)]; rfl
  have f0 : ∀ j, W.frozen? ⟨w.heap.size + 1, j, none⟩ = false := fun j => by rw [hW, Fk.frozTop _ _ _ _ _ (by simp)]
  have hv' := ho.view.below b0
  have HO0 := Fk.hide (ho.below b0)
  have HW := Fk.hide hW
  clear hW ho
  have hvW := hv'
  obtain ⟨a, cap, rfl, hs⟩ := hv'
  clear hs
  by_cases hbig : 8000 < t.size
  · have HA : Hid (Fk.Ans (Jn.oAdd L t) (Jn.resAdd L t sy) [] 2) := .inl ⟨Jn.oAdd_big hbig, rfl, rfl⟩
    have hti : (8000 : Int) < (t.size : Int) := by omega
    have B1 := Fk.hide b0
    have p0 := q0
    have p1 := q1
    have pf := f0
    have hsz1 := hsz
    clear q0 q1 f0 hcell HO0 hbig
    have FIN : Hid (∀ (w5 : World) (u : Value) (R : List Fk.Fl) (c : Int), Below w.heap.size w w5 → Fk.Own w5 (w.heap.size + 2) 75 u R → Fk.Own ((w5.setCell ⟨w.heap.size + 1, 0, none⟩ u).setCell ⟨w.heap.size + 1, 1, none⟩ (.int .i64 c)) w.heap.size 75 u R ∧ Below w.heap.size w ((w5.setCell ⟨w.heap.size + 1, 0, none⟩ u).setCell ⟨w.heap.size + 1, 1, none⟩ (.int .i64 c))) :=
      fun w5 u R c hb ho => ⟨Fk.Own.mono (ownsRow_setCell_below (ownsRow_setCell_below ho (by show w.heap.size + 1 < _; omega) _) (by show w.heap.size + 1 < _; omega) _) (by omega), (hb.setCell (by simp) _).setCell (by simp) _⟩
    go_enter Tryz.func11, Tryz.ntmps11
    go_wp2_with fail
    rw [← HW.out]
    refine (l02Ill_any 2 _).mono ?_
    rintro e w9 ⟨rfl, b9⟩
    have t0 : w9.cell? ⟨w.heap.size + 1, 0, none⟩ = some (.slice none 0 0) := (b9.cell (by show w.heap.size + 1 < _; omega)).trans p0
    have t1 : w9.cell? ⟨w.heap.size + 1, 1, none⟩ = some (.int .i64 0) := (b9.cell (by show w.heap.size + 1 < _; omega)).trans p1
    have tf : ∀ j, w9.frozen? ⟨w.heap.size + 1, j, none⟩ = false := fun j => (b9.frozen (by show w.heap.size + 1 < _; omega)).trans (pf j)
    have E9 := Fk.hide (FIN.out w9 (.slice none 0 0) [] 2 (B1.out.trans (b9.mono B1.out.size)) (Fk.own_nil _ _ _))
    clear b9 p0 p1 pf
    go_wp2_with fail
    exact bodyPost_ret (v := .agg #[.slice none 0 0, .int .i64 2]) (by simp [results, Tryz.results11, go_sem, t0, t1] <;> rfl) rfl ⟨⟨_, _, _, rfl, E9.out.1, HA.out⟩, E9.out.2⟩
  have hti : ¬ (8000 : Int) < (t.size : Int) := by omega
  have HT := Fk.hide hbig
  clear hbig
  go_enter Tryz.func11, Tryz.ntmps11
  go_wp2_with fail
  rw [← HW.out]
  refine (fsRight_spec _ L _ hvW hL hl).mono ?_
  rintro e w1 ⟨rfl, b1⟩
  have B1 := Fk.hide (b0.trans (b1.mono b0.size))
  have hcell1 : w1.cell? ⟨w.heap.size, 0, none⟩ = some (.slice a L.length cap) := (b1.cell (by show w.heap.size < _; omega)).trans hcell
  have p0 : w1.cell? ⟨w.heap.size + 1, 0, none⟩ = some (.slice none 0 0) := (b1.cell (by show w.heap.size + 1 < _; omega)).trans q0
  have p1 : w1.cell? ⟨w.heap.size + 1, 1, none⟩ = some (.int .i64 0) := (b1.cell (by show w.heap.size + 1 < _; omega)).trans q1
  have pf : ∀ j, w1.frozen? ⟨w.heap.size + 1, j, none⟩ = false := fun j => (b1.frozen (by show w.heap.size + 1 < _; omega)).trans (f0 j)
  have HO1 := Fk.hide (HO0.out.below b1)
  have hsz1 : w.heap.size + 2 ≤ w1.heap.size := by have := b1.size; omega
  clear b1 hcell q0 q1 f0 hvW HO0
  have FIN : Hid (∀ (w5 : World) (u : Value) (R : List Fk.Fl) (c : Int), Below w.heap.size w w5 → Fk.Own w5 (w.heap.size + 2) 75 u R → Fk.Own ((w5.setCell ⟨w.heap.size + 1, 0, none⟩ u).setCell ⟨w.heap.size + 1, 1, none⟩ (.int .i64 c)) w.heap.size 75 u R ∧ Below w.heap.size w ((w5.setCell ⟨w.heap.size + 1, 0, none⟩ u).setCell ⟨w.heap.size + 1, 1, none⟩ (.int .i64 c))) :=
    fun w5 u R c hb ho => ⟨Fk.Own.mono (ownsRow_setCell_below (ownsRow_setCell_below ho (by show w.heap.size + 1 < _; omega) _) (by show w.heap.size + 1 < _; omega) _) (by omega), (hb.setCell (by simp) _).setCell (by simp) _⟩
  cases hr : Fk.right L with
  | false =>
    have HA : Hid (Fk.Ans (Jn.oAdd L t) (Jn.resAdd L t sy) [] 1) := .inr (.inl ⟨Jn.oAdd_ill HT.out hr, rfl, rfl⟩)
    clear hr
    go_wp2_with fail
    refine (l02Ill_any 1 _).mono ?_
    rintro e w9 ⟨rfl, b9⟩
    have t0 : w9.cell? ⟨w.heap.size + 1, 0, none⟩ = some (.slice none 0 0) := (b9.cell (by show w.heap.size + 1 < _; omega)).trans p0
    have t1 : w9.cell? ⟨w.heap.size + 1, 1, none⟩ = some (.int .i64 0) := (b9.cell (by show w.heap.size + 1 < _; omega)).trans p1
    have tf : ∀ j, w9.frozen? ⟨w.heap.size + 1, j, none⟩ = false := fun j => (b9.frozen (by show w.heap.size + 1 < _; omega)).trans (pf j)
    have E9 := Fk.hide (FIN.out w9 (.slice none 0 0) [] 1 (B1.out.trans (b9.mono B1.out.size)) (Fk.own_nil _ _ _))
    clear b9 p0 p1 pf
    go_wp2_with fail
    exact bodyPost_ret (v := .agg #[.slice none 0 0, .int .i64 1]) (by simp [results, Tryz.results11, go_sem, t0, t1] <;> rfl) rfl ⟨⟨_, _, _, rfl, E9.out.1, HA.out⟩, E9.out.2⟩
  | true =>
    by_cases h3 : 300 < t.size
    · have HA : Hid (Fk.Ans (Jn.oAdd L t) (Jn.resAdd L t sy) [] 1) := .inr (.inl ⟨Jn.oAdd_long HT.out hr h3, rfl, rfl⟩)
      have h3i : (300 : Int) < (t.size : Int) := by omega
      clear hr h3
      go_wp2_with fail
      refine (l02Ill_any 1 _).mono ?_
      rintro e w9 ⟨rfl, b9⟩
      have t0 : w9.cell? ⟨w.heap.size + 1, 0, none⟩ = some (.slice none 0 0) := (b9.cell (by show w.heap.size + 1 < _; omega)).trans p0
      have t1 : w9.cell? ⟨w.heap.size + 1, 1, none⟩ = some (.int .i64 0) := (b9.cell (by show w.heap.size + 1 < _; omega)).trans p1
      have tf : ∀ j, w9.frozen? ⟨w.heap.size + 1, j, none⟩ = false := fun j => (b9.frozen (by show w.heap.size + 1 < _; omega)).trans (pf j)
      have E9 := Fk.hide (FIN.out w9 (.slice none 0 0) [] 1 (B1.out.trans (b9.mono B1.out.size)) (Fk.own_nil _ _ _))
      clear b9 p0 p1 pf
      go_wp2_with fail
      exact bodyPost_ret (v := .agg #[.slice none 0 0, .int .i64 1]) (by simp [results, Tryz.results11, go_sem, t0, t1] <;> rfl) rfl ⟨⟨_, _, _, rfl, E9.out.1, HA.out⟩, E9.out.2⟩
    · have h3i : ¬ (300 : Int) < (t.size : Int) := by omega
      have HR := Fk.hide hr
      have H3 := Fk.hide h3
      clear hr h3
      go_wp2_with fail
      have D0 : Hid (Below w1.heap.size w1 w1.drew) := Below.drew (Below.refl _ _)
      have HP : w1.drew.cell? ⟨w.heap.size, 0, none⟩ = some (.slice a L.length cap) ∧ Hid (Jn.Reg base w1 w1.drew (.slice a L.length cap) L) :=
        ⟨hcell1, D0.out, HO1.out.below D0.out, fun k hk => (World.ownsRow.lt HO1.out k hk).2⟩
      have HPa : Hid (Jn.Y w1.heap.size (w1.drew.alloc (.cells #[.slice none 0 0, .int .i64 0] 29)) w1.heap.size (.slice none 0 0) (.int .i64 0)) := Jn.Y.new (w' := w1.drew) (Nat.le_refl _)
      have HYb : Hid (Jn.Y w1.heap.size (w1.alloc (.cells #[.slice none 0 0, .int .i64 0] 29)).drew w1.heap.size (.slice none 0 0) (.int .i64 0)) := Jn.Y.below (Below.drew (Below.refl _ _)) (Jn.Y.new (Nat.le_refl _))
      have HSZ : Hid (w.heap.size < w1.heap.size) := by show _ < _; omega
      have HRC := Fk.hide (Jn.record_size t (by have := H3.out; omega))
      have HSC := Fk.hide (Jn.sealed_size t (by have := H3.out; omega))
      have hcell2 : (w1.alloc (.cells #[.slice none 0 0, .int .i64 0] 29)).cell? ⟨w.heap.size, 0, none⟩ = some (.slice a L.length cap) := (Fk.cellOld _ _ _ _ HSZ.out).trans hcell1
      obtain ⟨KK, hKK⟩ : ∃ KK : Act → World → Prop, KK = fun y z => ∃ (b : Nat) (ua : Option Addr) (un uc : Nat) (R : List Fk.Fl) (c : Int) (x8 x9 x10 x11 x12 x13 x14 x15 x16 x17 x18 x19 x20 x21 x22 x23 x24 x25 : Value), y = ⟨#[Value.agg #[Value.slice a L.length cap], Value.string t, Value.bool sy, Value.pointer (some ⟨w.heap.size, 0, none⟩), undef, undef, Value.pointer (some ⟨w.heap.size + 1, 0, none⟩), Value.pointer (some ⟨b, 0, none⟩), x8, x9, x10, x11, x12, x13, x14, x15, x16, x17, x18, x19, x20, x21, x22, x23, x24, x25, undef, undef, undef, undef, undef, undef, undef, undef, undef, undef], []⟩ ∧ Hid (Jn.Got w1 z b (.slice ua un uc) R c) ∧ Hid (Fk.Ans (Fk.opnA L Jn.name (Jn.record t)) (Fk.resAppend L Jn.name (Jn.record t)) R c) := ⟨_, rfl⟩
      have HKK := Fk.hide hKK
      refine Code.wp_mono (Q := Exit.then KK (fun _ _ _ => False)) ?_ ?_
      · intro e y z hh
        rw [hKK] at hh
        obtain ⟨rfl, b, ua, un, uc, R, c, x8, x9, x10, x11, x12, x13, x14, x15, x16, x17, x18, x19, x20, x21, x22, x23, x24, x25, rfl, HG, HA⟩ := Jn.got_normal hh
        clear hKK HKK hh HP HPa HYb hcell2
        have g0 := HG.out.c0
        have g1 := HG.out.c1
        have B2 := Fk.hide (B1.out.trans (HG.out.bel.mono B1.out.size))
        have hsz2 : w.heap.size + 2 ≤ z.heap.size := by have := HG.out.bel.size; omega
        replace p0 : z.cell? ⟨w.heap.size + 1, 0, none⟩ = some (.slice none 0 0) := (HG.out.bel.cell (by show w.heap.size + 1 < _; omega)).trans p0
        replace p1 : z.cell? ⟨w.heap.size + 1, 1, none⟩ = some (.int .i64 0) := (HG.out.bel.cell (by show w.heap.size + 1 < _; omega)).trans p1
        replace pf : ∀ j, z.frozen? ⟨w.heap.size + 1, j, none⟩ = false := fun j => (HG.out.bel.frozen (by show w.heap.size + 1 < _; omega)).trans (pf j)
        have HN := Fk.hide (show some b ≠ some (w.heap.size + 1) from fun e => by have h9 : b = w.heap.size + 1 := Option.some.inj e; have := HG.out.lo; omega)
        clear hcell1 HO1 D0
        by_cases hc : c = 0
        · subst hc
          cases sy with
          | false =>
            have HA2 := Fk.hide (Jn.add_plain (s := false) HR.out H3.out (.inl rfl) HA.out)
            have E9 := Fk.hide (FIN.out z _ R 0 B2.out (HG.out.own.mono (by omega)))
            go_wp2_with fail
            exact bodyPost_ret (v := .agg #[.slice ua un uc, .int .i64 0]) (by simp [results, Tryz.results11, go_sem, p0, p1] <;> rfl) rfl ⟨⟨_, _, _, rfl, E9.out.1, HA2.out⟩, E9.out.2⟩
          | true =>
            have HF := Fk.hide (Fk.ans_fits (Fk.append_right HA.out))
            have HV := Fk.hide HG.out.own.view
            have HS := Fk.hide HG.out.own.shut
            go_wp2_with fail
            refine (fsSync_spec _ R Jn.name _ HV.out HS.out HF.out.1 (by have := HF.out.2; unfold maxLen; omega) (by decide)).mono ?_
            rintro e w9 ⟨⟨u, R', c', rfl, ho, hA'⟩, b9⟩
            have HA2 := Fk.hide (Jn.add_sync HR.out H3.out HA.out hA')
            clear hA' HV HS
            obtain ⟨ua, uc, rfl⟩ := ho.slice
            have t0 : w9.cell? ⟨w.heap.size + 1, 0, none⟩ = some (.slice none 0 0) := (b9.cell (by show w.heap.size + 1 < _; omega)).trans p0
            have t1 : w9.cell? ⟨w.heap.size + 1, 1, none⟩ = some (.int .i64 0) := (b9.cell (by show w.heap.size + 1 < _; omega)).trans p1
            have tf : ∀ j, w9.frozen? ⟨w.heap.size + 1, j, none⟩ = false := fun j => (b9.frozen (by show w.heap.size + 1 < _; omega)).trans (pf j)
            have E9 := Fk.hide (FIN.out w9 _ _ c' (B2.out.trans (b9.mono B2.out.size)) (ho.mono (by omega)))
            clear b9 p0 p1 pf ho
            obtain ⟨rl, hrl⟩ : ∃ rl, rl = R'.length := ⟨_, rfl⟩
            rw [← hrl] at E9
            rw [← hrl]
            clear hrl
            go_wp2_with fail
            exact bodyPost_ret (v := .agg #[.slice ua rl uc, .int .i64 c']) (by simp [results, Tryz.results11, go_sem, t0, t1] <;> rfl) rfl ⟨⟨_, _, _, rfl, E9.out.1, HA2.out⟩, E9.out.2⟩
        · have hc' : (c == 0) = false := by simpa using hc
          have HA2 := Fk.hide (Jn.add_plain (s := sy) HR.out H3.out (.inr hc) HA.out)
          have E9 := Fk.hide (FIN.out z _ R c B2.out (HG.out.own.mono (by omega)))
          go_wp2_with fail
          exact bodyPost_ret (v := .agg #[.slice ua un uc, .int .i64 c]) (by simp [results, Tryz.results11, go_sem, p0, p1] <;> rfl) rfl ⟨⟨_, _, _, rfl, E9.out.1, HA2.out⟩, E9.out.2⟩
      · rw [hKK]
        clear HKK hKK
        go_region_held3 (fun w' => w'.cell? ⟨w.heap.size, 0, none⟩ = some (.slice a L.length cap) ∧ Hid (Jn.Reg base w1 w' (.slice a L.length cap) L))
          (first
            | assumption
            | exact Jn.regBelow HSZ.out ((Below.refl _ _).alloc (Nat.le_refl _) _) (by assumption)
            | exact Jn.regBelow HSZ.out (Below.drew ((Below.refl _ _).alloc (Nat.le_refl _) _)) (by assumption)
            | exact Jn.regStore HSZ.out (by assumption) (Jn.regStore HSZ.out (by assumption) (by assumption)))
          (first
            | (go_at_call 37; refine (specSeal_any t _ ht).mono ?_; rintro e w2 ⟨rfl, b2⟩; have H2 := Jn.regBelow HSZ.out b2 (by assumption); (first | have HY2 := Jn.Y.below b2 (by assumption) | have HY2 := Jn.Y.below b2 (Jn.Y.new (Jn.regSize (by assumption))) | skip); clear b2)
            | (go_at_call 36; refine (specPutText_any (sealed t) _ (by have := HSC.out; unfold maxLen; omega)).mono ?_; rintro e w3 ⟨rfl, b3⟩; have H3' := Jn.regBelow HSZ.out b3 (by assumption); (first | have HY3 := Jn.Y.below b3 (by assumption) | have HY3 := Jn.Y.below b3 (Jn.Y.new (Jn.regSize (by assumption))) | skip); clear b3)
            | (go_at_call 35; refine (fsAppend_spec _ L Jn.name (Jn.record t) _ base (Jn.regOwn (by assumption)) hL hl (by decide) (by have := HRC.out; unfold maxLen; omega)).mono ?_; rintro e w5 ⟨⟨u, R, c, rfl, ho5, ha5⟩, b5⟩; obtain ⟨ua, un, uc, rfl⟩ := ho5.slice'; have H5 := Jn.regBelow HSZ.out b5 (by assumption); have HZ5 := Fk.hide (Jn.regSize H5); have HO5 := Fk.hide ho5; have HA5 := Fk.hide ha5; (first | have HY5 := Jn.Y.below b5 (by assumption) | have HY5 := Jn.Y.below b5 (Jn.Y.new (Jn.regSize (by assumption))) | skip); (first | (have y0 := HY5.out.1; have y1 := HY5.out.2.1; have y2 := HY5.out.2.2.1; have y3 := HY5.out.2.2.2.1; have y4 := HY5.out.2.2.2.2) | (have y0 := HZ5.out)); clear ho5 ha5 b5))
        all_goals refine ⟨_, ua, un, uc, R, c, _, _, _, _, _, _, _, _, _, _, _, _, _, _, _, _, _, _, rfl, ?_, HA5⟩
        all_goals first
          | exact Jn.Got.store H5 HY5 HO5.out HY3.out.2.1 (Jn.regSize H3')
          | exact Jn.Got.store H5 HY5 HO5.out (by simp) (Nat.le_trans (Jn.regSize H3') (by simp))
          | exact Jn.Got.fresh H5 HO5.out (Jn.regSize H3')
end Go.Proofs.YtojdfdlbdpdlkaaGreatDoor

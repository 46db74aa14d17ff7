/- The walk of the specification's JournalDrop. -/
import Derived.Test.YtfefafmcaepoiaaDoorJournalMath
import Derived.Test.YtfefafmcaepoiaaDoorFsRemoveSpec
namespace Go.Proofs.YtfefafmcaepoiaaDoor
open Go.RowKit Go.Maps
set_option linter.unusedVariables false

set_option maxHeartbeats 2000000 in
theorem journalDrop_spec (v : Value) (L : List Fk.Fl) (w : World) (base : Nat) (ho : Fk.Own w base 60 v L) (hL : Fk.Fits L) (hl : L.length ≤ maxLen) :
    Calls Tryd.prog 14 #[.agg #[v]] w fun e w' => (∃ u R c, e = .returned (.agg #[u, .int .i64 c]) ∧ Fk.Own w' w.heap.size 60 u R ∧ Fk.Ans (Fk.opn L []) (Jn.resDrop L) R c) ∧ Below w.heap.size w w' := by
  obtain ⟨W, hW⟩ : ∃ W, W = (w.alloc (.cells #[v] 32)).alloc (.cells #[.slice none 0 0, .int .i64 0] 40) := ⟨_, rfl⟩
  have b0 : Below w.heap.size w W := by
    rw [hW]
    repeat (first | exact Below.refl _ _ | refine Below.alloc ?_ (by simp <;> omega) _)
  have hsz : W.heap.size = w.heap.size + 2 := by rw [hW]; simp
  have hcell : W.cell? ⟨w.heap.size, 0, none⟩ = some v := by rw [hW, Fk.cellOld _ _ _ _ (by simp), Fk.cellTop _ _ _ _ _ rfl]; rfl
  have q0 : W.cell? ⟨w.heap.size + 1, 0, none⟩ = some (.slice none 0 0) := by rw [hW, Fk.cellTop _ _ _ _ _ (by simp)]; rfl
  have q1 : W.cell? ⟨w.heap.size + 1, 1, none⟩ = some (.int .i64 0) := by rw [hW, Fk.cellTop _ _ _ _ _ (by simp)]; rfl
  have f0 : ∀ j, W.frozen? ⟨w.heap.size + 1, j, none⟩ = false := fun j => by rw [hW, Fk.frozTop _ _ _ _ _ (by simp)]
  have hv' := ho.view.below b0
  have HO0 := Fk.hide (ho.below b0)
  have HW := Fk.hide hW
  clear hW ho
  have hvW := hv'
  obtain ⟨a, cap, rfl, hs⟩ := hv'
  clear hs
  go_enter Tryd.func14, Tryd.ntmps14
  go_wp2_with fail
  rw [← HW.out]
  refine (fsRight_spec _ L _ hvW hL hl).mono ?_
  rintro e w1 ⟨rfl, b1⟩
  have B1 := Fk.hide (b0.trans (b1.mono b0.size))
  have hcell1 : w1.cell? ⟨w.heap.size, 0, none⟩ = some (.slice a L.length cap) := (b1.cell (by show w.heap.size < _; omega)).trans hcell
  have p0 : w1.cell? ⟨w.heap.size + 1, 0, none⟩ = some (.slice none 0 0) := (b1.cell (by show w.heap.size + 1 < _; omega)).trans q0
  have p1 : w1.cell? ⟨w.heap.size + 1, 1, none⟩ = some (.int .i64 0) := (b1.cell (by show w.heap.size + 1 < _; omega)).trans q1
  have pf : ∀ j, w1.frozen? ⟨w.heap.size + 1, j, none⟩ = false := fun j => (b1.frozen (by show w.heap.size + 1 < _; omega)).trans (f0 j)
  have HV1 := Fk.hide (hvW.below b1)
  have HO1 := Fk.hide (HO0.out.below b1)
  have hsz1 : w.heap.size + 2 ≤ w1.heap.size := by have := b1.size; omega
  clear b1 hcell q0 q1 f0 hvW HO0
  have FIN : Hid (∀ (w5 : World) (u : Value) (R : List Fk.Fl) (c : Int), Below w.heap.size w w5 → Fk.Own w5 (w.heap.size + 2) 60 u R → Fk.Own ((w5.setCell ⟨w.heap.size + 1, 0, none⟩ u).setCell ⟨w.heap.size + 1, 1, none⟩ (.int .i64 c)) w.heap.size 60 u R ∧ Below w.heap.size w ((w5.setCell ⟨w.heap.size + 1, 0, none⟩ u).setCell ⟨w.heap.size + 1, 1, none⟩ (.int .i64 c))) :=
    fun w5 u R c hb ho => ⟨Fk.Own.mono (ownsRow_setCell_below (ownsRow_setCell_below ho (by show w.heap.size + 1 < _; omega) _) (by show w.heap.size + 1 < _; omega) _) (by omega), (hb.setCell (by simp) _).setCell (by simp) _⟩
  cases hr : Fk.right L with
  | false =>
    have HA : Hid (Fk.Ans (Fk.opn L []) (Jn.resDrop L) [] 1) := .inr (.inl ⟨Jn.opn_ill hr, rfl, rfl⟩)
    go_wp2_with fail
    refine (l02Ill_any 1 _).mono ?_
    rintro e w9 ⟨rfl, b9⟩
    have t0 : w9.cell? ⟨w.heap.size + 1, 0, none⟩ = some (.slice none 0 0) := (b9.cell (by show w.heap.size + 1 < _; omega)).trans p0
    have t1 : w9.cell? ⟨w.heap.size + 1, 1, none⟩ = some (.int .i64 0) := (b9.cell (by show w.heap.size + 1 < _; omega)).trans p1
    have tf : ∀ j, w9.frozen? ⟨w.heap.size + 1, j, none⟩ = false := fun j => (b9.frozen (by show w.heap.size + 1 < _; omega)).trans (pf j)
    have E9 := Fk.hide (FIN.out w9 (.slice none 0 0) [] 1 (B1.out.trans (b9.mono B1.out.size)) (Fk.own_nil _ _ _))
    clear b9 p0 p1 pf
    go_wp2_with fail
    exact bodyPost_ret (v := .agg #[.slice none 0 0, .int .i64 1]) (by simp [results, Tryd.results14, go_sem, t0, t1] <;> rfl) rfl ⟨⟨_, _, _, rfl, E9.out.1, HA.out⟩, E9.out.2⟩
  | true =>
    have h12 := (Fk.right_inv L hr).1
    have HR := Fk.hide hr
    clear hr
    go_wp2_with fail
    refine (l02File_any _ L Jn.name _ HV1.out hl).mono ?_
    rintro e w2 ⟨h2, b2⟩
    have hcell2 : w2.cell? ⟨w.heap.size, 0, none⟩ = some (.slice a L.length cap) := (b2.cell (by show w.heap.size < _; omega)).trans hcell1
    have HO2 := Fk.hide (HO1.out.below b2)
    have hsz2 : w.heap.size + 2 ≤ w2.heap.size := by have := b2.size; omega
    have B2 := Fk.hide (B1.out.trans (b2.mono B1.out.size))
    replace p0 : w2.cell? ⟨w.heap.size + 1, 0, none⟩ = some (.slice none 0 0) := (b2.cell (by show w.heap.size + 1 < _; omega)).trans p0
    replace p1 : w2.cell? ⟨w.heap.size + 1, 1, none⟩ = some (.int .i64 0) := (b2.cell (by show w.heap.size + 1 < _; omega)).trans p1
    replace pf : ∀ j, w2.frozen? ⟨w.heap.size + 1, j, none⟩ = false := fun j => (b2.frozen (by show w.heap.size + 1 < _; omega)).trans (pf j)
    clear b2 hcell1 HV1 HO1
    rcases h2 with ⟨k, rfl, hk, hk1, hk2⟩ | ⟨rfl, hk⟩
    · have HG := Fk.hide (Jn.get_at hk hk1 hk2)
      clear hk hk1 hk2
      go_wp2_with fail
      refine (fsRemove_spec _ L Jn.name _ base HO2.out hL hl (by decide)).mono ?_
      rintro e w9 ⟨⟨u, R, c, rfl, ho, hA⟩, b9⟩
      have HA := Fk.hide (Jn.drop_of_remove HG.out hA)
      clear hA
      obtain ⟨ua, uc, rfl⟩ := ho.slice
      have t0 : w9.cell? ⟨w.heap.size + 1, 0, none⟩ = some (.slice none 0 0) := (b9.cell (by show w.heap.size + 1 < _; omega)).trans p0
      have t1 : w9.cell? ⟨w.heap.size + 1, 1, none⟩ = some (.int .i64 0) := (b9.cell (by show w.heap.size + 1 < _; omega)).trans p1
      have tf : ∀ j, w9.frozen? ⟨w.heap.size + 1, j, none⟩ = false := fun j => (b9.frozen (by show w.heap.size + 1 < _; omega)).trans (pf j)
      have E9 := Fk.hide (FIN.out w9 _ _ c (B2.out.trans (b9.mono B2.out.size)) (ho.mono (by omega)))
      clear b9 p0 p1 pf ho
      obtain ⟨rl, hrl⟩ : ∃ rl, rl = R.length := ⟨_, rfl⟩
      rw [← hrl] at E9
      rw [← hrl]
      clear hrl
      go_wp2_with fail
      exact bodyPost_ret (v := .agg #[.slice ua rl uc, .int .i64 c]) (by simp [results, Tryd.results14, go_sem, t0, t1] <;> rfl) rfl ⟨⟨_, _, _, rfl, E9.out.1, HA.out⟩, E9.out.2⟩
    · have HA := Fk.hide (Jn.drop_same HR.out (Fk.get_no L Jn.name hk))
      have HOv := HO2.out.view
      have HOs := HO2.out.shut
      clear hk
      go_wp2_with fail
      refine (l02Copy_any _ L _ HOv HOs (by omega)).mono ?_
      rintro e w9 ⟨⟨u, rfl, ho⟩, b9⟩
      clear HOv HOs
      obtain ⟨ua, uc, rfl⟩ := ho.slice
      have t0 : w9.cell? ⟨w.heap.size + 1, 0, none⟩ = some (.slice none 0 0) := (b9.cell (by show w.heap.size + 1 < _; omega)).trans p0
      have t1 : w9.cell? ⟨w.heap.size + 1, 1, none⟩ = some (.int .i64 0) := (b9.cell (by show w.heap.size + 1 < _; omega)).trans p1
      have tf : ∀ j, w9.frozen? ⟨w.heap.size + 1, j, none⟩ = false := fun j => (b9.frozen (by show w.heap.size + 1 < _; omega)).trans (pf j)
      have E9 := Fk.hide (FIN.out w9 _ _ 0 (B2.out.trans (b9.mono B2.out.size)) (ho.mono (by omega)))
      clear b9 p0 p1 pf ho
      obtain ⟨rl, hrl⟩ : ∃ rl, rl = L.length := ⟨_, rfl⟩
      rw [← hrl] at E9
      rw [← hrl]
      clear hrl
      go_wp2_with fail
      exact bodyPost_ret (v := .agg #[.slice ua rl uc, .int .i64 0]) (by simp [results, Tryd.results14, go_sem, t0, t1] <;> rfl) rfl ⟨⟨_, _, _, rfl, E9.out.1, HA.out⟩, E9.out.2⟩
end Go.Proofs.YtfefafmcaepoiaaDoor

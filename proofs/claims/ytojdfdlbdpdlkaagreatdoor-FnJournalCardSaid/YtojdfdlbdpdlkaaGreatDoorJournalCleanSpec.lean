/- The walk of the specification's JournalClean. -/
import Derived.Test.YtojdfdlbdpdlkaaGreatDoorJoined22
import Derived.Test.YtojdfdlbdpdlkaaGreatDoorJoined24
import Derived.Test.YtojdfdlbdpdlkaaGreatDoorFsCutSpec
import Derived.Test.YtojdfdlbdpdlkaaGreatDoorJoined16
namespace Go.Proofs.YtojdfdlbdpdlkaaGreatDoor
open Go.RowKit Go.Maps
set_option linter.unusedVariables false
set_option linter.unusedSimpArgs false

theorem Jn.wf_small {r : Int} (h0 : -9223372036854775808 ≤ r) (h1 : r ≤ 9223372036854775807) : (Lit.int .i64 r).wf = true := by
  have e1 : IntKind.i64.min = -9223372036854775808 := rfl
  have e2 : IntKind.i64.max = 9223372036854775807 := rfl
  simp [Lit.wf, e1, e2]
  omega

theorem Jn.field_files (a : Option Addr) (n m : Nat) (c : Int) (W : World) : (Instr.field 29 (.agg #[.slice a n m, .int .i64 c]) 0).run Tryz.prog W = .ok (.agg #[.slice a n m]) W := by kernel_rfl

set_option maxRecDepth 20000 in
set_option maxHeartbeats 4000000 in
theorem journalClean_spec (v : Value) (L : List Fk.Fl) (w : World) (base : Nat) (ho : Fk.Own w base 75 v L) (hL : Fk.Fits L) (hl : L.length ≤ maxLen) :
    Calls Tryz.prog 12 #[.agg #[v]] w fun e w' => (∃ u R c, e = .returned (.agg #[u, .int .i64 c]) ∧ Fk.Own w' w.heap.size 75 u R ∧ Fk.Ans (Fk.opn L []) (Jn.resClean L) R c) ∧ Below w.heap.size w w' := by
  obtain ⟨W, hW⟩ : ∃ W, W = (w.alloc (.cells #[v] 25)).alloc (.cells #[.slice none 0 0, .int .i64 0] 29) := ⟨_, rfl⟩
  have b0 : Below w.heap.size w W := by
    rw [hW]
    repeat (first | exact Below.refl _ _ | refine Below.alloc ?_ (by simp <;> omega) _)
  have hsz : W.heap.size = w.heap.size + 2 := by rw [hW]; simp
  have hcell : W.cell? ⟨w.heap.size, 0, none⟩ = some v := by rw [hW, Fk.cellOld _ _ _ _ (by simp), Fk.cellTop _ _ _ _ _ rfl]; rfl
  have q0 : W.cell? ⟨w.heap.size + 1, 0, none⟩ = some (.slice none 0 0) := by rw [hW, Fk.cellTop _ _ _ _ _ (by simp)]; rfl
  have q1 : W.cell? ⟨w.heap.size + 1, 1, none⟩ = some (.int .i64 0) := by rw [hW, Fk.cellTop _ _ _ _ _ (by simp)]; rfl
  have f0 : ∀ j, W.frozen? ⟨w.heap.size + 1, j, none⟩ = false := fun j => by rw [hW, Fk.frozTop _ _ _ _ _ (by simp)]
  have hv' := ho.view.below b0
  have HO0 := Fk.hide (ho.below b0)
  have HW := Fk.hide hW
  clear hW ho
  have hvW := hv'
  obtain ⟨a, cap, rfl, hs⟩ := hv'
  clear hs
  go_enter Tryz.func12, Tryz.ntmps12
  go_wp2_with fail
  rw [← HW.out]
  refine (fsRight_spec _ L _ hvW hL hl).mono ?_
  rintro e w1 ⟨rfl, b1⟩
  have B1 := Fk.hide (b0.trans (b1.mono b0.size))
  have hcell1 : w1.cell? ⟨w.heap.size, 0, none⟩ = some (.slice a L.length cap) := (b1.cell (by show w.heap.size < _; omega)).trans hcell
  have p0 : w1.cell? ⟨w.heap.size + 1, 0, none⟩ = some (.slice none 0 0) := (b1.cell (by show w.heap.size + 1 < _; omega)).trans q0
  have p1 : w1.cell? ⟨w.heap.size + 1, 1, none⟩ = some (.int .i64 0) := (b1.cell (by show w.heap.size + 1 < _; omega)).trans q1
  have pf : ∀ j, w1.frozen? ⟨w.heap.size + 1, j, none⟩ = false := fun j => (b1.frozen (by show w.heap.size + 1 < _; omega)).trans (f0 j)
  have HV1 := Fk.hide (hvW.below b1)
  have HO1 := Fk.hide (HO0.out.below b1)
  have hsz1 : w.heap.size + 2 ≤ w1.heap.size := by have := b1.size; omega
  clear b1 hcell q0 q1 f0 hvW HO0
  have FIN : Hid (∀ (w5 : World) (u : Value) (R : List Fk.Fl) (c : Int), Below w.heap.size w w5 → Fk.Own w5 (w.heap.size + 2) 75 u R → Fk.Own ((w5.setCell ⟨w.heap.size + 1, 0, none⟩ u).setCell ⟨w.heap.size + 1, 1, none⟩ (.int .i64 c)) w.heap.size 75 u R ∧ Below w.heap.size w ((w5.setCell ⟨w.heap.size + 1, 0, none⟩ u).setCell ⟨w.heap.size + 1, 1, none⟩ (.int .i64 c))) :=
    fun w5 u R c hb ho => ⟨Fk.Own.mono (ownsRow_setCell_below (ownsRow_setCell_below ho (by show w.heap.size + 1 < _; omega) _) (by show w.heap.size + 1 < _; omega) _) (by omega), (hb.setCell (by simp) _).setCell (by simp) _⟩
  cases hr : Fk.right L with
  | false =>
    have HA : Hid (Fk.Ans (Fk.opn L []) (Jn.resClean L) [] 1) := .inr (.inl ⟨Jn.opn_ill hr, rfl, rfl⟩)
    go_wp2_with fail
    refine (l02Ill_any 1 _).mono ?_
    rintro e w9 ⟨rfl, b9⟩
    have t0 : w9.cell? ⟨w.heap.size + 1, 0, none⟩ = some (.slice none 0 0) := (b9.cell (by show w.heap.size + 1 < _; omega)).trans p0
    have t1 : w9.cell? ⟨w.heap.size + 1, 1, none⟩ = some (.int .i64 0) := (b9.cell (by show w.heap.size + 1 < _; omega)).trans p1
    have tf : ∀ j, w9.frozen? ⟨w.heap.size + 1, j, none⟩ = false := fun j => (b9.frozen (by show w.heap.size + 1 < _; omega)).trans (pf j)
    have E9 := Fk.hide (FIN.out w9 (.slice none 0 0) [] 1 (B1.out.trans (b9.mono B1.out.size)) (Fk.own_nil _ _ _))
    clear b9 p0 p1 pf
    go_wp2_with fail
    exact bodyPost_ret (v := .agg #[.slice none 0 0, .int .i64 1]) (by simp [results, Tryz.results12, go_sem, t0, t1] <;> rfl) rfl ⟨⟨_, _, _, rfl, E9.out.1, HA.out⟩, E9.out.2⟩
  | true =>
    have h12 := (Fk.right_inv L hr).1
    have HR := Fk.hide hr
    clear hr
    go_wp2_with fail
    refine (l02File_any _ L Jn.name _ HV1.out hl).mono ?_
    rintro e w2 ⟨h2, b2⟩
    have hcell2 : w2.cell? ⟨w.heap.size, 0, none⟩ = some (.slice a L.length cap) := (b2.cell (by show w.heap.size < _; omega)).trans hcell1
    have HO2 := Fk.hide (HO1.out.below b2)
    have hsz2 : w.heap.size + 2 ≤ w2.heap.size := by have := b2.size; omega
    have B2 := Fk.hide (B1.out.trans (b2.mono B1.out.size))
    replace p0 : w2.cell? ⟨w.heap.size + 1, 0, none⟩ = some (.slice none 0 0) := (b2.cell (by show w.heap.size + 1 < _; omega)).trans p0
    replace p1 : w2.cell? ⟨w.heap.size + 1, 1, none⟩ = some (.int .i64 0) := (b2.cell (by show w.heap.size + 1 < _; omega)).trans p1
    replace pf : ∀ j, w2.frozen? ⟨w.heap.size + 1, j, none⟩ = false := fun j => (b2.frozen (by show w.heap.size + 1 < _; omega)).trans (pf j)
    clear b2 hcell1 HV1 HO1
    rcases h2 with ⟨k, rfl, hk, hk1, hk2⟩ | ⟨rfl, hk⟩
    · have HG := Fk.hide (Jn.get_at hk hk1 hk2)
      have HT := Fk.hide (Jn.rdOf_text HR.out)
      have hd := Jn.dat_fit HR.out
      have hb := Jn.ends_bd (Jn.dat L)
      have HV2 := Fk.hide HO2.out.view
      clear hk hk1 hk2
      go_wp2_with fail
      refine (fsRead_spec _ L Jn.name _ HV2.out hL hl (by decide)).mono ?_
      rintro e w3 ⟨rfl, b3⟩
      obtain ⟨⟨t, q, c⟩, ht⟩ : ∃ r, r = Fk.rdOf L Jn.name := ⟨_, rfl⟩
      have hte : t = Jn.dat L := by rw [← HT.out, ← ht]
      rw [← ht, show textOut (t, q, c) = .agg #[.string t, .int .i64 q, .int .i64 c] from rfl]
      subst hte
      have hfd := Jn.field_text (Jn.dat L) q c
      have hcell3 : w3.cell? ⟨w.heap.size, 0, none⟩ = some (.slice a L.length cap) := (b3.cell (by show w.heap.size < _; omega)).trans hcell2
      have HO3 := Fk.hide (HO2.out.below b3)
      have hsz3 : w.heap.size + 2 ≤ w3.heap.size := by have := b3.size; omega
      have B3 := Fk.hide (B2.out.trans (b3.mono B2.out.size))
      replace p0 : w3.cell? ⟨w.heap.size + 1, 0, none⟩ = some (.slice none 0 0) := (b3.cell (by show w.heap.size + 1 < _; omega)).trans p0
      replace p1 : w3.cell? ⟨w.heap.size + 1, 1, none⟩ = some (.int .i64 0) := (b3.cell (by show w.heap.size + 1 < _; omega)).trans p1
      replace pf : ∀ j, w3.frozen? ⟨w.heap.size + 1, j, none⟩ = false := fun j => (b3.frozen (by show w.heap.size + 1 < _; omega)).trans (pf j)
      clear ht HT b3 hcell2 HO2 HV2
      go_wp2_with fail
      refine (l10Read_any (Jn.dat L) (by omega) _).mono ?_
      rintro e w4 ⟨⟨u, rfl, _⟩, b4⟩
      have hcell4 : w4.cell? ⟨w.heap.size, 0, none⟩ = some (.slice a L.length cap) := (b4.cell (by show w.heap.size < _; omega)).trans hcell3
      have HO4 := Fk.hide (HO3.out.below b4)
      have hsz4 : w.heap.size + 2 ≤ w4.heap.size := by have := b4.size; omega
      have B4 := Fk.hide (B3.out.trans (b4.mono B3.out.size))
      replace p0 : w4.cell? ⟨w.heap.size + 1, 0, none⟩ = some (.slice none 0 0) := (b4.cell (by show w.heap.size + 1 < _; omega)).trans p0
      replace p1 : w4.cell? ⟨w.heap.size + 1, 1, none⟩ = some (.int .i64 0) := (b4.cell (by show w.heap.size + 1 < _; omega)).trans p1
      replace pf : ∀ j, w4.frozen? ⟨w.heap.size + 1, j, none⟩ = false := fun j => (b4.frozen (by show w.heap.size + 1 < _; omega)).trans (pf j)
      obtain ⟨ae, hae⟩ : ∃ ae, ae = Jn.endOf (Jn.all (Jn.dat L)) := ⟨_, rfl⟩
      rw [← hae] at hb
      have HAE := Fk.hide hae
      have HV4 := Fk.hide HO4.out.view
      have HS4 := Fk.hide HO4.out.shut
      have hwf : (Lit.int .i64 ae).wf = true := Jn.wf_small (by omega) (by omega)
      rw [← hae]
      clear b4 hcell3 HO3 hfd hae
      go_wp2_with fail
      refine (fsCut_spec _ L Jn.name ae _ HV4.out HS4.out hL hl (by decide) hwf).mono ?_
      rintro e w5 ⟨⟨u5, R5, c5, rfl, o5, hA5⟩, b5⟩
      have HF5 := Fk.hide (Fk.ans_fits (Fk.cut_right hA5))
      have HA5 := Fk.hide hA5
      obtain ⟨x5, y5, rfl⟩ := o5.slice
      have HV5 := Fk.hide o5.view
      have HS5 := Fk.hide o5.shut
      have hff := Jn.field_files x5 R5.length y5 c5
      have hcell5 : w5.cell? ⟨w.heap.size, 0, none⟩ = some (.slice a L.length cap) := (b5.cell (by show w.heap.size < _; omega)).trans hcell4
      have HO5 := Fk.hide (HO4.out.below b5)
      have hsz5 : w.heap.size + 2 ≤ w5.heap.size := by have := b5.size; omega
      have B5 := Fk.hide (B4.out.trans (b5.mono B4.out.size))
      replace p0 : w5.cell? ⟨w.heap.size + 1, 0, none⟩ = some (.slice none 0 0) := (b5.cell (by show w.heap.size + 1 < _; omega)).trans p0
      replace p1 : w5.cell? ⟨w.heap.size + 1, 1, none⟩ = some (.int .i64 0) := (b5.cell (by show w.heap.size + 1 < _; omega)).trans p1
      replace pf : ∀ j, w5.frozen? ⟨w.heap.size + 1, j, none⟩ = false := fun j => (b5.frozen (by show w.heap.size + 1 < _; omega)).trans (pf j)
      clear b5 hcell4 HO4 HV4 HS4 o5 hA5
      go_wp2_with fail
      refine (fsSync_spec _ R5 Jn.name _ HV5.out HS5.out HF5.out.1 (by have := HF5.out.2; unfold maxLen; omega) (by decide)).mono ?_
      rintro e w9 ⟨⟨u, R, c, rfl, ho, hA⟩, b9⟩
      have HA := Fk.hide (Jn.clean_sync HR.out HG.out (by rw [← HAE.out]; exact HA5.out) hA)
      clear hA HV5 HS5 hff
      obtain ⟨ua, uc, rfl⟩ := ho.slice
      have t0 : w9.cell? ⟨w.heap.size + 1, 0, none⟩ = some (.slice none 0 0) := (b9.cell (by show w.heap.size + 1 < _; omega)).trans p0
      have t1 : w9.cell? ⟨w.heap.size + 1, 1, none⟩ = some (.int .i64 0) := (b9.cell (by show w.heap.size + 1 < _; omega)).trans p1
      have tf : ∀ j, w9.frozen? ⟨w.heap.size + 1, j, none⟩ = false := fun j => (b9.frozen (by show w.heap.size + 1 < _; omega)).trans (pf j)
      have E9 := Fk.hide (FIN.out w9 _ _ c (B5.out.trans (b9.mono B5.out.size)) (ho.mono (by omega)))
      clear b9 p0 p1 pf ho
      obtain ⟨rl, hrl⟩ : ∃ rl, rl = R.length := ⟨_, rfl⟩
      rw [← hrl] at E9
      rw [← hrl]
      clear hrl
      go_wp2_with fail
      exact bodyPost_ret (v := .agg #[.slice ua rl uc, .int .i64 c]) (by simp [results, Tryz.results12, go_sem, t0, t1] <;> rfl) rfl ⟨⟨_, _, _, rfl, E9.out.1, HA.out⟩, E9.out.2⟩
    · have HA := Fk.hide (Jn.clean_same HR.out (Fk.get_no L Jn.name hk))
      have HOv := HO2.out.view
      have HOs := HO2.out.shut
      clear hk
      go_wp2_with fail
      refine (l02Copy_any _ L _ HOv HOs (by omega)).mono ?_
      rintro e w9 ⟨⟨u, rfl, ho⟩, b9⟩
      clear HOv HOs
      obtain ⟨ua, uc, rfl⟩ := ho.slice
      have t0 : w9.cell? ⟨w.heap.size + 1, 0, none⟩ = some (.slice none 0 0) := (b9.cell (by show w.heap.size + 1 < _; omega)).trans p0
      have t1 : w9.cell? ⟨w.heap.size + 1, 1, none⟩ = some (.int .i64 0) := (b9.cell (by show w.heap.size + 1 < _; omega)).trans p1
      have tf : ∀ j, w9.frozen? ⟨w.heap.size + 1, j, none⟩ = false := fun j => (b9.frozen (by show w.heap.size + 1 < _; omega)).trans (pf j)
      have E9 := Fk.hide (FIN.out w9 _ _ 0 (B2.out.trans (b9.mono B2.out.size)) (ho.mono (by omega)))
      clear b9 p0 p1 pf ho
      obtain ⟨rl, hrl⟩ : ∃ rl, rl = L.length := ⟨_, rfl⟩
      rw [← hrl] at E9
      rw [← hrl]
      clear hrl
      go_wp2_with fail
      exact bodyPost_ret (v := .agg #[.slice ua rl uc, .int .i64 0]) (by simp [results, Tryz.results12, go_sem, t0, t1] <;> rfl) rfl ⟨⟨_, _, _, rfl, E9.out.1, HA.out⟩, E9.out.2⟩
end Go.Proofs.YtojdfdlbdpdlkaaGreatDoor

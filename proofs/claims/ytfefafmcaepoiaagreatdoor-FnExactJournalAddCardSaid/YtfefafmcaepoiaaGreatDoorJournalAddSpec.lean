/- The walk of the specification's JournalAdd. -/
import Derived.Test.YtfefafmcaepoiaaGreatDoorJournalAddMath
import Derived.Test.YtfefafmcaepoiaaGreatDoorJournalAddKit
import Derived.Test.YtfefafmcaepoiaaGreatDoorFsAppendSpec
import Derived.Test.YtfefafmcaepoiaaGreatDoorFsSyncSpec
import Derived.Deep.RegionHeld3
namespace Go.Proofs.YtfefafmcaepoiaaGreatDoor
open Go.RowKit Go.Maps
set_option linter.unusedVariables false

set_option maxHeartbeats 4000000 in
theorem journalAdd_spec (v : Value) (L : List Fk.Fl) (t : ByteArray) (sy : Bool) (w : World) (base : Nat) (ho : Fk.Own w base 73 v L) (hL : Fk.Fits L) (hl : L.length ≤ maxLen) (ht : t.size ≤ maxLen) :
    Calls Tryz.prog 6 #[.agg #[v], .string t, .bool sy] w fun e w' => (∃ u R c, e = .returned (.agg #[u, .int .i64 c]) ∧ Fk.Own w' w.heap.size 73 u R ∧ Fk.Ans (Jn.oAdd L t) (Jn.resAdd L t sy) R c) ∧ Below w.heap.size w w' := by
  obtain ⟨W, hW⟩ : ∃ W, W = (w.alloc (.cells #[v] 28)).alloc (.cells #[.slice none 0 0, .int .i64 0] 30) := ⟨_, rfl⟩
  have b0 : Below w.heap.size w W := by
    rw [hW]
    repeat (first | exact Below.refl _ _ | refine Below.alloc ?_ (by simp <;> omega) _)
  have hsz : W.heap.size = w.heap.size + 2 := by rw [hW]; simp
  have hcell : W.cell? ⟨w.heap.size, 0, none⟩ = some v := by rw [hW, Fk.cellOld _ _ _ _ (by simp), Fk.cellTop _ _ _ _ _ rfl]; rfl
  have q0 : W.cell? ⟨w.heap.size + 1, 0, none⟩ = some (.slice none 0 0) := by rw [hW, Fk.cellTop _ _ _ _ _ (by simp)]; rfl
  have q1 : W.cell? ⟨w.heap.size + 1, 1, none⟩ = some (.int .i64 0) := by rw [hW, Fk.cellTop _ _ _ _ _ (by simp)]; rfl
  have f0 : ∀ j, W.frozen? ⟨w.heap.size + 1, j, none⟩ = false := fun j => by rw [hW, Fk.frozTop _ _ _ _ _ (by simp)]
  have hv' := ho.view.below b0
  have HO0 := Fk.hide (ho.below b0)
  have HW := Fk.hide hW
  clear hW ho
  have hvW := hv'
  obtain ⟨a, cap, rfl, hs⟩ := hv'
  clear hs
  by_cases hbig : 8000 < t.size
  · have HA : Hid (Fk.Ans (Jn.oAdd L t) (Jn.resAdd L t sy) [] 2) := .inl ⟨Jn.oAdd_big hbig, rfl, rfl⟩
    have hti : (8000 : Int) < (t.size : Int) := by omega
    have B1 := Fk.hide b0
    have p0 := q0
    have p1 := q1
    have pf := f0
    have hsz1 := hsz
    clear q0 q1 f0 hcell HO0 hbig
    have FIN : Hid (∀ (w5 : World) (u : Value) (R : List Fk.Fl) (c : Int), Below w.heap.size w w5 → Fk.Own w5 (w.heap.size + 2) 73 u R → Fk.Own ((w5.setCell ⟨w.heap.size + 1, 0, none⟩ u).setCell ⟨w.heap.size + 1, 1, none⟩ (.int .i64 c)) w.heap.size 73 u R ∧ Below w.heap.size w ((w5.setCell ⟨w.heap.size + 1, 0, none⟩ u).setCell ⟨w.heap.size + 1, 1, none⟩ (.int .i64 c))) :=
      fun w5 u R c hb ho => ⟨Fk.Own.mono (ownsRow_setCell_below (ownsRow_setCell_below ho (by show w.heap.size + 1 < _; omega) _) (by show w.heap.size + 1 < _; omega) _) (by omega), (hb.setCell (by simp) _).setCell (by simp) _⟩
    go_enter Tryz.func6, Tryz.ntmps6
    go_wp2_with fail
    rw [← HW.out]
    refine (l02Ill_any 2 _).mono ?_
    rintro e w9 ⟨rfl, b9⟩
    have t0 : w9.cell? ⟨w.heap.size + 1, 0, none⟩ = some (.slice none 0 0) := (b9.cell (by show w.heap.size + 1 < _; omega)).trans p0
    have t1 : w9.cell? ⟨w.heap.size + 1, 1, none⟩ = some (.int .i64 0) := (b9.cell (by show w.heap.size + 1 < _; omega)).trans p1
    have tf : ∀ j, w9.frozen? ⟨w.heap.size + 1, j, none⟩ = false := fun j => (b9.frozen (by show w.heap.size + 1 < _; omega)).trans (pf j)
    have E9 := Fk.hide (FIN.out w9 (.slice none 0 0) [] 2 (B1.out.trans (b9.mono B1.out.size)) (Fk.own_nil _ _ _))
    clear b9 p0 p1 pf
    go_wp2_with fail
    exact bodyPost_ret (v := .agg #[.slice none 0 0, .int .i64 2]) (by simp [results, Tryz.results6, go_sem, t0, t1] <;> rfl) rfl ⟨⟨_, _, _, rfl, E9.out.1, HA.out⟩, E9.out.2⟩
  have hti : ¬ (8000 : Int) < (t.size : Int) := by omega
  have HT := Fk.hide hbig
  clear hbig
  go_enter Tryz.func6, Tryz.ntmps6
  go_wp2_with fail
  rw [← HW.out]
  refine (fsRight_spec _ L _ hvW hL hl).mono ?_
  rintro e w1 ⟨rfl, b1⟩
  have B1 := Fk.hide (b0.trans (b1.mono b0.size))
  have hcell1 : w1.cell? ⟨w.heap.size, 0, none⟩ = some (.slice a L.length cap) := (b1.cell (by show w.heap.size < _; omega)).trans hcell
  have p0 : w1.cell? ⟨w.heap.size + 1, 0, none⟩ = some (.slice none 0 0) := (b1.cell (by show w.heap.size + 1 < _; omega)).trans q0
  have p1 : w1.cell? ⟨w.heap.size + 1, 1, none⟩ = some (.int .i64 0) := (b1.cell (by show w.heap.size + 1 < _; omega)).trans q1
  have pf : ∀ j, w1.frozen? ⟨w.heap.size + 1, j, none⟩ = false := fun j => (b1.frozen (by show w.heap.size + 1 < _; omega)).trans (f0 j)
  have HO1 := Fk.hide (HO0.out.below b1)
  have hsz1 : w.heap.size + 2 ≤ w1.heap.size := by have := b1.size; omega
  clear b1 hcell q0 q1 f0 hvW HO0
  have FIN : Hid (∀ (w5 : World) (u : Value) (R : List Fk.Fl) (c : Int), Below w.heap.size w w5 → Fk.Own w5 (w.heap.size + 2) 73 u R → Fk.Own ((w5.setCell ⟨w.heap.size + 1, 0, none⟩ u).setCell ⟨w.heap.size + 1, 1, none⟩ (.int .i64 c)) w.heap.size 73 u R ∧ Below w.heap.size w ((w5.setCell ⟨w.heap.size + 1, 0, none⟩ u).setCell ⟨w.heap.size + 1, 1, none⟩ (.int .i64 c))) :=
    fun w5 u R c hb ho => ⟨Fk.Own.mono (ownsRow_setCell_below (ownsRow_setCell_below ho (by show w.heap.size + 1 < _; omega) _) (by show w.heap.size + 1 < _; omega) _) (by omega), (hb.setCell (by simp) _).setCell (by simp) _⟩
  cases hr : Fk.right L with
  | false =>
    have HA : Hid (Fk.Ans (Jn.oAdd L t) (Jn.resAdd L t sy) [] 1) := .inr (.inl ⟨Jn.oAdd_ill HT.out hr, rfl, rfl⟩)
    clear hr
    go_wp2_with fail
    refine (l02Ill_any 1 _).mono ?_
    rintro e w9 ⟨rfl, b9⟩
    have t0 : w9.cell? ⟨w.heap.size + 1, 0, none⟩ = some (.slice none 0 0) := (b9.cell (by show w.heap.size + 1 < _; omega)).trans p0
    have t1 : w9.cell? ⟨w.heap.size + 1, 1, none⟩ = some (.int .i64 0) := (b9.cell (by show w.heap.size + 1 < _; omega)).trans p1
    have tf : ∀ j, w9.frozen? ⟨w.heap.size + 1, j, none⟩ = false := fun j => (b9.frozen (by show w.heap.size + 1 < _; omega)).trans (pf j)
    have E9 := Fk.hide (FIN.out w9 (.slice none 0 0) [] 1 (B1.out.trans (b9.mono B1.out.size)) (Fk.own_nil _ _ _))
    clear b9 p0 p1 pf
    go_wp2_with fail
    exact bodyPost_ret (v := .agg #[.slice none 0 0, .int .i64 1]) (by simp [results, Tryz.results6, go_sem, t0, t1] <;> rfl) rfl ⟨⟨_, _, _, rfl, E9.out.1, HA.out⟩, E9.out.2⟩
  | true =>
    by_cases h3 : 300 < t.size
    · have HA : Hid (Fk.Ans (Jn.oAdd L t) (Jn.resAdd L t sy) [] 1) := .inr (.inl ⟨Jn.oAdd_long HT.out hr h3, rfl, rfl⟩)
      have h3i : (300 : Int) < (t.size : Int) := by omega
      clear hr h3
      go_wp2_with fail
      refine (l02Ill_any 1 _).mono ?_
      rintro e w9 ⟨rfl, b9⟩
      have t0 : w9.cell? ⟨w.heap.size + 1, 0, none⟩ = some (.slice none 0 0) := (b9.cell (by show w.heap.size + 1 < _; omega)).trans p0
      have t1 : w9.cell? ⟨w.heap.size + 1, 1, none⟩ = some (.int .i64 0) := (b9.cell (by show w.heap.size + 1 < _; omega)).trans p1
      have tf : ∀ j, w9.frozen? ⟨w.heap.size + 1, j, none⟩ = false := fun j => (b9.frozen (by show w.heap.size + 1 < _; omega)).trans (pf j)
      have E9 := Fk.hide (FIN.out w9 (.slice none 0 0) [] 1 (B1.out.trans (b9.mono B1.out.size)) (Fk.own_nil _ _ _))
      clear b9 p0 p1 pf
      go_wp2_with fail
      exact bodyPost_ret (v := .agg #[.slice none 0 0, .int .i64 1]) (by simp [results, Tryz.results6, go_sem, t0, t1] <;> rfl) rfl ⟨⟨_, _, _, rfl, E9.out.1, HA.out⟩, E9.out.2⟩
    · have h3i : ¬ (300 : Int) < (t.size : Int) := by omega
      have HR := Fk.hide hr
      have H3 := Fk.hide h3
      clear hr h3
      go_wp2_with fail
      have D0 : Hid (Below w1.heap.size w1 w1.drew) := Below.drew (Below.refl _ _)
      have HP : w1.drew.cell? ⟨w.heap.size, 0, none⟩ = some (.slice a L.length cap) ∧ Hid (Jn.Reg base w1 w1.drew (.slice a L.length cap) L) :=
        ⟨hcell1, D0.out, HO1.out.below D0.out, fun k hk => (World.ownsRow.lt HO1.out k hk).2⟩
      have HPa : Hid (Jn.Y w1.heap.size (w1.drew.alloc (.cells #[.slice none 0 0, .int .i64 0] 30)) w1.heap.size (.slice none 0 0) (.int .i64 0)) := Jn.Y.new (w' := w1.drew) (Nat.le_refl _)
      have HYb : Hid (Jn.Y w1.heap.size (w1.alloc (.cells #[.slice none 0 0, .int .i64 0] 30)).drew w1.heap.size (.slice none 0 0) (.int .i64 0)) := Jn.Y.below (Below.drew (Below.refl _ _)) (Jn.Y.new (Nat.le_refl _))
      have HSZ : Hid (w.heap.size < w1.heap.size) := by show _ < _; omega
      have HRC := Fk.hide (Jn.record_size t (by have := H3.out; omega))
      have HSC := Fk.hide (Jn.sealed_size t (by have := H3.out; omega))
      have hcell2 : (w1.alloc (.cells #[.slice none 0 0, .int .i64 0] 30)).cell? ⟨w.heap.size, 0, none⟩ = some (.slice a L.length cap) := (Fk.cellOld _ _ _ _ HSZ.out).trans hcell1
      obtain ⟨KK, hKK⟩ : ∃ KK : Act → World → Prop, KK = fun y z => ∃ (b : Nat) (ua : Option Addr) (un uc : Nat) (R : List Fk.Fl) (c : Int) (x8 x9 x10 x11 x12 x13 x14 x15 x16 x17 x18 x19 x20 x21 x22 x23 x24 x25 : Value), y = ⟨#[Value.agg #[Value.slice a L.length cap], Value.string t, Value.bool sy, Value.pointer (some ⟨w.heap.size, 0, none⟩), undef, undef, Value.pointer (some ⟨w.heap.size + 1, 0, none⟩), Value.pointer (some ⟨b, 0, none⟩), x8, x9, x10, x11, x12, x13, x14, x15, x16, x17, x18, x19, x20, x21, x22, x23, x24, x25, undef, undef, undef, undef, undef, undef, undef, undef, undef, undef], []⟩ ∧ Hid (Jn.Got w1 z b (.slice ua un uc) R c) ∧ Hid (Fk.Ans (Fk.opnA L Jn.name (Jn.record t)) (Fk.resAppend L Jn.name (Jn.record t)) R c) := ⟨_, rfl⟩
      have HKK := Fk.hide hKK
      refine Code.wp_mono (Q := Exit.then KK (fun _ _ _ => False)) ?_ ?_
      · intro e y z hh
        rw [hKK] at hh
        obtain ⟨rfl, b, ua, un, uc, R, c, x8, x9, x10, x11, x12, x13, x14, x15, x16, x17, x18, x19, x20, x21, x22, x23, x24, x25, rfl, HG, HA⟩ := Jn.got_normal hh
        clear hKK HKK hh HP HPa HYb hcell2
        have g0 := HG.out.c0
        have g1 := HG.out.c1
        have B2 := Fk.hide (B1.out.trans (HG.out.bel.mono B1.out.size))
        have hsz2 : w.heap.size + 2 ≤ z.heap.size := by have := HG.out.bel.size; omega
        replace p0 : z.cell? ⟨w.heap.size + 1, 0, none⟩ = some (.slice none 0 0) := (HG.out.bel.cell (by show w.heap.size + 1 < _; omega)).trans p0
        replace p1 : z.cell? ⟨w.heap.size + 1, 1, none⟩ = some (.int .i64 0) := (HG.out.bel.cell (by show w.heap.size + 1 < _; omega)).trans p1
        replace pf : ∀ j, z.frozen? ⟨w.heap.size + 1, j, none⟩ = false := fun j => (HG.out.bel.frozen (by show w.heap.size + 1 < _; omega)).trans (pf j)
        have HN := Fk.hide (show some b ≠ some (w.heap.size + 1) from fun e => by have h9 : b = w.heap.size + 1 := Option.some.inj e; have := HG.out.lo; omega)
        clear hcell1 HO1 D0
        by_cases hc : c = 0
        · subst hc
          cases sy with
          | false =>
            have HA2 := Fk.hide (Jn.add_plain (s := false) HR.out H3.out (.inl rfl) HA.out)
            have E9 := Fk.hide (FIN.out z _ R 0 B2.out (HG.out.own.mono (by omega)))
            go_wp2_with fail
            exact bodyPost_ret (v := .agg #[.slice ua un uc, .int .i64 0]) (by simp [results, Tryz.results6, go_sem, p0, p1] <;> rfl) rfl ⟨⟨_, _, _, rfl, E9.out.1, HA2.out⟩, E9.out.2⟩
          | true =>
            have HF := Fk.hide (Fk.ans_fits (Fk.append_right HA.out))
            have HV := Fk.hide HG.out.own.view
            have HS := Fk.hide HG.out.own.shut
            go_wp2_with fail
            refine (fsSync_spec _ R Jn.name _ HV.out HS.out HF.out.1 (by have := HF.out.2; unfold maxLen; omega) (by decide)).mono ?_
            rintro e w9 ⟨⟨u, R', c', rfl, ho, hA'⟩, b9⟩
            have HA2 := Fk.hide (Jn.add_sync HR.out H3.out HA.out hA')
            clear hA' HV HS
            obtain ⟨ua, uc, rfl⟩ := ho.slice
            have t0 : w9.cell? ⟨w.heap.size + 1, 0, none⟩ = some (.slice none 0 0) := (b9.cell (by show w.heap.size + 1 < _; omega)).trans p0
            have t1 : w9.cell? ⟨w.heap.size + 1, 1, none⟩ = some (.int .i64 0) := (b9.cell (by show w.heap.size + 1 < _; omega)).trans p1
            have tf : ∀ j, w9.frozen? ⟨w.heap.size + 1, j, none⟩ = false := fun j => (b9.frozen (by show w.heap.size + 1 < _; omega)).trans (pf j)
            have E9 := Fk.hide (FIN.out w9 _ _ c' (B2.out.trans (b9.mono B2.out.size)) (ho.mono (by omega)))
            clear b9 p0 p1 pf ho
            obtain ⟨rl, hrl⟩ : ∃ rl, rl = R'.length := ⟨_, rfl⟩
            rw [← hrl] at E9
            rw [← hrl]
            clear hrl
            go_wp2_with fail
            exact bodyPost_ret (v := .agg #[.slice ua rl uc, .int .i64 c']) (by simp [results, Tryz.results6, go_sem, t0, t1] <;> rfl) rfl ⟨⟨_, _, _, rfl, E9.out.1, HA2.out⟩, E9.out.2⟩
        · have hc' : (c == 0) = false := by simpa using hc
          have HA2 := Fk.hide (Jn.add_plain (s := sy) HR.out H3.out (.inr hc) HA.out)
          have E9 := Fk.hide (FIN.out z _ R c B2.out (HG.out.own.mono (by omega)))
          go_wp2_with fail
          exact bodyPost_ret (v := .agg #[.slice ua un uc, .int .i64 c]) (by simp [results, Tryz.results6, go_sem, p0, p1] <;> rfl) rfl ⟨⟨_, _, _, rfl, E9.out.1, HA2.out⟩, E9.out.2⟩
      · rw [hKK]
        clear HKK hKK
        go_region_held3 (fun w' => w'.cell? ⟨w.heap.size, 0, none⟩ = some (.slice a L.length cap) ∧ Hid (Jn.Reg base w1 w' (.slice a L.length cap) L))
          (first
            | assumption
            | exact Jn.regBelow HSZ.out ((Below.refl _ _).alloc (Nat.le_refl _) _) (by assumption)
            | exact Jn.regBelow HSZ.out (Below.drew ((Below.refl _ _).alloc (Nat.le_refl _) _)) (by assumption)
            | exact Jn.regStore HSZ.out (by assumption) (Jn.regStore HSZ.out (by assumption) (by assumption)))
          (first
            | (go_at_call 21; refine (specSeal_any t _ ht).mono ?_; rintro e w2 ⟨rfl, b2⟩; have H2 := Jn.regBelow HSZ.out b2 (by assumption); (first | have HY2 := Jn.Y.below b2 (by assumption) | have HY2 := Jn.Y.below b2 (Jn.Y.new (Jn.regSize (by assumption))) | skip); clear b2)
            | (go_at_call 20; refine (specPutText_any (sealed t) _ (by have := HSC.out; unfold maxLen; omega)).mono ?_; rintro e w3 ⟨rfl, b3⟩; have H3' := Jn.regBelow HSZ.out b3 (by assumption); (first | have HY3 := Jn.Y.below b3 (by assumption) | have HY3 := Jn.Y.below b3 (Jn.Y.new (Jn.regSize (by assumption))) | skip); clear b3)
            | (go_at_call 19; refine (fsAppend_spec _ L Jn.name (Jn.record t) _ base (Jn.regOwn (by assumption)) hL hl (by decide) (by have := HRC.out; unfold maxLen; omega)).mono ?_; rintro e w5 ⟨⟨u, R, c, rfl, ho5, ha5⟩, b5⟩; obtain ⟨ua, un, uc, rfl⟩ := ho5.slice'; have H5 := Jn.regBelow HSZ.out b5 (by assumption); have HZ5 := Fk.hide (Jn.regSize H5); have HO5 := Fk.hide ho5; have HA5 := Fk.hide ha5; (first | have HY5 := Jn.Y.below b5 (by assumption) | have HY5 := Jn.Y.below b5 (Jn.Y.new (Jn.regSize (by assumption))) | skip); (first | (have y0 := HY5.out.1; have y1 := HY5.out.2.1; have y2 := HY5.out.2.2.1; have y3 := HY5.out.2.2.2.1; have y4 := HY5.out.2.2.2.2) | (have y0 := HZ5.out)); clear ho5 ha5 b5))
        all_goals refine ⟨_, ua, un, uc, R, c, _, _, _, _, _, _, _, _, _, _, _, _, _, _, _, _, _, _, rfl, ?_, HA5⟩
        all_goals first
          | exact Jn.Got.store H5 HY5 HO5.out HY3.out.2.1 (Jn.regSize H3')
          | exact Jn.Got.store H5 HY5 HO5.out (by simp) (Nat.le_trans (Jn.regSize H3') (by simp))
          | exact Jn.Got.fresh H5 HO5.out (Jn.regSize H3')
end Go.Proofs.YtfefafmcaepoiaaGreatDoor

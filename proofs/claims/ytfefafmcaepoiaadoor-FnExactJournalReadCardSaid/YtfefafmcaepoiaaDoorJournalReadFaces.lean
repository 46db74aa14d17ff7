/- The walks of JournalRead on both sides. -/
import Derived.Test.YtfefafmcaepoiaaDoorJournalReadMath
import Derived.Test.YtfefafmcaepoiaaDoorJournalReadSpec
import Derived.Test.YtfefafmcaepoiaaDoorJournalEntries
import Derived.Test.YtfefafmcaepoiaaDoorJournalText
import Derived.Test.YtfefafmcaepoiaaDoorOpenNone
import Derived.Test.YtfefafmcaepoiaaDoorJournalLook
namespace Go.Proofs.YtfefafmcaepoiaaDoor
set_option linter.unusedSimpArgs false
open Go.RowKit Go.Maps
open Go.WideMaps (keyOf_string_mk)
set_option linter.unusedVariables false

set_option maxRecDepth 20000 in
set_option maxHeartbeats 4000000 in
theorem journalRead_spec (v : Value) (L : List Fk.Fl) (w : World) (hv : Fk.View w v L) (hL : Fk.Fits L) (hl : L.length ≤ maxLen) :
    Calls Tryd.prog 6 #[.agg #[v]] w fun e w' => (∃ u, e = .returned (.agg #[u, .int .i64 (Jn.rdA L), .int .i64 (Jn.rdC L)]) ∧ Sk.Own w' w.heap.size 9 u (Jn.rdT L)) ∧ Below w.heap.size w w' := by
  obtain ⟨W, hW⟩ : ∃ W, W = (w.alloc (.cells #[v] 32)).alloc (.cells #[.slice none 0 0, .int .i64 0, .int .i64 0] 28) := ⟨_, rfl⟩
  have b0 : Below w.heap.size w W := by
    rw [hW]
    repeat (first | exact Below.refl _ _ | refine Below.alloc ?_ (by simp <;> omega) _)
  have hsz : W.heap.size = w.heap.size + 2 := by rw [hW]; simp
  have hcell : W.cell? ⟨w.heap.size, 0, none⟩ = some v := by rw [hW, Fk.cellOld _ _ _ _ (by simp), Fk.cellTop _ _ _ _ _ rfl]; rfl
  have q0 : W.cell? ⟨w.heap.size + 1, 0, none⟩ = some (.slice none 0 0) := by rw [hW, Fk.cellTop _ _ _ _ _ (by simp)]; rfl
  have q1 : W.cell? ⟨w.heap.size + 1, 1, none⟩ = some (.int .i64 0) := by rw [hW, Fk.cellTop _ _ _ _ _ (by simp)]; rfl
  have q2 : W.cell? ⟨w.heap.size + 1, 2, none⟩ = some (.int .i64 0) := by rw [hW, Fk.cellTop _ _ _ _ _ (by simp)]; rfl
  have f0 : ∀ j, W.frozen? ⟨w.heap.size + 1, j, none⟩ = false := fun j => by rw [hW, Fk.frozTop _ _ _ _ _ (by simp)]
  have hv' := hv.below b0
  have HW := Fk.hide hW
  clear hW hv
  have hvW := hv'
  obtain ⟨a, cap, rfl, hs⟩ := hv'
  clear hs
  go_enter Tryd.func6, Tryd.ntmps6
  go_wp2_with fail
  rw [← HW.out]
  refine (fsRight_spec _ L _ hvW hL hl).mono ?_
  rintro e w1 ⟨rfl, b1⟩
  have hcell1 : w1.cell? ⟨w.heap.size, 0, none⟩ = some (.slice a L.length cap) := (b1.cell (by show w.heap.size < _; omega)).trans hcell
  have HV1 := Fk.hide (hvW.below b1)
  have B1 := Fk.hide (b0.trans (b1.mono b0.size))
  have q01 : w1.cell? ⟨w.heap.size + 1, 0, none⟩ = some (.slice none 0 0) := (b1.cell (by show w.heap.size + 1 < _; omega)).trans q0
  have q11 : w1.cell? ⟨w.heap.size + 1, 1, none⟩ = some (.int .i64 0) := (b1.cell (by show w.heap.size + 1 < _; omega)).trans q1
  have q21 : w1.cell? ⟨w.heap.size + 1, 2, none⟩ = some (.int .i64 0) := (b1.cell (by show w.heap.size + 1 < _; omega)).trans q2
  have f1 : ∀ j, w1.frozen? ⟨w.heap.size + 1, j, none⟩ = false := fun j => (b1.frozen (by show w.heap.size + 1 < _; omega)).trans (f0 j)
  have hsz1 : w.heap.size + 2 ≤ w1.heap.size := by have := b1.size; omega
  clear b1 hcell q0 q1 q2 f0 hvW
  have FIN : Hid (∀ (w5 : World) (u : Value) (T : List ByteArray) (a c : Int), Below w.heap.size w w5 → Sk.Own w5 (w.heap.size + 2) 9 u T → Sk.Own (((w5.setCell ⟨w.heap.size + 1, 0, none⟩ u).setCell ⟨w.heap.size + 1, 1, none⟩ (.int .i64 a)).setCell ⟨w.heap.size + 1, 2, none⟩ (.int .i64 c)) w.heap.size 9 u T ∧ Below w.heap.size w (((w5.setCell ⟨w.heap.size + 1, 0, none⟩ u).setCell ⟨w.heap.size + 1, 1, none⟩ (.int .i64 a)).setCell ⟨w.heap.size + 1, 2, none⟩ (.int .i64 c))) :=
    fun w5 u T a c hb ho => ⟨Sk.own_mono (ownsRow_setCell_below (ownsRow_setCell_below (ownsRow_setCell_below ho (by show w.heap.size + 1 < _; omega) _) (by show w.heap.size + 1 < _; omega) _) (by show w.heap.size + 1 < _; omega) _) (by omega), ((hb.setCell (by simp) _).setCell (by simp) _).setCell (by simp) _⟩
  cases hr : Fk.right L with
  | false =>
    have HI := Fk.hide (Jn.rd_ill hr)
    have E9 := Fk.hide (FIN.out w1 (.slice none 0 0) _ 0 1 B1.out (Sk.own_nil _ _ _))
    go_wp2_with fail
    exact bodyPost_ret (v := .agg #[.slice none 0 0, .int .i64 0, .int .i64 1]) (by simp [results, Tryd.results6, go_sem, q01, q11, q21, f1] <;> rfl) rfl ⟨⟨_, by rw [HI.out.2.1, HI.out.2.2], by rw [HI.out.1]; exact E9.out.1⟩, E9.out.2⟩
  | true =>
    have HI := Fk.hide (Jn.rd_ok hr)
    have hd := Jn.dat_fit hr
    have HT := Fk.hide (Jn.rdOf_text hr)
    clear hr
    go_wp2_with fail
    refine (fsRead_spec _ L Jn.name _ HV1.out hL hl (by decide)).mono ?_
    rintro e w2 ⟨rfl, b2⟩
    obtain ⟨⟨t, q, c⟩, ht⟩ : ∃ r, r = Fk.rdOf L Jn.name := ⟨_, rfl⟩
    have hte : t = Jn.dat L := by rw [← HT.out, ← ht]
    rw [← ht, show textOut (t, q, c) = .agg #[.string t, .int .i64 q, .int .i64 c] from rfl]
    subst hte
    have hfd := Jn.field_text (Jn.dat L) q c
    clear ht HT
    have B2 := Fk.hide (B1.out.trans (b2.mono B1.out.size))
    have r02 : w2.cell? ⟨w.heap.size + 1, 0, none⟩ = some (.slice none 0 0) := (b2.cell (by show w.heap.size + 1 < _; omega)).trans q01
    have r12 : w2.cell? ⟨w.heap.size + 1, 1, none⟩ = some (.int .i64 0) := (b2.cell (by show w.heap.size + 1 < _; omega)).trans q11
    have r22 : w2.cell? ⟨w.heap.size + 1, 2, none⟩ = some (.int .i64 0) := (b2.cell (by show w.heap.size + 1 < _; omega)).trans q21
    have f2 : ∀ j, w2.frozen? ⟨w.heap.size + 1, j, none⟩ = false := fun j => (b2.frozen (by show w.heap.size + 1 < _; omega)).trans (f1 j)
    have hsz2 : w.heap.size + 2 ≤ w2.heap.size := by have := b2.size; omega
    clear b2 q01 q11 q21 f1 hcell1 HV1
    go_wp2_with fail
    refine (l10Read_any (Jn.dat L) (by omega) _).mono ?_
    rintro e w3 ⟨⟨u, rfl, ho⟩, b3⟩
    obtain ⟨ua, uc, rfl⟩ := ho.slice
    have B3 := Fk.hide (B2.out.trans (b3.mono B2.out.size))
    have r03 : w3.cell? ⟨w.heap.size + 1, 0, none⟩ = some (.slice none 0 0) := (b3.cell (by show w.heap.size + 1 < _; omega)).trans r02
    have r13 : w3.cell? ⟨w.heap.size + 1, 1, none⟩ = some (.int .i64 0) := (b3.cell (by show w.heap.size + 1 < _; omega)).trans r12
    have r23 : w3.cell? ⟨w.heap.size + 1, 2, none⟩ = some (.int .i64 0) := (b3.cell (by show w.heap.size + 1 < _; omega)).trans r22
    have f3 : ∀ j, w3.frozen? ⟨w.heap.size + 1, j, none⟩ = false := fun j => (b3.frozen (by show w.heap.size + 1 < _; omega)).trans (f2 j)
    have hsz3 : w.heap.size + 2 ≤ w3.heap.size := by have := b3.size; omega
    have HO3 := Fk.hide (Sk.own_mono ho (show w.heap.size + 2 ≤ w2.heap.size by omega))
    clear b3 r02 r12 r22 f2 ho
    obtain ⟨rl, hrl⟩ : ∃ rl, rl = ((Jn.all (Jn.dat L)).map (·.1)).length := ⟨_, rfl⟩
    obtain ⟨ae, hae⟩ : ∃ ae, ae = Jn.endOf (Jn.all (Jn.dat L)) := ⟨_, rfl⟩
    have HO4 : Hid (w3.ownsRow (w.heap.size + 2) 9 1 (.slice ua rl uc) rl (Sk.tc ((Jn.all (Jn.dat L)).map (·.1)))) := by have := HO3.out; rw [← hrl] at this; show World.ownsRow _ _ _ _ _ _ _; rw [hrl]; rw [hrl] at this; exact this
    clear HO3
    rw [← hrl, ← hae]
    rw [← hae] at HI
    clear hae
    have E9 := Fk.hide (FIN.out w3 (.slice ua rl uc) ((Jn.all (Jn.dat L)).map (·.1)) ae 0 B3.out (by show World.ownsRow _ _ _ _ _ _ _; rw [← hrl]; exact HO4.out))
    clear hrl
    go_wp2_with fail
    exact bodyPost_ret (v := .agg #[.slice ua rl uc, .int .i64 ae, .int .i64 0]) (by simp [results, Tryd.results6, go_sem, r03, r13, r23, f3] <;> rfl) rfl ⟨⟨_, by rw [HI.out.2.1, HI.out.2.2], by rw [HI.out.1]; exact E9.out.1⟩, E9.out.2⟩

set_option maxRecDepth 20000 in
set_option maxHeartbeats 4000000 in
theorem journalRead_impl (v : Value) (L : List Fk.Fl) (a0 a1 a2 a3 a4 : Addr) (w : World) (hv : Fk.View w v L) (hL : Fk.Fits L) (hl : L.length ≤ maxLen) (hE : Is.Errs w a0 a1 a2 a3 a4) :
    Calls Tryd.prog 8 #[.agg #[v]] w fun e w' => (∃ u, e = .returned (.agg #[u, .int .i64 (Jn.rdA L), .int .i64 (Jn.rdC L)]) ∧ Sk.Own w' w.heap.size 9 u (Jn.rdT L)) ∧ Below w.heap.size w w' := by
  obtain ⟨W, hW⟩ : ∃ W, W = (w.alloc (.cells #[v] 32)).alloc (.cells #[.slice none 0 0, .int .i64 0, .int .i64 0] 28) := ⟨_, rfl⟩
  have b0 : Below w.heap.size w W := by
    rw [hW]
    repeat (first | exact Below.refl _ _ | refine Below.alloc ?_ (by simp <;> omega) _)
  have hsz : W.heap.size = w.heap.size + 2 := by rw [hW]; simp
  have hcell : W.cell? ⟨w.heap.size, 0, none⟩ = some v := by rw [hW, Fk.cellOld _ _ _ _ (by simp), Fk.cellTop _ _ _ _ _ rfl]; rfl
  have q0 : W.cell? ⟨w.heap.size + 1, 0, none⟩ = some (.slice none 0 0) := by rw [hW, Fk.cellTop _ _ _ _ _ (by simp)]; rfl
  have q1 : W.cell? ⟨w.heap.size + 1, 1, none⟩ = some (.int .i64 0) := by rw [hW, Fk.cellTop _ _ _ _ _ (by simp)]; rfl
  have q2 : W.cell? ⟨w.heap.size + 1, 2, none⟩ = some (.int .i64 0) := by rw [hW, Fk.cellTop _ _ _ _ _ (by simp)]; rfl
  have f0 : ∀ j, W.frozen? ⟨w.heap.size + 1, j, none⟩ = false := fun j => by rw [hW, Fk.frozTop _ _ _ _ _ (by simp)]
  have hv' := hv.below b0
  have hE' := hE.below b0
  have HW := Fk.hide hW
  clear hW hv hE
  have hvW := hv'
  obtain ⟨a, cap, rfl, hs⟩ := hv'
  clear hs
  go_enter Tryd.func8, Tryd.ntmps8
  go_wp2_with fail
  rw [← HW.out]
  refine (open_none _ L a0 a1 a2 a3 a4 _ hvW hL hl hE').mono ?_
  rintro e w1 ⟨h1, b1⟩
  have E1 := Fk.hide (hE'.below b1)
  have B1 := Fk.hide (b0.trans (b1.mono b0.size))
  have q01 : w1.cell? ⟨w.heap.size + 1, 0, none⟩ = some (.slice none 0 0) := (b1.cell (by show w.heap.size + 1 < _; omega)).trans q0
  have q11 : w1.cell? ⟨w.heap.size + 1, 1, none⟩ = some (.int .i64 0) := (b1.cell (by show w.heap.size + 1 < _; omega)).trans q1
  have q21 : w1.cell? ⟨w.heap.size + 1, 2, none⟩ = some (.int .i64 0) := (b1.cell (by show w.heap.size + 1 < _; omega)).trans q2
  have f1 : ∀ j, w1.frozen? ⟨w.heap.size + 1, j, none⟩ = false := fun j => (b1.frozen (by show w.heap.size + 1 < _; omega)).trans (f0 j)
  have hsz1 : w.heap.size + 2 ≤ w1.heap.size := by have := b1.size; omega
  clear b1 hcell q0 q1 q2 f0 hvW hE'
  have FIN : Hid (∀ (w5 : World) (u : Value) (T : List ByteArray) (a c : Int), Below w.heap.size w w5 → Sk.Own w5 (w.heap.size + 2) 9 u T → Sk.Own (((w5.setCell ⟨w.heap.size + 1, 0, none⟩ u).setCell ⟨w.heap.size + 1, 1, none⟩ (.int .i64 a)).setCell ⟨w.heap.size + 1, 2, none⟩ (.int .i64 c)) w.heap.size 9 u T ∧ Below w.heap.size w (((w5.setCell ⟨w.heap.size + 1, 0, none⟩ u).setCell ⟨w.heap.size + 1, 1, none⟩ (.int .i64 a)).setCell ⟨w.heap.size + 1, 2, none⟩ (.int .i64 c))) :=
    fun w5 u T a c hb ho => ⟨Sk.own_mono (ownsRow_setCell_below (ownsRow_setCell_below (ownsRow_setCell_below ho (by show w.heap.size + 1 < _; omega) _) (by show w.heap.size + 1 < _; omega) _) (by show w.heap.size + 1 < _; omega) _) (by omega), ((hb.setCell (by simp) _).setCell (by simp) _).setCell (by simp) _⟩
  rcases h1 with ⟨h, b, D, rfl, hown, hM, hb⟩ | ⟨h, rfl⟩
  · have hr := Fk.opn_right L [] h
    have HI := Fk.hide (Jn.rd_ok hr)
    have hd := Jn.dat_fit hr
    have hkey : keyOf Tryd.prog 9 (.string Jn.name) = some (Fk.kl Jn.name) := keyOf_string_mk Tryd.underlying9 (by decide)
    have hfd := fun (nm : ByteArray) (sy : Int) => Jn.field_data nm (Jn.dat L) sy
    clear h hr
    go_wp2_with (at_lookup; refine Jn.look_dat _ rfl _ _ 53 rfl 9 60 (string_keyed Tryd.underlying9) Tryd.underlying53 (zeroFile _) b L.length D L rfl hown hM _ rfl hkey ?_; intro nm sy)
    refine (readEntries_any (Jn.dat L) (by omega) _).mono ?_
    rintro e w3 ⟨⟨u, rfl, ho⟩, b3⟩
    obtain ⟨ua, uc, rfl⟩ := ho.slice
    have B3 := Fk.hide (B1.out.trans (b3.mono B1.out.size))
    have r03 : w3.cell? ⟨w.heap.size + 1, 0, none⟩ = some (.slice none 0 0) := (b3.cell (by show w.heap.size + 1 < _; omega)).trans q01
    have r13 : w3.cell? ⟨w.heap.size + 1, 1, none⟩ = some (.int .i64 0) := (b3.cell (by show w.heap.size + 1 < _; omega)).trans q11
    have r23 : w3.cell? ⟨w.heap.size + 1, 2, none⟩ = some (.int .i64 0) := (b3.cell (by show w.heap.size + 1 < _; omega)).trans q21
    have f3 : ∀ j, w3.frozen? ⟨w.heap.size + 1, j, none⟩ = false := fun j => (b3.frozen (by show w.heap.size + 1 < _; omega)).trans (f1 j)
    have hsz3 : w.heap.size + 2 ≤ w3.heap.size := by have := b3.size; omega
    have HO3 := Fk.hide (Sk.own_mono ho (show w.heap.size + 2 ≤ w1.heap.size by omega))
    clear b3 q01 q11 q21 f1 ho hown hM hkey hfd
    obtain ⟨rl, hrl⟩ : ∃ rl, rl = ((Jn.all (Jn.dat L)).map (·.1)).length := ⟨_, rfl⟩
    obtain ⟨ae, hae⟩ : ∃ ae, ae = Jn.endOf (Jn.all (Jn.dat L)) := ⟨_, rfl⟩
    have HO4 : Hid (w3.ownsRow (w.heap.size + 2) 9 1 (.slice ua rl uc) rl (Sk.tc ((Jn.all (Jn.dat L)).map (·.1)))) := by have := HO3.out; rw [← hrl] at this; show World.ownsRow _ _ _ _ _ _ _; rw [hrl]; rw [hrl] at this; exact this
    clear HO3
    rw [← hrl, ← hae]
    rw [← hae] at HI
    clear hae
    have E9 := Fk.hide (FIN.out w3 (.slice ua rl uc) ((Jn.all (Jn.dat L)).map (·.1)) ae 0 B3.out (by show World.ownsRow _ _ _ _ _ _ _; rw [← hrl]; exact HO4.out))
    clear hrl
    go_wp2_with fail
    exact bodyPost_ret (v := .agg #[.slice ua rl uc, .int .i64 ae, .int .i64 0]) (by simp [results, Tryd.results8, go_sem, r03, r13, r23, f3] <;> rfl) rfl ⟨⟨_, by rw [HI.out.2.1, HI.out.2.2], by rw [HI.out.1]; exact E9.out.1⟩, E9.out.2⟩
  · obtain ⟨h2, hr⟩ := Jn.opn_two h
    have HI := Fk.hide (Jn.rd_ill hr)
    have HC := Is.code_any 2 a0 a1 a2 a3 a4 w1 E1.out
    rw [h2]
    unfold Is.er Is.cd at HC
    unfold Is.er
    clear h h2 hr
    go_wp2_with fail
    refine HC.mono ?_
    rintro e w3 ⟨rfl, e3⟩
    rw [e3]
    clear e3 w3 HC
    have E9 := Fk.hide (FIN.out w1 (.slice none 0 0) _ 0 1 B1.out (Sk.own_nil _ _ _))
    go_wp2_with fail
    exact bodyPost_ret (v := .agg #[.slice none 0 0, .int .i64 0, .int .i64 1]) (by simp [results, Tryd.results8, go_sem, q01, q11, q21, f1] <;> rfl) rfl ⟨⟨_, by rw [HI.out.2.1, HI.out.2.2], by rw [HI.out.1]; exact E9.out.1⟩, E9.out.2⟩
end Go.Proofs.YtfefafmcaepoiaaDoor

/- The walks of JournalRead on both sides. Plain mathematics of the journal's records: what stands in the beginning of a row of bytes stands there whatever comes behind; a record that is put behind is the last one. Plain mathematics of the journal's records: of a journal that is cut at its end all is read as before; a record put behind is read behind all others. -/
import Derived.Test.YtojdfdlbdpdlkaaGreatDoorJoined22
import Derived.Test.YtojdfdlbdpdlkaaGreatDoorJoined24
import Derived.Test.YtojdfdlbdpdlkaaGreatDoorJoined26
import Derived.Test.YtojdfdlbdpdlkaaGreatDoorJoined20
import Derived.Test.YtojdfdlbdpdlkaaGreatDoorJoined14
namespace Go.Proofs.YtojdfdlbdpdlkaaGreatDoor
set_option linter.unusedSimpArgs false
open Go.RowKit Go.Maps
open Go.WideMaps (keyOf_string_mk)
set_option linter.unusedVariables false

set_option maxRecDepth 20000 in
set_option maxHeartbeats 4000000 in
theorem journalRead_spec (v : Value) (L : List Fk.Fl) (w : World) (hv : Fk.View w v L) (hL : Fk.Fits L) (hl : L.length ≤ maxLen) :
    Calls Tryz.prog 17 #[.agg #[v]] w fun e w' => (∃ u, e = .returned (.agg #[u, .int .i64 (Jn.rdA L), .int .i64 (Jn.rdC L)]) ∧ Sk.Own w' w.heap.size 9 u (Jn.rdT L)) ∧ Below w.heap.size w w' := by
  obtain ⟨W, hW⟩ : ∃ W, W = (w.alloc (.cells #[v] 25)).alloc (.cells #[.slice none 0 0, .int .i64 0, .int .i64 0] 37) := ⟨_, rfl⟩
  have b0 : Below w.heap.size w W := by
    rw [hW]
    repeat (first | exact Below.refl _ _ | refine Below.alloc ?_ (by simp <;> omega) _)
  have hsz : W.heap.size = w.heap.size + 2 := by rw [hW]; simp
  have hcell : W.cell? ⟨w.heap.size, 0, none⟩ = some v := by rw [hW, Fk.cellOld _ _ _ _ (by simp), Fk.cellTop _ _ _ _ _ rfl]; rfl
  have q0 : W.cell? ⟨w.heap.size + 1, 0, none⟩ = some (.slice none 0 0) := by rw [hW, Fk.cellTop _ _ _ _ _ (by simp)]; rfl
  have q1 : W.cell? ⟨w.heap.size + 1, 1, none⟩ = some (.int .i64 0) := by rw [hW, Fk.cellTop _ _ _ _ _ (by simp)]; rfl
  have q2 : W.cell? ⟨w.heap.size + 1, 2, none⟩ = some (.int .i64 0) := by rw [hW, Fk.cellTop _ _ _ _ _ (by simp)]; rfl
  have f0 : ∀ j, W.frozen? ⟨w.heap.size + 1, j, none⟩ = false := fun j => by rw [hW, Fk.frozTop _ _ _ _ _ (by simp)]
  have hv' := hv.below b0
  have HW := Fk.hide hW
  clear hW hv
  have hvW := hv'
  obtain ⟨a, cap, rfl, hs⟩ := hv'
  clear hs
  go_enter Tryz.func17, Tryz.ntmps17
  go_wp2_with fail
  rw [← HW.out]
  refine (fsRight_spec _ L _ hvW hL hl).mono ?_
  rintro e w1 ⟨rfl, b1⟩
  have hcell1 : w1.cell? ⟨w.heap.size, 0, none⟩ = some (.slice a L.length cap) := (b1.cell (by show w.heap.size < _; omega)).trans hcell
  have HV1 := Fk.hide (hvW.below b1)
  have B1 := Fk.hide (b0.trans (b1.mono b0.size))
  have q01 : w1.cell? ⟨w.heap.size + 1, 0, none⟩ = some (.slice none 0 0) := (b1.cell (by show w.heap.size + 1 < _; omega)).trans q0
  have q11 : w1.cell? ⟨w.heap.size + 1, 1, none⟩ = some (.int .i64 0) := (b1.cell (by show w.heap.size + 1 < _; omega)).trans q1
  have q21 : w1.cell? ⟨w.heap.size + 1, 2, none⟩ = some (.int .i64 0) := (b1.cell (by show w.heap.size + 1 < _; omega)).trans q2
  have f1 : ∀ j, w1.frozen? ⟨w.heap.size + 1, j, none⟩ = false := fun j => (b1.frozen (by show w.heap.size + 1 < _; omega)).trans (f0 j)
  have hsz1 : w.heap.size + 2 ≤ w1.heap.size := by have := b1.size; omega
  clear b1 hcell q0 q1 q2 f0 hvW
  have FIN : Hid (∀ (w5 : World) (u : Value) (T : List ByteArray) (a c : Int), Below w.heap.size w w5 → Sk.Own w5 (w.heap.size + 2) 9 u T → Sk.Own (((w5.setCell ⟨w.heap.size + 1, 0, none⟩ u).setCell ⟨w.heap.size + 1, 1, none⟩ (.int .i64 a)).setCell ⟨w.heap.size + 1, 2, none⟩ (.int .i64 c)) w.heap.size 9 u T ∧ Below w.heap.size w (((w5.setCell ⟨w.heap.size + 1, 0, none⟩ u).setCell ⟨w.heap.size + 1, 1, none⟩ (.int .i64 a)).setCell ⟨w.heap.size + 1, 2, none⟩ (.int .i64 c))) :=
    fun w5 u T a c hb ho => ⟨Sk.own_mono (ownsRow_setCell_below (ownsRow_setCell_below (ownsRow_setCell_below ho (by show w.heap.size + 1 < _; omega) _) (by show w.heap.size + 1 < _; omega) _) (by show w.heap.size + 1 < _; omega) _) (by omega), ((hb.setCell (by simp) _).setCell (by simp) _).setCell (by simp) _⟩
  cases hr : Fk.right L with
  | false =>
    have HI := Fk.hide (Jn.rd_ill hr)
    have E9 := Fk.hide (FIN.out w1 (.slice none 0 0) _ 0 1 B1.out (Sk.own_nil _ _ _))
    go_wp2_with fail
    exact bodyPost_ret (v := .agg #[.slice none 0 0, .int .i64 0, .int .i64 1]) (by simp [results, Tryz.results17, go_sem, q01, q11, q21, f1] <;> rfl) rfl ⟨⟨_, by rw [HI.out.2.1, HI.out.2.2], by rw [HI.out.1]; exact E9.out.1⟩, E9.out.2⟩
  | true =>
    have HI := Fk.hide (Jn.rd_ok hr)
    have hd := Jn.dat_fit hr
    have HT := Fk.hide (Jn.rdOf_text hr)
    clear hr
    go_wp2_with fail
    refine (fsRead_spec _ L Jn.name _ HV1.out hL hl (by decide)).mono ?_
    rintro e w2 ⟨rfl, b2⟩
    obtain ⟨⟨t, q, c⟩, ht⟩ : ∃ r, r = Fk.rdOf L Jn.name := ⟨_, rfl⟩
    have hte : t = Jn.dat L := by rw [← HT.out, ← ht]
    rw [← ht, show textOut (t, q, c) = .agg #[.string t, .int .i64 q, .int .i64 c] from rfl]
    subst hte
    have hfd := Jn.field_text (Jn.dat L) q c
    clear ht HT
    have B2 := Fk.hide (B1.out.trans (b2.mono B1.out.size))
    have r02 : w2.cell? ⟨w.heap.size + 1, 0, none⟩ = some (.slice none 0 0) := (b2.cell (by show w.heap.size + 1 < _; omega)).trans q01
    have r12 : w2.cell? ⟨w.heap.size + 1, 1, none⟩ = some (.int .i64 0) := (b2.cell (by show w.heap.size + 1 < _; omega)).trans q11
    have r22 : w2.cell? ⟨w.heap.size + 1, 2, none⟩ = some (.int .i64 0) := (b2.cell (by show w.heap.size + 1 < _; omega)).trans q21
    have f2 : ∀ j, w2.frozen? ⟨w.heap.size + 1, j, none⟩ = false := fun j => (b2.frozen (by show w.heap.size + 1 < _; omega)).trans (f1 j)
    have hsz2 : w.heap.size + 2 ≤ w2.heap.size := by have := b2.size; omega
    clear b2 q01 q11 q21 f1 hcell1 HV1
    go_wp2_with fail
    refine (l10Read_any (Jn.dat L) (by omega) _).mono ?_
    rintro e w3 ⟨⟨u, rfl, ho⟩, b3⟩
    obtain ⟨ua, uc, rfl⟩ := ho.slice
    have B3 := Fk.hide (B2.out.trans (b3.mono B2.out.size))
    have r03 : w3.cell? ⟨w.heap.size + 1, 0, none⟩ = some (.slice none 0 0) := (b3.cell (by show w.heap.size + 1 < _; omega)).trans r02
    have r13 : w3.cell? ⟨w.heap.size + 1, 1, none⟩ = some (.int .i64 0) := (b3.cell (by show w.heap.size + 1 < _; omega)).trans r12
    have r23 : w3.cell? ⟨w.heap.size + 1, 2, none⟩ = some (.int .i64 0) := (b3.cell (by show w.heap.size + 1 < _; omega)).trans r22
    have f3 : ∀ j, w3.frozen? ⟨w.heap.size + 1, j, none⟩ = false := fun j => (b3.frozen (by show w.heap.size + 1 < _; omega)).trans (f2 j)
    have hsz3 : w.heap.size + 2 ≤ w3.heap.size := by have := b3.size; omega
    have HO3 := Fk.hide (Sk.own_mono ho (show w.heap.size + 2 ≤ w2.heap.size by omega))
    clear b3 r02 r12 r22 f2 ho
    obtain ⟨rl, hrl⟩ : ∃ rl, rl = ((Jn.all (Jn.dat L)).map (·.1)).length := ⟨_, rfl⟩
    obtain ⟨ae, hae⟩ : ∃ ae, ae = Jn.endOf (Jn.all (Jn.dat L)) := ⟨_, rfl⟩
    have HO4 : Hid (w3.ownsRow (w.heap.size + 2) 9 1 (.slice ua rl uc) rl (Sk.tc ((Jn.all (Jn.dat L)).map (·.1)))) := by have := HO3.out; rw [← hrl] at this; show World.ownsRow _ _ _ _ _ _ _; rw [hrl]; rw [hrl] at this; exact this
    clear HO3
    rw [← hrl, ← hae]
    rw [← hae] at HI
    clear hae
    have E9 := Fk.hide (FIN.out w3 (.slice ua rl uc) ((Jn.all (Jn.dat L)).map (·.1)) ae 0 B3.out (by show World.ownsRow _ _ _ _ _ _ _; rw [← hrl]; exact HO4.out))
    clear hrl
    go_wp2_with fail
    exact bodyPost_ret (v := .agg #[.slice ua rl uc, .int .i64 ae, .int .i64 0]) (by simp [results, Tryz.results17, go_sem, r03, r13, r23, f3] <;> rfl) rfl ⟨⟨_, by rw [HI.out.2.1, HI.out.2.2], by rw [HI.out.1]; exact E9.out.1⟩, E9.out.2⟩

set_option maxRecDepth 20000 in
set_option maxHeartbeats 4000000 in
theorem journalRead_impl (v : Value) (L : List Fk.Fl) (a0 a1 a2 a3 a4 : Addr) (w : World) (hv : Fk.View w v L) (hL : Fk.Fits L) (hl : L.length ≤ maxLen) (hE : Is.Errs w a0 a1 a2 a3 a4) :
    Calls Tryz.prog 16 #[.agg #[v]] w fun e w' => (∃ u, e = .returned (.agg #[u, .int .i64 (Jn.rdA L), .int .i64 (Jn.rdC L)]) ∧ Sk.Own w' w.heap.size 9 u (Jn.rdT L)) ∧ Below w.heap.size w w' := by
  obtain ⟨W, hW⟩ : ∃ W, W = (w.alloc (.cells #[v] 25)).alloc (.cells #[.slice none 0 0, .int .i64 0, .int .i64 0] 37) := ⟨_, rfl⟩
  have b0 : Below w.heap.size w W := by
    rw [hW]
    repeat (first | exact Below.refl _ _ | refine Below.alloc ?_ (by simp <;> omega) _)
  have hsz : W.heap.size = w.heap.size + 2 := by rw [hW]; simp
  have hcell : W.cell? ⟨w.heap.size, 0, none⟩ = some v := by rw [hW, Fk.cellOld _ _ _ _ (by simp), Fk.cellTop _ _ _ _ _ rfl]; rfl
  have q0 : W.cell? ⟨w.heap.size + 1, 0, none⟩ = some (.slice none 0 0) := by rw [hW, Fk.cellTop _ _ _ _ _ (by simp)]; rfl
  have q1 : W.cell? ⟨w.heap.size + 1, 1, none⟩ = some (.int .i64 0) := by rw [hW, Fk.cellTop _ _ _ _ _ (by simp)]; rfl
  have q2 : W.cell? ⟨w.heap.size + 1, 2, none⟩ = some (.int .i64 0) := by rw [hW, Fk.cellTop _ _ _ _ _ (by simp)]; rfl
  have f0 : ∀ j, W.frozen? ⟨w.heap.size + 1, j, none⟩ = false := fun j => by rw [hW, Fk.frozTop _ _ _ _ _ (by simp)]
  have hv' := hv.below b0
  have hE' := hE.below b0
  have HW := Fk.hide hW
  clear hW hv hE
  have hvW := hv'
  obtain ⟨a, cap, rfl, hs⟩ := hv'
  clear hs
  go_enter Tryz.func16, Tryz.ntmps16
  go_wp2_with fail
  rw [← HW.out]
  refine (open_none _ L a0 a1 a2 a3 a4 _ hvW hL hl hE').mono ?_
  rintro e w1 ⟨h1, b1⟩
  have E1 := Fk.hide (hE'.below b1)
  have B1 := Fk.hide (b0.trans (b1.mono b0.size))
  have q01 : w1.cell? ⟨w.heap.size + 1, 0, none⟩ = some (.slice none 0 0) := (b1.cell (by show w.heap.size + 1 < _; omega)).trans q0
  have q11 : w1.cell? ⟨w.heap.size + 1, 1, none⟩ = some (.int .i64 0) := (b1.cell (by show w.heap.size + 1 < _; omega)).trans q1
  have q21 : w1.cell? ⟨w.heap.size + 1, 2, none⟩ = some (.int .i64 0) := (b1.cell (by show w.heap.size + 1 < _; omega)).trans q2
  have f1 : ∀ j, w1.frozen? ⟨w.heap.size + 1, j, none⟩ = false := fun j => (b1.frozen (by show w.heap.size + 1 < _; omega)).trans (f0 j)
  have hsz1 : w.heap.size + 2 ≤ w1.heap.size := by have := b1.size; omega
  clear b1 hcell q0 q1 q2 f0 hvW hE'
  have FIN : Hid (∀ (w5 : World) (u : Value) (T : List ByteArray) (a c : Int), Below w.heap.size w w5 → Sk.Own w5 (w.heap.size + 2) 9 u T → Sk.Own (((w5.setCell ⟨w.heap.size + 1, 0, none⟩ u).setCell ⟨w.heap.size + 1, 1, none⟩ (.int .i64 a)).setCell ⟨w.heap.size + 1, 2, none⟩ (.int .i64 c)) w.heap.size 9 u T ∧ Below w.heap.size w (((w5.setCell ⟨w.heap.size + 1, 0, none⟩ u).setCell ⟨w.heap.size + 1, 1, none⟩ (.int .i64 a)).setCell ⟨w.heap.size + 1, 2, none⟩ (.int .i64 c))) :=
    fun w5 u T a c hb ho => ⟨Sk.own_mono (ownsRow_setCell_below (ownsRow_setCell_below (ownsRow_setCell_below ho (by show w.heap.size + 1 < _; omega) _) (by show w.heap.size + 1 < _; omega) _) (by show w.heap.size + 1 < _; omega) _) (by omega), ((hb.setCell (by simp) _).setCell (by simp) _).setCell (by simp) _⟩
  rcases h1 with ⟨h, b, D, rfl, hown, hM, hb⟩ | ⟨h, rfl⟩
  · have hr := Fk.opn_right L [] h
    have HI := Fk.hide (Jn.rd_ok hr)
    have hd := Jn.dat_fit hr
    have hkey : keyOf Tryz.prog 9 (.string Jn.name) = some (Fk.kl Jn.name) := keyOf_string_mk Tryz.underlying9 (by decide)
    have hfd := fun (nm : ByteArray) (sy : Int) => Jn.field_data nm (Jn.dat L) sy
    clear h hr
    go_wp2_with (at_lookup; refine Jn.look_dat _ rfl _ _ 52 rfl 9 75 (string_keyed Tryz.underlying9) Tryz.underlying52 (zeroFile _) b L.length D L rfl hown hM _ rfl hkey ?_; intro nm sy)
    refine (readEntries_any (Jn.dat L) (by omega) _).mono ?_
    rintro e w3 ⟨⟨u, rfl, ho⟩, b3⟩
    obtain ⟨ua, uc, rfl⟩ := ho.slice
    have B3 := Fk.hide (B1.out.trans (b3.mono B1.out.size))
    have r03 : w3.cell? ⟨w.heap.size + 1, 0, none⟩ = some (.slice none 0 0) := (b3.cell (by show w.heap.size + 1 < _; omega)).trans q01
    have r13 : w3.cell? ⟨w.heap.size + 1, 1, none⟩ = some (.int .i64 0) := (b3.cell (by show w.heap.size + 1 < _; omega)).trans q11
    have r23 : w3.cell? ⟨w.heap.size + 1, 2, none⟩ = some (.int .i64 0) := (b3.cell (by show w.heap.size + 1 < _; omega)).trans q21
    have f3 : ∀ j, w3.frozen? ⟨w.heap.size + 1, j, none⟩ = false := fun j => (b3.frozen (by show w.heap.size + 1 < _; omega)).trans (f1 j)
    have hsz3 : w.heap.size + 2 ≤ w3.heap.size := by have := b3.size; omega
    have HO3 := Fk.hide (Sk.own_mono ho (show w.heap.size + 2 ≤ w1.heap.size by omega))
    clear b3 q01 q11 q21 f1 ho hown hM hkey hfd
    obtain ⟨rl, hrl⟩ : ∃ rl, rl = ((Jn.all (Jn.dat L)).map (·.1)).length := ⟨_, rfl⟩
    obtain ⟨ae, hae⟩ : ∃ ae, ae = Jn.endOf (Jn.all (Jn.dat L)) := ⟨_, rfl⟩
    have HO4 : Hid (w3.ownsRow (w.heap.size + 2) 9 1 (.slice ua rl uc) rl (Sk.tc ((Jn.all (Jn.dat L)).map (·.1)))) := by have := HO3.out; rw [← hrl] at this; show World.ownsRow _ _ _ _ _ _ _; rw [hrl]; rw [hrl] at this; exact this
    clear HO3
    rw [← hrl, ← hae]
    rw [← hae] at HI
    clear hae
    have E9 := Fk.hide (FIN.out w3 (.slice ua rl uc) ((Jn.all (Jn.dat L)).map (·.1)) ae 0 B3.out (by show World.ownsRow _ _ _ _ _ _ _; rw [← hrl]; exact HO4.out))
    clear hrl
    go_wp2_with fail
    exact bodyPost_ret (v := .agg #[.slice ua rl uc, .int .i64 ae, .int .i64 0]) (by simp [results, Tryz.results16, go_sem, r03, r13, r23, f3] <;> rfl) rfl ⟨⟨_, by rw [HI.out.2.1, HI.out.2.2], by rw [HI.out.1]; exact E9.out.1⟩, E9.out.2⟩
  · obtain ⟨h2, hr⟩ := Jn.opn_two h
    have HI := Fk.hide (Jn.rd_ill hr)
    have HC := Is.code_any 2 a0 a1 a2 a3 a4 w1 E1.out
    rw [h2]
    unfold Is.er Is.cd at HC
    unfold Is.er
    clear h h2 hr
    go_wp2_with fail
    refine HC.mono ?_
    rintro e w3 ⟨rfl, e3⟩
    rw [e3]
    clear e3 w3 HC
    have E9 := Fk.hide (FIN.out w1 (.slice none 0 0) _ 0 1 B1.out (Sk.own_nil _ _ _))
    go_wp2_with fail
    exact bodyPost_ret (v := .agg #[.slice none 0 0, .int .i64 0, .int .i64 1]) (by simp [results, Tryz.results16, go_sem, q01, q11, q21, f1] <;> rfl) rfl ⟨⟨_, by rw [HI.out.2.1, HI.out.2.2], by rw [HI.out.1]; exact E9.out.1⟩, E9.out.2⟩
end Go.Proofs.YtojdfdlbdpdlkaaGreatDoor

namespace Go.Proofs.YtojdfdlbdpdlkaaGreatDoor
set_option linter.unusedSimpArgs false
namespace Dc
theorem dec_more_behind : ∀ (f i u : Nat) (l r : List UInt8) (v k : Nat), dec f i u l = (0, v, k) → dec f i u (l ++ r) = (0, v, k)
  | 0, i, u, l, r, v, k, h => by simp [dec] at h
  | f + 1, i, u, [], r, v, k, h => by simp [dec] at h
  | f + 1, i, u, c :: l, r, v, k, h => by
    rw [List.cons_append]
    by_cases h9 : i = 9 ∧ 1 < c.toNat
    · rw [dec, if_pos h9] at h; simp at h
    · by_cases hc : c.toNat < 128
      · rw [dec_last f i u c l h9 hc] at h
        rw [dec_last f i u c (l ++ r) h9 hc]
        exact h
      · rw [dec_more f i u c l h9 hc] at h
        rw [dec_more f i u c (l ++ r) h9 hc]
        exact dec_more_behind f (i + 1) _ l r v k h
theorem dec_front : ∀ (f i u : Nat) (l : List UInt8) (v k m : Nat), dec f i u l = (0, v, k) → k ≤ i + m → dec f i u (l.take m) = (0, v, k)
  | 0, i, u, l, v, k, m, h, _ => by simp [dec] at h
  | f + 1, i, u, [], v, k, m, h, _ => by simp [dec] at h
  | f + 1, i, u, c :: l, v, k, m, h, hk => by
    by_cases h9 : i = 9 ∧ 1 < c.toNat
    · rw [dec, if_pos h9] at h; simp at h
    · by_cases hc : c.toNat < 128
      · rw [dec_last f i u c l h9 hc] at h
        by_cases hz : c.toNat = 0 ∧ 0 < i
        · rw [if_pos hz] at h; simp at h
        · have h' := h
          rw [if_neg hz] at h'
          simp at h'
          cases m with
          | zero => omega
          | succ m => rw [List.take_succ_cons, dec_last f i u c _ h9 hc]; exact h
      · rw [dec_more f i u c l h9 hc] at h
        cases m with
        | zero =>
          exfalso
          have := dec_len f (i + 1) _ l v k h
          omega
        | succ m =>
          rw [List.take_succ_cons, dec_more f i u c _ h9 hc]
          exact dec_front f (i + 1) _ l v k m h (by omega)
where
  dec_len : ∀ (f i u : Nat) (l : List UInt8) (v k : Nat), dec f i u l = (0, v, k) → i < k
    | 0, i, u, l, v, k, h => by simp [dec] at h
    | f + 1, i, u, [], v, k, h => by simp [dec] at h
    | f + 1, i, u, c :: l, v, k, h => by
      by_cases h9 : i = 9 ∧ 1 < c.toNat
      · rw [dec, if_pos h9] at h; simp at h
      · by_cases hc : c.toNat < 128
        · rw [dec_last f i u c l h9 hc] at h
          by_cases hz : c.toNat = 0 ∧ 0 < i
          · rw [if_pos hz] at h; simp at h
          · rw [if_neg hz] at h
            simp at h
            omega
        · rw [dec_more f i u c l h9 hc] at h
          have := dec_len f (i + 1) _ l v k h
          omega
/-- a number is read as it is, whatever comes behind -/
theorem num_behind {s r : ByteArray} {p n x : Int} (hs : (s ++ r).size ≤ 8000) (h : getNum s p = (n, x, 0)) : getNum (s ++ r) p = (n, x, 0) := by
  have hb := get_bd s p n x h
  unfold getNum at h ⊢
  rw [if_neg (by omega), if_neg (by omega)] at h
  rw [if_neg (by omega), if_neg (by omega)]
  obtain ⟨⟨c, v, k⟩, hd⟩ : ∃ q, q = dec 10 0 0 (s.data.toList.drop p.toNat) := ⟨_, rfl⟩
  rw [← hd] at h
  have hc : c = 0 := by
    by_cases hc : c = 0
    · exact hc
    · exfalso; rw [if_neg hc] at h; exact hc (by have := congrArg (fun r : Int × Int × Int => r.2.2) h; simpa using this)
  subst hc
  have e : (s ++ r).data.toList.drop p.toNat = s.data.toList.drop p.toNat ++ r.data.toList := by
    have e1 : (s ++ r).data.toList = s.data.toList ++ r.data.toList := by simp [ByteArray.data_append]
    rw [e1, List.drop_append_of_le_length]
    have : s.data.toList.length = s.size := by simp
    have hp : p ≤ s.size := by
      rcases Int.lt_or_le s.size p with h1 | h1
      · exfalso
        have : s.data.toList.drop p.toNat = [] := List.drop_of_length_le (by simp; omega)
        rw [this, dec_end] at hd
        cases hd
      · exact h1
    omega
  rw [e, dec_more_behind 10 0 0 _ r.data.toList v k hd.symm]
  exact h
/-- .. and as it is in a beginning that has it -/
theorem num_front {s : ByteArray} {p n x : Int} {e : Nat} (h : getNum s p = (n, x, 0)) (hx : x ≤ e) (he : e ≤ s.size) : getNum (s.extract 0 e) p = (n, x, 0) := by
  have hb := get_bd s p n x h
  have ho := Jn.get_on h
  have hsz : (s.extract 0 e).size = e := by rw [ByteArray.size_extract]; omega
  unfold getNum at h ⊢
  rw [if_neg (by omega), if_neg (by omega)] at h
  rw [if_neg (by omega), if_neg (by omega)]
  obtain ⟨⟨c, v, k⟩, hd⟩ : ∃ q, q = dec 10 0 0 (s.data.toList.drop p.toNat) := ⟨_, rfl⟩
  rw [← hd] at h
  have hc : c = 0 := by
    by_cases hc : c = 0
    · exact hc
    · exfalso; rw [if_neg hc] at h; exact hc (by have := congrArg (fun r : Int × Int × Int => r.2.2) h; simpa using this)
  subst hc
  have hk : x = p + (k : Int) := by simp at h; omega
  have e1 : (s.extract 0 e).data.toList.drop p.toNat = (s.data.toList.drop p.toNat).take (e - p.toNat) := by
    have e2 : (s.extract 0 e).data.toList = s.data.toList.take e := by simp [ByteArray.data_extract]
    rw [e2, List.drop_take]
  rw [e1, dec_front 10 0 0 _ v k (e - p.toNat) hd.symm (by omega)]
  exact h
end Dc
end Go.Proofs.YtojdfdlbdpdlkaaGreatDoor

namespace Go.Proofs.YtojdfdlbdpdlkaaGreatDoor
set_option linter.unusedSimpArgs false
set_option linter.unusedVariables false
namespace Jn
/-- how a record that stands was found -/
theorem one_inv {s t : ByteArray} {p q : Int} (h : one s p = some (t, q)) : ∃ n x, Dc.getNum s p = (n, x, 0) ∧ 4 ≤ n ∧ n ≤ 304 ∧ q = x + n ∧ 0 < x ∧ q ≤ s.size ∧ p < x ∧ (unsealed (s.extract x.toNat q.toNat)).2.2 = 0 ∧ (unsealed (s.extract x.toNat q.toNat)).1 = t := by
  have hb := one_bd h
  obtain ⟨⟨n, x, c⟩, hr⟩ : ∃ r, r = Dc.getNum s p := ⟨_, rfl⟩
  by_cases hc : c = 0
  · subst hc
    by_cases hn : n < 0 ∨ 304 < n ∨ (s.size : Int) - x < n
    · rw [one_no_size hr.symm hn] at h; cases h
    · have hg := Dc.get_bd s p n x hr.symm
      have ho := get_on hr.symm
      unfold one at h
      rw [Dc.text_ok hr.symm (by omega) (by omega)] at h
      split at h
      · rename_i h1
        simp only [Option.some.injEq, Prod.mk.injEq] at h
        obtain ⟨rfl, rfl⟩ := h
        have hu := unsealed_ok h1.2.1
        have hsz : (s.extract x.toNat (x + n).toNat).size = n.toNat := by rw [ByteArray.size_extract]; omega
        exact ⟨n, x, hr.symm, by have := hu.1; simp only at this; omega, by omega, rfl, hg.2.2.1, by omega, ho, h1.2.1, rfl⟩
      · cases h
  · rw [one_no_num hr.symm hc] at h; cases h
/-- .. and that it stands where it is found so -/
theorem one_of {s t : ByteArray} {p q n x : Int} (hs : s.size ≤ 8000) (h : Dc.getNum s p = (n, x, 0)) (h4 : 4 ≤ n) (h3 : n ≤ 304) (hq : q = x + n) (hqs : q ≤ s.size) (hu : (unsealed (s.extract x.toNat q.toNat)).2.2 = 0) (ht : (unsealed (s.extract x.toNat q.toNat)).1 = t) (hx : 0 < x) : one s p = some (t, q) := by
  subst hq
  have hsz : (s.extract x.toNat (x + n).toNat).size = n.toNat := by rw [ByteArray.size_extract]; omega
  have h5 := unsealed_ok hu
  unfold one
  rw [Dc.text_ok h (by omega) (by omega)]
  rw [if_pos ⟨rfl, hu, by show (unsealed (s.extract x.toNat (x + n).toNat)).1.size ≤ 300; rw [h5.2.2.2]; omega⟩]
  show some ((unsealed (s.extract x.toNat (x + n).toNat)).1, x + n) = _
  rw [ht]
theorem ex_app (s r : ByteArray) (a b : Nat) (hb : b ≤ s.size) : (s ++ r).extract a b = s.extract a b := by
  apply ByteArray.ext
  rw [ByteArray.data_extract, ByteArray.data_extract, ByteArray.data_append]
  rw [Array.extract_append]
  have h : b - s.data.size = 0 := by have : s.data.size = s.size := rfl; omega
  rw [h]
  simp
theorem ex_ex (s : ByteArray) (e a b : Nat) (hb : b ≤ e) : (s.extract 0 e).extract a b = s.extract a b := by
  rw [ByteArray.extract_extract]
  congr 1
  · omega
  · omega
theorem one_behind {s r t : ByteArray} {p q : Int} (hs : (s ++ r).size ≤ 8000) (h : one s p = some (t, q)) : one (s ++ r) p = some (t, q) := by
  obtain ⟨n, x, h1, h2, h3, h4, h5, h6, h7, h8, h9⟩ := one_inv h
  have e := ex_app s r x.toNat q.toNat (by omega)
  have hz : (s ++ r).size = s.size + r.size := ByteArray.size_append
  exact one_of hs (Dc.num_behind hs h1) h2 h3 h4 (by omega) (by rw [e]; exact h8) (by rw [e]; exact h9) h5
theorem one_front {s t : ByteArray} {p q : Int} {e : Nat} (h : one s p = some (t, q)) (hq : q ≤ e) (he : e ≤ s.size) : one (s.extract 0 e) p = some (t, q) := by
  obtain ⟨n, x, h1, h2, h3, h4, h5, h6, h7, h8, h9⟩ := one_inv h
  have hb := one_bd h
  have hz : (s.extract 0 e).size = e := by rw [ByteArray.size_extract]; omega
  have e1 := ex_ex s e x.toNat q.toNat (by omega)
  exact one_of (by omega) (Dc.num_front h1 (by omega) he) h2 h3 h4 (by omega) (by rw [e1]; exact h8) (by rw [e1]; exact h9) h5
/-- at the end nothing stands -/
theorem one_end (s : ByteArray) (p : Int) (h0 : 0 ≤ p) (hp : s.size ≤ p) (hs : s.size ≤ 8000) : one s p = none := by
  have hd : s.data.toList.drop p.toNat = [] := List.drop_of_length_le (by simp; omega)
  have h : Dc.getNum s p = (0, 0, 4) := (Dc.get_err s p 4 hs h0 (by decide) (by rw [hd]; exact Dc.dec_end 9 0 0)).1
  exact one_no_num h (by decide)
/-- the place behind the last one, or where they begin -/
def lst (p : Int) (l : List (ByteArray × Int)) : Int := (l.getLast?.map (·.2)).getD p
theorem lst_nil (p : Int) : lst p [] = p := rfl
theorem lst_cons (p : Int) (x : ByteArray × Int) (l : List (ByteArray × Int)) : lst p (x :: l) = lst x.2 l := by
  unfold lst
  cases l with
  | nil => simp
  | cons y l =>
    rw [List.getLast?_cons_cons]
    obtain ⟨z, hz⟩ : ∃ z, (y :: l).getLast? = some z := ⟨_, List.getLast?_eq_some_getLast (by simp)⟩
    rw [hz]; rfl
theorem lst_zero (l : List (ByteArray × Int)) : lst 0 l = endOf l := rfl
theorem lst_ge {s : ByteArray} : ∀ (k : Nat) (p : Int), p ≤ lst p (ents s k p)
  | 0, p => by simp [ents, lst]
  | k + 1, p => by
    cases h : one s p with
    | none => rw [ents, h]; simp [lst]
    | some x =>
      rw [ents_step h, lst_cons]
      have hb := one_bd (t := x.1) (q := x.2) h
      have := lst_ge (s := s) k x.2
      omega
/-- a row cut where the last record ends has just these records -/
theorem ents_front {s : ByteArray} {e : Nat} (he : e ≤ s.size) (hs : s.size ≤ 8000) : ∀ (k j : Nat) (p : Int), 0 ≤ p → (s.size : Int) - p < k → (e : Int) - p < j → lst p (ents s k p) = e → ents (s.extract 0 e) j p = ents s k p
  | 0, j, p, h0, hk, hj, hl => by
    simp only [ents, lst_nil] at hl ⊢
    exact ents_end (one_end _ _ h0 (by rw [ByteArray.size_extract]; omega) (by rw [ByteArray.size_extract]; omega)) j
  | k + 1, j, p, h0, hk, hj, hl => by
    cases h : one s p with
    | none =>
      have e1 : ents s (k + 1) p = [] := by rw [ents, h]
      rw [e1, lst_nil] at hl
      rw [e1]
      exact ents_end (one_end _ _ h0 (by rw [ByteArray.size_extract]; omega) (by rw [ByteArray.size_extract]; omega)) j
    | some x =>
      have hb := one_bd (t := x.1) (q := x.2) h
      rw [ents_step h, lst_cons] at hl
      have hge := lst_ge (s := s) k x.2
      obtain ⟨i, rfl⟩ : ∃ i, j = i + 1 := ⟨j - 1, by omega⟩
      have h1 : one (s.extract 0 e) p = some x := one_front (t := x.1) (q := x.2) h (by omega) he
      rw [ents_step h, ents_step h1, ents_front he hs k i x.2 (by omega) (by omega) (by omega) hl]
theorem all_kept (s : ByteArray) (hs : s.size ≤ 8000) : all (kept s) = all s := by
  have hb := ends_bd s
  have hz : (kept s).size = (endOf (all s)).toNat := by unfold kept; rw [ByteArray.size_extract]; omega
  unfold all
  rw [hz]
  exact ents_front (by omega) hs (s.size + 1) _ 0 (by omega) (by omega) (by omega) (by rw [lst_zero]; show endOf (all s) = _; omega)
theorem end_kept (s : ByteArray) (hs : s.size ≤ 8000) : endOf (all (kept s)) = (kept s).size := by
  rw [all_kept s hs]
  have hb := ends_bd s
  unfold kept
  rw [ByteArray.size_extract]
  omega
/-- whatever is read ahead is read with more behind it, where the row has no end ahead of its last record -/
theorem ents_behind {s r : ByteArray} (hs : (s ++ r).size ≤ 8000) : ∀ (k j : Nat) (p : Int), 0 ≤ p → p ≤ s.size → (s.size : Int) - p < k → ((s ++ r).size : Int) - p < j → lst p (ents s k p) = s.size → ∃ i : Nat, ((s ++ r).size : Int) - s.size < i ∧ ents (s ++ r) j p = ents s k p ++ ents (s ++ r) i s.size
  | 0, j, p, h0, hp, hk, hj, hl => by omega
  | k + 1, j, p, h0, hp, hk, hj, hl => by
    cases h : one s p with
    | none =>
      have e1 : ents s (k + 1) p = [] := by rw [ents, h]
      rw [e1, lst_nil] at hl
      rw [e1, hl]
      exact ⟨j, by omega, by simp⟩
    | some x =>
      have hb := one_bd (t := x.1) (q := x.2) h
      rw [ents_step h, lst_cons] at hl
      have hz : (s ++ r).size = s.size + r.size := ByteArray.size_append
      obtain ⟨i, rfl⟩ : ∃ i, j = i + 1 := ⟨j - 1, by omega⟩
      have h1 : one (s ++ r) p = some x := one_behind (t := x.1) (q := x.2) hs h
      obtain ⟨m, hm, hi⟩ := ents_behind hs k i x.2 (by omega) (by omega) (by omega) (by omega) hl
      exact ⟨m, hm, by rw [ents_step h, ents_step h1, hi]; simp⟩
end Jn
end Go.Proofs.YtojdfdlbdpdlkaaGreatDoor

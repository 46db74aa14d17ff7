/- The walk of the specification's drawing call for JournalAdd. The walk of the program's openFiles where no name is handed in. -/
import Derived.Test.YtojdfdlbdpdlkaaGreatDoorJoined19
import Derived.Test.YtojdfdlbdpdlkaaGreatDoorFsOpen
namespace Go.Proofs.YtojdfdlbdpdlkaaGreatDoor
open Go.RowKit
set_option linter.unusedVariables false
set_option linter.unusedSimpArgs false

set_option maxHeartbeats 8000000 in
theorem drawJournalAdd_any (B : Nat) (a : Option Addr) (n c : Nat) (w : World) (hB : B ≤ w.heap.size) (hn : n ≤ 1048576) (hby : Dk.Bytes B w a n) :
    Calls Tryz.prog 4 #[.slice a n c] w fun e w' => (∃ u R x y, e = .returned (.tuple #[.agg #[u], .string x, .bool y]) ∧ Fk.Own w' w.heap.size 75 u R ∧ Dj.Fit R ∧ R.length ≤ 2000 ∧ x.size ≤ 100000) ∧ Below w.heap.size w w' := by
  have b0 : Below w.heap.size w (w.alloc (.cells #[.slice none 0 0] 25)) := (Below.refl _ _).alloc (Nat.le_refl _) _
  have hby0 := Fk.hide (hby.grown hB (Fk.grownBy_below none b0) (fun _ _ => by simp))
  obtain ⟨W0, hW0⟩ : ∃ W, W = w.alloc (.cells #[.slice none 0 0] 25) := ⟨_, rfl⟩
  have r0 : W0.cell? ⟨w.heap.size, 0, none⟩ = some (.slice none 0 0) := by rw [hW0, Fk.cellTop _ _ _ _ _ rfl]; rfl
  have f0 : ∀ j, W0.frozen? ⟨w.heap.size, j, none⟩ = false := fun j => by rw [hW0, Fk.frozTop _ _ _ _ _ rfl]
  have hz0 : W0.heap.size = w.heap.size + 1 := by rw [hW0]; simp
  rw [← hW0] at b0 hby0
  have HW0 := Fk.hide hW0
  have H0 := Fk.hide (⟨b0, r0, f0, hz0⟩ : Below w.heap.size w W0 ∧ _ ∧ (∀ j, _) ∧ _)
  clear hW0 b0 r0 f0 hz0 hby
  go_enter Tryz.func4, Tryz.ntmps4
  go_wp2_with fail
  rw [← HW0.out]
  refine (source_any B a n c W0 (by have := H0.out.2.2.2; omega) hn hby0.out).mono ?_
  rintro e w1 ⟨rfl, s1, b1⟩
  obtain ⟨S, hS⟩ : ∃ S, S = W0.heap.size := ⟨_, rfl⟩
  rw [← hS] at s1 ⊢
  have H1 : Hid (Dk.Src B w1 S ∧ Below w.heap.size w w1 ∧ (w1.cell? ⟨w.heap.size, 0, none⟩ = some (.slice none 0 0) ∧ ∀ j, w1.frozen? ⟨w.heap.size, j, none⟩ = false) ∧ S = w.heap.size + 1 ∧ S < w1.heap.size) := by
    obtain ⟨q1, q2, q3, q4⟩ := H0.out
    exact ⟨s1, q1.trans (b1.mono (by omega)), ⟨(b1.cell (by show w.heap.size < _; omega)).trans q2, fun j => (b1.frozen (by show w.heap.size < _; omega)).trans (q3 j)⟩, by rw [hS]; exact q4, s1.lt.2⟩
  clear hS s1 b1 HW0 H0 hby0
  go_wp2_with fail
  refine (l10Fs_any B S w1 H1.out.1).mono ?_
  rintro e w2 ⟨⟨u, R, rfl, ho, hf, hRl⟩, s2, g2⟩
  obtain ⟨ua, un, uc, rfl⟩ := ho.slice'
  obtain ⟨fb, hfb⟩ : ∃ b, b = w2.heap.size := ⟨_, rfl⟩
  have H2 : Hid (Dk.Bx B S w (w2.alloc (.cells #[.slice ua un uc] 25)) fb (.slice ua un uc) R) := by
    obtain ⟨q1, q2, ⟨q3, q4⟩, q5, q6⟩ := H1.out
    have bb : Below w2.heap.size w2 (w2.alloc (.cells #[.slice ua un uc] 25)) := (Below.refl _ _).alloc (Nat.le_refl _) _
    have hz := g2.size
    have hne : some w.heap.size ≠ some S := fun e => by have h9 : w.heap.size = S := Option.some.inj e; omega
    have e1 := (g2.cell_far ⟨w.heap.size, 0, none⟩ (by show w.heap.size < _; omega) hne).trans q3
    have e2 : ∀ j, w2.frozen? ⟨w.heap.size, j, none⟩ = false := fun j => (g2.frozen_far ⟨w.heap.size, j, none⟩ (by show w.heap.size < _; omega) hne).trans (q4 j)
    have e3 : Below w.heap.size w w2 := q2.grown g2 (by omega) (fun j hj => by have h9 : S = j := Option.some.inj hj; omega)
    subst hfb
    exact ⟨by rw [Fk.cellTop _ _ _ _ _ rfl]; rfl, ⟨(bb.cell (by show w.heap.size < _; omega)).trans e1, fun j => (bb.frozen (by show w.heap.size < _; omega)).trans (e2 j)⟩, Fk.Own.mono (Fk.Own.below ho bb) (by omega), s2.below bb, e3.trans (bb.mono (by omega)), ⟨by omega, by simp, by omega, by omega⟩, fun e => by have := (World.ownsRow.lt ho S e).1; omega⟩
  have HF := Fk.hide hf
  obtain ⟨W2, hW2⟩ : ∃ W, W = w2.alloc (.cells #[.slice ua un uc] 25) := ⟨_, rfl⟩
  have HW2 := Fk.hide hW2
  have HFB := Fk.hide hfb
  rw [← hW2] at H2
  clear hf ho s2 g2 H1 hW2 hfb
  go_wp2_with fail
  rw [← HW2.out, ← HFB.out]
  refine (drawOne_any B S 10 _ H2.out.2.2.2.1 (by omega)).mono ?_
  rintro e w3 ⟨⟨q, rfl⟩, s3, g3⟩
  have H3 := Fk.hide (H2.out.draw s3 g3)
  clear s3 g3 H2 HW2 HFB
  have c3 := H3.out.1
  have HD3 := Fk.hide (H3.out.below (Below.drew (Below.refl _ _)))
  cases q
  · go_wp2_with fail
    set_option maxRecDepth 20000 in
    go_region_law
      (first
        | (go_simp; go_at_call 23; refine (drawN_any B S 6 _ HD3.out.2.2.2.1 (by omega)).mono ?_; rintro e w4 ⟨⟨r, rfl, hr0, hr1, _⟩, s4, g4⟩; have H4 := Fk.hide (HD3.out.draw s4 g4); have c4 := H4.out.1; have hr := hr1 (by omega); clear s4 g4 hr1; go_wp2_with fail)
        | (go_simp; go_at_call 24; refine (drawBytes_any B S r _ H4.out.2.2.2.1 (by omega)).mono ?_; rintro e w5 ⟨⟨x, rfl, hx⟩, s5, g5⟩; have H5 := Fk.hide (H4.out.draw s5 g5); have c5 := H5.out.1; have HT : Hid (x.size ≤ 100000) := (by show x.size ≤ _; omega); clear s5 g5 hx; go_wp2_with fail)
        | (go_simp; go_at_call 22; refine (drawOne_any B S 2 _ H5.out.2.2.2.1 (by omega)).mono ?_; rintro e w6 ⟨⟨y, rfl⟩, s6, g6⟩; have H6 := Fk.hide (H5.out.draw s6 g6); have c6 := H6.out.1; have r6 := H6.out.2.1.1; have f6 := H6.out.2.1.2; clear s6 g6; go_wp2_with fail))
    all_goals
      clear c3 c4 c5
      have HE := Fk.hide H6.out.done
      have g1 : (w6.setCell ⟨w.heap.size, 0, none⟩ (.slice ua un uc)).cell? ⟨w.heap.size, 0, none⟩ = some (.slice ua un uc) := World.cell?_setCell_same _ _ _ r6
      clear c6 r6 f6
      go_wp2_with fail
      refine bodyPost_ret (v := .tuple #[.agg #[.slice ua un uc], .string x, .bool y]) (by simp [results, Tryz.results4, go_sem, g1]) rfl ?_
      exact ⟨⟨_, R, x, y, rfl, HE.out.1, HF.out, hRl, HT.out⟩, HE.out.2⟩
  · go_wp2_with fail
    set_option maxRecDepth 20000 in
    go_region_law
      (first
        | (go_simp; go_at_call 23; refine (drawN_any B S 2 _ HD3.out.2.2.2.1 (by omega)).mono ?_; rintro e w6 ⟨⟨r, rfl, hr0, hr1, _⟩, s6, g6⟩; have H6 := Fk.hide (HD3.out.draw s6 g6); have c6 := H6.out.1; have hr := hr1 (by omega); have hw : IntKind.i64.wrap (300 + r) = 300 + r := (by rw [IntKind.wrap_i64]; omega); have hm6 := Dk.zero_make w6 (300 + r) (by omega) (by omega); have hv6 := Dk.zero_text w6 _ (300 + r) (fun _ => rfl); have H6a := Fk.hide (H6.out.below ((Below.refl _ _).alloc (Nat.le_refl _) (Dk.zo (300 + r)))); have c6a := H6a.out.1; clear s6 g6 hr1; go_wp2_with fail)
        | (go_simp; go_at_call 22; refine (drawOne_any B S 2 _ H6a.out.2.2.2.1 (by omega)).mono ?_; rintro e w7 ⟨⟨y, rfl⟩, s7, g7⟩; have H7 := Fk.hide (H6a.out.draw s7 g7); have hv7 := Dk.zero_text w6 w7 (300 + r) (fun j => (g7.cell_far ⟨w6.heap.size, j, none⟩ (by simp) (fun e => by have h9 : w6.heap.size = S := Option.some.inj e; have := H6.out.2.2.2.1.lt; omega))); have hv7s := Dk.zero_text w6 (w7.setCell ⟨w.heap.size, 0, none⟩ (.slice ua un uc)) (300 + r) (fun j => (World.cell?_setCell_other _ _ _ _ (by intro e; have h9 : w.heap.size = w6.heap.size := congrArg Addr.block e; have := H6.out.2.2.2.2.2.1; omega)).trans (g7.cell_far ⟨w6.heap.size, j, none⟩ (by simp) (fun e => by have h9 : w6.heap.size = S := Option.some.inj e; have := H6.out.2.2.2.1.lt; omega))); have c7 := H7.out.1; have r7 := H7.out.2.1.1; have f7 := H7.out.2.1.2; clear s7 g7; go_wp2_with fail)
        | (go_simp; go_at_call 22; refine (drawOne_any B S 2 _ H6.out.2.2.2.1 (by omega)).mono ?_; rintro e w7 ⟨⟨y, rfl⟩, s7, g7⟩; have H7 := Fk.hide (H6.out.draw s7 g7); have hm7 := Dk.zero_make w7 (300 + r) (by omega) (by omega); have hm7s : (Instr.makeSlice 22 (.int .i64 (300 + r)) (.int .i64 (300 + r))).run Tryz.prog (w7.setCell ⟨w.heap.size, 0, none⟩ (.slice ua un uc)) = .ok (.slice (some ⟨w7.heap.size, 0, none⟩) (300 + r).toNat (300 + r).toNat) ((w7.setCell ⟨w.heap.size, 0, none⟩ (.slice ua un uc)).alloc (Dk.zo (300 + r))) := (by have h9 := Dk.zero_make (w7.setCell ⟨w.heap.size, 0, none⟩ (.slice ua un uc)) (300 + r) (by omega) (by omega); simpa [World.setCell] using h9); have hv7 := Dk.zero_text w7 _ (300 + r) (fun _ => rfl); have hv7s := Dk.zero_text w7 ((w7.alloc (Dk.zo (300 + r))).setCell ⟨w.heap.size, 0, none⟩ (.slice ua un uc)) (300 + r) (fun j => World.cell?_setCell_other _ _ _ _ (by intro e; have h9 : w.heap.size = w7.heap.size := congrArg Addr.block e; have := H7.out.2.2.2.2.2.1; omega)); have hv7t : (convert 22 9 (.slice (some ⟨w7.heap.size, 0, none⟩) (300 + r).toNat (300 + r).toNat)).run Tryz.prog ((w7.setCell ⟨w.heap.size, 0, none⟩ (.slice ua un uc)).alloc (Dk.zo (300 + r))) = .ok (.string (Dk.zt (300 + r))) ((w7.setCell ⟨w.heap.size, 0, none⟩ (.slice ua un uc)).alloc (Dk.zo (300 + r))) := (by have h9 := Dk.zero_text (w7.setCell ⟨w.heap.size, 0, none⟩ (.slice ua un uc)) _ (300 + r) (fun _ => rfl); simpa [World.setCell] using h9); have H7a := Fk.hide (H7.out.below ((Below.refl _ _).alloc (Nat.le_refl _) (Dk.zo (300 + r)))); have c7a := H7a.out.1; have r7a := H7a.out.2.1.1; have f7a := H7a.out.2.1.2; have c7 := H7.out.1; have r7 := H7.out.2.1.1; have f7 := H7.out.2.1.2; clear s7 g7; go_wp2_with fail))
    all_goals
      have HT : Hid ((Dk.zt (300 + r)).size ≤ 100000) := by have := Dk.zt_size (300 + r) (by omega); show _ ≤ _; omega
      obtain ⟨x, hx⟩ : ∃ x, x = Dk.zt (300 + r) := ⟨_, rfl⟩
      clear hw hm6 hv6 c6 c6a c3 c7
      try clear hv7 hv7s
      try clear hm7 hm7s hv7t c7a
      obtain ⟨O9, hO⟩ : ∃ o, o = Dk.zo (300 + r) := ⟨_, rfl⟩
      rw [← hx] at HT ⊢
      try rw [← hO]
      try rw [← hO] at H7a
      clear hx
      first
        | (obtain ⟨W, hW⟩ : ∃ W, W = (w7.setCell ⟨w.heap.size, 0, none⟩ (.slice ua un uc)).alloc O9 := ⟨_, rfl⟩; have HE : Hid (Fk.Own W w.heap.size 75 (.slice ua un uc) R ∧ Below w.heap.size w W) := (by show _ ∧ _; rw [hW]; exact ⟨Fk.Own.below H7.out.done.1 ((Below.refl _ _).alloc (Nat.le_refl _) _), H7.out.done.2.alloc (by have := H7.out.2.2.2.2.2.1; simp [World.setCell]; omega) _⟩); have g1 : W.cell? ⟨w.heap.size, 0, none⟩ = some (.slice ua un uc) := (by rw [hW, Fk.cellOld _ _ _ _ (by have := H7.out.2.2.2.2.2.1; simp [World.setCell]; omega)]; exact World.cell?_setCell_same _ _ _ r7); rw [← hW]; clear hW hO r7 f7; (try clear r7a f7a); go_wp2_with fail; refine bodyPost_ret (v := .tuple #[.agg #[.slice ua un uc], .string x, .bool y]) (by simp [results, Tryz.results4, go_sem, g1]) rfl ?_; exact ⟨⟨_, R, x, y, rfl, HE.out.1, HF.out, hRl, HT.out⟩, HE.out.2⟩)
        | (obtain ⟨W, hW⟩ : ∃ W, W = (w7.alloc O9).setCell ⟨w.heap.size, 0, none⟩ (.slice ua un uc) := ⟨_, rfl⟩; have HE : Hid (Fk.Own W w.heap.size 75 (.slice ua un uc) R ∧ Below w.heap.size w W) := (by show _ ∧ _; rw [hW]; exact H7a.out.done); have g1 : W.cell? ⟨w.heap.size, 0, none⟩ = some (.slice ua un uc) := (by rw [hW]; exact World.cell?_setCell_same _ _ _ H7a.out.2.1.1); rw [← hW]; clear hW hO r7 f7; (try clear r7a f7a); go_wp2_with fail; refine bodyPost_ret (v := .tuple #[.agg #[.slice ua un uc], .string x, .bool y]) (by simp [results, Tryz.results4, go_sem, g1]) rfl ?_; exact ⟨⟨_, R, x, y, rfl, HE.out.1, HF.out, hRl, HT.out⟩, HE.out.2⟩)
        | (obtain ⟨W, hW⟩ : ∃ W, W = w7.setCell ⟨w.heap.size, 0, none⟩ (.slice ua un uc) := ⟨_, rfl⟩; have HE : Hid (Fk.Own W w.heap.size 75 (.slice ua un uc) R ∧ Below w.heap.size w W) := (by show _ ∧ _; rw [hW]; exact H7.out.done); have g1 : W.cell? ⟨w.heap.size, 0, none⟩ = some (.slice ua un uc) := (by rw [hW]; exact World.cell?_setCell_same _ _ _ r7); rw [← hW]; clear hW hO r7 f7; (try clear r7a f7a); go_wp2_with fail; refine bodyPost_ret (v := .tuple #[.agg #[.slice ua un uc], .string x, .bool y]) (by simp [results, Tryz.results4, go_sem, g1]) rfl ?_; exact ⟨⟨_, R, x, y, rfl, HE.out.1, HF.out, hRl, HT.out⟩, HE.out.2⟩)
end Go.Proofs.YtojdfdlbdpdlkaaGreatDoor

namespace Go.Proofs.YtojdfdlbdpdlkaaGreatDoor
open Go.RowKit Go.Maps
open Go.WideMaps (keyOf_string_mk)
set_option linter.unusedVariables false

set_option maxHeartbeats 4000000 in
theorem open_none (v : Value) (L : List Fk.Fl) (a0 a1 a2 a3 a4 : Addr) (w : World) (hv : Fk.View w v L) (hL : Fk.Fits L) (hl : L.length ≤ maxLen) (hE : Is.Errs w a0 a1 a2 a3 a4) :
    Calls Tryz.prog 26 #[.agg #[v], .slice none 0 0] w fun e w' =>
      ((Fk.opn L [] = 0 ∧ ∃ b D, e = .returned (.tuple #[.map (some b), .nilIface]) ∧ w'.ownsMap Tryz.prog 9 Fk.rdFile b L.length D ∧ Fk.Mp D L ∧ w.heap.size ≤ b) ∨ (Fk.opn L [] ≠ 0 ∧ e = .returned (.tuple #[.map none, Is.er a0 a1 a2 a3 a4 (Fk.opn L [])]))) ∧ Below w.heap.size w w' := by
  have HLM := Fk.hide hl
  unfold maxLen at hl
  have b0 : Below w.heap.size w (w.alloc (.cells #[v] 25)) := (Below.refl _ _).alloc (Nat.le_refl _) _
  have hv' := hv.below b0
  have hcell : (w.alloc (.cells #[v] 25)).cell? ⟨w.heap.size, 0, none⟩ = some v := by rw [Fk.cellTop _ _ _ _ _ rfl]; rfl
  have hsz : w.heap.size < (w.alloc (.cells #[v] 25)).heap.size := by simp
  obtain ⟨W, hW⟩ : ∃ W, W = w.alloc (.cells #[v] 25) := ⟨_, rfl⟩
  have hE' := hE.below b0
  rw [← hW] at b0 hv' hcell hsz hE'
  have HW := Fk.hide hW
  clear hW hv hE
  obtain ⟨a, cap, rfl, hs⟩ := hv'
  have hvW : Fk.View W (.slice a L.length cap) L := ⟨a, cap, rfl, hs⟩
  have g0 := hE'.c0
  have g1 := hE'.c1
  unfold Is.ev at g0 g1
  go_enter Tryz.func26, Tryz.ntmps26
  go_wp2_with fail
  rw [← HW.out]
  go_loop [15] (fun i => i = .int .i64 0) (fun _ => 0)
  case atStart => rfl
  case round =>
    subst hrel
    go_wp2_with fail
    refine (fsRight_impl _ L _ hvW hL HLM.out).mono ?_
    rintro e w1 ⟨rfl, b1⟩
    have B1 := Fk.hide (b0.trans (b1.mono b0.size))
    have E1 := Fk.hide (hE'.below b1)
    have f0 := E1.out.c0
    have f1 := E1.out.c1
    unfold Is.ev at f0 f1
    have hcell1 : w1.cell? ⟨w.heap.size, 0, none⟩ = some (.slice a L.length cap) := (b1.cell (by exact hsz)).trans hcell
    have V1 := Fk.hide (hvW.below b1)
    have hsz1 : w.heap.size < w1.heap.size := Nat.lt_of_lt_of_le hsz b1.size
    clear b1 g0 g1 hcell hvW hE' hs
    cases hr : Fk.right L with
    | false =>
      have HF := Fk.hide (Fk.opn_ill L [] (fun _ h => absurd h (Nat.not_lt_zero _)) hr)
      go_wp2_with fail
      go_region
      all_goals
        go_wp2_with fail
        go_ret2
        refine ⟨.inr ⟨by rw [HF.out]; decide, ?_⟩, B1.out.trans ((Below.drew (Below.refl _ w1)).mono B1.out.size)⟩
        rw [HF.out]
        rfl
    | true =>
      go_wp2_with fail
      go_loop [30] (fun i => i = .int .i64 0) (fun _ => 0)
      case atStart => rfl
      case round =>
        subst hrel
        have HF := Fk.hide (Fk.opn_ok L [] (fun _ h => absurd h (Nat.not_lt_zero _)) hr (fun _ h => absurd h (Nat.not_lt_zero _)))
        have hmm := @run_makeMap Tryz.prog
        go_wp2_with fail
        have bm : Below w1.heap.size w1 (w1.alloc (.map #[] 0)) := (Below.refl _ _).alloc (Nat.le_refl _) _
        have hm0 := World.ownsMap_made w1 Tryz.prog 9 Fk.rdFile
        have hav := Fk.right_rises L hr
        go_loopw [43] (fun i wr => ∃ (k : Nat) (D : DataW Unit), k ≤ L.length ∧ i = .int .i64 k ∧ wr.ownsMap Tryz.prog 9 Fk.rdFile w1.heap.size k D ∧ Hid (Fk.Mp D (L.take k)) ∧ Below w1.heap.size w1 wr) (fun i _ => L.length - (intOf i).toNat)
        case atStart => exact ⟨0, _, Nat.zero_le _, rfl, hm0, Fk.mp_empty, bm⟩
        case round =>
          obtain ⟨k, D, hk, rfl, hown, HM, bel⟩ := hrel
          clear bm hm0
          by_cases hlt : k < L.length
          · obtain ⟨a', cap', ev, hs1⟩ := V1.out
            simp only [Value.slice.injEq] at ev
            obtain ⟨rfl, _, rfl⟩ := ev
            obtain ⟨b, o, rfl, hb1, hs2⟩ := hs1 (by omega)
            have hs3 := hs2.below hb1 bel
            have q0 := hs3.c0 k hlt
            have q1 := hs3.c1 k hlt
            have q2 := hs3.c2 k hlt
            obtain ⟨z0, z1, z2⟩ := Fk.fits_get hL k
            have hkey := keyOf_string_mk Tryz.underlying9 z0
            clear hs3 hs1 z0 z1 z2
            go_wp2_with (at_mapUpdate; refine wpList_mapUpdate_own _ rfl _ _ _ 52 rfl 9 75 (string_keyed Tryz.underlying9) Tryz.underlying52 Fk.rdFile w1.heap.size k D rfl (hown.alloc _) (by unfold maxLen; omega) _ _ _ rfl rfl hkey _ [] (Fk.rdFile_mk (Fk.nm L k, Fk.dt L k, Fk.sy L k)) ?_; intro w4 hown4 hgrow4)
            have b4 : Below w1.heap.size w1 w4 := (bel.alloc bel.size _).grown hgrow4 (by simp; have := bel.size; omega) (fun j hj => by cases hj; exact Nat.le_refl _)
            have HM4 : Hid (Fk.Mp (D.put (Fk.kl (Fk.nm L k)) (Fk.fd (Fk.nm L k, Fk.dt L k, Fk.sy L k))) (L.take (k + 1))) := by
              have et : L.take (k + 1) = L.take k ++ [(Fk.nm L k, Fk.dt L k, Fk.sy L k)] := by
                have e1 : (Fk.nm L k, Fk.dt L k, Fk.sy L k) = L[k] := by simp [Fk.nm, Fk.dt, Fk.sy, List.getD, List.getElem?_eq_getElem hlt]
                rw [e1, List.take_add_one, List.getElem?_eq_getElem hlt]
                rfl
              show Fk.Mp _ _
              rw [et]
              refine HM.out.add (Fk.nm L k, Fk.dt L k, Fk.sy L k) fun g hg => ?_
              have hp := hav.apart
              have et' : L = L.take k ++ (Fk.nm L k, Fk.dt L k, Fk.sy L k) :: L.drop (k + 1) := by
                have := (List.take_append_drop (k + 1) L).symm
                rw [et, List.append_assoc] at this
                exact this
              rw [et'] at hp
              exact (List.pairwise_append.1 hp).2.2 g hg _ (List.mem_cons_self ..)
            clear hgrow4 hown hkey q0 q1 q2
            go_wp2_with fail
            go_roundw
            case rel => exact ⟨k + 1, _, by omega, by go_num, hown4, HM4, b4⟩
            case measure => simp [intOf]; omega
          · have e : k = L.length := by omega
            subst e
            have HM' := Fk.hide (show Fk.Mp D L by have := HM.out; rwa [List.take_length] at this)
            have HO := Fk.hide hown
            have HB := Fk.hide (B1.out.trans (bel.mono B1.out.size))
            clear hown bel HM
            go_wp2_with fail
            go_ret2
            exact ⟨.inl ⟨HF.out, _, D, rfl, HO.out, HM'.out, Nat.le_of_lt hsz1⟩, HB.out⟩
end Go.Proofs.YtojdfdlbdpdlkaaGreatDoor

/- The walks of the program's JournalAdd. -/
import Derived.Test.YtojdfdlbdpdlkaaGreatDoorJoined14
import Derived.Test.YtojdfdlbdpdlkaaGreatDoorJoined20
import Derived.Test.YtojdfdlbdpdlkaaGreatDoorJoined10
namespace Go.Proofs.YtojdfdlbdpdlkaaGreatDoor
open Go.RowKit Go.Maps
set_option linter.unusedVariables false

theorem Jn.er_iface (a0 a1 a2 a3 a4 : Addr) (k : Nat) (hk : 1 ≤ k) : ∃ v, Is.er a0 a1 a2 a3 a4 k = .iface 168 v := by
  match k, hk with
  | 1, _ => exact ⟨_, rfl⟩
  | 2, _ => exact ⟨_, rfl⟩
  | 3, _ => exact ⟨_, rfl⟩
  | 4, _ => exact ⟨_, rfl⟩
  | (k + 5), _ => exact ⟨_, rfl⟩

set_option maxHeartbeats 2000000 in
theorem addEntry_any (b n : Nat) (D : DataW Unit) (M : List Fk.Fl) (t : ByteArray) (a0 a1 a2 a3 a4 : Addr) (w : World) (hm : w.ownsMap Tryz.prog 9 Fk.rdFile b n D) (hM : Fk.Mp D M) (hR : Fk.right M = true) (hnn : n ≤ 1000) (ht : t.size ≤ 8000) (hE : Is.Errs w a0 a1 a2 a3 a4) :
    Calls Tryz.prog 27 #[.map (some b), .string t] w fun e w' => ((300 < t.size ∧ e = .returned (Is.er a0 a1 a2 a3 a4 2)) ∨ (¬ 300 < t.size ∧ Fk.Done b n a0 a1 a2 a3 a4 (Fk.resAppend M Jn.name (Jn.record t)) e w')) ∧ w.grownBy w' (some b) := by
  have g1 := hE.c1
  unfold Is.ev at g1
  by_cases h3 : 300 < t.size
  · have h3i : (300 : Int) < (t.size : Int) := by omega
    have H3 := Fk.hide h3
    clear h3
    go_enter Tryz.func27, Tryz.ntmps27
    go_wp2_with fail
    go_ret
    exact ⟨.inl ⟨H3.out, rfl⟩, Fk.grownBy_below (some b) (Below.refl _ _)⟩
  · have h3i : ¬ (300 : Int) < (t.size : Int) := by omega
    have H3 := Fk.hide h3
    have HSC := Fk.hide (Jn.sealed_size t (by omega))
    have HRC := Fk.hide (Jn.record_size t (by omega))
    clear h3 g1
    go_enter Tryz.func27, Tryz.ntmps27
    go_wp2_with fail
    refine (implSeal_any t _ (by unfold maxLen; omega)).mono ?_
    rintro e w1 ⟨rfl, b1⟩
    have m1 := Fk.map_below hm b1
    have E1 := hE.below b1
    have G1 := Fk.hide (Fk.grownBy_below (some b) b1)
    clear b1 hm hE
    go_wp2_with fail
    refine (implPutText_any (sealed t) _ (by have := HSC.out; unfold maxLen; omega)).mono ?_
    rintro e w2 ⟨rfl, b2⟩
    have m2 := Fk.map_below m1 b2
    have E2 := E1.below b2
    have G2 := Fk.hide (Fk.grownBy_trans G1.out (Fk.grownBy_below (some b) b2))
    clear b2 m1 E1 G1
    go_wp2_with fail
    refine (append_done b n D M Jn.name (Jn.record t) a0 a1 a2 a3 a4 _ m2 hM hR hnn (by decide) (by have := HRC.out; omega) E2).mono ?_
    rintro e w3 ⟨h3, g3⟩
    have G3 := Fk.hide (Fk.grownBy_trans G2.out g3)
    clear g3 G2 m2 E2
    rcases h3 with ⟨k, hk1, hk5, hg, rfl⟩ | ⟨D', N, hg, rfl, m3, M3⟩
    · have HD : Hid (Fk.Done b n a0 a1 a2 a3 a4 (Fk.resAppend M Jn.name (Jn.record t)) (.returned (Is.er a0 a1 a2 a3 a4 k)) w3) := .inl ⟨k, hk1, hk5, hg, rfl⟩
      obtain ⟨ev, hev⟩ : ∃ ev, ev = Is.er a0 a1 a2 a3 a4 k := ⟨_, rfl⟩
      rw [← hev] at HD
      rw [← hev]
      clear hev hg hk1 hk5
      go_wp2_with fail
      go_ret
      exact ⟨.inr ⟨H3.out, HD.out⟩, G3.out⟩
    · have HD : Hid (Fk.Done b n a0 a1 a2 a3 a4 (Fk.resAppend M Jn.name (Jn.record t)) (.returned .nilIface) w3) := .inr ⟨D', N, hg, rfl, m3, M3⟩
      clear hg m3 M3
      go_wp2_with fail
      go_ret
      exact ⟨.inr ⟨H3.out, HD.out⟩, G3.out⟩

set_option maxHeartbeats 4000000 in
theorem journalAdd_impl (v : Value) (L : List Fk.Fl) (t : ByteArray) (sy : Bool) (a0 a1 a2 a3 a4 : Addr) (w : World) (hv : Fk.View w v L) (hL : Fk.Fits L) (hl : L.length ≤ maxLen) (ht : t.size ≤ maxLen) (hE : Is.Errs w a0 a1 a2 a3 a4) :
    Calls Tryz.prog 5 #[.agg #[v], .string t, .bool sy] w fun e w' => (∃ u R c, e = .returned (.agg #[u, .int .i64 c]) ∧ Fk.Own w' w.heap.size 75 u R ∧ Fk.Ans (Jn.oAdd L t) (Jn.resAdd L t sy) R c) ∧ Below w.heap.size w w' := by
  obtain ⟨W, hW⟩ : ∃ W, W = (w.alloc (.cells #[v] 25)).alloc (.cells #[.slice none 0 0, .int .i64 0] 29) := ⟨_, rfl⟩
  have b0 : Below w.heap.size w W := by
    rw [hW]
    repeat (first | exact Below.refl _ _ | refine Below.alloc ?_ (by simp <;> omega) _)
  have hsz : W.heap.size = w.heap.size + 2 := by rw [hW]; simp
  have hcell : W.cell? ⟨w.heap.size, 0, none⟩ = some v := by rw [hW, Fk.cellOld _ _ _ _ (by simp), Fk.cellTop _ _ _ _ _ rfl]; rfl
  have q0 : W.cell? ⟨w.heap.size + 1, 0, none⟩ = some (.slice none 0 0) := by rw [hW, Fk.cellTop _ _ _ _ _ (by simp)]; rfl
  have q1 : W.cell? ⟨w.heap.size + 1, 1, none⟩ = some (.int .i64 0) := by rw [hW, Fk.cellTop _ _ _ _ _ (by simp)]; rfl
  have f0 : ∀ j, W.frozen? ⟨w.heap.size + 1, j, none⟩ = false := fun j => by rw [hW, Fk.frozTop _ _ _ _ _ (by simp)]
  have hv' := hv.below b0
  have hE' := hE.below b0
  by_cases hbig : 8000 < t.size
  · have HA : Hid (Fk.Ans (Jn.oAdd L t) (Jn.resAdd L t sy) [] 2) := .inl ⟨Jn.oAdd_big hbig, rfl, rfl⟩
    have hti : (8000 : Int) < (t.size : Int) := by omega
    have HC := Is.code_any 1 a0 a1 a2 a3 a4 W hE'
    unfold Is.er Is.cd at HC
    have g0 := hE'.c0
    unfold Is.ev at g0
    have g0' := g0
    rw [hW] at g0'
    have E3 : Hid (Below w.heap.size w ((W.setCell ⟨w.heap.size + 1, 0, none⟩ (.slice none 0 0)).setCell ⟨w.heap.size + 1, 1, none⟩ (.int .i64 2))) := (b0.setCell (by simp) _).setCell (by simp) _
    have HW := Fk.hide hW
    clear hW hbig hv' hE' hcell
    obtain ⟨a, cap, rfl, _⟩ := hv
    go_enter Tryz.func5, Tryz.ntmps5
    go_wp2_with fail
    rw [← HW.out]
    refine HC.mono ?_
    rintro e w3 ⟨rfl, e3⟩
    rw [e3]
    clear e3 w3 HC g0 g0'
    go_wp2_with fail
    exact bodyPost_ret (v := .agg #[.slice none 0 0, .int .i64 2]) (by simp [results, Tryz.results5, go_sem, q0, q1] <;> rfl) rfl ⟨⟨_, _, _, rfl, Fk.own_nil _ _ _, HA.out⟩, E3.out⟩
  have hti : ¬ (8000 : Int) < (t.size : Int) := by omega
  have HT := Fk.hide hbig
  have hvW := hv'
  have HW := Fk.hide hW
  have HE0 := Fk.hide hE
  clear hW hv hE hbig
  obtain ⟨a, cap, rfl, hs⟩ := hv'
  clear hs
  go_enter Tryz.func5, Tryz.ntmps5
  go_wp2_with fail
  rw [← HW.out]
  refine (open_none _ L a0 a1 a2 a3 a4 _ hvW hL hl hE').mono ?_
  rintro e w1 ⟨h1, b1⟩
  have B1 := Fk.hide (b0.trans (b1.mono b0.size))
  have hcell1 : w1.cell? ⟨w.heap.size, 0, none⟩ = some (.slice a L.length cap) := (b1.cell (by show w.heap.size < _; omega)).trans hcell
  have p0 : w1.cell? ⟨w.heap.size + 1, 0, none⟩ = some (.slice none 0 0) := (b1.cell (by show w.heap.size + 1 < _; omega)).trans q0
  have p1 : w1.cell? ⟨w.heap.size + 1, 1, none⟩ = some (.int .i64 0) := (b1.cell (by show w.heap.size + 1 < _; omega)).trans q1
  have pf : ∀ j, w1.frozen? ⟨w.heap.size + 1, j, none⟩ = false := fun j => (b1.frozen (by show w.heap.size + 1 < _; omega)).trans (f0 j)
  have E1 := Fk.hide (hE'.below b1)
  have hsz1 : w.heap.size + 2 ≤ w1.heap.size := by have := b1.size; omega
  clear b1 hcell hcell1 q0 q1 f0 hvW hE'
  have FIN : Hid (∀ (w5 : World) (u : Value) (R : List Fk.Fl) (c : Int), Below w.heap.size w w5 → Fk.Own w5 (w.heap.size + 2) 75 u R → Fk.Own ((w5.setCell ⟨w.heap.size + 1, 0, none⟩ u).setCell ⟨w.heap.size + 1, 1, none⟩ (.int .i64 c)) w.heap.size 75 u R ∧ Below w.heap.size w ((w5.setCell ⟨w.heap.size + 1, 0, none⟩ u).setCell ⟨w.heap.size + 1, 1, none⟩ (.int .i64 c))) :=
    fun w5 u R c hb ho => ⟨Fk.Own.mono (ownsRow_setCell_below (ownsRow_setCell_below ho (by show w.heap.size + 1 < _; omega) _) (by show w.heap.size + 1 < _; omega) _) (by omega), (hb.setCell (by simp) _).setCell (by simp) _⟩
  rcases h1 with ⟨h, b, D, rfl, hown, hM, hb⟩ | ⟨h, rfl⟩
  · have hR := Fk.opn_right L [] h
    have HR := Fk.hide hR
    have h12 := (Fk.right_inv L hR).1
    clear h
    go_wp2_with fail
    refine (addEntry_any b L.length D L t a0 a1 a2 a3 a4 _ hown hM hR (by omega) (by have := HT.out; omega) E1.out).mono ?_
    rintro e w2 ⟨h2, g2⟩
    have hne2 : w.heap.size + 1 ≠ b := by omega
    have B2 : Hid (Below w.heap.size w w2) := B1.out.grown g2 B1.out.size (fun k hk => by cases hk; omega)
    have r0 : w2.cell? ⟨w.heap.size + 1, 0, none⟩ = some (.slice none 0 0) := g2.cell p0 (by simp [hne2])
    have r1 : w2.cell? ⟨w.heap.size + 1, 1, none⟩ = some (.int .i64 0) := g2.cell p1 (by simp [hne2])
    have rf : ∀ j, w2.frozen? ⟨w.heap.size + 1, j, none⟩ = false := fun j => (World.frozen?_of_block (w := w1) (g2.block _ (by show w.heap.size + 1 < _; omega) (by simp [hne2]))).trans (pf j)
    have hs2 : w.heap.size + 2 ≤ w2.heap.size := by have := g2.size; omega
    clear p0 p1 pf
    obtain ⟨p0, p1, pf⟩ : _ ∧ _ ∧ _ := ⟨r0, r1, rf⟩
    clear r0 r1 rf
    have E2 := Fk.hide (HE0.out.below B2.out)
    clear g2 hown hM hR
    rcases h2 with ⟨h3, rfl⟩ | ⟨h3, ⟨k, hk1, hk5, hg, rfl⟩ | ⟨D', M, hg, rfl, m2, M2⟩⟩
    · have HC := outcome_err 2 (some b) a0 a1 a2 a3 a4 w2 (by decide) (by decide) E2.out
      have HA : Hid (Fk.Ans (Jn.oAdd L t) (Jn.resAdd L t sy) [] 1) := .inr (.inl ⟨Jn.oAdd_long HT.out HR.out h3, rfl, rfl⟩)
      unfold Is.er Is.cd at HC
      unfold Is.er
      clear h3
      go_wp2_with fail
      refine HC.mono ?_
      rintro e w9 ⟨rfl, b9⟩
      have t0 : w9.cell? ⟨w.heap.size + 1, 0, none⟩ = some (.slice none 0 0) := (b9.cell (by show w.heap.size + 1 < _; omega)).trans p0
      have t1 : w9.cell? ⟨w.heap.size + 1, 1, none⟩ = some (.int .i64 0) := (b9.cell (by show w.heap.size + 1 < _; omega)).trans p1
      have tf : ∀ j, w9.frozen? ⟨w.heap.size + 1, j, none⟩ = false := fun j => (b9.frozen (by show w.heap.size + 1 < _; omega)).trans (pf j)
      have E9 := Fk.hide (FIN.out w9 (.slice none 0 0) [] 1 (B2.out.trans (b9.mono B2.out.size)) (Fk.own_nil _ _ _))
      clear HC b9 p0 p1 pf
      go_wp2_with fail
      exact bodyPost_ret (v := .agg #[.slice none 0 0, .int .i64 1]) (by simp [results, Tryz.results5, go_sem, t0, t1] <;> rfl) rfl ⟨⟨_, _, _, rfl, E9.out.1, HA.out⟩, E9.out.2⟩
    · have HC := outcome_err k (some b) a0 a1 a2 a3 a4 w2 hk1 hk5 E2.out
      have HA : Hid (Fk.Ans (Jn.oAdd L t) (Jn.resAdd L t sy) [] (Is.cd k)) := .inr (.inr ⟨Jn.oAdd_ok HR.out h3, .inl ⟨_, by unfold Jn.resAdd; rw [hg], rfl, rfl⟩⟩)
      obtain ⟨ev, hev⟩ := Jn.er_iface a0 a1 a2 a3 a4 k hk1
      obtain ⟨c, hc⟩ : ∃ c, c = Is.cd k := ⟨_, rfl⟩
      rw [hev, ← hc] at HC
      rw [← hc] at HA
      rw [hev]
      clear hg hev hc hk1 hk5 h3
      go_wp2_with fail
      refine HC.mono ?_
      rintro e w9 ⟨rfl, b9⟩
      have t0 : w9.cell? ⟨w.heap.size + 1, 0, none⟩ = some (.slice none 0 0) := (b9.cell (by show w.heap.size + 1 < _; omega)).trans p0
      have t1 : w9.cell? ⟨w.heap.size + 1, 1, none⟩ = some (.int .i64 0) := (b9.cell (by show w.heap.size + 1 < _; omega)).trans p1
      have tf : ∀ j, w9.frozen? ⟨w.heap.size + 1, j, none⟩ = false := fun j => (b9.frozen (by show w.heap.size + 1 < _; omega)).trans (pf j)
      have E9 := Fk.hide (FIN.out w9 (.slice none 0 0) [] c (B2.out.trans (b9.mono B2.out.size)) (Fk.own_nil _ _ _))
      clear HC b9 p0 p1 pf
      go_wp2_with fail
      exact bodyPost_ret (v := .agg #[.slice none 0 0, .int .i64 c]) (by simp [results, Tryz.results5, go_sem, t0, t1] <;> rfl) rfl ⟨⟨_, _, _, rfl, E9.out.1, HA.out⟩, E9.out.2⟩
    · have hfitM := Fk.append_fit HR.out hg (by rw [Jn.opn_name]; exact Jn.opn_yes HR.out)
      cases sy with
      | false =>
        have HA : Hid (∀ R, Fk.Rises R → (∀ f, f ∈ R ↔ f ∈ M) → Fk.Ans (Jn.oAdd L t) (Jn.resAdd L t false) R 0) := fun R h1 h2 => .inr (.inr ⟨Jn.oAdd_ok HR.out h3, .inr ⟨M, by unfold Jn.resAdd; rw [hg]; simp, rfl, h1, h2⟩⟩)
        have HC := outcome_ok b (L.length + 2) D' _ w2 m2 M2 hfitM.1 hfitM.2
        clear hg hfitM h3
        go_wp2_with fail
        refine HC.mono ?_
        rintro e w9 ⟨⟨u, R, rfl, ho, hr, hmm⟩, b9⟩
        have HAR := Fk.hide (HA.out R hr hmm)
        clear HA hr hmm HC
        obtain ⟨ua, uc, rfl⟩ := ho.slice
        have t0 : w9.cell? ⟨w.heap.size + 1, 0, none⟩ = some (.slice none 0 0) := (b9.cell (by show w.heap.size + 1 < _; omega)).trans p0
        have t1 : w9.cell? ⟨w.heap.size + 1, 1, none⟩ = some (.int .i64 0) := (b9.cell (by show w.heap.size + 1 < _; omega)).trans p1
        have tf : ∀ j, w9.frozen? ⟨w.heap.size + 1, j, none⟩ = false := fun j => (b9.frozen (by show w.heap.size + 1 < _; omega)).trans (pf j)
        have E9 := Fk.hide (FIN.out w9 _ _ 0 (B2.out.trans (b9.mono B2.out.size)) (ho.mono (by omega)))
        clear b9 p0 p1 pf ho
        obtain ⟨rl, hrl⟩ : ∃ rl, rl = R.length := ⟨_, rfl⟩
        rw [← hrl] at E9
        rw [← hrl]
        clear hrl
        go_wp2_with fail
        exact bodyPost_ret (v := .agg #[.slice ua rl uc, .int .i64 0]) (by simp [results, Tryz.results5, go_sem, t0, t1] <;> rfl) rfl ⟨⟨_, _, _, rfl, E9.out.1, HAR.out⟩, E9.out.2⟩
      | true =>
        obtain ⟨d, x, hMe⟩ := Jn.append_mem hg
        have hget := Jn.get_one (L := L) (d := d) (s := x) M (fun g => by rw [hMe])
        have HG := Fk.hide hget
        have HA : Hid (∀ R, Fk.Rises R → (∀ f, f ∈ R ↔ f ∈ Fk.without M Jn.name ++ [(Jn.name, d, (d.size : Int))]) → Fk.Ans (Jn.oAdd L t) (Jn.resAdd L t true) R 0) := fun R h1 h2 => .inr (.inr ⟨Jn.oAdd_ok HR.out h3, .inr ⟨_, by unfold Jn.resAdd; rw [hg]; simp only [if_true]; unfold Fk.resSync; rw [hget], rfl, h1, h2⟩⟩)
        have hfit2 : (Fk.without M Jn.name ++ [(Jn.name, d, (d.size : Int))]).length ≤ 1000 ∧ ∀ f ∈ Fk.without M Jn.name ++ [(Jn.name, d, (d.size : Int))], f.1.size ≤ 1073741824 ∧ f.2.1.size ≤ 1073741824 := by
          have hw := Fk.without_lt hget
          refine ⟨by simp; have := hfitM.1; omega, fun f hf => ?_⟩
          rcases List.mem_append.1 hf with h | h
          · exact hfitM.2 f (Fk.without_sub f h)
          · have := hfitM.2 _ (Fk.get_some hget).1
            rw [List.mem_singleton.1 h]
            exact this
        have HF2 := Fk.hide hfit2
        clear hg hfitM h3 hMe hfit2 hget
        go_wp2_with fail
        refine (sync_any b (L.length + 2) D' M Jn.name a0 a1 a2 a3 a4 _ m2 M2 (by omega) (by decide) E2.out).mono ?_
        rintro e w4 ⟨h4, g4⟩
        have hne4 : w.heap.size + 1 ≠ b := by omega
        have B4 : Hid (Below w.heap.size w w4) := B2.out.grown g4 B2.out.size (fun k hk => by cases hk; omega)
        have r0 : w4.cell? ⟨w.heap.size + 1, 0, none⟩ = some (.slice none 0 0) := g4.cell p0 (by simp [hne4])
        have r1 : w4.cell? ⟨w.heap.size + 1, 1, none⟩ = some (.int .i64 0) := g4.cell p1 (by simp [hne4])
        have rf : ∀ j, w4.frozen? ⟨w.heap.size + 1, j, none⟩ = false := fun j => (World.frozen?_of_block (w := w2) (g4.block _ (by show w.heap.size + 1 < _; omega) (by simp [hne4]))).trans (pf j)
        have hs4 : w.heap.size + 2 ≤ w4.heap.size := by have := g4.size; omega
        clear p0 p1 pf
        obtain ⟨p0, p1, pf⟩ : _ ∧ _ ∧ _ := ⟨r0, r1, rf⟩
        clear r0 r1 rf
        clear g4 m2 M2
        rcases h4 with ⟨h4, _⟩ | ⟨f, D2, h4, rfl, m4, M4⟩
        · exact absurd h4 (by rw [HG.out]; simp)
        rw [HG.out] at h4
        obtain rfl := Option.some.inj h4
        have HC := outcome_ok b (L.length + 2 + 1) D2 _ w4 m4 M4 HF2.out.1 HF2.out.2
        clear h4 m4 M4
        go_wp2_with fail
        refine HC.mono ?_
        rintro e w9 ⟨⟨u, R, rfl, ho, hr, hmm⟩, b9⟩
        have HAR := Fk.hide (HA.out R hr hmm)
        clear HA hr hmm HC
        obtain ⟨ua, uc, rfl⟩ := ho.slice
        have t0 : w9.cell? ⟨w.heap.size + 1, 0, none⟩ = some (.slice none 0 0) := (b9.cell (by show w.heap.size + 1 < _; omega)).trans p0
        have t1 : w9.cell? ⟨w.heap.size + 1, 1, none⟩ = some (.int .i64 0) := (b9.cell (by show w.heap.size + 1 < _; omega)).trans p1
        have tf : ∀ j, w9.frozen? ⟨w.heap.size + 1, j, none⟩ = false := fun j => (b9.frozen (by show w.heap.size + 1 < _; omega)).trans (pf j)
        have E9 := Fk.hide (FIN.out w9 _ _ 0 (B4.out.trans (b9.mono B4.out.size)) (ho.mono (by omega)))
        clear b9 p0 p1 pf ho
        obtain ⟨rl, hrl⟩ : ∃ rl, rl = R.length := ⟨_, rfl⟩
        rw [← hrl] at E9
        rw [← hrl]
        clear hrl
        go_wp2_with fail
        exact bodyPost_ret (v := .agg #[.slice ua rl uc, .int .i64 0]) (by simp [results, Tryz.results5, go_sem, t0, t1] <;> rfl) rfl ⟨⟨_, _, _, rfl, E9.out.1, HAR.out⟩, E9.out.2⟩
  · obtain ⟨h2, hr⟩ := Jn.opn_two h
    have HC := outcome_err 2 none a0 a1 a2 a3 a4 w1 (by decide) (by decide) E1.out
    have HA : Hid (Fk.Ans (Jn.oAdd L t) (Jn.resAdd L t sy) [] 1) := .inr (.inl ⟨Jn.oAdd_ill HT.out hr, rfl, rfl⟩)
    rw [h2]
    unfold Is.er Is.cd at HC
    unfold Is.er
    clear h h2 hr
    go_wp2_with fail
    refine HC.mono ?_
    rintro e w9 ⟨rfl, b9⟩
    have t0 : w9.cell? ⟨w.heap.size + 1, 0, none⟩ = some (.slice none 0 0) := (b9.cell (by show w.heap.size + 1 < _; omega)).trans p0
    have t1 : w9.cell? ⟨w.heap.size + 1, 1, none⟩ = some (.int .i64 0) := (b9.cell (by show w.heap.size + 1 < _; omega)).trans p1
    have tf : ∀ j, w9.frozen? ⟨w.heap.size + 1, j, none⟩ = false := fun j => (b9.frozen (by show w.heap.size + 1 < _; omega)).trans (pf j)
    have E9 := Fk.hide (FIN.out w9 (.slice none 0 0) [] 1 (B1.out.trans (b9.mono B1.out.size)) (Fk.own_nil _ _ _))
    clear HC b9 p0 p1 pf
    go_wp2_with fail
    exact bodyPost_ret (v := .agg #[.slice none 0 0, .int .i64 1]) (by simp [results, Tryz.results5, go_sem, t0, t1] <;> rfl) rfl ⟨⟨_, _, _, rfl, E9.out.1, HA.out⟩, E9.out.2⟩
end Go.Proofs.YtojdfdlbdpdlkaaGreatDoor

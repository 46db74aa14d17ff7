/- The walk of the specification's JournalDrop. The walks of the program's JournalDrop. -/
import Derived.Test.YtojdfdlbdpdlkaaGreatDoorJoined13
import Derived.Test.YtojdfdlbdpdlkaaGreatDoorJoined17
import Derived.Test.YtojdfdlbdpdlkaaGreatDoorJoined20
import Derived.Test.YtojdfdlbdpdlkaaGreatDoorJoined10
namespace Go.Proofs.YtojdfdlbdpdlkaaGreatDoor
open Go.RowKit Go.Maps
set_option linter.unusedVariables false

set_option maxHeartbeats 2000000 in
theorem journalDrop_spec (v : Value) (L : List Fk.Fl) (w : World) (base : Nat) (ho : Fk.Own w base 75 v L) (hL : Fk.Fits L) (hl : L.length ≤ maxLen) :
    Calls Tryz.prog 14 #[.agg #[v]] w fun e w' => (∃ u R c, e = .returned (.agg #[u, .int .i64 c]) ∧ Fk.Own w' w.heap.size 75 u R ∧ Fk.Ans (Fk.opn L []) (Jn.resDrop L) R c) ∧ Below w.heap.size w w' := by
  obtain ⟨W, hW⟩ : ∃ W, W = (w.alloc (.cells #[v] 25)).alloc (.cells #[.slice none 0 0, .int .i64 0] 29) := ⟨_, rfl⟩
  have b0 : Below w.heap.size w W := by
    rw [hW]
    repeat (first | exact Below.refl _ _ | refine Below.alloc ?_ (by simp <;> omega) _)
  have hsz : W.heap.size = w.heap.size + 2 := by rw [hW]; simp
  have hcell : W.cell? ⟨w.heap.size, 0, none⟩ = some v := by rw [hW, Fk.cellOld _ _ _ _ (by simp), Fk.cellTop _ _ _ _ _ rfl]; rfl
  have q0 : W.cell? ⟨w.heap.size + 1, 0, none⟩ = some (.slice none 0 0) := by rw [hW, Fk.cellTop _ _ _ _ _ (by simp)]; rfl
  have q1 : W.cell? ⟨w.heap.size + 1, 1, none⟩ = some (.int .i64 0) := by rw [hW, Fk.cellTop _ _ _ _ _ (by simp)]; rfl
  have f0 : ∀ j, W.frozen? ⟨w.heap.size + 1, j, none⟩ = false := fun j => by rw [hW, Fk.frozTop _ _ _ _ _ (by simp)]
  have hv' := ho.view.below b0
  have HO0 := Fk.hide (ho.below b0)
  have HW := Fk.hide hW
  clear hW ho
  have hvW := hv'
  obtain ⟨a, cap, rfl, hs⟩ := hv'
  clear hs
  go_enter Tryz.func14, Tryz.ntmps14
  go_wp2_with fail
  rw [← HW.out]
  refine (fsRight_spec _ L _ hvW hL hl).mono ?_
  rintro e w1 ⟨rfl, b1⟩
  have B1 := Fk.hide (b0.trans (b1.mono b0.size))
  have hcell1 : w1.cell? ⟨w.heap.size, 0, none⟩ = some (.slice a L.length cap) := (b1.cell (by show w.heap.size < _; omega)).trans hcell
  have p0 : w1.cell? ⟨w.heap.size + 1, 0, none⟩ = some (.slice none 0 0) := (b1.cell (by show w.heap.size + 1 < _; omega)).trans q0
  have p1 : w1.cell? ⟨w.heap.size + 1, 1, none⟩ = some (.int .i64 0) := (b1.cell (by show w.heap.size + 1 < _; omega)).trans q1
  have pf : ∀ j, w1.frozen? ⟨w.heap.size + 1, j, none⟩ = false := fun j => (b1.frozen (by show w.heap.size + 1 < _; omega)).trans (f0 j)
  have HV1 := Fk.hide (hvW.below b1)
  have HO1 := Fk.hide (HO0.out.below b1)
  have hsz1 : w.heap.size + 2 ≤ w1.heap.size := by have := b1.size; omega
  clear b1 hcell q0 q1 f0 hvW HO0
  have FIN : Hid (∀ (w5 : World) (u : Value) (R : List Fk.Fl) (c : Int), Below w.heap.size w w5 → Fk.Own w5 (w.heap.size + 2) 75 u R → Fk.Own ((w5.setCell ⟨w.heap.size + 1, 0, none⟩ u).setCell ⟨w.heap.size + 1, 1, none⟩ (.int .i64 c)) w.heap.size 75 u R ∧ Below w.heap.size w ((w5.setCell ⟨w.heap.size + 1, 0, none⟩ u).setCell ⟨w.heap.size + 1, 1, none⟩ (.int .i64 c))) :=
    fun w5 u R c hb ho => ⟨Fk.Own.mono (ownsRow_setCell_below (ownsRow_setCell_below ho (by show w.heap.size + 1 < _; omega) _) (by show w.heap.size + 1 < _; omega) _) (by omega), (hb.setCell (by simp) _).setCell (by simp) _⟩
  cases hr : Fk.right L with
  | false =>
    have HA : Hid (Fk.Ans (Fk.opn L []) (Jn.resDrop L) [] 1) := .inr (.inl ⟨Jn.opn_ill hr, rfl, rfl⟩)
    go_wp2_with fail
    refine (l02Ill_any 1 _).mono ?_
    rintro e w9 ⟨rfl, b9⟩
    have t0 : w9.cell? ⟨w.heap.size + 1, 0, none⟩ = some (.slice none 0 0) := (b9.cell (by show w.heap.size + 1 < _; omega)).trans p0
    have t1 : w9.cell? ⟨w.heap.size + 1, 1, none⟩ = some (.int .i64 0) := (b9.cell (by show w.heap.size + 1 < _; omega)).trans p1
    have tf : ∀ j, w9.frozen? ⟨w.heap.size + 1, j, none⟩ = false := fun j => (b9.frozen (by show w.heap.size + 1 < _; omega)).trans (pf j)
    have E9 := Fk.hide (FIN.out w9 (.slice none 0 0) [] 1 (B1.out.trans (b9.mono B1.out.size)) (Fk.own_nil _ _ _))
    clear b9 p0 p1 pf
    go_wp2_with fail
    exact bodyPost_ret (v := .agg #[.slice none 0 0, .int .i64 1]) (by simp [results, Tryz.results14, go_sem, t0, t1] <;> rfl) rfl ⟨⟨_, _, _, rfl, E9.out.1, HA.out⟩, E9.out.2⟩
  | true =>
    have h12 := (Fk.right_inv L hr).1
    have HR := Fk.hide hr
    clear hr
    go_wp2_with fail
    refine (l02File_any _ L Jn.name _ HV1.out hl).mono ?_
    rintro e w2 ⟨h2, b2⟩
    have hcell2 : w2.cell? ⟨w.heap.size, 0, none⟩ = some (.slice a L.length cap) := (b2.cell (by show w.heap.size < _; omega)).trans hcell1
    have HO2 := Fk.hide (HO1.out.below b2)
    have hsz2 : w.heap.size + 2 ≤ w2.heap.size := by have := b2.size; omega
    have B2 := Fk.hide (B1.out.trans (b2.mono B1.out.size))
    replace p0 : w2.cell? ⟨w.heap.size + 1, 0, none⟩ = some (.slice none 0 0) := (b2.cell (by show w.heap.size + 1 < _; omega)).trans p0
    replace p1 : w2.cell? ⟨w.heap.size + 1, 1, none⟩ = some (.int .i64 0) := (b2.cell (by show w.heap.size + 1 < _; omega)).trans p1
    replace pf : ∀ j, w2.frozen? ⟨w.heap.size + 1, j, none⟩ = false := fun j => (b2.frozen (by show w.heap.size + 1 < _; omega)).trans (pf j)
    clear b2 hcell1 HV1 HO1
    rcases h2 with ⟨k, rfl, hk, hk1, hk2⟩ | ⟨rfl, hk⟩
    · have HG := Fk.hide (Jn.get_at hk hk1 hk2)
      clear hk hk1 hk2
      go_wp2_with fail
      refine (fsRemove_spec _ L Jn.name _ base HO2.out hL hl (by decide)).mono ?_
      rintro e w9 ⟨⟨u, R, c, rfl, ho, hA⟩, b9⟩
      have HA := Fk.hide (Jn.drop_of_remove HG.out hA)
      clear hA
      obtain ⟨ua, uc, rfl⟩ := ho.slice
      have t0 : w9.cell? ⟨w.heap.size + 1, 0, none⟩ = some (.slice none 0 0) := (b9.cell (by show w.heap.size + 1 < _; omega)).trans p0
      have t1 : w9.cell? ⟨w.heap.size + 1, 1, none⟩ = some (.int .i64 0) := (b9.cell (by show w.heap.size + 1 < _; omega)).trans p1
      have tf : ∀ j, w9.frozen? ⟨w.heap.size + 1, j, none⟩ = false := fun j => (b9.frozen (by show w.heap.size + 1 < _; omega)).trans (pf j)
      have E9 := Fk.hide (FIN.out w9 _ _ c (B2.out.trans (b9.mono B2.out.size)) (ho.mono (by omega)))
      clear b9 p0 p1 pf ho
      obtain ⟨rl, hrl⟩ : ∃ rl, rl = R.length := ⟨_, rfl⟩
      rw [← hrl] at E9
      rw [← hrl]
      clear hrl
      go_wp2_with fail
      exact bodyPost_ret (v := .agg #[.slice ua rl uc, .int .i64 c]) (by simp [results, Tryz.results14, go_sem, t0, t1] <;> rfl) rfl ⟨⟨_, _, _, rfl, E9.out.1, HA.out⟩, E9.out.2⟩
    · have HA := Fk.hide (Jn.drop_same HR.out (Fk.get_no L Jn.name hk))
      have HOv := HO2.out.view
      have HOs := HO2.out.shut
      clear hk
      go_wp2_with fail
      refine (l02Copy_any _ L _ HOv HOs (by omega)).mono ?_
      rintro e w9 ⟨⟨u, rfl, ho⟩, b9⟩
      clear HOv HOs
      obtain ⟨ua, uc, rfl⟩ := ho.slice
      have t0 : w9.cell? ⟨w.heap.size + 1, 0, none⟩ = some (.slice none 0 0) := (b9.cell (by show w.heap.size + 1 < _; omega)).trans p0
      have t1 : w9.cell? ⟨w.heap.size + 1, 1, none⟩ = some (.int .i64 0) := (b9.cell (by show w.heap.size + 1 < _; omega)).trans p1
      have tf : ∀ j, w9.frozen? ⟨w.heap.size + 1, j, none⟩ = false := fun j => (b9.frozen (by show w.heap.size + 1 < _; omega)).trans (pf j)
      have E9 := Fk.hide (FIN.out w9 _ _ 0 (B2.out.trans (b9.mono B2.out.size)) (ho.mono (by omega)))
      clear b9 p0 p1 pf ho
      obtain ⟨rl, hrl⟩ : ∃ rl, rl = L.length := ⟨_, rfl⟩
      rw [← hrl] at E9
      rw [← hrl]
      clear hrl
      go_wp2_with fail
      exact bodyPost_ret (v := .agg #[.slice ua rl uc, .int .i64 0]) (by simp [results, Tryz.results14, go_sem, t0, t1] <;> rfl) rfl ⟨⟨_, _, _, rfl, E9.out.1, HA.out⟩, E9.out.2⟩
end Go.Proofs.YtojdfdlbdpdlkaaGreatDoor

namespace Go.Proofs.YtojdfdlbdpdlkaaGreatDoor
open Go.RowKit Go.Maps
set_option linter.unusedVariables false

set_option maxHeartbeats 2000000 in
theorem dropJournal_any (b n : Nat) (D : DataW Unit) (M : List Fk.Fl) (a0 a1 a2 a3 a4 : Addr) (w : World) (hm : w.ownsMap Tryz.prog 9 Fk.rdFile b n D) (hM : Fk.Mp D M) (hnn : n ≤ 1000) (hE : Is.Errs w a0 a1 a2 a3 a4) :
    Calls Tryz.prog 44 #[.map (some b)] w fun e w' =>
      ((Fk.get M Jn.name = none ∧ e = .returned (Is.er a0 a1 a2 a3 a4 3)) ∨ (∃ f D', Fk.get M Jn.name = some f ∧ e = .returned .nilIface ∧ w'.ownsMap Tryz.prog 9 Fk.rdFile b (n + 1) D' ∧ Fk.Mp D' (Fk.without M Jn.name))) ∧ w.grownBy w' (some b) := by
  go_enter Tryz.func44, Tryz.ntmps44
  go_wp2_with fail
  refine (remove_any b n D M Jn.name a0 a1 a2 a3 a4 _ hm hM hnn (by decide) hE).mono ?_
  rintro e w1 ⟨h1, g1⟩
  have G1 := Fk.hide g1
  clear g1
  rcases h1 with ⟨hg, rfl⟩ | ⟨f, D', hg, rfl, hm', hM'⟩
  · have HG := Fk.hide hg
    clear hg
    unfold Is.er
    go_wp2_with fail
    go_ret
    exact ⟨.inl ⟨HG.out, rfl⟩, G1.out⟩
  · have HG := Fk.hide hg
    have HM := Fk.hide hM'
    have HO := Fk.hide hm'
    clear hg hM' hm'
    go_wp2_with fail
    go_ret
    exact ⟨.inr ⟨f, D', HG.out, rfl, HO.out, HM.out⟩, G1.out⟩

set_option maxHeartbeats 4000000 in
theorem changeDrop_any (v : Value) (L : List Fk.Fl) (a0 a1 a2 a3 a4 : Addr) (w : World) (hv : Fk.View w v L) (hL : Fk.Fits L) (hl : L.length ≤ maxLen) (hE : Is.Errs w a0 a1 a2 a3 a4) :
    Calls Tryz.prog 30 #[.agg #[v], .func (.func 44) #[] #[]] w fun e w' => (∃ u R c, e = .returned (.agg #[u, .int .i64 c]) ∧ Fk.Own w' w.heap.size 75 u R ∧ Fk.Ans (Fk.opn L []) (Jn.resDrop L) R c) ∧ Below w.heap.size w w' := by
  obtain ⟨W, hW⟩ : ∃ W, W = (w.alloc (.cells #[v] 25)).alloc (.cells #[.slice none 0 0, .int .i64 0] 29) := ⟨_, rfl⟩
  have b0 : Below w.heap.size w W := by
    rw [hW]
    repeat (first | exact Below.refl _ _ | refine Below.alloc ?_ (by simp <;> omega) _)
  have hsz : W.heap.size = w.heap.size + 2 := by rw [hW]; simp
  have hcell : W.cell? ⟨w.heap.size, 0, none⟩ = some v := by rw [hW, Fk.cellOld _ _ _ _ (by simp), Fk.cellTop _ _ _ _ _ rfl]; rfl
  have q0 : W.cell? ⟨w.heap.size + 1, 0, none⟩ = some (.slice none 0 0) := by rw [hW, Fk.cellTop _ _ _ _ _ (by simp)]; rfl
  have q1 : W.cell? ⟨w.heap.size + 1, 1, none⟩ = some (.int .i64 0) := by rw [hW, Fk.cellTop _ _ _ _ _ (by simp)]; rfl
  have f0 : ∀ j, W.frozen? ⟨w.heap.size + 1, j, none⟩ = false := fun j => by rw [hW, Fk.frozTop _ _ _ _ _ (by simp)]
  have hv' := hv.below b0
  have hE' := hE.below b0
  have HW := Fk.hide hW
  clear hW hv hE
  have hvW := hv'
  obtain ⟨a, cap, rfl, hs⟩ := hv'
  clear hs
  go_enter Tryz.func30, Tryz.ntmps30
  go_wp2_with fail
  rw [← HW.out]
  refine (open_none _ L a0 a1 a2 a3 a4 _ hvW hL hl hE').mono ?_
  rintro e w1 ⟨h1, b1⟩
  have B1 := Fk.hide (b0.trans (b1.mono b0.size))
  have hcell1 : w1.cell? ⟨w.heap.size, 0, none⟩ = some (.slice a L.length cap) := (b1.cell (by show w.heap.size < _; omega)).trans hcell
  have p0 : w1.cell? ⟨w.heap.size + 1, 0, none⟩ = some (.slice none 0 0) := (b1.cell (by show w.heap.size + 1 < _; omega)).trans q0
  have p1 : w1.cell? ⟨w.heap.size + 1, 1, none⟩ = some (.int .i64 0) := (b1.cell (by show w.heap.size + 1 < _; omega)).trans q1
  have pf : ∀ j, w1.frozen? ⟨w.heap.size + 1, j, none⟩ = false := fun j => (b1.frozen (by show w.heap.size + 1 < _; omega)).trans (f0 j)
  have E1 := Fk.hide (hE'.below b1)
  have hsz1 : w.heap.size + 2 ≤ w1.heap.size := by have := b1.size; omega
  clear b1 hcell hcell1 q0 q1 f0 hvW hE'
  have FIN : Hid (∀ (w5 : World) (u : Value) (R : List Fk.Fl) (c : Int), Below w.heap.size w w5 → Fk.Own w5 (w.heap.size + 2) 75 u R → Fk.Own ((w5.setCell ⟨w.heap.size + 1, 0, none⟩ u).setCell ⟨w.heap.size + 1, 1, none⟩ (.int .i64 c)) w.heap.size 75 u R ∧ Below w.heap.size w ((w5.setCell ⟨w.heap.size + 1, 0, none⟩ u).setCell ⟨w.heap.size + 1, 1, none⟩ (.int .i64 c))) :=
    fun w5 u R c hb ho => ⟨Fk.Own.mono (ownsRow_setCell_below (ownsRow_setCell_below ho (by show w.heap.size + 1 < _; omega) _) (by show w.heap.size + 1 < _; omega) _) (by omega), (hb.setCell (by simp) _).setCell (by simp) _⟩
  rcases h1 with ⟨h, b, D, rfl, hown, hM, hb⟩ | ⟨h, rfl⟩
  · have hR := Fk.opn_right L [] h
    have HR := Fk.hide hR
    have h12 := (Fk.right_inv L hR).1
    have hfit : ∀ f ∈ L, f.1.size ≤ 1073741824 ∧ f.2.1.size ≤ 1073741824 := fun f hf => by have := Fk.right_fit hR f hf; omega
    clear h hR
    have HM := Fk.hide hM
    go_wp2_with fail
    refine (find_any b L.length D L Jn.name a0 a1 a2 a3 a4 _ hown hM (by decide) E1.out).mono ?_
    rintro e w2 ⟨h2, b2⟩
    have m2 := Fk.map_below hown b2
    have E2 := Fk.hide (E1.out.below b2)
    have hsz2 : w.heap.size + 2 ≤ w2.heap.size := by have := b2.size; omega
    have hbz : b < w2.heap.size := m2.lt
    have B2 := Fk.hide (B1.out.trans (b2.mono B1.out.size))
    replace p0 : w2.cell? ⟨w.heap.size + 1, 0, none⟩ = some (.slice none 0 0) := (b2.cell (by show w.heap.size + 1 < _; omega)).trans p0
    replace p1 : w2.cell? ⟨w.heap.size + 1, 1, none⟩ = some (.int .i64 0) := (b2.cell (by show w.heap.size + 1 < _; omega)).trans p1
    replace pf : ∀ j, w2.frozen? ⟨w.heap.size + 1, j, none⟩ = false := fun j => (b2.frozen (by show w.heap.size + 1 < _; omega)).trans (pf j)
    clear b2 hown hM
    rcases h2 with ⟨⟨fa, fb, fc⟩, hg, rfl⟩ | ⟨hg, rfl⟩
    · obtain rfl : fa = Jn.name := (Fk.get_some hg).2
      have HG := Fk.hide hg
      clear hg
      go_wp2_with fail
      obtain ⟨X, hX⟩ : ∃ X, X = w2.alloc (.cells #[.string Jn.name, .string fb, .int .i64 fc] 75) := ⟨_, rfl⟩
      have kX : Below w2.heap.size w2 X := by rw [hX]; exact (Below.refl _ _).alloc (Nat.le_refl _) _
      rw [← hX]
      have hszX : w.heap.size + 2 ≤ X.heap.size := by have := kX.size; omega
      have mX := Fk.map_below m2 kX
      have EX := Fk.hide (E2.out.below kX)
      have B3 := Fk.hide (B2.out.trans (kX.mono B2.out.size))
      replace p0 : X.cell? ⟨w.heap.size + 1, 0, none⟩ = some (.slice none 0 0) := (kX.cell (by show w.heap.size + 1 < _; omega)).trans p0
      replace p1 : X.cell? ⟨w.heap.size + 1, 1, none⟩ = some (.int .i64 0) := (kX.cell (by show w.heap.size + 1 < _; omega)).trans p1
      replace pf : ∀ j, X.frozen? ⟨w.heap.size + 1, j, none⟩ = false := fun j => (kX.frozen (by show w.heap.size + 1 < _; omega)).trans (pf j)
      clear kX hX m2
      refine (dropJournal_any b L.length D L a0 a1 a2 a3 a4 _ mX HM.out (by omega) EX.out).mono ?_
      rintro e w4 ⟨h4, g4⟩
      have hne : w.heap.size + 1 ≠ b := by omega
      have B4 : Hid (Below w.heap.size w w4) := B3.out.grown g4 B3.out.size (fun k hk => by cases hk; omega)
      have r0 : w4.cell? ⟨w.heap.size + 1, 0, none⟩ = some (.slice none 0 0) := g4.cell p0 (by simp [hne])
      have r1 : w4.cell? ⟨w.heap.size + 1, 1, none⟩ = some (.int .i64 0) := g4.cell p1 (by simp [hne])
      have rf : ∀ j, w4.frozen? ⟨w.heap.size + 1, j, none⟩ = false := fun j => (World.frozen?_of_block (w := X) (g4.block _ (by show w.heap.size + 1 < _; omega) (by simp [hne]))).trans (pf j)
      have hs4 : w.heap.size + 2 ≤ w4.heap.size := by have := g4.size; omega
      clear p0 p1 pf mX g4
      obtain ⟨p0, p1, pf⟩ : _ ∧ _ ∧ _ := ⟨r0, r1, rf⟩
      clear r0 r1 rf
      rcases h4 with ⟨h4, _⟩ | ⟨f, D', h4, rfl, m4, M4⟩
      · exact absurd h4 (by rw [HG.out]; simp)
      have hmem : ∀ f ∈ Fk.without L Jn.name, f.1.size ≤ 1073741824 ∧ f.2.1.size ≤ 1073741824 := fun f hf => hfit f (Fk.without_sub f hf)
      have hlen : (Fk.without L Jn.name).length ≤ 1000 := by have := Fk.without_len L Jn.name; omega
      have HA := Fk.hide (show ∀ R, Fk.Rises R → (∀ g, g ∈ R ↔ g ∈ Fk.without L Jn.name) → Fk.Ans (Fk.opn L []) (Jn.resDrop L) R 0 from fun R h1 h2 => .inr (.inr ⟨Jn.opn_yes HR.out, .inr ⟨_, rfl, rfl, h1, h2⟩⟩))
      have HC := outcome_ok b (L.length + 1) D' _ w4 m4 M4 hlen hmem
      clear h4 m4 hmem hlen M4
      go_wp2_with fail
      refine HC.mono ?_
      rintro e w9 ⟨⟨u, R, rfl, ho, hr, hmm⟩, b9⟩
      have HAR := Fk.hide (HA.out R hr hmm)
      clear HA hr hmm HC
      obtain ⟨ua, uc, rfl⟩ := ho.slice
      have t0 : w9.cell? ⟨w.heap.size + 1, 0, none⟩ = some (.slice none 0 0) := (b9.cell (by show w.heap.size + 1 < _; omega)).trans p0
      have t1 : w9.cell? ⟨w.heap.size + 1, 1, none⟩ = some (.int .i64 0) := (b9.cell (by show w.heap.size + 1 < _; omega)).trans p1
      have tf : ∀ j, w9.frozen? ⟨w.heap.size + 1, j, none⟩ = false := fun j => (b9.frozen (by show w.heap.size + 1 < _; omega)).trans (pf j)
      have E9 := Fk.hide (FIN.out w9 _ _ 0 (B4.out.trans (b9.mono B4.out.size)) (ho.mono (by omega)))
      clear b9 p0 p1 pf ho
      obtain ⟨rl, hrl⟩ : ∃ rl, rl = R.length := ⟨_, rfl⟩
      rw [← hrl] at E9
      rw [← hrl]
      clear hrl
      go_wp2_with fail
      exact bodyPost_ret (v := .agg #[.slice ua rl uc, .int .i64 0]) (by simp [results, Tryz.results30, go_sem, t0, t1] <;> rfl) rfl ⟨⟨_, _, _, rfl, E9.out.1, HAR.out⟩, E9.out.2⟩
    · have HA := Fk.hide (show ∀ R, Fk.Rises R → (∀ g, g ∈ R ↔ g ∈ L) → Fk.Ans (Fk.opn L []) (Jn.resDrop L) R 0 from fun R h1 h2 => .inr (.inr ⟨Jn.opn_yes HR.out, .inr ⟨L, by simp only [Jn.resDrop, Jn.without_none hg], rfl, h1, h2⟩⟩))
      unfold Is.er
      clear hg
      go_wp2_with fail
      obtain ⟨X, hX⟩ : ∃ X, X = w2.alloc (.cells #[.string ByteArray.empty, .string ByteArray.empty, .int .i64 0] 75) := ⟨_, rfl⟩
      have kX : Below w2.heap.size w2 X := by rw [hX]; exact (Below.refl _ _).alloc (Nat.le_refl _) _
      rw [← hX]
      have hszX : w.heap.size + 2 ≤ X.heap.size := by have := kX.size; omega
      have mX := Fk.map_below m2 kX
      have B3 := Fk.hide (B2.out.trans (kX.mono B2.out.size))
      replace p0 : X.cell? ⟨w.heap.size + 1, 0, none⟩ = some (.slice none 0 0) := (kX.cell (by show w.heap.size + 1 < _; omega)).trans p0
      replace p1 : X.cell? ⟨w.heap.size + 1, 1, none⟩ = some (.int .i64 0) := (kX.cell (by show w.heap.size + 1 < _; omega)).trans p1
      replace pf : ∀ j, X.frozen? ⟨w.heap.size + 1, j, none⟩ = false := fun j => (kX.frozen (by show w.heap.size + 1 < _; omega)).trans (pf j)
      clear kX hX m2
      refine (outcome_ok b L.length D L _ mX HM.out (by omega) hfit).mono ?_
      rintro e w9 ⟨⟨u, R, rfl, ho, hr, hmm⟩, b9⟩
      have HAR := Fk.hide (HA.out R hr hmm)
      clear HA hr hmm
      obtain ⟨ua, uc, rfl⟩ := ho.slice
      have t0 : w9.cell? ⟨w.heap.size + 1, 0, none⟩ = some (.slice none 0 0) := (b9.cell (by show w.heap.size + 1 < _; omega)).trans p0
      have t1 : w9.cell? ⟨w.heap.size + 1, 1, none⟩ = some (.int .i64 0) := (b9.cell (by show w.heap.size + 1 < _; omega)).trans p1
      have tf : ∀ j, w9.frozen? ⟨w.heap.size + 1, j, none⟩ = false := fun j => (b9.frozen (by show w.heap.size + 1 < _; omega)).trans (pf j)
      have E9 := Fk.hide (FIN.out w9 _ _ 0 (B3.out.trans (b9.mono B3.out.size)) (ho.mono (by omega)))
      clear b9 p0 p1 pf ho
      obtain ⟨rl, hrl⟩ : ∃ rl, rl = R.length := ⟨_, rfl⟩
      rw [← hrl] at E9
      rw [← hrl]
      clear hrl
      go_wp2_with fail
      exact bodyPost_ret (v := .agg #[.slice ua rl uc, .int .i64 0]) (by simp [results, Tryz.results30, go_sem, t0, t1] <;> rfl) rfl ⟨⟨_, _, _, rfl, E9.out.1, HAR.out⟩, E9.out.2⟩
  · obtain ⟨h2, hr⟩ := Jn.opn_two h
    have HC := outcome_err 2 none a0 a1 a2 a3 a4 w1 (by decide) (by decide) E1.out
    have HA : Hid (Fk.Ans (Fk.opn L []) (Jn.resDrop L) [] 1) := .inr (.inl ⟨h2, rfl, rfl⟩)
    rw [h2]
    unfold Is.er Is.cd at HC
    unfold Is.er
    clear h h2 hr
    go_wp2_with fail
    refine HC.mono ?_
    rintro e w9 ⟨rfl, b9⟩
    have t0 : w9.cell? ⟨w.heap.size + 1, 0, none⟩ = some (.slice none 0 0) := (b9.cell (by show w.heap.size + 1 < _; omega)).trans p0
    have t1 : w9.cell? ⟨w.heap.size + 1, 1, none⟩ = some (.int .i64 0) := (b9.cell (by show w.heap.size + 1 < _; omega)).trans p1
    have tf : ∀ j, w9.frozen? ⟨w.heap.size + 1, j, none⟩ = false := fun j => (b9.frozen (by show w.heap.size + 1 < _; omega)).trans (pf j)
    have E9 := Fk.hide (FIN.out w9 (.slice none 0 0) [] 1 (B1.out.trans (b9.mono B1.out.size)) (Fk.own_nil _ _ _))
    clear HC b9 p0 p1 pf
    go_wp2_with fail
    exact bodyPost_ret (v := .agg #[.slice none 0 0, .int .i64 1]) (by simp [results, Tryz.results30, go_sem, t0, t1] <;> rfl) rfl ⟨⟨_, _, _, rfl, E9.out.1, HA.out⟩, E9.out.2⟩

set_option maxHeartbeats 2000000 in
theorem journalDrop_impl (v : Value) (L : List Fk.Fl) (a0 a1 a2 a3 a4 : Addr) (w : World) (hv : Fk.View w v L) (hL : Fk.Fits L) (hl : L.length ≤ maxLen) (hE : Is.Errs w a0 a1 a2 a3 a4) :
    Calls Tryz.prog 13 #[.agg #[v]] w fun e w' => (∃ u R c, e = .returned (.agg #[u, .int .i64 c]) ∧ Fk.Own w' w.heap.size 75 u R ∧ Fk.Ans (Fk.opn L []) (Jn.resDrop L) R c) ∧ Below w.heap.size w w' := by
  obtain ⟨W, hW⟩ : ∃ W, W = (w.alloc (.cells #[v] 25)).alloc (.cells #[.slice none 0 0, .int .i64 0] 29) := ⟨_, rfl⟩
  have b0 : Below w.heap.size w W := by
    rw [hW]
    repeat (first | exact Below.refl _ _ | refine Below.alloc ?_ (by simp <;> omega) _)
  have hsz : W.heap.size = w.heap.size + 2 := by rw [hW]; simp
  have hcell : W.cell? ⟨w.heap.size, 0, none⟩ = some v := by rw [hW, Fk.cellOld _ _ _ _ (by simp), Fk.cellTop _ _ _ _ _ rfl]; rfl
  have q0 : W.cell? ⟨w.heap.size + 1, 0, none⟩ = some (.slice none 0 0) := by rw [hW, Fk.cellTop _ _ _ _ _ (by simp)]; rfl
  have q1 : W.cell? ⟨w.heap.size + 1, 1, none⟩ = some (.int .i64 0) := by rw [hW, Fk.cellTop _ _ _ _ _ (by simp)]; rfl
  have f0 : ∀ j, W.frozen? ⟨w.heap.size + 1, j, none⟩ = false := fun j => by rw [hW, Fk.frozTop _ _ _ _ _ (by simp)]
  have hv' := hv.below b0
  have hE' := Fk.hide (hE.below b0)
  have HW := Fk.hide hW
  have HV := Fk.hide hv'
  clear hW hv hE
  obtain ⟨a, cap, rfl, hs⟩ := hv'
  clear hs
  have FIN : Hid (∀ (w5 : World) (u : Value) (R : List Fk.Fl) (c : Int), Below w.heap.size w w5 → Fk.Own w5 (w.heap.size + 2) 75 u R → Fk.Own ((w5.setCell ⟨w.heap.size + 1, 0, none⟩ u).setCell ⟨w.heap.size + 1, 1, none⟩ (.int .i64 c)) w.heap.size 75 u R ∧ Below w.heap.size w ((w5.setCell ⟨w.heap.size + 1, 0, none⟩ u).setCell ⟨w.heap.size + 1, 1, none⟩ (.int .i64 c))) :=
    fun w5 u R c hb ho => ⟨Fk.Own.mono (ownsRow_setCell_below (ownsRow_setCell_below ho (by show w.heap.size + 1 < _; omega) _) (by show w.heap.size + 1 < _; omega) _) (by omega), (hb.setCell (by simp) _).setCell (by simp) _⟩
  go_enter Tryz.func13, Tryz.ntmps13
  go_wp2_with fail
  rw [← HW.out]
  refine (changeDrop_any _ L a0 a1 a2 a3 a4 _ HV.out hL hl hE'.out).mono ?_
  rintro e w9 ⟨⟨u, R, c, rfl, ho, hA⟩, b9⟩
  have HA := Fk.hide hA
  clear hA
  have p0 := q0
  have p1 := q1
  have pf := f0
  have B1 := Fk.hide b0
  have hsz9 := hsz
  clear q0 q1 f0 hcell
  obtain ⟨ua, uc, rfl⟩ := ho.slice
  have t0 : w9.cell? ⟨w.heap.size + 1, 0, none⟩ = some (.slice none 0 0) := (b9.cell (by show w.heap.size + 1 < _; omega)).trans p0
  have t1 : w9.cell? ⟨w.heap.size + 1, 1, none⟩ = some (.int .i64 0) := (b9.cell (by show w.heap.size + 1 < _; omega)).trans p1
  have tf : ∀ j, w9.frozen? ⟨w.heap.size + 1, j, none⟩ = false := fun j => (b9.frozen (by show w.heap.size + 1 < _; omega)).trans (pf j)
  have E9 := Fk.hide (FIN.out w9 _ _ c (B1.out.trans (b9.mono B1.out.size)) (ho.mono (by omega)))
  clear b9 p0 p1 pf ho
  obtain ⟨rl, hrl⟩ : ∃ rl, rl = R.length := ⟨_, rfl⟩
  rw [← hrl] at E9
  rw [← hrl]
  clear hrl
  go_wp2_with fail
  exact bodyPost_ret (v := .agg #[.slice ua rl uc, .int .i64 c]) (by simp [results, Tryz.results13, go_sem, t0, t1] <;> rfl) rfl ⟨⟨_, _, _, rfl, E9.out.1, HA.out⟩, E9.out.2⟩
end Go.Proofs.YtojdfdlbdpdlkaaGreatDoor

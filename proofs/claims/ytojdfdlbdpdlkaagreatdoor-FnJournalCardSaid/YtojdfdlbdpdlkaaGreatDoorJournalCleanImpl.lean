/- The walks of the program's JournalClean. -/
import Derived.Test.YtojdfdlbdpdlkaaGreatDoorJoined22
import Derived.Test.YtojdfdlbdpdlkaaGreatDoorJoined26
import Derived.Test.YtojdfdlbdpdlkaaGreatDoorJoined20
import Derived.Test.YtojdfdlbdpdlkaaGreatDoorJoined10
namespace Go.Proofs.YtojdfdlbdpdlkaaGreatDoor
open Go.RowKit Go.Maps
open Go.WideMaps (keyOf_string_mk)
set_option linter.unusedSimpArgs false
set_option linter.unusedVariables false

set_option maxRecDepth 20000 in
set_option maxHeartbeats 4000000 in
theorem clean_done (b n : Nat) (D : DataW Unit) (M : List Fk.Fl) (f : Fk.Fl) (a0 a1 a2 a3 a4 : Addr) (w : World) (hm : w.ownsMap Tryz.prog 9 Fk.rdFile b n D) (hM : Fk.Mp D M) (hR : Fk.right M = true) (hnn : n ≤ 900) (hf : Fk.get M Jn.name = some f) (hE : Is.Errs w a0 a1 a2 a3 a4) (hE2 : ∀ w', w.grownBy w' (some b) → Is.Errs w' a0 a1 a2 a3 a4) :
    Calls Tryz.prog 31 #[.map (some b)] w fun e w' =>
      (∃ D' N, e = .returned .nilIface ∧ w'.ownsMap Tryz.prog 9 Fk.rdFile b (n + 3) D' ∧ Fk.Mp D' N ∧ (∀ g, g ∈ N ↔ g ∈ Fk.without M Jn.name ++ [(Jn.name, Jn.kept f.2.1, ((Jn.kept f.2.1).size : Int))]) ∧ N.length ≤ M.length + 2) ∧ w.grownBy w' (some b) := by
  have hkey : keyOf Tryz.prog 9 (.string Jn.name) = some (Fk.kl Jn.name) := keyOf_string_mk Tryz.underlying9 (by decide)
  have hd := Jn.dat_fit hR
  have hfd := fun (nm : ByteArray) (sy : Int) => Jn.field_data nm (Jn.dat M) sy
  have HM := Fk.hide hM
  have HR := Fk.hide hR
  have HF := Fk.hide hf
  go_enter Tryz.func31, Tryz.ntmps31
  go_wp2_with (at_lookup; refine Jn.look_dat _ rfl _ _ 52 rfl 9 75 (string_keyed Tryz.underlying9) Tryz.underlying52 (zeroFile _) b n D M rfl hm hM _ rfl hkey ?_; intro nm sy)
  refine (readEntries_any (Jn.dat M) (by omega) _).mono ?_
  rintro e w1 ⟨⟨u, rfl, ho⟩, b1⟩
  have m1 := Fk.map_below hm b1
  have E1 := Fk.hide (hE.below b1)
  have G1 := Fk.hide (Fk.grownBy_below (some b) b1)
  obtain ⟨ua, uc, rfl⟩ := ho.slice
  obtain ⟨ae, hae⟩ : ∃ ae, ae = Jn.endOf (Jn.all (Jn.dat M)) := ⟨_, rfl⟩
  have hC : Fk.resCut M Jn.name ae = .inr (Fk.without M Jn.name ++ [(Jn.name, Jn.kept f.2.1, min f.2.2 (Jn.endOf (Jn.all f.2.1)))]) := by rw [hae]; exact Jn.cut_some hf
  have HC := Fk.hide hC
  obtain ⟨rl, hrl⟩ : ∃ rl, rl = ((Jn.all (Jn.dat M)).map (·.1)).length := ⟨_, rfl⟩
  rw [← hrl, ← hae]
  clear b1 hm ho hM hR hf hfd hkey hrl hae hC
  go_wp2_with fail
  refine (cut_done b n D M Jn.name ae a0 a1 a2 a3 a4 _ m1 HM.out HR.out (by omega) (by decide) E1.out).mono ?_
  rintro e w2 ⟨h2, g2⟩
  have G2 := Fk.hide (Fk.grownBy_trans G1.out g2)
  have E2 := Fk.hide (hE2 w2 G2.out)
  clear g2 m1 E1
  rcases h2 with ⟨k, _, _, hk, _⟩ | ⟨D', M2, hk, rfl, m2, M2'⟩
  · rw [HC.out] at hk; cases hk
  rw [HC.out] at hk
  obtain rfl := Sum.inr.inj hk
  obtain ⟨N, hN, hmN⟩ := Jn.sync_one (L := M) (d := Jn.kept f.2.1) (s := min f.2.2 (Jn.endOf (Jn.all f.2.1))) _ (fun _ => Iff.rfl)
  have hget := Jn.get_one (L := M) (d := Jn.kept f.2.1) (s := min f.2.2 (Jn.endOf (Jn.all f.2.1))) _ (fun _ => Iff.rfl)
  have HN := Fk.hide hN
  have HmN := Fk.hide hmN
  have HG := Fk.hide hget
  have HM2 := Fk.hide M2'
  clear hk hN hmN hget M2'
  go_wp2_with fail
  refine (sync_any b (n + 2) D' _ Jn.name a0 a1 a2 a3 a4 _ m2 HM2.out (by omega) (by decide) E2.out).mono ?_
  rintro e w3 ⟨h3, g3⟩
  have G3 := Fk.hide (Fk.grownBy_trans G2.out g3)
  clear g3 m2
  rcases h3 with ⟨h3, _⟩ | ⟨x, D2, h3, rfl, m3, M3⟩
  · rw [HG.out] at h3; cases h3
  rw [HG.out] at h3
  obtain rfl := Option.some.inj h3
  have hs := HN.out
  unfold Fk.resSync at hs
  rw [HG.out] at hs
  obtain rfl := Sum.inr.inj hs
  have HLN : Hid ((Fk.without (Fk.without M Jn.name ++ [(Jn.name, Jn.kept f.2.1, min f.2.2 (Jn.endOf (Jn.all f.2.1)))]) Jn.name ++ [(Jn.name, Jn.kept f.2.1, ((Jn.kept f.2.1).size : Int))]).length ≤ M.length + 2) := by
    have h1 := Fk.without_len (Fk.without M Jn.name ++ [(Jn.name, Jn.kept f.2.1, min f.2.2 (Jn.endOf (Jn.all f.2.1)))]) Jn.name
    have h2 := Fk.without_len M Jn.name
    show _ ≤ _
    simp only [List.length_append, List.length_singleton] at h1 ⊢
    omega
  have HM3 := Fk.hide M3
  have HO3 := Fk.hide m3
  clear h3 hs M3 m3 HN HG HM2
  go_wp2_with fail
  go_ret
  exact ⟨⟨D2, _, rfl, HO3.out, HM3.out, HmN.out, HLN.out⟩, G3.out⟩

set_option maxHeartbeats 4000000 in
theorem changeClean_any (v : Value) (L : List Fk.Fl) (a0 a1 a2 a3 a4 : Addr) (w : World) (hv : Fk.View w v L) (hL : Fk.Fits L) (hl : L.length ≤ maxLen) (hE : Is.Errs w a0 a1 a2 a3 a4) :
    Calls Tryz.prog 30 #[.agg #[v], .func (.func 31) #[] #[]] w fun e w' => (∃ u R c, e = .returned (.agg #[u, .int .i64 c]) ∧ Fk.Own w' w.heap.size 75 u R ∧ Fk.Ans (Fk.opn L []) (Jn.resClean L) R c) ∧ Below w.heap.size w w' := by
  obtain ⟨W, hW⟩ : ∃ W, W = (w.alloc (.cells #[v] 25)).alloc (.cells #[.slice none 0 0, .int .i64 0] 29) := ⟨_, rfl⟩
  have b0 : Below w.heap.size w W := by
    rw [hW]
    repeat (first | exact Below.refl _ _ | refine Below.alloc ?_ (by simp <;> omega) _)
  have hsz : W.heap.size = w.heap.size + 2 := by rw [hW]; simp
  have hcell : W.cell? ⟨w.heap.size, 0, none⟩ = some v := by rw [hW, Fk.cellOld _ _ _ _ (by simp), Fk.cellTop _ _ _ _ _ rfl]; rfl
  have q0 : W.cell? ⟨w.heap.size + 1, 0, none⟩ = some (.slice none 0 0) := by rw [hW, Fk.cellTop _ _ _ _ _ (by simp)]; rfl
  have q1 : W.cell? ⟨w.heap.size + 1, 1, none⟩ = some (.int .i64 0) := by rw [hW, Fk.cellTop _ _ _ _ _ (by simp)]; rfl
  have f0 : ∀ j, W.frozen? ⟨w.heap.size + 1, j, none⟩ = false := fun j => by rw [hW, Fk.frozTop _ _ _ _ _ (by simp)]
  have hv' := hv.below b0
  have hE' := hE.below b0
  have HW := Fk.hide hW
  have HE0 := Fk.hide hE
  clear hW hv hE
  have hvW := hv'
  obtain ⟨a, cap, rfl, hs⟩ := hv'
  clear hs
  go_enter Tryz.func30, Tryz.ntmps30
  go_wp2_with fail
  rw [← HW.out]
  refine (open_none _ L a0 a1 a2 a3 a4 _ hvW hL hl hE').mono ?_
  rintro e w1 ⟨h1, b1⟩
  have B1 := Fk.hide (b0.trans (b1.mono b0.size))
  have hcell1 : w1.cell? ⟨w.heap.size, 0, none⟩ = some (.slice a L.length cap) := (b1.cell (by show w.heap.size < _; omega)).trans hcell
  have p0 : w1.cell? ⟨w.heap.size + 1, 0, none⟩ = some (.slice none 0 0) := (b1.cell (by show w.heap.size + 1 < _; omega)).trans q0
  have p1 : w1.cell? ⟨w.heap.size + 1, 1, none⟩ = some (.int .i64 0) := (b1.cell (by show w.heap.size + 1 < _; omega)).trans q1
  have pf : ∀ j, w1.frozen? ⟨w.heap.size + 1, j, none⟩ = false := fun j => (b1.frozen (by show w.heap.size + 1 < _; omega)).trans (f0 j)
  have E1 := Fk.hide (hE'.below b1)
  have hsz1 : w.heap.size + 2 ≤ w1.heap.size := by have := b1.size; omega
  clear b1 hcell hcell1 q0 q1 f0 hvW hE'
  have FIN : Hid (∀ (w5 : World) (u : Value) (R : List Fk.Fl) (c : Int), Below w.heap.size w w5 → Fk.Own w5 (w.heap.size + 2) 75 u R → Fk.Own ((w5.setCell ⟨w.heap.size + 1, 0, none⟩ u).setCell ⟨w.heap.size + 1, 1, none⟩ (.int .i64 c)) w.heap.size 75 u R ∧ Below w.heap.size w ((w5.setCell ⟨w.heap.size + 1, 0, none⟩ u).setCell ⟨w.heap.size + 1, 1, none⟩ (.int .i64 c))) :=
    fun w5 u R c hb ho => ⟨Fk.Own.mono (ownsRow_setCell_below (ownsRow_setCell_below ho (by show w.heap.size + 1 < _; omega) _) (by show w.heap.size + 1 < _; omega) _) (by omega), (hb.setCell (by simp) _).setCell (by simp) _⟩
  rcases h1 with ⟨h, b, D, rfl, hown, hM, hb⟩ | ⟨h, rfl⟩
  · have hR := Fk.opn_right L [] h
    have HR := Fk.hide hR
    have h12 := (Fk.right_inv L hR).1
    have hfit : ∀ f ∈ L, f.1.size ≤ 1073741824 ∧ f.2.1.size ≤ 1073741824 := fun f hf => by have := Fk.right_fit hR f hf; omega
    clear h hR
    have HM := Fk.hide hM
    go_wp2_with fail
    refine (find_any b L.length D L Jn.name a0 a1 a2 a3 a4 _ hown hM (by decide) E1.out).mono ?_
    rintro e w2 ⟨h2, b2⟩
    have m2 := Fk.map_below hown b2
    have E2 := Fk.hide (E1.out.below b2)
    have hsz2 : w.heap.size + 2 ≤ w2.heap.size := by have := b2.size; omega
    have hbz : b < w2.heap.size := m2.lt
    have B2 := Fk.hide (B1.out.trans (b2.mono B1.out.size))
    replace p0 : w2.cell? ⟨w.heap.size + 1, 0, none⟩ = some (.slice none 0 0) := (b2.cell (by show w.heap.size + 1 < _; omega)).trans p0
    replace p1 : w2.cell? ⟨w.heap.size + 1, 1, none⟩ = some (.int .i64 0) := (b2.cell (by show w.heap.size + 1 < _; omega)).trans p1
    replace pf : ∀ j, w2.frozen? ⟨w.heap.size + 1, j, none⟩ = false := fun j => (b2.frozen (by show w.heap.size + 1 < _; omega)).trans (pf j)
    clear b2 hown hM
    rcases h2 with ⟨⟨fa, fb, fc⟩, hg, rfl⟩ | ⟨hg, rfl⟩
    · obtain rfl : fa = Jn.name := (Fk.get_some hg).2
      have HG := Fk.hide hg
      clear hg
      go_wp2_with fail
      obtain ⟨X, hX⟩ : ∃ X, X = w2.alloc (.cells #[.string Jn.name, .string fb, .int .i64 fc] 75) := ⟨_, rfl⟩
      have kX : Below w2.heap.size w2 X := by rw [hX]; exact (Below.refl _ _).alloc (Nat.le_refl _) _
      rw [← hX]
      have hszX : w.heap.size + 2 ≤ X.heap.size := by have := kX.size; omega
      have mX := Fk.map_below m2 kX
      have EX := Fk.hide (E2.out.below kX)
      have B3 := Fk.hide (B2.out.trans (kX.mono B2.out.size))
      replace p0 : X.cell? ⟨w.heap.size + 1, 0, none⟩ = some (.slice none 0 0) := (kX.cell (by show w.heap.size + 1 < _; omega)).trans p0
      replace p1 : X.cell? ⟨w.heap.size + 1, 1, none⟩ = some (.int .i64 0) := (kX.cell (by show w.heap.size + 1 < _; omega)).trans p1
      replace pf : ∀ j, X.frozen? ⟨w.heap.size + 1, j, none⟩ = false := fun j => (kX.frozen (by show w.heap.size + 1 < _; omega)).trans (pf j)
      clear kX hX m2
      refine (clean_done b L.length D L (Jn.name, fb, fc) a0 a1 a2 a3 a4 _ mX HM.out HR.out (by omega) HG.out EX.out (fun w' g => HE0.out.below (B3.out.grown g B3.out.size (fun k hk => by cases hk; omega)))).mono ?_
      rintro e w4 ⟨⟨D', N, rfl, m4, M4, hmN, hln⟩, g4⟩
      have hne : w.heap.size + 1 ≠ b := by omega
      have B4 : Hid (Below w.heap.size w w4) := B3.out.grown g4 B3.out.size (fun k hk => by cases hk; omega)
      have r0 : w4.cell? ⟨w.heap.size + 1, 0, none⟩ = some (.slice none 0 0) := g4.cell p0 (by simp [hne])
      have r1 : w4.cell? ⟨w.heap.size + 1, 1, none⟩ = some (.int .i64 0) := g4.cell p1 (by simp [hne])
      have rf : ∀ j, w4.frozen? ⟨w.heap.size + 1, j, none⟩ = false := fun j => (World.frozen?_of_block (w := X) (g4.block _ (by show w.heap.size + 1 < _; omega) (by simp [hne]))).trans (pf j)
      have hs4 : w.heap.size + 2 ≤ w4.heap.size := by have := g4.size; omega
      clear p0 p1 pf mX g4
      obtain ⟨p0, p1, pf⟩ : _ ∧ _ ∧ _ := ⟨r0, r1, rf⟩
      clear r0 r1 rf
      have hks : (Jn.kept fb).size ≤ 1073741824 := by have := (hfit _ (Fk.get_some HG.out).1).2; unfold Jn.kept; rw [ByteArray.size_extract]; simp only at this; omega
      have hmem : ∀ f ∈ N, f.1.size ≤ 1073741824 ∧ f.2.1.size ≤ 1073741824 := fun f hf => by
        rcases List.mem_append.1 ((hmN f).1 hf) with h | h
        · exact hfit f (Fk.without_sub f h)
        · rw [List.mem_singleton.1 h]; exact ⟨(by decide : Jn.name.size ≤ 1073741824), hks⟩
      have hlen : N.length ≤ 1000 := by omega
      have HA := Fk.hide (show ∀ R, Fk.Rises R → (∀ g, g ∈ R ↔ g ∈ N) → Fk.Ans (Fk.opn L []) (Jn.resClean L) R 0 from fun R h1 h2 => .inr (.inr ⟨Jn.opn_yes HR.out, .inr ⟨_, by simp only [Jn.resClean, HG.out], rfl, h1, fun g => (h2 g).trans (hmN g)⟩⟩))
      have HC := outcome_ok b (L.length + 3) D' _ w4 m4 M4 hlen hmem
      clear m4 hmem hlen hln M4 hmN hks
      go_wp2_with fail
      refine HC.mono ?_
      rintro e w9 ⟨⟨u, R, rfl, ho, hr, hmm⟩, b9⟩
      have HAR := Fk.hide (HA.out R hr hmm)
      clear HA hr hmm HC
      obtain ⟨ua, uc, rfl⟩ := ho.slice
      have t0 : w9.cell? ⟨w.heap.size + 1, 0, none⟩ = some (.slice none 0 0) := (b9.cell (by show w.heap.size + 1 < _; omega)).trans p0
      have t1 : w9.cell? ⟨w.heap.size + 1, 1, none⟩ = some (.int .i64 0) := (b9.cell (by show w.heap.size + 1 < _; omega)).trans p1
      have tf : ∀ j, w9.frozen? ⟨w.heap.size + 1, j, none⟩ = false := fun j => (b9.frozen (by show w.heap.size + 1 < _; omega)).trans (pf j)
      have E9 := Fk.hide (FIN.out w9 _ _ 0 (B4.out.trans (b9.mono B4.out.size)) (ho.mono (by omega)))
      clear b9 p0 p1 pf ho
      obtain ⟨rl, hrl⟩ : ∃ rl, rl = R.length := ⟨_, rfl⟩
      rw [← hrl] at E9
      rw [← hrl]
      clear hrl
      go_wp2_with fail
      exact bodyPost_ret (v := .agg #[.slice ua rl uc, .int .i64 0]) (by simp [results, Tryz.results30, go_sem, t0, t1] <;> rfl) rfl ⟨⟨_, _, _, rfl, E9.out.1, HAR.out⟩, E9.out.2⟩
    · have HA := Fk.hide (show ∀ R, Fk.Rises R → (∀ g, g ∈ R ↔ g ∈ L) → Fk.Ans (Fk.opn L []) (Jn.resClean L) R 0 from fun R h1 h2 => .inr (.inr ⟨Jn.opn_yes HR.out, .inr ⟨L, by simp only [Jn.resClean, hg], rfl, h1, h2⟩⟩))
      unfold Is.er
      clear hg
      go_wp2_with fail
      obtain ⟨X, hX⟩ : ∃ X, X = w2.alloc (.cells #[.string ByteArray.empty, .string ByteArray.empty, .int .i64 0] 75) := ⟨_, rfl⟩
      have kX : Below w2.heap.size w2 X := by rw [hX]; exact (Below.refl _ _).alloc (Nat.le_refl _) _
      rw [← hX]
      have hszX : w.heap.size + 2 ≤ X.heap.size := by have := kX.size; omega
      have mX := Fk.map_below m2 kX
      have B3 := Fk.hide (B2.out.trans (kX.mono B2.out.size))
      replace p0 : X.cell? ⟨w.heap.size + 1, 0, none⟩ = some (.slice none 0 0) := (kX.cell (by show w.heap.size + 1 < _; omega)).trans p0
      replace p1 : X.cell? ⟨w.heap.size + 1, 1, none⟩ = some (.int .i64 0) := (kX.cell (by show w.heap.size + 1 < _; omega)).trans p1
      replace pf : ∀ j, X.frozen? ⟨w.heap.size + 1, j, none⟩ = false := fun j => (kX.frozen (by show w.heap.size + 1 < _; omega)).trans (pf j)
      clear kX hX m2
      refine (outcome_ok b L.length D L _ mX HM.out (by omega) hfit).mono ?_
      rintro e w9 ⟨⟨u, R, rfl, ho, hr, hmm⟩, b9⟩
      have HAR := Fk.hide (HA.out R hr hmm)
      clear HA hr hmm
      obtain ⟨ua, uc, rfl⟩ := ho.slice
      have t0 : w9.cell? ⟨w.heap.size + 1, 0, none⟩ = some (.slice none 0 0) := (b9.cell (by show w.heap.size + 1 < _; omega)).trans p0
      have t1 : w9.cell? ⟨w.heap.size + 1, 1, none⟩ = some (.int .i64 0) := (b9.cell (by show w.heap.size + 1 < _; omega)).trans p1
      have tf : ∀ j, w9.frozen? ⟨w.heap.size + 1, j, none⟩ = false := fun j => (b9.frozen (by show w.heap.size + 1 < _; omega)).trans (pf j)
      have E9 := Fk.hide (FIN.out w9 _ _ 0 (B3.out.trans (b9.mono B3.out.size)) (ho.mono (by omega)))
      clear b9 p0 p1 pf ho
      obtain ⟨rl, hrl⟩ : ∃ rl, rl = R.length := ⟨_, rfl⟩
      rw [← hrl] at E9
      rw [← hrl]
      clear hrl
      go_wp2_with fail
      exact bodyPost_ret (v := .agg #[.slice ua rl uc, .int .i64 0]) (by simp [results, Tryz.results30, go_sem, t0, t1] <;> rfl) rfl ⟨⟨_, _, _, rfl, E9.out.1, HAR.out⟩, E9.out.2⟩
  · obtain ⟨h2, hr⟩ := Jn.opn_two h
    have HC := outcome_err 2 none a0 a1 a2 a3 a4 w1 (by decide) (by decide) E1.out
    have HA : Hid (Fk.Ans (Fk.opn L []) (Jn.resClean L) [] 1) := .inr (.inl ⟨h2, rfl, rfl⟩)
    rw [h2]
    unfold Is.er Is.cd at HC
    unfold Is.er
    clear h h2 hr
    go_wp2_with fail
    refine HC.mono ?_
    rintro e w9 ⟨rfl, b9⟩
    have t0 : w9.cell? ⟨w.heap.size + 1, 0, none⟩ = some (.slice none 0 0) := (b9.cell (by show w.heap.size + 1 < _; omega)).trans p0
    have t1 : w9.cell? ⟨w.heap.size + 1, 1, none⟩ = some (.int .i64 0) := (b9.cell (by show w.heap.size + 1 < _; omega)).trans p1
    have tf : ∀ j, w9.frozen? ⟨w.heap.size + 1, j, none⟩ = false := fun j => (b9.frozen (by show w.heap.size + 1 < _; omega)).trans (pf j)
    have E9 := Fk.hide (FIN.out w9 (.slice none 0 0) [] 1 (B1.out.trans (b9.mono B1.out.size)) (Fk.own_nil _ _ _))
    clear HC b9 p0 p1 pf
    go_wp2_with fail
    exact bodyPost_ret (v := .agg #[.slice none 0 0, .int .i64 1]) (by simp [results, Tryz.results30, go_sem, t0, t1] <;> rfl) rfl ⟨⟨_, _, _, rfl, E9.out.1, HA.out⟩, E9.out.2⟩

set_option maxHeartbeats 2000000 in
theorem journalClean_impl (v : Value) (L : List Fk.Fl) (a0 a1 a2 a3 a4 : Addr) (w : World) (hv : Fk.View w v L) (hL : Fk.Fits L) (hl : L.length ≤ maxLen) (hE : Is.Errs w a0 a1 a2 a3 a4) :
    Calls Tryz.prog 7 #[.agg #[v]] w fun e w' => (∃ u R c, e = .returned (.agg #[u, .int .i64 c]) ∧ Fk.Own w' w.heap.size 75 u R ∧ Fk.Ans (Fk.opn L []) (Jn.resClean L) R c) ∧ Below w.heap.size w w' := by
  obtain ⟨W, hW⟩ : ∃ W, W = (w.alloc (.cells #[v] 25)).alloc (.cells #[.slice none 0 0, .int .i64 0] 29) := ⟨_, rfl⟩
  have b0 : Below w.heap.size w W := by
    rw [hW]
    repeat (first | exact Below.refl _ _ | refine Below.alloc ?_ (by simp <;> omega) _)
  have hsz : W.heap.size = w.heap.size + 2 := by rw [hW]; simp
  have hcell : W.cell? ⟨w.heap.size, 0, none⟩ = some v := by rw [hW, Fk.cellOld _ _ _ _ (by simp), Fk.cellTop _ _ _ _ _ rfl]; rfl
  have q0 : W.cell? ⟨w.heap.size + 1, 0, none⟩ = some (.slice none 0 0) := by rw [hW, Fk.cellTop _ _ _ _ _ (by simp)]; rfl
  have q1 : W.cell? ⟨w.heap.size + 1, 1, none⟩ = some (.int .i64 0) := by rw [hW, Fk.cellTop _ _ _ _ _ (by simp)]; rfl
  have f0 : ∀ j, W.frozen? ⟨w.heap.size + 1, j, none⟩ = false := fun j => by rw [hW, Fk.frozTop _ _ _ _ _ (by simp)]
  have hv' := hv.below b0
  have hE' := Fk.hide (hE.below b0)
  have HW := Fk.hide hW
  have HV := Fk.hide hv'
  clear hW hv hE
  obtain ⟨a, cap, rfl, hs⟩ := hv'
  clear hs
  have FIN : Hid (∀ (w5 : World) (u : Value) (R : List Fk.Fl) (c : Int), Below w.heap.size w w5 → Fk.Own w5 (w.heap.size + 2) 75 u R → Fk.Own ((w5.setCell ⟨w.heap.size + 1, 0, none⟩ u).setCell ⟨w.heap.size + 1, 1, none⟩ (.int .i64 c)) w.heap.size 75 u R ∧ Below w.heap.size w ((w5.setCell ⟨w.heap.size + 1, 0, none⟩ u).setCell ⟨w.heap.size + 1, 1, none⟩ (.int .i64 c))) :=
    fun w5 u R c hb ho => ⟨Fk.Own.mono (ownsRow_setCell_below (ownsRow_setCell_below ho (by show w.heap.size + 1 < _; omega) _) (by show w.heap.size + 1 < _; omega) _) (by omega), (hb.setCell (by simp) _).setCell (by simp) _⟩
  go_enter Tryz.func7, Tryz.ntmps7
  go_wp2_with fail
  rw [← HW.out]
  refine (changeClean_any _ L a0 a1 a2 a3 a4 _ HV.out hL hl hE'.out).mono ?_
  rintro e w9 ⟨⟨u, R, c, rfl, ho, hA⟩, b9⟩
  have HA := Fk.hide hA
  clear hA
  have p0 := q0
  have p1 := q1
  have pf := f0
  have B1 := Fk.hide b0
  have hsz9 := hsz
  clear q0 q1 f0 hcell
  obtain ⟨ua, uc, rfl⟩ := ho.slice
  have t0 : w9.cell? ⟨w.heap.size + 1, 0, none⟩ = some (.slice none 0 0) := (b9.cell (by show w.heap.size + 1 < _; omega)).trans p0
  have t1 : w9.cell? ⟨w.heap.size + 1, 1, none⟩ = some (.int .i64 0) := (b9.cell (by show w.heap.size + 1 < _; omega)).trans p1
  have tf : ∀ j, w9.frozen? ⟨w.heap.size + 1, j, none⟩ = false := fun j => (b9.frozen (by show w.heap.size + 1 < _; omega)).trans (pf j)
  have E9 := Fk.hide (FIN.out w9 _ _ c (B1.out.trans (b9.mono B1.out.size)) (ho.mono (by omega)))
  clear b9 p0 p1 pf ho
  obtain ⟨rl, hrl⟩ : ∃ rl, rl = R.length := ⟨_, rfl⟩
  rw [← hrl] at E9
  rw [← hrl]
  clear hrl
  go_wp2_with fail
  exact bodyPost_ret (v := .agg #[.slice ua rl uc, .int .i64 c]) (by simp [results, Tryz.results7, go_sem, t0, t1] <;> rfl) rfl ⟨⟨_, _, _, rfl, E9.out.1, HA.out⟩, E9.out.2⟩
end Go.Proofs.YtojdfdlbdpdlkaaGreatDoor

/- The walk of the program's FsCrash. -/
import Derived.Test.YtkkmjffepdejnaaFsCrashWalks
import Derived.Test.YtkkmjffepdejnaaFsRightImpl
import Derived.Test.YtkkmjffepdejnaaFsCopy
import Derived.Test.YtkkmjffepdejnaaQuietTail
namespace Go.Proofs.Ytkkmjffepdejnaa
open Go.RowKit
set_option linter.unusedVariables false
set_option linter.unusedSimpArgs false

set_option maxHeartbeats 1000000 in
theorem copyFile_any (a b : ByteArray) (s : Int) (w : World) (ha : a.size ≤ 1073741824) (hb : b.size ≤ 1073741824) :
    Calls Try.prog 38 #[.agg #[.string a, .string b, .int .i64 s]] w fun e w' => e = .returned (.agg #[.string a, .string b, .int .i64 s]) ∧ Below w.heap.size w w' := by
  obtain ⟨W, hW⟩ : ∃ W, W = (w.alloc (.cells #[.string a, .string b, .int .i64 s] 62)).alloc (.cells #[.string { data := #[] }, .string { data := #[] }, .int .i64 0] 62) := ⟨_, rfl⟩
  have b0 : Below w.heap.size w W := by
    rw [hW]
    repeat (first | exact Below.refl _ _ | refine Below.alloc ?_ (by simp <;> omega) _)
  have hsz : W.heap.size = w.heap.size + 2 := by rw [hW]; simp
  have c0 : W.cell? ⟨w.heap.size, 0, none⟩ = some (.string a) := by rw [hW, Fk.cellOld _ _ _ _ (by simp), Fk.cellTop _ _ _ _ _ (by simp)]; rfl
  have c1 : W.cell? ⟨w.heap.size, 1, none⟩ = some (.string b) := by rw [hW, Fk.cellOld _ _ _ _ (by simp), Fk.cellTop _ _ _ _ _ (by simp)]; rfl
  have c2 : W.cell? ⟨w.heap.size, 2, none⟩ = some (.int .i64 s) := by rw [hW, Fk.cellOld _ _ _ _ (by simp), Fk.cellTop _ _ _ _ _ (by simp)]; rfl
  have d0 : W.cell? ⟨w.heap.size + 1, 0, none⟩ = some (.string { data := #[] }) := by rw [hW, Fk.cellTop _ _ _ _ _ (by simp)]; rfl
  have d1 : W.cell? ⟨w.heap.size + 1, 1, none⟩ = some (.string { data := #[] }) := by rw [hW, Fk.cellTop _ _ _ _ _ (by simp)]; rfl
  have d2 : W.cell? ⟨w.heap.size + 1, 2, none⟩ = some (.int .i64 0) := by rw [hW, Fk.cellTop _ _ _ _ _ (by simp)]; rfl
  have df : ∀ j, W.frozen? ⟨w.heap.size + 1, j, none⟩ = false := fun j => by rw [hW, Fk.frozTop _ _ _ _ _ (by simp)]
  have HW := Fk.hide hW
  clear hW
  have r0 := cell_regrown c0
  have r1 := cell_regrown c1
  have r2 := cell_regrown c2
  have fa : ∀ w', Calls Try.prog 57 #[.string a] w' fun e w'' => e = .returned (.string a) ∧ Below w'.heap.size w' w'' := fun w' => copyText_any a w' ha
  have fb : ∀ w', Calls Try.prog 57 #[.string b] w' fun e w'' => e = .returned (.string b) ∧ Below w'.heap.size w' w'' := fun w' => copyText_any b w' hb
  go_enter Try.func38, Try.ntmps38
  go_wp2_with fail
  rw [← HW.out]
  refine Qt.region_below_tail 9 (by kernel_rfl) (by kernel_rfl) ?_
  simp only [List.take_succ_cons, List.take_zero, List.drop_succ_cons, List.drop_zero]
  repeat (go_big_quiet_step (first | (go_at_call_of 57 a; exact Calls.regrown_of (fa _)) | (go_at_call_of 57 b; exact Calls.regrown_of (fb _))))
  refine wpQuiet_nil ?_
  intro w4 hw'
  obtain ⟨⟨dq, osq⟩, hw''⟩ := hw'
  have b4 : Below W.heap.size W w4 := by rw [hw'']; exact below_regrown W dq osq
  have b5 : Below w.heap.size w w4 := b0.trans (b4.mono b0.size)
  have e0 : w4.cell? ⟨w.heap.size + 1, 0, none⟩ = some (.string { data := #[] }) := (b4.cell (by show w.heap.size + 1 < _; omega)).trans d0
  have e1 : w4.cell? ⟨w.heap.size + 1, 1, none⟩ = some (.string { data := #[] }) := (b4.cell (by show w.heap.size + 1 < _; omega)).trans d1
  have e2 : w4.cell? ⟨w.heap.size + 1, 2, none⟩ = some (.int .i64 0) := (b4.cell (by show w.heap.size + 1 < _; omega)).trans d2
  have ef : ∀ j, w4.frozen? ⟨w.heap.size + 1, j, none⟩ = false := fun j => (b4.frozen (by show w.heap.size + 1 < _; omega)).trans (df j)
  clear hw'' b4 r0 r1 r2 fa fb c0 c1 c2 d0 d1 d2 df
  go_wp2_with fail
  refine bodyPost_ret (v := .agg #[.string a, .string b, .int .i64 s]) (by simp [results, Try.results38, go_sem, e0, e1, e2] <;> rfl) rfl ⟨rfl, ?_⟩
  exact ((b5.setCell (by simp) _).setCell (by simp) _).setCell (by simp) _

theorem Fk.view_one (w : World) (a b : ByteArray) (s : Int) (t : TypeId) : Fk.View (w.alloc (.cells #[.string a, .string b, .int .i64 s] t)) (.slice (some ⟨w.heap.size, 0, none⟩) 1 1) [(a, b, s)] := by
  refine ⟨_, 1, rfl, fun _ => ⟨w.heap.size, 0, rfl, by simp, ?_, ?_, ?_⟩⟩
  · intro i hi
    have e : i = 0 := by simpa using hi
    subst e
    rw [Fk.cellTop _ _ _ _ _ rfl]; rfl
  · intro i hi
    have e : i = 0 := by simpa using hi
    subst e
    rw [Fk.cellTop _ _ _ _ _ rfl]; rfl
  · intro i hi
    have e : i = 0 := by simpa using hi
    subst e
    rw [Fk.cellTop _ _ _ _ _ rfl]; rfl

theorem Fk.right_ok {L : List Fk.Fl} (h : Fk.right L = true) {k : Nat} (hk : k < L.length) : 0 ≤ Fk.sy L k ∧ Fk.sy L k ≤ (Fk.dt L k).size ∧ (Fk.dt L k).size ≤ 3000 := by
  have h2 := (Fk.right_inv L h).2 k hk
  simp only [Fk.step, Bool.and_eq_true] at h2
  have h3 := Fk.fok_inv h2.1
  exact ⟨h3.2.2.1, h3.2.2.2, h3.2.1⟩
namespace Ik
/-- how many bytes are kept besides -/
def more (T : List Int) (i : Nat) : Int := if i < T.length then max (at_ T i) 0 else 0
/-- a file behind a crash -/
def cr (L : List Fk.Fl) (T : List Int) (i : Nat) : Fk.Fl :=
  if Fk.right L then (Fk.nm L i, (Fk.dt L i).extract 0 (kept (Fk.dt L i) (Fk.sy L i) (more T i)).toNat, kept (Fk.dt L i) (Fk.sy L i) (more T i)) else (Fk.nm L i, Fk.dt L i, Fk.sy L i)
def crs (L : List Fk.Fl) (T : List Int) (k : Nat) : List Fk.Fl := (List.range k).map (cr L T)
theorem crs_next (L : List Fk.Fl) (T : List Int) (k : Nat) : crs L T k ++ [cr L T k] = crs L T (k + 1) := by simp [crs, List.range_succ]
/-- the files behind a crash, or none where the list is too long -/
def crash (L : List Fk.Fl) (T : List Int) : List Fk.Fl := if 400 < T.length then [] else crs L T L.length
theorem more_pos (T : List Int) (i : Nat) : 0 ≤ more T i := by unfold more; split <;> omega
end Ik

set_option maxRecDepth 20000 in
set_option maxHeartbeats 4000000 in
theorem fsCrash_impl (v vt : Value) (L : List Fk.Fl) (T : List Int) (w : World) (hv : Fk.View w v L) (hL : Fk.Fits L) (hl : L.length ≤ 1048576) (hsm : ∀ i, (Fk.nm L i).size ≤ 1048576 ∧ (Fk.dt L i).size ≤ 1048576) (ht : Ik.View w vt T) (htl : T.length ≤ 1048576) :
    Calls Try.prog 11 #[.agg #[v], vt] w fun e w' => (∃ u, e = .returned (.agg #[u]) ∧ Fk.Own w' w.heap.size 62 u (Ik.crash L T)) ∧ Below w.heap.size w w' := by
  obtain ⟨i0, hi, hz0, hz1, hz2⟩ := info_parts infoFile
  have hzs : (Value.agg #[.string ByteArray.empty, .string ByteArray.empty, .int .i64 0]).cells.size = 3 := by kernel_rfl
  obtain ⟨W, hW⟩ : ∃ W, W = (w.alloc (.cells #[v] 29)).alloc (.cells #[.slice none 0 0] 29) := ⟨_, rfl⟩
  have b0 : Below w.heap.size w W := by
    rw [hW]
    repeat (first | exact Below.refl _ _ | refine Below.alloc ?_ (by simp <;> omega) _)
  have hsz : W.heap.size = w.heap.size + 2 := by rw [hW]; simp
  have hcell : W.cell? ⟨w.heap.size, 0, none⟩ = some v := by rw [hW, Fk.cellOld _ _ _ _ (by simp), Fk.cellTop _ _ _ _ _ rfl]; rfl
  have q0 : W.cell? ⟨w.heap.size + 1, 0, none⟩ = some (.slice none 0 0) := by rw [hW, Fk.cellTop _ _ _ _ _ (by simp)]; rfl
  have f0 : ∀ j, W.frozen? ⟨w.heap.size + 1, j, none⟩ = false := fun j => by rw [hW, Fk.frozTop _ _ _ _ _ (by simp)]
  have hvW := hv.below b0
  have htW := Fk.hide (ht.below b0)
  have HW := Fk.hide hW
  clear hW hv
  have HV := Fk.hide hvW
  obtain ⟨a, cap, rfl, hs⟩ := hvW
  obtain ⟨ta, tcap, rfl, _⟩ := ht
  by_cases hbig : (400 : Int) < (T.length : Int)
  · have HE : Hid (Ik.crash L T = []) := by show _ = _; unfold Ik.crash; rw [if_pos (by omega)]
    go_enter Try.func11, Try.ntmps11
    go_wp2_with fail
    exact bodyPost_ret (v := .agg #[.slice none 0 0]) (by simp [results, Try.results11, go_sem] <;> rfl) rfl ⟨⟨_, rfl, by rw [HE.out]; exact Fk.own_nil _ _ _⟩, by rw [← HW.out]; exact b0⟩
  have HE : Hid (Ik.crash L T = Ik.crs L T L.length) := by show _ = _; unfold Ik.crash; rw [if_neg (by omega)]
  go_enter Try.func11, Try.ntmps11
  go_wp2_with fail
  rw [← HW.out]
  refine (fsRight_impl _ L _ HV.out hL (by unfold maxLen; omega)).mono ?_
  rintro e w0 ⟨rfl, bb0⟩
  have c0 : w0.cell? ⟨w.heap.size, 0, none⟩ = some (.slice a L.length cap) := (bb0.cell (by show w.heap.size < _; omega)).trans hcell
  obtain ⟨rb, hrb⟩ : ∃ rb, rb = Fk.right L := ⟨_, rfl⟩
  have HRB := Fk.hide hrb
  rw [← hrb]
  clear hrb
  go_wp2_with fail
  go_loopw [6, 18] (fun u i wr => ∃ k : Nat, k ≤ L.length ∧ i = .int .i64 k ∧ Hid (Fk.Own wr W.heap.size 62 u (Ik.crs L T k)) ∧ Below W.heap.size W wr) (fun _ i _ => L.length - (intOf i).toNat)
  case atStart => exact ⟨0, Nat.zero_le _, rfl, Fk.own_nil _ _ _, bb0⟩
  case round =>
    obtain ⟨k, hk, rfl, HO, bel⟩ := hrel
    obtain ⟨ua, uc, hu⟩ := HO.out.slice
    obtain ⟨un, hun⟩ : ∃ n, n = (Ik.crs L T k).length := ⟨_, rfl⟩
    rw [← hun] at hu
    clear hun
    subst hu
    by_cases hlt : k < L.length
    · obtain ⟨b, o, rfl, hb, hs1⟩ := hs (by omega)
      have x0 := (hs1.below hb bel).c0 k hlt
      have x1 := (hs1.below hb bel).c1 k hlt
      have x2 := (hs1.below hb bel).c2 k hlt
      have hlc : Hid ((Ik.crs L T k).length + 1 ≤ 1000000000) := by show _ ≤ _; simp [Ik.crs]; omega
      obtain ⟨W2, hW2⟩ : ∃ W2, W2 = wr.alloc (.cells #[.string (Fk.nm L k), .string (Fk.dt L k), .int .i64 (Fk.sy L k)] 62) := ⟨_, rfl⟩
      have b2 : Below wr.heap.size wr W2 := by rw [hW2]; exact (Below.refl _ _).alloc (Nat.le_refl _) _
      have B2 : Below W.heap.size W W2 := bel.trans (b2.mono bel.size)
      have O2 := Fk.hide (HO.out.below b2)
      have y0 : W2.cell? ⟨wr.heap.size, 0, none⟩ = some (.string (Fk.nm L k)) := by rw [hW2, Fk.cellTop _ _ _ _ _ rfl]; rfl
      have y1 : W2.cell? ⟨wr.heap.size, 1, none⟩ = some (.string (Fk.dt L k)) := by rw [hW2, Fk.cellTop _ _ _ _ _ rfl]; rfl
      have y2 : W2.cell? ⟨wr.heap.size, 2, none⟩ = some (.int .i64 (Fk.sy L k)) := by rw [hW2, Fk.cellTop _ _ _ _ _ rfl]; rfl
      have yf : ∀ j, W2.frozen? ⟨wr.heap.size, j, none⟩ = false := fun j => by rw [hW2, Fk.frozTop _ _ _ _ _ rfl]
      have hzw : W2.heap.size = wr.heap.size + 1 := by rw [hW2]; simp
      have HW2 := Fk.hide hW2
      have hzb := bel.size
      have HUb : Hid (∀ j, (Value.slice ua un uc).ownBlock = some j → j < wr.heap.size) := fun j hj => (World.ownsRow.lt HO.out j hj).2
      clear hW2 b2 HO
      -- a copy of the file is put behind the list
      have LAST : Hid (∀ (w5 : World) (fl : Fk.Fl), fl = Ik.cr L T k → Below W.heap.size W w5 → Fk.Own w5 W.heap.size 62 (.slice ua un uc) (Ik.crs L T k) → Fk.Own (w5.alloc (.cells #[.string fl.1, .string fl.2.1, .int .i64 fl.2.2] 62)) W.heap.size 62 (.slice ua un uc) (Ik.crs L T k) ∧ Fk.View (w5.alloc (.cells #[.string fl.1, .string fl.2.1, .int .i64 fl.2.2] 62)) (.slice (some ⟨w5.heap.size, 0, none⟩) 1 1) [fl] ∧ W.heap.size ≤ (w5.alloc (.cells #[.string fl.1, .string fl.2.1, .int .i64 fl.2.2] 62)).heap.size ∧ Below W.heap.size W (w5.alloc (.cells #[.string fl.1, .string fl.2.1, .int .i64 fl.2.2] 62))) := by
        intro w5 fl hfl B5 O5
        have := B5.size
        exact ⟨O5.below ((Below.refl _ _).alloc (Nat.le_refl _) _), Fk.view_one _ _ _ _ _, by simp; omega, B5.alloc B5.size _⟩
      cases rb with
      | false =>
        have hcr : Hid ((Fk.nm L k, Fk.dt L k, Fk.sy L k) = Ik.cr L T k) := by show _ = _; unfold Ik.cr; rw [← HRB.out]; rfl
        go_wp2_with fail
        rw [← HW2.out]
        refine (copyFile_any _ _ _ _ (by have := (hsm k).1; omega) (by have := (hsm k).2; omega)).mono ?_
        rintro e w5 ⟨rfl, b5⟩
        have B5 : Below W.heap.size W w5 := B2.trans (b5.mono B2.size)
        have NX := Fk.hide (LAST.out w5 (Fk.nm L k, Fk.dt L k, Fk.sy L k) hcr.out B5 (O2.out.below b5))
        have hS1 : Hid (∀ a, Fk.Shut (.slice (some a) 1 1)) := fun a => fun _ _ _ h e => by cases h; cases e
        clear b5 x0 x1 x2 y0 y1 y2 yf
        go_wp2_with (at_builtin; refine Fk.wpList_append_view _ rfl (.tmp 29) (.tmp 32) 27 rfl W.heap.size 62 i0 _ Try.underlying27 hi hz0 hz1 hz2 hzs (.slice ua un uc) (.slice (some ⟨w5.heap.size, 0, none⟩) 1 1) (Ik.crs L T k) [(Fk.nm L k, Fk.dt L k, Fk.sy L k)] rfl rfl NX.out.1 NX.out.2.1 (hS1.out _) hlc.out NX.out.2.2.1 ?_; intro u6 w6 o6 g6; have B6 := Fk.hide (NX.out.2.2.2.grown g6 NX.out.2.2.2.size (fun j hj => (World.ownsRow.lt NX.out.1 j hj).1)); clear g6)
        go_roundw
        case rel =>
          refine ⟨k + 1, by omega, by go_num, ?_, B6.out⟩
          rw [← Ik.crs_next, ← hcr.out]
          exact o6
        case measure => simp [intOf]; omega
      | true =>
        have hR : Fk.right L = true := HRB.out.symm
        have hok := Fk.right_ok hR hlt
        obtain ⟨n, hn⟩ : ∃ n, n = Ik.kept (Fk.dt L k) (Fk.sy L k) (Ik.more T k) := ⟨_, rfl⟩
        obtain ⟨t, htt⟩ : ∃ t, t = (Fk.dt L k).extract 0 n.toNat := ⟨_, rfl⟩
        have hcr : Hid ((Fk.nm L k, t, n) = Ik.cr L T k) := by show _ = _; unfold Ik.cr; rw [hR, htt, hn]; rfl
        have htz : t.size ≤ 1048576 := by have := (hsm k).2; rw [htt]; simp [ByteArray.size_extract]; omega
        obtain ⟨mo, hmo⟩ : ∃ mo, mo = Ik.more T k := ⟨_, rfl⟩
        have fk : ∀ w', Below W.heap.size W w' → Calls Try.prog 37 #[.slice ta T.length tcap, .int .i64 k] w' fun e w'' => e = .returned (.int .i64 mo) ∧ Below w'.heap.size w' w'' := fun w' hw => keepAt_any _ T k mo hmo w' (htW.out.below hw) htl (by omega)
        have fc : ∀ w', Calls Try.prog 36 #[.agg #[.string (Fk.nm L k), .string (Fk.dt L k), .int .i64 (Fk.sy L k)], .int .i64 mo] w' fun e w'' => e = .returned (.agg #[.string (Fk.nm L k), .string t, .int .i64 n]) ∧ Below w'.heap.size w' w'' := fun w' => by
          rw [htt, hn, hmo]
          exact crashFile_any _ _ _ _ w' hok.1 hok.2.1 hok.2.2 (Ik.more_pos T k)
        have FK := Fk.hide fk
        have FC := Fk.hide fc
        have HKB := Fk.hide B2
        clear fk fc hn htt hmo hok hR
        go_wp2_with fail
        rw [← HW2.out]
        have hd := B2.trans (Below.drew (Below.refl W.heap.size W2))
        go_region_with (first
          | (go_at_call 37; refine (FK.out _ hd).mono ?_; rintro e X1 ⟨rfl, m1⟩; have g0 : X1.cell? ⟨wr.heap.size, 0, none⟩ = some (.string (Fk.nm L k)) := (m1.cell (by show wr.heap.size < W2.heap.size; omega)).trans y0; have g1 : X1.cell? ⟨wr.heap.size, 1, none⟩ = some (.string (Fk.dt L k)) := (m1.cell (by show wr.heap.size < W2.heap.size; omega)).trans y1; have g2 : X1.cell? ⟨wr.heap.size, 2, none⟩ = some (.int .i64 (Fk.sy L k)) := (m1.cell (by show wr.heap.size < W2.heap.size; omega)).trans y2)
          | (go_at_call 36; refine (FC.out _).mono ?_; rintro e X2 ⟨rfl, m2⟩; have mm : Below W2.heap.size W2 X2 := (Below.trans (Below.drew (Below.refl _ _)) m1).trans (m2.mono m1.size); have z0 : X2.cell? ⟨wr.heap.size, 0, none⟩ = some (.string (Fk.nm L k)) := (mm.cell (by show wr.heap.size < _; omega)).trans y0; have z1 : X2.cell? ⟨wr.heap.size, 1, none⟩ = some (.string (Fk.dt L k)) := (mm.cell (by show wr.heap.size < _; omega)).trans y1; have z2 : X2.cell? ⟨wr.heap.size, 2, none⟩ = some (.int .i64 (Fk.sy L k)) := (mm.cell (by show wr.heap.size < _; omega)).trans y2; have zf : ∀ j, X2.frozen? ⟨wr.heap.size, j, none⟩ = false := fun j => (mm.frozen (by show wr.heap.size < _; omega)).trans (yf j)))
        all_goals
          have B3 : Hid (Below W.heap.size W X2) := HKB.out.trans (mm.mono HKB.out.size)
          have O3 := Fk.hide (O2.out.below mm)
          have hne : Hid (∀ j, (Value.slice ua un uc).ownBlock = some j → some j ≠ some wr.heap.size) := fun j hj e => by have := HUb.out j hj; have := Option.some.inj e; omega
          obtain ⟨W4, hW4⟩ : ∃ W4, W4 = ((X2.setCell ⟨wr.heap.size, 0, none⟩ (.string (Fk.nm L k))).setCell ⟨wr.heap.size, 1, none⟩ (.string t)).setCell ⟨wr.heap.size, 2, none⟩ (.int .i64 n) := ⟨_, rfl⟩
          have B4 : Below W.heap.size W W4 := by rw [hW4]; exact ((B3.out.setCell (by exact hzb) _).setCell (by exact hzb) _).setCell (by exact hzb) _
          have O4 : Hid (Fk.Own W4 W.heap.size 62 (.slice ua un uc) (Ik.crs L T k)) := by
            rw [hW4]
            exact ((O3.out.kept (Fk.grownBy_setCell _ _ _ _) hne.out).kept (Fk.grownBy_setCell _ _ _ _) hne.out).kept (Fk.grownBy_setCell _ _ _ _) hne.out
          have HW4 := Fk.hide hW4
          have hS1 : Hid (∀ a, Fk.Shut (.slice (some a) 1 1)) := fun a => fun _ _ _ h e => by cases h; cases e
          clear hW4
          go_wp2_with fail
          rw [← HW4.out]
          refine (copyFile_any _ _ _ _ (by have := (hsm k).1; omega) (by omega)).mono ?_
          rintro e w5 ⟨rfl, b5⟩
          have B5 : Below W.heap.size W w5 := B4.trans (b5.mono B4.size)
          have NX := Fk.hide (LAST.out w5 (Fk.nm L k, t, n) hcr.out B5 (O4.out.below b5))
          clear b5 x0 x1 x2 y0 y1 y2 yf z0 z1 z2 zf
          go_wp2_with (at_builtin; refine Fk.wpList_append_view _ rfl (.tmp 29) (.tmp 32) 27 rfl W.heap.size 62 i0 _ Try.underlying27 hi hz0 hz1 hz2 hzs (.slice ua un uc) (.slice (some ⟨w5.heap.size, 0, none⟩) 1 1) (Ik.crs L T k) [(Fk.nm L k, t, n)] rfl rfl NX.out.1 NX.out.2.1 (hS1.out _) hlc.out NX.out.2.2.1 ?_; intro u6 w6 o6 g6; have B6 := Fk.hide (NX.out.2.2.2.grown g6 NX.out.2.2.2.size (fun j hj => (World.ownsRow.lt NX.out.1 j hj).1)); clear g6)
          go_roundw
          case rel =>
            refine ⟨k + 1, by omega, by go_num, ?_, B6.out⟩
            rw [← Ik.crs_next, ← hcr.out]
            exact o6
          case measure => simp [intOf]; omega
    · have e : k = L.length := by omega
      subst e
      have hzz := bel.size
      have s0 : wr.cell? ⟨w.heap.size + 1, 0, none⟩ = some (.slice none 0 0) := (bel.cell (by show w.heap.size + 1 < _; omega)).trans q0
      have sf : ∀ j, wr.frozen? ⟨w.heap.size + 1, j, none⟩ = false := fun j => (bel.frozen (by show w.heap.size + 1 < _; omega)).trans (f0 j)
      have BB : Hid (Below w.heap.size w (wr.setCell ⟨w.heap.size + 1, 0, none⟩ (.slice ua un uc))) := (b0.trans (bel.mono b0.size)).setCell (by simp) _
      have OO : Hid (Fk.Own (wr.setCell ⟨w.heap.size + 1, 0, none⟩ (.slice ua un uc)) w.heap.size 62 (.slice ua un uc) (Ik.crash L T)) := by
        rw [HE.out]
        exact Fk.Own.mono (ownsRow_setCell_below HO.out (by show w.heap.size + 1 < _; omega) _) (by omega)
      go_wp2_with fail
      exact bodyPost_ret (v := .agg #[.slice ua un uc]) (by simp [results, Try.results11, go_sem, s0] <;> rfl) rfl ⟨⟨_, rfl, OO.out⟩, BB.out⟩
end Go.Proofs.Ytkkmjffepdejnaa

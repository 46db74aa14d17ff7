/- The walks of the program's question whether a record is right. -/
import Derived.Test.YtjagohadeegghaaProg
import Derived.Test.YtjagohadeegghaaRecMath
import Derived.WalkKit
import Derived.WalkSpells
import Derived.WalkLawsBesides
import Derived.BigRegion
import Derived.BigQuiet
import Derived.Deep.RegionWith
import Derived.Lib.QuietBelow
namespace Go.Proofs.Ytjagohadeegghaa
open Go.RowKit
set_option linter.unusedVariables false
set_option linter.unusedSimpArgs false

set_option maxHeartbeats 1000000 in
theorem fieldRight_any (i : Int) (t : ByteArray) (w : World) (ht : t.size ≤ maxLen) :
    Calls Try.prog 188 #[.agg #[.int .i64 i, .string t]] w fun e w' => e = .returned (.bool (Rc.fok (i, t))) ∧ Below w.heap.size w w' := by
  unfold maxLen at ht
  have HB : Hid (∀ o, Below w.heap.size w (w.alloc o)) := fun o => (Below.refl w.heap.size w).alloc (Nat.le_refl _) o
  obtain ⟨r, hr⟩ : ∃ r, r = Rc.fok (i, t) := ⟨_, rfl⟩
  rw [← hr]
  unfold Rc.fok at hr
  by_cases h0 : 0 ≤ i
  · by_cases h1 : i ≤ 1000
    · have e : r = decide ((t.size : Int) ≤ 500) := by rw [hr]; simp [h0, h1]
      have HE := Fk.hide e
      clear hr e
      go_enter Try.func188, Try.ntmps188
      go_wp2_with fail
      go_ret
      exact ⟨by rw [HE.out]; simp, HB.out _⟩
    · have e : r = false := by rw [hr]; simp [h1]
      subst e
      clear hr
      go_enter Try.func188, Try.ntmps188
      go_wp2_with fail
      go_ret
      exact ⟨rfl, HB.out _⟩
  · have e : r = false := by rw [hr]; simp [h0]
    subst e
    clear hr
    go_enter Try.func188, Try.ntmps188
    go_wp2_with fail
    go_ret
    exact ⟨rfl, HB.out _⟩

theorem fieldBefore_any (i j : Int) (s t : ByteArray) (w : World) :
    Calls Try.prog 190 #[.agg #[.int .i64 i, .string s], .agg #[.int .i64 j, .string t]] w fun e w' => e = .returned (.bool (decide (i < j))) ∧ Below w.heap.size w w' := by
  have HB : Hid (∀ o p, Below w.heap.size w ((w.alloc o).alloc p)) := fun o p => ((Below.refl w.heap.size w).alloc (Nat.le_refl _) o).alloc (by simp) p
  go_enter Try.func190, Try.ntmps190
  go_wp2_with fail
  go_ret
  exact ⟨rfl, HB.out _ _⟩

set_option maxHeartbeats 2000000 in
theorem rises_any (v : Value) (L : List Fd.E) (w : World) (hv : Rk.View Fd.S w v L) (hl : L.length ≤ 1048576) :
    Calls Try.prog 189 #[v, .func (.func 190) #[] #[]] w fun e w' => e = .returned (.bool (Rc.upAll L)) ∧ Below w.heap.size w w' := by
  obtain ⟨a, cap, rfl, hs⟩ := hv
  go_enter Try.func189, Try.ntmps189
  go_wp2_with fail
  go_loopw [5] (fun i wr => ∃ k : Nat, 1 ≤ k ∧ (k ≤ L.length ∨ k = 1) ∧ i = .int .i64 k ∧ Hid (∀ j, j < k → Rc.up L j = true) ∧ Below w.heap.size w wr) (fun i _ => L.length - (intOf i).toNat)
  case atStart => exact ⟨1, Nat.le_refl _, .inr rfl, rfl, (fun j hj => by have e : j = 0 := by omega
                                                                          subst e; rfl), Below.refl _ _⟩
  case round =>
    obtain ⟨k, hk1, hk, rfl, HK, bel⟩ := hrel
    by_cases hlt : k < L.length
    · obtain ⟨b, o, rfl, hb, hs1⟩ := hs (by omega)
      have hs' := hs1.below hb bel
      have q0 := Fd.c0 hs' hlt
      have q1 := Fd.c1 hs' hlt
      have p0 := Fd.c0 hs' (k := k - 1) (by omega)
      have p1 := Fd.c1 hs' (k := k - 1) (by omega)
      have hu : Rc.up L k = decide (Rc.idAt L (k - 1) < Rc.idAt L k) := by
        have : ¬ k = 0 := by omega
        simp [Rc.up, this]
      have HU := Fk.hide hu
      clear hu hs'
      obtain ⟨f, hf⟩ : ∃ f, f = Rk.at_ Fd.S L k := ⟨_, rfl⟩
      obtain ⟨g, hg⟩ : ∃ g, g = Rk.at_ Fd.S L (k - 1) := ⟨_, rfl⟩
      have HF : Hid (f.1 = Rc.idAt L k) := by show _ = _; rw [hf]; rfl
      have HG : Hid (g.1 = Rc.idAt L (k - 1)) := by show _ = _; rw [hg]; rfl
      rw [← hf] at q0 q1
      rw [← hg] at p0 p1
      have k2 : ((k : Int) - 1).toNat = k - 1 := by omega
      have k3 : (0 : Int) ≤ (k : Int) - 1 := by omega
      have k4 : (k : Int) - 1 < (L.length : Int) := by omega
      clear hf hg
      have r0 := cell_regrown q0
      have r1 := cell_regrown q1
      have r2 := cell_regrown p0
      have r3 := cell_regrown p1
      have fb : ∀ w', Calls Try.prog 190 #[.agg #[.int .i64 g.1, .string g.2], .agg #[.int .i64 f.1, .string f.2]] w' fun e w'' => e = .returned (.bool (decide (g.1 < f.1))) ∧ Below w'.heap.size w' w'' := fun w' => fieldBefore_any g.1 f.1 g.2 f.2 w'
      obtain ⟨d, hd⟩ : ∃ d, d = decide (g.1 < f.1) := ⟨_, rfl⟩
      have HD : Hid (d = Rc.up L k) := by show _ = _; rw [hd, HU.out, HF.out, HG.out]
      rw [← hd] at fb
      clear hd
      go_wp2_with fail
      refine wp_region_quiet_below (by kernel_rfl) (by kernel_rfl) ?_
      repeat (go_big_quiet_step (exact Calls.regrown_of (fb _)))
      refine wpQuiet_nil ?_
      intro w4 hw'
      obtain ⟨⟨dq, osq⟩, hw''⟩ := hw'
      have b4 : Below w.heap.size w w4 := by rw [hw'']; exact bel.trans ((below_regrown wr dq osq).mono bel.size)
      clear hw'' r0 r1 r2 r3 fb q0 q1 p0 p1
      cases d with
      | false =>
        have HA : Hid (Rc.upAll L = false) := Rc.upAll_at hlt HD.out.symm
        go_wp2_with fail
        go_ret
        exact ⟨by rw [HA.out]; rfl, b4⟩
      | true =>
        go_wp2_with fail
        go_roundw
        case rel =>
          refine ⟨k + 1, by omega, .inl (by omega), by go_num, (fun j hj => ?_), b4⟩
          by_cases e : j = k
          · rw [e]; exact HD.out.symm
          · exact HK.out j (by omega)
        case measure => simp [intOf]; omega
    · have HA : Hid (Rc.upAll L = true) := Rc.upAll_yes (fun i hi => HK.out i (by omega))
      go_wp2_with fail
      go_ret
      exact ⟨by rw [HA.out]; rfl, bel⟩

set_option maxHeartbeats 2000000 in
theorem recRight_impl (K : Int) (v : Value) (L : List Fd.E) (w : World) (hv : Rk.View Fd.S w v L) (hL : ∀ f ∈ L, Fd.Fit f) (hl : L.length ≤ maxLen) :
    Calls Try.prog 170 #[.agg #[.int .i64 K, v]] w fun e w' => e = .returned (.bool (Rc.right K L)) ∧ Below w.heap.size w w' := by
  unfold maxLen at hl
  have b0 : Below w.heap.size w (w.alloc (.cells #[.int .i64 K, v] 131)) := (Below.refl _ _).alloc (Nat.le_refl _) _
  obtain ⟨W, hW⟩ : ∃ W, W = w.alloc (.cells #[.int .i64 K, v] 131) := ⟨_, rfl⟩
  have hv' := hv.below b0
  have hcell : W.cell? ⟨w.heap.size, 1, none⟩ = some v := by rw [hW, Fk.cellTop _ _ _ _ _ rfl]; rfl
  have hsz : W.heap.size = w.heap.size + 1 := by rw [hW]; simp
  rw [← hW] at b0 hv'
  have HW := Fk.hide hW
  clear hW hv
  have HV := Fk.hide hv'
  obtain ⟨a, cap, rfl, hs⟩ := hv'
  by_cases c : 0 ≤ K ∧ K ≤ 1000 ∧ (L.length : Int) ≤ 30
  · have HC := Fk.hide c
    obtain ⟨c0, c1, c2⟩ := c
    go_enter Try.func170, Try.ntmps170
    go_wp2_with fail
    rw [← HW.out]
    go_loopw [21] (fun i wr => ∃ k : Nat, k ≤ L.length ∧ i = .int .i64 k ∧ Hid (∀ j, j < k → Rc.fok (Rk.at_ Fd.S L j) = true) ∧ Below W.heap.size W wr) (fun i _ => L.length - (intOf i).toNat)
    case atStart => exact ⟨0, Nat.zero_le _, rfl, fun j hj => absurd hj (by omega), Below.refl _ _⟩
    case round =>
      obtain ⟨k, hk, rfl, HK, bel⟩ := hrel
      have hc1 : wr.cell? ⟨w.heap.size, 1, none⟩ = some (.slice a L.length cap) := (bel.cell (by show w.heap.size < _; omega)).trans hcell
      by_cases hlt : k < L.length
      · obtain ⟨b, o, rfl, hb, hs1⟩ := hs (by omega)
        have hs' := hs1.below hb bel
        have q0 := Fd.c0 hs' hlt
        have q1 := Fd.c1 hs' hlt
        have hfit := Fd.fit_at hL k
        obtain ⟨f, hf⟩ : ∃ f, f = Rk.at_ Fd.S L k := ⟨_, rfl⟩
        have HF := Fk.hide hf
        rw [← hf] at q0 q1 hfit
        clear hs' hf
        go_wp2_with fail
        refine (fieldRight_any f.1 f.2 _ hfit.2).mono ?_
        rintro e w1 ⟨rfl, b1⟩
        have B1 : Below W.heap.size W w1 := bel.trans (b1.mono bel.size)
        obtain ⟨r, hr⟩ : ∃ r, r = Rc.fok (f.1, f.2) := ⟨_, rfl⟩
        rw [← hr]
        have HR : Hid (r = Rc.fok (Rk.at_ Fd.S L k)) := by show _ = _; rw [hr, HF.out]
        clear hr b1
        cases r with
        | false =>
          have HA : Hid (Rc.right K L = false) := Rc.right_ill (Rc.okAll_at hlt HR.out.symm)
          go_wp2_with fail
          go_ret
          exact ⟨by rw [HA.out]; rfl, b0.trans (B1.mono b0.size)⟩
        | true =>
          go_wp2_with fail
          go_roundw
          case rel =>
            refine ⟨k + 1, by omega, by go_num, (fun j hj => ?_), B1⟩
            by_cases e : j = k
            · rw [e]; exact HR.out.symm
            · exact HK.out j (by omega)
          case measure => simp [intOf]; omega
      · have e : k = L.length := by omega
        have HA : Hid (Rc.right K L = Rc.upAll L) := Rc.right_of HC.out (Rc.okAll_yes (by rw [← e]; exact HK.out))
        subst e
        go_wp2_with fail
        refine (rises_any _ L _ (HV.out.below bel) (by omega)).mono ?_
        rintro e w1 ⟨rfl, b1⟩
        have B1 := Fk.hide (b0.trans ((bel.trans (b1.mono bel.size)).mono b0.size))
        go_wp2_with fail
        go_ret
        exact ⟨by rw [HA.out]; rfl, B1.out⟩
  · have HF : Hid (Rc.right K L = false) := Rc.right_kind c
    by_cases c0 : 0 ≤ K
    · by_cases c1 : K ≤ 1000
      · have c2 : (30 : Int) < (L.length : Int) := by omega
        go_enter Try.func170, Try.ntmps170
        go_wp2_with fail
        go_ret
        exact ⟨by rw [HF.out]; rfl, by rw [← HW.out]; exact b0⟩
      · go_enter Try.func170, Try.ntmps170
        go_wp2_with fail
        go_ret
        exact ⟨by rw [HF.out]; rfl, by rw [← HW.out]; exact b0⟩
    · go_enter Try.func170, Try.ntmps170
      go_wp2_with fail
      go_ret
      exact ⟨by rw [HF.out]; rfl, by rw [← HW.out]; exact b0⟩
end Go.Proofs.Ytjagohadeegghaa

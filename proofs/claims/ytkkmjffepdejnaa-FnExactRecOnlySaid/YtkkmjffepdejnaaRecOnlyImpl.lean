/- The walks of the program's RecOnly. -/
import Derived.Test.YtkkmjffepdejnaaRecOnlyMath
import Derived.Test.YtkkmjffepdejnaaRecPickImpl
import Derived.Test.YtkkmjffepdejnaaRecRightImpl
namespace Go.Proofs.Ytkkmjffepdejnaa
open Go.RowKit
set_option linter.unusedVariables false
set_option linter.unusedSimpArgs false

set_option maxHeartbeats 1000000 in
theorem index_any (v : Value) (T : List Int) (x : Int) (w : World) (hv : Ik.View w v T) (hl : T.length ≤ 1048576) :
    Calls Try.prog 80 #[v, .int .i64 x] w fun e w' => (∃ r : Int, e = .returned (.int .i64 r) ∧ decide (0 ≤ r) = T.contains x) ∧ w' = w := by
  obtain ⟨a, cap, rfl, hs⟩ := hv
  go_enter Try.func80, Try.ntmps80
  go_wp2_with fail
  go_loopw [8] (fun i wr => ∃ k : Nat, k ≤ T.length ∧ i = .int .i64 k ∧ Hid (∀ j, j < k → Ik.at_ T j ≠ x) ∧ w = wr) (fun i _ => T.length - (intOf i).toNat)
  case atStart => exact ⟨0, Nat.zero_le _, rfl, (fun j hj => absurd hj (by omega)), rfl⟩
  case round =>
    obtain ⟨k, hk, rfl, HK, rfl⟩ := hrel
    by_cases hlt : k < T.length
    · obtain ⟨b, o, rfl, hb, hs1⟩ := hs (by omega)
      have q0 := hs1 k hlt
      by_cases he : x = Ik.at_ T k
      · have HC : Hid (T.contains x = true) := Ri.has_hit hlt he.symm
        have he' : (x == Ik.at_ T k) = true := by simpa using he
        clear he hs hs1
        go_wp2_with fail
        go_ret
        exact ⟨⟨_, rfl, by rw [HC.out]; simp⟩, rfl⟩
      · have he' : (x == Ik.at_ T k) = false := by simpa using he
        have HE : Hid (Ik.at_ T k ≠ x) := fun h => he h.symm
        clear he hs hs1
        go_wp2_with fail
        go_roundw
        case rel =>
          refine ⟨k + 1, by omega, by go_num, (fun j hj => ?_), by first | rfl | trivial⟩
          by_cases e : j = k
          · rw [e]; exact HE.out
          · exact HK.out j (by omega)
        case measure => simp [intOf]; omega
    · have HC : Hid (T.contains x = false) := Ri.has_miss (fun j hj => HK.out j (by omega))
      go_wp2_with fail
      go_ret
      exact ⟨⟨-1, rfl, by rw [HC.out]; rfl⟩, rfl⟩

set_option maxHeartbeats 1000000 in
theorem contains_any (v : Value) (T : List Int) (x : Int) (w : World) (hv : Ik.View w v T) (hl : T.length ≤ 1048576) :
    Calls Try.prog 65 #[v, .int .i64 x] w fun e w' => e = .returned (.bool (T.contains x)) ∧ w' = w := by
  have HV := Fk.hide hv
  obtain ⟨a, cap, rfl, _⟩ := hv
  go_enter Try.func65, Try.ntmps65
  go_wp2_with fail
  refine (index_any _ T x _ HV.out hl).mono ?_
  rintro e w1 ⟨⟨r, rfl, hr⟩, rfl⟩
  have HR := Fk.hide hr
  clear hr
  go_wp2_with fail
  go_ret
  exact ⟨by rw [← HR.out]; rfl, rfl⟩

set_option maxHeartbeats 1000000 in
theorem onlyAsk_any (x : Int) (B : Nat) (v : Value) (T : List Int) (w : World) (hc : w.cell? ⟨B, 0, none⟩ = some v) (hv : Ik.View w v T) (hl : T.length ≤ 1048576) :
    Calls Try.prog 64 #[.int .i64 x, .pointer (some ⟨B, 0, none⟩)] w fun e w' => e = .returned (.bool (T.contains x)) ∧ Below w.heap.size w w' := by
  have HV := Fk.hide hv
  obtain ⟨a, cap, rfl, _⟩ := hv
  go_enter Try.func64, Try.ntmps64
  go_wp2_with fail
  refine (contains_any _ T x _ HV.out hl).mono ?_
  rintro e w1 ⟨rfl, rfl⟩
  obtain ⟨r, hr⟩ : ∃ r, r = T.contains x := ⟨_, rfl⟩
  rw [← hr]
  have HR := Fk.hide hr
  clear hr
  go_wp2_with fail
  go_ret
  exact ⟨by rw [← HR.out]; rfl, Below.refl _ _⟩

theorem numberBefore_any (i j : Int) (w : World) :
    Calls Try.prog 63 #[.int .i64 i, .int .i64 j] w fun e w' => e = .returned (.bool (decide (i < j))) ∧ Below w.heap.size w w' := by
  go_enter Try.func63, Try.ntmps63
  go_wp2_with fail
  go_ret
  exact ⟨rfl, Below.refl _ _⟩

set_option maxHeartbeats 2000000 in
theorem risesI_any (v : Value) (T : List Int) (w : World) (hv : Ik.View w v T) (hl : T.length ≤ 1048576) :
    Calls Try.prog 62 #[v, .func (.func 63) #[] #[]] w fun e w' => e = .returned (.bool (Ri.upAll T)) ∧ Below w.heap.size w w' := by
  obtain ⟨a, cap, rfl, hs⟩ := hv
  go_enter Try.func62, Try.ntmps62
  go_wp2_with fail
  go_loopw [5] (fun i wr => ∃ k : Nat, 1 ≤ k ∧ (k ≤ T.length ∨ k = 1) ∧ i = .int .i64 k ∧ Hid (∀ j, j < k → Ri.up T j = true) ∧ Below w.heap.size w wr) (fun i _ => T.length - (intOf i).toNat)
  case atStart => exact ⟨1, Nat.le_refl _, .inr rfl, rfl, (fun j hj => by have e : j = 0 := by omega
                                                                          subst e; rfl), Below.refl _ _⟩
  case round =>
    obtain ⟨k, hk1, hk, rfl, HK, bel⟩ := hrel
    by_cases hlt : k < T.length
    · obtain ⟨b, o, rfl, hb, hs1⟩ := hs (by omega)
      have q0 : wr.cell? ⟨b, o + k, none⟩ = some (.int .i64 (Ik.at_ T k)) := (bel.cell (by exact hb)).trans (hs1 k hlt)
      have p0 : wr.cell? ⟨b, o + (k - 1), none⟩ = some (.int .i64 (Ik.at_ T (k - 1))) := (bel.cell (by exact hb)).trans (hs1 (k - 1) (by omega))
      have hu : Ri.up T k = decide (Ik.at_ T (k - 1) < Ik.at_ T k) := by
        have : ¬ k = 0 := by omega
        simp [Ri.up, this]
      obtain ⟨f, hf⟩ : ∃ f, f = Ik.at_ T k := ⟨_, rfl⟩
      obtain ⟨g, hg⟩ : ∃ g, g = Ik.at_ T (k - 1) := ⟨_, rfl⟩
      rw [← hf] at q0 hu
      rw [← hg] at p0 hu
      have HU := Fk.hide hu
      clear hu hf hg
      have k2 : ((k : Int) - 1).toNat = k - 1 := by omega
      have k3 : (0 : Int) ≤ (k : Int) - 1 := by omega
      have k4 : (k : Int) - 1 < (T.length : Int) := by omega
      have r0 := cell_regrown q0
      have r2 := cell_regrown p0
      have fb : ∀ w', Calls Try.prog 63 #[.int .i64 g, .int .i64 f] w' fun e w'' => e = .returned (.bool (decide (g < f))) ∧ Below w'.heap.size w' w'' := fun w' => numberBefore_any g f w'
      obtain ⟨d, hd⟩ : ∃ d, d = decide (g < f) := ⟨_, rfl⟩
      have HD : Hid (d = Ri.up T k) := by show _ = _; rw [hd, HU.out]
      rw [← hd] at fb
      clear hd
      go_wp2_with fail
      refine wp_region_quiet_below (by kernel_rfl) (by kernel_rfl) ?_
      repeat (go_big_quiet_step (exact Calls.regrown_of (fb _)))
      refine wpQuiet_nil ?_
      intro w4 hw'
      obtain ⟨⟨dq, osq⟩, hw''⟩ := hw'
      have b4 : Below w.heap.size w w4 := by rw [hw'']; exact bel.trans ((below_regrown wr dq osq).mono bel.size)
      clear hw'' r0 r2 fb q0 p0
      cases d with
      | false =>
        have HA : Hid (Ri.upAll T = false) := Ri.upAll_at hlt HD.out.symm
        go_wp2_with fail
        go_ret
        exact ⟨by rw [HA.out]; rfl, b4⟩
      | true =>
        go_wp2_with fail
        go_roundw
        case rel =>
          refine ⟨k + 1, by omega, .inl (by omega), by go_num, (fun j hj => ?_), b4⟩
          by_cases e : j = k
          · rw [e]; exact HD.out.symm
          · exact HK.out j (by omega)
        case measure => simp [intOf]; omega
    · have HA : Hid (Ri.upAll T = true) := Ri.upAll_yes (fun i hi => HK.out i (by omega))
      go_wp2_with fail
      go_ret
      exact ⟨by rw [HA.out]; rfl, bel⟩

set_option maxHeartbeats 4000000 in
theorem recOnly_impl (K : Int) (v vt : Value) (L : List Fd.E) (T : List Int) (w : World) (hv : Rk.View Fd.S w v L) (hL : ∀ f ∈ L, Fd.Fit f) (hl : L.length ≤ maxLen) (ht : Ik.View w vt T) (htl : T.length ≤ 1048576) :
    Calls Try.prog 29 #[.agg #[.int .i64 K, v], vt] w fun e w' => (∃ u, e = .returned (.agg #[.int .i64 (Rc.only K L T).1, u, .int .i64 0, .int .i64 (Rc.only K L T).2.2]) ∧ Rk.Own Fd.S w' w.heap.size 76 u (Rc.only K L T).2.1) ∧ Below w.heap.size w w' := by
  obtain ⟨W, hW⟩ : ∃ W, W = ((w.alloc (.cells #[.int .i64 K, v] 45)).alloc (.cells #[vt] 25)).alloc (.cells #[.int .i64 0, .slice none 0 0, .int .i64 0, .int .i64 0] 50) := ⟨_, rfl⟩
  have b0 : Below w.heap.size w W := by
    rw [hW]
    repeat (first | exact Below.refl _ _ | refine Below.alloc ?_ (by simp <;> omega) _)
  have hsz : W.heap.size = w.heap.size + 3 := by rw [hW]; simp
  have c0 : W.cell? ⟨w.heap.size, 0, none⟩ = some (.int .i64 K) := by rw [hW, Fk.cellOld _ _ _ _ (by simp <;> omega), Fk.cellOld _ _ _ _ (by simp <;> omega), Fk.cellTop _ _ _ _ _ rfl]; rfl
  have c1 : W.cell? ⟨w.heap.size, 1, none⟩ = some v := by rw [hW, Fk.cellOld _ _ _ _ (by simp <;> omega), Fk.cellOld _ _ _ _ (by simp <;> omega), Fk.cellTop _ _ _ _ _ rfl]; rfl
  have c2 : W.cell? ⟨w.heap.size + 1, 0, none⟩ = some vt := by rw [hW, Fk.cellOld _ _ _ _ (by simp <;> omega), Fk.cellTop _ _ _ _ _ (by simp)]; rfl
  have d0 : W.cell? ⟨w.heap.size + 1 + 1, 0, none⟩ = some (.int .i64 0) := by rw [hW, Fk.cellTop _ _ _ _ _ (by simp)]; rfl
  have d1 : W.cell? ⟨w.heap.size + 1 + 1, 1, none⟩ = some (.slice none 0 0) := by rw [hW, Fk.cellTop _ _ _ _ _ (by simp)]; rfl
  have d2 : W.cell? ⟨w.heap.size + 1 + 1, 2, none⟩ = some (.int .i64 0) := by rw [hW, Fk.cellTop _ _ _ _ _ (by simp)]; rfl
  have d3 : W.cell? ⟨w.heap.size + 1 + 1, 3, none⟩ = some (.int .i64 0) := by rw [hW, Fk.cellTop _ _ _ _ _ (by simp)]; rfl
  have df : ∀ j, W.frozen? ⟨w.heap.size + 1 + 1, j, none⟩ = false := fun j => by rw [hW, Fk.frozTop _ _ _ _ _ (by simp)]
  have HV := Fk.hide (hv.below b0)
  have HT := Fk.hide (ht.below b0)
  obtain ⟨a, cap, rfl, _⟩ := hv
  obtain ⟨ta, tcap, rfl, _⟩ := ht
  have HW := Fk.hide hW
  have HB0 := Fk.hide b0
  clear hW b0
  by_cases hbig : 400 < T.length
  · have HE : Hid (Rc.only K L T = (0, [], 2)) := Rc.only_size hbig
    have hb1 : (400 : Int) < (T.length : Int) := by omega
    go_enter Try.func29, Try.ntmps29
    go_wp2_with fail
    exact bodyPost_ret (v := .agg #[.int .i64 0, .slice none 0 0, .int .i64 0, .int .i64 2]) (by simp [results, Try.results29, go_sem] <;> rfl) rfl ⟨⟨_, by rw [HE.out], by rw [HE.out]; exact Rk.own_nil _ _ _⟩, by repeat (first | exact Below.refl _ _ | refine Below.alloc ?_ (by simp <;> omega) _)⟩
  · have hb1 : ¬ (400 : Int) < (T.length : Int) := by omega
    go_enter Try.func29, Try.ntmps29
    go_wp2_with fail
    rw [← HW.out]
    refine (recRight_impl K _ L _ HV.out hL hl).mono ?_
    rintro e w1 ⟨rfl, b1⟩
    have e0 := (b1.cell (p := ⟨w.heap.size, 0, none⟩) (by show w.heap.size < _; omega)).trans c0
    have e1 := (b1.cell (p := ⟨w.heap.size, 1, none⟩) (by show w.heap.size < _; omega)).trans c1
    have e2 := (b1.cell (p := ⟨w.heap.size + 1, 0, none⟩) (by show w.heap.size + 1 < _; omega)).trans c2
    have f0 := (b1.cell (p := ⟨w.heap.size + 1 + 1, 0, none⟩) (by show w.heap.size + 1 + 1 < _; omega)).trans d0
    have f1 := (b1.cell (p := ⟨w.heap.size + 1 + 1, 1, none⟩) (by show w.heap.size + 1 + 1 < _; omega)).trans d1
    have f2 := (b1.cell (p := ⟨w.heap.size + 1 + 1, 2, none⟩) (by show w.heap.size + 1 + 1 < _; omega)).trans d2
    have f3 := (b1.cell (p := ⟨w.heap.size + 1 + 1, 3, none⟩) (by show w.heap.size + 1 + 1 < _; omega)).trans d3
    have ff : ∀ j, w1.frozen? ⟨w.heap.size + 1 + 1, j, none⟩ = false := fun j => (b1.frozen (by show w.heap.size + 1 + 1 < _; omega)).trans (df j)
    have hs1 : w.heap.size + 3 ≤ w1.heap.size := by rw [← hsz]; exact b1.size
    have B1 := Fk.hide (HB0.out.trans (b1.mono HB0.out.size))
    have HV1 := Fk.hide (HV.out.below b1)
    have HT1 := Fk.hide (HT.out.below b1)
    clear b1 c0 c1 c2 d0 d1 d2 d3 df hsz
    obtain ⟨rb, hrb⟩ : ∃ rb, rb = Rc.right K L := ⟨_, rfl⟩
    have HR := Fk.hide hrb
    rw [← hrb]
    clear hrb
    cases rb with
    | false =>
      have HE : Hid (Rc.only K L T = (0, [], 1)) := Rc.only_ill hbig (by rw [← HR.out]; rfl)
      go_wp2_with fail
      refine bodyPost_ret (v := .agg #[.int .i64 0, .slice none 0 0, .int .i64 0, .int .i64 1]) (by simp [results, Try.results29, go_sem, f0, f1, f2, f3] <;> rfl) rfl ⟨⟨_, by rw [HE.out], by rw [HE.out]; exact Rk.own_nil _ _ _⟩, ?_⟩
      have b9 := B1.out
      repeat (first | exact b9 | refine Below.setCell ?_ (by simp <;> omega) _)
    | true =>
      go_wp2_with fail
      refine (risesI_any _ T _ HT1.out htl).mono ?_
      rintro e w2 ⟨rfl, b2⟩
      have g0 := (b2.cell (p := ⟨w.heap.size, 0, none⟩) (by show w.heap.size < _; omega)).trans e0
      have g1 := (b2.cell (p := ⟨w.heap.size, 1, none⟩) (by show w.heap.size < _; omega)).trans e1
      have g2 := (b2.cell (p := ⟨w.heap.size + 1, 0, none⟩) (by show w.heap.size + 1 < _; omega)).trans e2
      have h0 := (b2.cell (p := ⟨w.heap.size + 1 + 1, 0, none⟩) (by show w.heap.size + 1 + 1 < _; omega)).trans f0
      have h1 := (b2.cell (p := ⟨w.heap.size + 1 + 1, 1, none⟩) (by show w.heap.size + 1 + 1 < _; omega)).trans f1
      have h2 := (b2.cell (p := ⟨w.heap.size + 1 + 1, 2, none⟩) (by show w.heap.size + 1 + 1 < _; omega)).trans f2
      have h3 := (b2.cell (p := ⟨w.heap.size + 1 + 1, 3, none⟩) (by show w.heap.size + 1 + 1 < _; omega)).trans f3
      have hf : ∀ j, w2.frozen? ⟨w.heap.size + 1 + 1, j, none⟩ = false := fun j => (b2.frozen (by show w.heap.size + 1 + 1 < _; omega)).trans (ff j)
      have hs2 : w.heap.size + 3 ≤ w2.heap.size := Nat.le_trans hs1 b2.size
      have B2 := Fk.hide (B1.out.trans (b2.mono B1.out.size))
      have HV2 := Fk.hide (HV1.out.below b2)
      have HT2 := Fk.hide (HT1.out.below b2)
      clear b2 e0 e1 e2 f0 f1 f2 f3 ff hs1
      obtain ⟨ru, hru⟩ : ∃ ru, ru = Ri.upAll T := ⟨_, rfl⟩
      have HU := Fk.hide hru
      rw [← hru]
      clear hru
      cases ru with
      | false =>
        have HE : Hid (Rc.only K L T = (0, [], 1)) := Rc.only_ill hbig (by rw [← HU.out]; simp)
        go_wp2_with fail
        refine bodyPost_ret (v := .agg #[.int .i64 0, .slice none 0 0, .int .i64 0, .int .i64 1]) (by simp [results, Try.results29, go_sem, h0, h1, h2, h3] <;> rfl) rfl ⟨⟨_, by rw [HE.out], by rw [HE.out]; exact Rk.own_nil _ _ _⟩, ?_⟩
        have b9 := B2.out
        repeat (first | exact b9 | refine Below.setCell ?_ (by simp <;> omega) _)
      | true =>
        have HE : Hid (Rc.only K L T = (K, L.filter (fun f => T.contains f.1), 0)) := Rc.only_ok hbig HR.out.symm HU.out.symm
        have HK : Hid (∀ i w', Below w2.heap.size w2 w' → Calls Try.prog 64 #[.int .i64 i, .pointer (some ⟨w.heap.size + 1, 0, none⟩)] w' fun e w'' => e = .returned (.bool (T.contains i)) ∧ Below w'.heap.size w' w'') := fun i w' b' =>
          onlyAsk_any i _ _ T w' ((b'.cell (by show w.heap.size + 1 < _; omega)).trans g2) (HT2.out.below b') htl
        have h30 : L.length ≤ 30 := (Rc.right_inv HR.out.symm).1.2.2
        have HTX := Fk.hide (fun k => Rc.textAt_small (K := K) (L := L) HR.out.symm k)
        go_wp2_with fail
        refine (fieldsWith_only K _ L _ HV2.out h30 HTX.out _ (fun i => T.contains i) HK.out).mono ?_
        rintro e w3 ⟨⟨u, rfl, ou⟩, b3⟩
        have k0 := (b3.cell (p := ⟨w.heap.size, 0, none⟩) (by show w.heap.size < _; omega)).trans g0
        have m0 := (b3.cell (p := ⟨w.heap.size + 1 + 1, 0, none⟩) (by show w.heap.size + 1 + 1 < _; omega)).trans h0
        have m1 := (b3.cell (p := ⟨w.heap.size + 1 + 1, 1, none⟩) (by show w.heap.size + 1 + 1 < _; omega)).trans h1
        have m2 := (b3.cell (p := ⟨w.heap.size + 1 + 1, 2, none⟩) (by show w.heap.size + 1 + 1 < _; omega)).trans h2
        have m3 := (b3.cell (p := ⟨w.heap.size + 1 + 1, 3, none⟩) (by show w.heap.size + 1 + 1 < _; omega)).trans h3
        have mf : ∀ j, w3.frozen? ⟨w.heap.size + 1 + 1, j, none⟩ = false := fun j => (b3.frozen (by show w.heap.size + 1 + 1 < _; omega)).trans (hf j)
        have B3 := Fk.hide (B2.out.trans (b3.mono B2.out.size))
        have OU := Fk.hide ou
        have HS2 := Fk.hide hs2
        obtain ⟨ua, un, uc, rfl⟩ := ou.slice'
        clear b3 g0 g1 g2 h0 h1 h2 h3 hf ou hs2
        go_wp2_with fail
        refine bodyPost_ret (v := .agg #[.int .i64 K, .slice ua un uc, .int .i64 0, .int .i64 0]) (by simp [results, Try.results29, go_sem, m0, m1, m2, m3] <;> rfl) rfl ⟨⟨.slice ua un uc, by rw [HE.out], ?_⟩, ?_⟩
        · rw [HE.out]
          have hh := HS2.out
          refine Rk.Own.mono ?_ (by omega : w.heap.size ≤ w2.heap.size)
          repeat (first | exact OU.out | refine ownsRow_setCell_below ?_ (by show w.heap.size + 1 + 1 < _; omega) _)
        · have b9 := B3.out
          repeat (first | exact b9 | refine Below.setCell ?_ (by simp <;> omega) _)
end Go.Proofs.Ytkkmjffepdejnaa

/- The walks of the specification's l03Put, a field put in its place, and of its RecWith. -/
import Derived.Test.YtkkmjffepdejnaaRecWithMath
import Derived.Test.YtkkmjffepdejnaaRecRightSpec
import Derived.Test.YtkkmjffepdejnaaRecPickImpl
import Derived.Test.YtkkmjffepdejnaaRecAt
namespace Go.Proofs.Ytkkmjffepdejnaa
open Go.RowKit
set_option linter.unusedVariables false
set_option linter.unusedSimpArgs false

set_option maxHeartbeats 8000000 in
theorem l03Put_some (g cap : Nat) (L : List Fd.E) (x : Fd.E) (w : World) (hg : g < w.heap.size) (hsee : Rk.Sees Fd.S w g 0 L) (hcap : L.length ≤ cap) (hup : Rc.Up L) (hl : L.length ≤ 1000) (hcm : cap ≤ 9223372036854775807) :
    Calls Try.prog 53 #[.slice (some ⟨g, 0, none⟩) L.length cap, .agg #[.int .i64 x.1, .string x.2]] w fun e w' => (∃ u, e = .returned u ∧ Rk.Own Fd.S w' w.heap.size 76 u (Rc.put L x)) ∧ Below w.heap.size w w' := by
  obtain ⟨i0, hi, hz0, hz1, hz2⟩ := info_parts infoField
  have hzs : (Value.agg #[.int .i64 0, .string ByteArray.empty]).cells.size = 2 := by kernel_rfl
  obtain ⟨W, hW⟩ : ∃ W, W = w.alloc (.cells #[.int .i64 x.1, .string x.2] 76) := ⟨_, rfl⟩
  have b0 : Below w.heap.size w W := by rw [hW]; exact (Below.refl _ _).alloc (Nat.le_refl _) _
  have hsz : w.heap.size < W.heap.size := by rw [hW]; simp
  have q0 : W.cell? ⟨w.heap.size, 0, none⟩ = some (.int .i64 x.1) := by rw [hW, Fk.cellTop _ _ _ _ _ rfl]; rfl
  have q1 : W.cell? ⟨w.heap.size, 1, none⟩ = some (.string x.2) := by rw [hW, Fk.cellTop _ _ _ _ _ rfl]; rfl
  have HW := Fk.hide hW
  have HB0 := Fk.hide b0
  have HSEE := Fk.hide hsee
  clear hW b0 hsee
  go_enter Try.func53, Try.ntmps53
  go_wp2_with fail
  rw [← HW.out]
  go_loopw [5] (fun i wr => ∃ k : Nat, k ≤ L.length ∧ i = .int .i64 k ∧ Hid (∀ j, j < k → Rc.idAt L j < x.1) ∧ Hid (Below W.heap.size W wr)) (fun i _ => L.length - (intOf i).toNat)
  case atStart => exact ⟨0, Nat.zero_le _, rfl, (fun j hj => absurd hj (by omega)), Below.refl _ _⟩
  case round =>
    obtain ⟨k, hk, rfl, HK, bel⟩ := hrel
    have p0 : wr.cell? ⟨w.heap.size, 0, none⟩ = some (.int .i64 x.1) := (bel.out.cell (by exact hsz)).trans q0
    have r0 := cell_regrown p0
    have BW := Fk.hide (HB0.out.trans (bel.out.mono HB0.out.size))
    by_cases hlt : k < L.length
    · have x0 := Fd.c0 (HSEE.out.below hg BW.out) hlt
      change wr.cell? _ = some (.int .i64 (Rc.idAt L k)) at x0
      simp only [Nat.zero_add] at x0
      obtain ⟨id, hid⟩ : ∃ i, i = Rc.idAt L k := ⟨_, rfl⟩
      rw [← hid] at x0
      have HID := Fk.hide hid
      clear hid
      have r1 := cell_regrown x0
      have k1 : (k : Int) < (L.length : Int) := by omega
      have k0 : (0 : Int) ≤ (k : Int) := by omega
      have d1 : decide ((k : Int) < (L.length : Int)) = true := decide_eq_true k1
      have d2 : decide (k < L.length) = true := decide_eq_true hlt
      by_cases hlow : id < x.1
      · have d3 : decide (id < x.1) = true := decide_eq_true hlow
        go_wp2_with fail
        refine wp_region_quiet_below (by kernel_rfl) (by kernel_rfl) ?_
        repeat (go_big_quiet_step (fail))
        refine wpQuiet_nil ?_
        intro w4 hw'
        obtain ⟨⟨dq, osq⟩, hw''⟩ := hw'
        have bq : Below wr.heap.size wr w4 := by rw [hw'']; exact below_regrown wr dq osq
        clear hw''
        have B4 := Fk.hide (bel.out.trans (bq.mono bel.out.size))
        clear bq r0 r1 x0 p0 d1 d2 d3
        go_wp2_with fail
        go_roundw
        case rel =>
          refine ⟨k + 1, by omega, by go_num, (fun j hj => ?_), B4.out⟩
          by_cases e : j = k
          · rw [e, ← HID.out]; exact hlow
          · exact HK.out j (by omega)
        case measure => simp [intOf]; omega
      · have d3 : decide (id < x.1) = false := decide_eq_false hlow
        by_cases heq : id = x.1
        · have HPUT : Hid (Rc.put L x = L.take k ++ [x] ++ L.drop (k + 1)) := by
            show _ = _
            have := Rc.put_spec hup (by omega) HK.out (fun _ => by rw [← HID.out]; omega)
            rw [if_pos ⟨hlt, by rw [← HID.out]; exact heq⟩] at this
            exact this
          have d4 : (id == x.1) = true := by simpa using heq
          go_wp2_with fail
          refine wp_region_quiet_below (by kernel_rfl) (by kernel_rfl) ?_
          repeat (go_big_quiet_step (fail))
          refine wpQuiet_nil ?_
          intro w4 hw'
          obtain ⟨⟨dq, osq⟩, hw''⟩ := hw'
          have bq : Below wr.heap.size wr w4 := by rw [hw'']; exact below_regrown wr dq osq
          clear hw''
          clear r0 r1 x0 p0 d3 heq hlow
          have B4 := Fk.hide (bel.out.trans (bq.mono bel.out.size))
          clear bq
          have BW4 := Fk.hide (HB0.out.trans (B4.out.mono HB0.out.size))
          have hz4 : w.heap.size < w4.heap.size := Nat.lt_of_lt_of_le hsz B4.out.size
          have e0 := (B4.out.cell (p := ⟨w.heap.size, 0, none⟩) hsz).trans q0
          have e1 := (B4.out.cell (p := ⟨w.heap.size, 1, none⟩) hsz).trans q1
          have b5 : Below w4.heap.size w4 (w4.alloc (.cells #[] 76)) := (Below.refl _ _).alloc (Nat.le_refl _) _
          have B5 : Hid (Below w.heap.size w (w4.alloc (.cells #[] 76))) := BW4.out.trans (b5.mono BW4.out.size)
          have hM := Fk.hide (Rk.own_empty (S := Fd.S) w4 76 (w.heap.size + 1) hz4)
          have hV : Hid (Rk.View Fd.S (w4.alloc (.cells #[] 76)) (.slice (some ⟨g, 0, none⟩) k cap) (L.take k)) := Rk.view_of (Rk.sees_take (HSEE.out.below hg B5.out) k) (Nat.lt_of_lt_of_le hg B5.out.size) (by simp; omega)
          have hS : Hid (Rk.Shut (.slice (some ⟨g, 0, none⟩) k cap)) := Rk.shut_some _ _ _
          have hb5 : Hid (w.heap.size + 1 ≤ (w4.alloc (.cells #[] 76)).heap.size) := by show _ ≤ _; simp <;> omega
          have hl1 : Hid (([] : List Fd.E).length + (L.take k).length ≤ 1000000000) := by show _ ≤ _; simp <;> omega
          have hl2 : Hid (([] ++ L.take k).length + [x].length ≤ 1000000000) := by show _ ≤ _; simp <;> omega
          have hS1 : Hid (∀ ad, Rk.Shut (.slice (some ad) 1 1)) := fun ad => Rk.shut_some ad _ _
          have NX : Hid (∀ (w1 : World) (u1 : Value), Rk.Own Fd.S w1 (w.heap.size + 1) 76 u1 ([] ++ L.take k) → (w4.alloc (.cells #[] 76)).grownBy w1 (Value.slice (some ⟨w4.heap.size, 0, none⟩) 0 0).ownBlock → Below w.heap.size w w1 ∧ w.heap.size < w1.heap.size ∧ w1.cell? ⟨w.heap.size, 0, none⟩ = some (.int .i64 x.1) ∧ w1.cell? ⟨w.heap.size, 1, none⟩ = some (.string x.2) ∧ Rk.Own Fd.S (w1.alloc (.cells #[.int .i64 x.1, .string x.2] 76)) (w.heap.size + 1) 76 u1 ([] ++ L.take k) ∧ Below w.heap.size w (w1.alloc (.cells #[.int .i64 x.1, .string x.2] 76)) ∧ w.heap.size + 1 ≤ (w1.alloc (.cells #[.int .i64 x.1, .string x.2] 76)).heap.size) := by
            intro w1 u1 o1 g1
            have b1 : Below w.heap.size w w1 := B5.out.grown g1 B5.out.size (fun k hk => by have h3 : w4.heap.size = k := Option.some.inj hk; omega)
            have hz : (w4.alloc (.cells #[] 76)).heap.size ≤ w1.heap.size := g1.size
            simp at hz
            have f0 := (g1.cell_far ⟨w.heap.size, 0, none⟩ (by show w.heap.size < _; simp <;> omega) (fun h => by have h3 : w.heap.size = w4.heap.size := Option.some.inj h; omega)).trans ((b5.cell hz4).trans e0)
            have f1 := (g1.cell_far ⟨w.heap.size, 1, none⟩ (by show w.heap.size < _; simp <;> omega) (fun h => by have h3 : w.heap.size = w4.heap.size := Option.some.inj h; omega)).trans ((b5.cell hz4).trans e1)
            exact ⟨b1, by omega, f0, f1, o1.below ((Below.refl _ _).alloc (Nat.le_refl _) _), b1.alloc b1.size _, by simp; omega⟩
          have VL : Hid (∀ w1 : World, Rk.View Fd.S (w1.alloc (.cells #[.int .i64 x.1, .string x.2] 76)) (.slice (some ⟨w1.heap.size, 0, none⟩) 1 1) [x]) := fun w1 => Rk.view_lit1 w1 76 #[.int .i64 x.1, .string x.2] x rfl
          have n1 : (k : Int) ≤ (cap : Int) := by omega
          have n2 : (0 : Int) ≤ (k : Int) := by omega
          clear bel
          clear b5
          set_option maxRecDepth 20000 in
          go_wp2_with (first
            | (at_builtin; (refine Rk.wpList_append_view _ rfl (.tmp 23) (.tmp 26) 43 rfl (w.heap.size + 1) 76 i0 _ 2 24 rfl Try.underlying43 hi hz0 hz1 hz2 hzs (by decide) (.slice (some ⟨w4.heap.size, 0, none⟩) 0 0) (.slice (some ⟨g, 0, none⟩) k cap) ([]) (L.take k) rfl rfl hM.out hV.out hS.out hl1.out hb5.out ?_; intro u1 w1 o1 g1; obtain ⟨k1, k2, k3, k4, k6, k7, k8⟩ := NX.out w1 u1 o1 g1; obtain ⟨a1, n1', c1, rfl⟩ := o1.slice'; clear g1))
            | (at_builtin; (refine Rk.wpList_append_view _ rfl (.tmp 28) (.tmp 30) 43 rfl (w.heap.size + 1) 76 i0 _ 2 24 rfl Try.underlying43 hi hz0 hz1 hz2 hzs (by decide) (.slice a1 n1' c1) (.slice (some ⟨w1.heap.size, 0, none⟩) 1 1) ([] ++ L.take k) ([x]) rfl rfl k6 (VL.out w1) (hS1.out _) hl2.out k8 ?_; intro u2 w2 o2 g2; have B2 := k7.grown g2 k7.size (fun j hj => by have := (World.ownsRow.lt k6 j hj).1; omega); have y0 : w2.cell? ⟨w.heap.size, 0, none⟩ = some (.int .i64 x.1) := (g2.cell_far ⟨w.heap.size, 0, none⟩ (by show w.heap.size < _; simp <;> omega) (fun h => by have := (World.ownsRow.lt k6 w.heap.size h.symm).1; omega)).trans ((Fk.cellOld _ _ _ _ k2).trans k3); have hzz : w.heap.size + 1 ≤ w2.heap.size := Nat.le_trans k8 g2.size; have O2 := Fk.hide o2; obtain ⟨a2, n2', c2, rfl⟩ := o2.slice')))
          have BW2 := Fk.hide B2
          clear B2 o2 g2 k1 k2 k3 k4 k6 k7 k8 e0 e1 o1
          have t0 := cell_regrown y0
          have x2 := Fd.c0 (HSEE.out.below hg BW2.out) hlt
          change w2.cell? _ = some (.int .i64 (Rc.idAt L k)) at x2
          simp only [Nat.zero_add] at x2
          rw [← HID.out] at x2
          have t1 := cell_regrown x2
          refine wp_region_quiet_below (by kernel_rfl) (by kernel_rfl) ?_
          repeat (go_big_quiet_step (fail))
          refine wpQuiet_nil ?_
          intro w6 hw'
          obtain ⟨⟨dq, osq⟩, hw''⟩ := hw'
          have bq : Below w2.heap.size w2 w6 := by rw [hw'']; exact below_regrown w2 dq osq
          clear hw''
          have B6 := Fk.hide (BW2.out.trans (bq.mono BW2.out.size))
          have O6 := Fk.hide (O2.out.below bq)
          have hz6 : w.heap.size + 1 ≤ w6.heap.size := Nat.le_trans hzz bq.size
          clear bq t0 y0 t1 x2
          have m1 : ((k + 1 : Nat) : Int) ≤ (L.length : Int) := by omega
          have m2 : (0 : Int) ≤ ((k + 1 : Nat) : Int) := by omega
          by_cases hc : cap = k + 1
          · have hd : L.drop (k + 1) = [] := List.drop_eq_nil_of_le (by omega)
            have hll : L.length = k + 1 := by omega
            have HPUT2 : Hid (Rc.put L x = L.take k ++ [x] ++ L.drop (k + 1)) := HPUT.out
            clear HPUT
            have HPUT : Hid (Rc.put L x = L.take k ++ [x] ++ []) := by show _ = _; rw [HPUT2.out, hd]
            have hV6 : Hid (Rk.View Fd.S w6 (.slice (some ⟨g, 0, none⟩) 0 0) (([] : List Fd.E))) := Rk.view_of (fun i hi => absurd hi (by simp)) (Nat.lt_of_lt_of_le hg B6.out.size) rfl
            have hS6 : Hid (Rk.Shut (.slice (some ⟨g, 0, none⟩) 0 0)) := Rk.shut_some _ _ _
            have hl6 : Hid (([] ++ L.take k ++ [x]).length + (([] : List Fd.E)).length ≤ 1000000000) := by show _ ≤ _; simp <;> omega
            go_wp2_with (at_builtin; (refine Rk.wpList_append_view _ rfl (.tmp 48) (.tmp 51) 43 rfl (w.heap.size + 1) 76 i0 _ 2 24 rfl Try.underlying43 hi hz0 hz1 hz2 hzs (by decide) (.slice a2 n2' c2) (.slice (some ⟨g, 0, none⟩) 0 0) ([] ++ L.take k ++ [x]) (([] : List Fd.E)) rfl rfl O6.out hV6.out hS6.out hl6.out hz6 ?_; intro u3 w3 o3 g3; have B3 := Fk.hide (B6.out.grown g3 B6.out.size (fun j hj => by have := (World.ownsRow.lt O6.out j hj).1; omega)); have O3 := Fk.hide o3; obtain ⟨a3, n3, c3, rfl⟩ := o3.slice'; clear g3 o3))
            go_ret
            refine ⟨⟨_, rfl, ?_⟩, B3.out⟩
            rw [HPUT.out]
            have o9 := O3.out.mono (by omega : w.heap.size ≤ w.heap.size + 1)
            simpa using o9
          · have m3 : ((k + 1 : Nat) : Int) < (cap : Int) := by omega
            have hV6 : Hid (Rk.View Fd.S w6 (.slice (some ⟨g, (k + 1) * 2, none⟩) (L.length - (k + 1)) (cap - (k + 1))) (L.drop (k + 1))) := Rk.view_of (by have := Rk.sees_drop (HSEE.out.below hg B6.out) (k + 1); rw [Nat.zero_add] at this; exact this) (Nat.lt_of_lt_of_le hg B6.out.size) (by simp)
            have hS6 : Hid (Rk.Shut (.slice (some ⟨g, (k + 1) * 2, none⟩) (L.length - (k + 1)) (cap - (k + 1)))) := Rk.shut_some _ _ _
            have hl6 : Hid (([] ++ L.take k ++ [x]).length + (L.drop (k + 1)).length ≤ 1000000000) := by show _ ≤ _; simp <;> omega
            go_wp2_with (at_builtin; (refine Rk.wpList_append_view _ rfl (.tmp 48) (.tmp 51) 43 rfl (w.heap.size + 1) 76 i0 _ 2 24 rfl Try.underlying43 hi hz0 hz1 hz2 hzs (by decide) (.slice a2 n2' c2) (.slice (some ⟨g, (k + 1) * 2, none⟩) (L.length - (k + 1)) (cap - (k + 1))) ([] ++ L.take k ++ [x]) (L.drop (k + 1)) rfl rfl O6.out hV6.out hS6.out hl6.out hz6 ?_; intro u3 w3 o3 g3; have B3 := Fk.hide (B6.out.grown g3 B6.out.size (fun j hj => by have := (World.ownsRow.lt O6.out j hj).1; omega)); have O3 := Fk.hide o3; obtain ⟨a3, n3, c3, rfl⟩ := o3.slice'; clear g3 o3))
            go_ret
            refine ⟨⟨_, rfl, ?_⟩, B3.out⟩
            rw [HPUT.out]
            have o9 := O3.out.mono (by omega : w.heap.size ≤ w.heap.size + 1)
            simpa using o9
        · have HPUT : Hid (Rc.put L x = L.take k ++ [x] ++ L.drop k) := by
            show _ = _
            have := Rc.put_spec hup (by omega) HK.out (fun _ => by rw [← HID.out]; omega)
            rw [if_neg (fun h => heq (by rw [HID.out]; exact h.2))] at this
            exact this
          have d4 : (id == x.1) = false := by simpa using heq
          go_wp2_with fail
          refine wp_region_quiet_below (by kernel_rfl) (by kernel_rfl) ?_
          repeat (go_big_quiet_step (fail))
          refine wpQuiet_nil ?_
          intro w4 hw'
          obtain ⟨⟨dq, osq⟩, hw''⟩ := hw'
          have bq : Below wr.heap.size wr w4 := by rw [hw'']; exact below_regrown wr dq osq
          clear hw''
          clear r0 r1 x0 p0 d3 heq hlow
          have B4 := Fk.hide (bel.out.trans (bq.mono bel.out.size))
          clear bq
          have BW4 := Fk.hide (HB0.out.trans (B4.out.mono HB0.out.size))
          have hz4 : w.heap.size < w4.heap.size := Nat.lt_of_lt_of_le hsz B4.out.size
          have e0 := (B4.out.cell (p := ⟨w.heap.size, 0, none⟩) hsz).trans q0
          have e1 := (B4.out.cell (p := ⟨w.heap.size, 1, none⟩) hsz).trans q1
          have b5 : Below w4.heap.size w4 (w4.alloc (.cells #[] 76)) := (Below.refl _ _).alloc (Nat.le_refl _) _
          have B5 : Hid (Below w.heap.size w (w4.alloc (.cells #[] 76))) := BW4.out.trans (b5.mono BW4.out.size)
          have hM := Fk.hide (Rk.own_empty (S := Fd.S) w4 76 (w.heap.size + 1) hz4)
          have hV : Hid (Rk.View Fd.S (w4.alloc (.cells #[] 76)) (.slice (some ⟨g, 0, none⟩) k cap) (L.take k)) := Rk.view_of (Rk.sees_take (HSEE.out.below hg B5.out) k) (Nat.lt_of_lt_of_le hg B5.out.size) (by simp; omega)
          have hS : Hid (Rk.Shut (.slice (some ⟨g, 0, none⟩) k cap)) := Rk.shut_some _ _ _
          have hb5 : Hid (w.heap.size + 1 ≤ (w4.alloc (.cells #[] 76)).heap.size) := by show _ ≤ _; simp <;> omega
          have hl1 : Hid (([] : List Fd.E).length + (L.take k).length ≤ 1000000000) := by show _ ≤ _; simp <;> omega
          have hl2 : Hid (([] ++ L.take k).length + [x].length ≤ 1000000000) := by show _ ≤ _; simp <;> omega
          have hS1 : Hid (∀ ad, Rk.Shut (.slice (some ad) 1 1)) := fun ad => Rk.shut_some ad _ _
          have NX : Hid (∀ (w1 : World) (u1 : Value), Rk.Own Fd.S w1 (w.heap.size + 1) 76 u1 ([] ++ L.take k) → (w4.alloc (.cells #[] 76)).grownBy w1 (Value.slice (some ⟨w4.heap.size, 0, none⟩) 0 0).ownBlock → Below w.heap.size w w1 ∧ w.heap.size < w1.heap.size ∧ w1.cell? ⟨w.heap.size, 0, none⟩ = some (.int .i64 x.1) ∧ w1.cell? ⟨w.heap.size, 1, none⟩ = some (.string x.2) ∧ Rk.Own Fd.S (w1.alloc (.cells #[.int .i64 x.1, .string x.2] 76)) (w.heap.size + 1) 76 u1 ([] ++ L.take k) ∧ Below w.heap.size w (w1.alloc (.cells #[.int .i64 x.1, .string x.2] 76)) ∧ w.heap.size + 1 ≤ (w1.alloc (.cells #[.int .i64 x.1, .string x.2] 76)).heap.size) := by
            intro w1 u1 o1 g1
            have b1 : Below w.heap.size w w1 := B5.out.grown g1 B5.out.size (fun k hk => by have h3 : w4.heap.size = k := Option.some.inj hk; omega)
            have hz : (w4.alloc (.cells #[] 76)).heap.size ≤ w1.heap.size := g1.size
            simp at hz
            have f0 := (g1.cell_far ⟨w.heap.size, 0, none⟩ (by show w.heap.size < _; simp <;> omega) (fun h => by have h3 : w.heap.size = w4.heap.size := Option.some.inj h; omega)).trans ((b5.cell hz4).trans e0)
            have f1 := (g1.cell_far ⟨w.heap.size, 1, none⟩ (by show w.heap.size < _; simp <;> omega) (fun h => by have h3 : w.heap.size = w4.heap.size := Option.some.inj h; omega)).trans ((b5.cell hz4).trans e1)
            exact ⟨b1, by omega, f0, f1, o1.below ((Below.refl _ _).alloc (Nat.le_refl _) _), b1.alloc b1.size _, by simp; omega⟩
          have VL : Hid (∀ w1 : World, Rk.View Fd.S (w1.alloc (.cells #[.int .i64 x.1, .string x.2] 76)) (.slice (some ⟨w1.heap.size, 0, none⟩) 1 1) [x]) := fun w1 => Rk.view_lit1 w1 76 #[.int .i64 x.1, .string x.2] x rfl
          have n1 : (k : Int) ≤ (cap : Int) := by omega
          have n2 : (0 : Int) ≤ (k : Int) := by omega
          clear bel
          clear b5
          set_option maxRecDepth 20000 in
          go_wp2_with (first
            | (at_builtin; (refine Rk.wpList_append_view _ rfl (.tmp 23) (.tmp 26) 43 rfl (w.heap.size + 1) 76 i0 _ 2 24 rfl Try.underlying43 hi hz0 hz1 hz2 hzs (by decide) (.slice (some ⟨w4.heap.size, 0, none⟩) 0 0) (.slice (some ⟨g, 0, none⟩) k cap) ([]) (L.take k) rfl rfl hM.out hV.out hS.out hl1.out hb5.out ?_; intro u1 w1 o1 g1; obtain ⟨k1, k2, k3, k4, k6, k7, k8⟩ := NX.out w1 u1 o1 g1; obtain ⟨a1, n1', c1, rfl⟩ := o1.slice'; clear g1))
            | (at_builtin; (refine Rk.wpList_append_view _ rfl (.tmp 28) (.tmp 30) 43 rfl (w.heap.size + 1) 76 i0 _ 2 24 rfl Try.underlying43 hi hz0 hz1 hz2 hzs (by decide) (.slice a1 n1' c1) (.slice (some ⟨w1.heap.size, 0, none⟩) 1 1) ([] ++ L.take k) ([x]) rfl rfl k6 (VL.out w1) (hS1.out _) hl2.out k8 ?_; intro u2 w2 o2 g2; have B2 := k7.grown g2 k7.size (fun j hj => by have := (World.ownsRow.lt k6 j hj).1; omega); have y0 : w2.cell? ⟨w.heap.size, 0, none⟩ = some (.int .i64 x.1) := (g2.cell_far ⟨w.heap.size, 0, none⟩ (by show w.heap.size < _; simp <;> omega) (fun h => by have := (World.ownsRow.lt k6 w.heap.size h.symm).1; omega)).trans ((Fk.cellOld _ _ _ _ k2).trans k3); have hzz : w.heap.size + 1 ≤ w2.heap.size := Nat.le_trans k8 g2.size; have O2 := Fk.hide o2; obtain ⟨a2, n2', c2, rfl⟩ := o2.slice')))
          have BW2 := Fk.hide B2
          clear B2 o2 g2 k1 k2 k3 k4 k6 k7 k8 e0 e1 o1
          have t0 := cell_regrown y0
          have x2 := Fd.c0 (HSEE.out.below hg BW2.out) hlt
          change w2.cell? _ = some (.int .i64 (Rc.idAt L k)) at x2
          simp only [Nat.zero_add] at x2
          rw [← HID.out] at x2
          have t1 := cell_regrown x2
          refine wp_region_quiet_below (by kernel_rfl) (by kernel_rfl) ?_
          repeat (go_big_quiet_step (fail))
          refine wpQuiet_nil ?_
          intro w6 hw'
          obtain ⟨⟨dq, osq⟩, hw''⟩ := hw'
          have bq : Below w2.heap.size w2 w6 := by rw [hw'']; exact below_regrown w2 dq osq
          clear hw''
          have B6 := Fk.hide (BW2.out.trans (bq.mono BW2.out.size))
          have O6 := Fk.hide (O2.out.below bq)
          have hz6 : w.heap.size + 1 ≤ w6.heap.size := Nat.le_trans hzz bq.size
          clear bq t0 y0 t1 x2
          have m1 : ((k : Nat) : Int) ≤ (L.length : Int) := by omega
          have m2 : (0 : Int) ≤ ((k : Nat) : Int) := by omega
          by_cases hc : cap = k
          · have hd : L.drop (k) = [] := List.drop_eq_nil_of_le (by omega)
            have hll : L.length = k := by omega
            have HPUT2 : Hid (Rc.put L x = L.take k ++ [x] ++ L.drop (k)) := HPUT.out
            clear HPUT
            have HPUT : Hid (Rc.put L x = L.take k ++ [x] ++ []) := by show _ = _; rw [HPUT2.out, hd]
            have hV6 : Hid (Rk.View Fd.S w6 (.slice (some ⟨g, 0, none⟩) 0 0) (([] : List Fd.E))) := Rk.view_of (fun i hi => absurd hi (by simp)) (Nat.lt_of_lt_of_le hg B6.out.size) rfl
            have hS6 : Hid (Rk.Shut (.slice (some ⟨g, 0, none⟩) 0 0)) := Rk.shut_some _ _ _
            have hl6 : Hid (([] ++ L.take k ++ [x]).length + (([] : List Fd.E)).length ≤ 1000000000) := by show _ ≤ _; simp <;> omega
            go_wp2_with (at_builtin; (refine Rk.wpList_append_view _ rfl (.tmp 48) (.tmp 51) 43 rfl (w.heap.size + 1) 76 i0 _ 2 24 rfl Try.underlying43 hi hz0 hz1 hz2 hzs (by decide) (.slice a2 n2' c2) (.slice (some ⟨g, 0, none⟩) 0 0) ([] ++ L.take k ++ [x]) (([] : List Fd.E)) rfl rfl O6.out hV6.out hS6.out hl6.out hz6 ?_; intro u3 w3 o3 g3; have B3 := Fk.hide (B6.out.grown g3 B6.out.size (fun j hj => by have := (World.ownsRow.lt O6.out j hj).1; omega)); have O3 := Fk.hide o3; obtain ⟨a3, n3, c3, rfl⟩ := o3.slice'; clear g3 o3))
            go_ret
            refine ⟨⟨_, rfl, ?_⟩, B3.out⟩
            rw [HPUT.out]
            have o9 := O3.out.mono (by omega : w.heap.size ≤ w.heap.size + 1)
            simpa using o9
          · have m3 : ((k : Nat) : Int) < (cap : Int) := by omega
            have hV6 : Hid (Rk.View Fd.S w6 (.slice (some ⟨g, (k) * 2, none⟩) (L.length - (k)) (cap - (k))) (L.drop (k))) := Rk.view_of (by have := Rk.sees_drop (HSEE.out.below hg B6.out) (k); rw [Nat.zero_add] at this; exact this) (Nat.lt_of_lt_of_le hg B6.out.size) (by simp)
            have hS6 : Hid (Rk.Shut (.slice (some ⟨g, (k) * 2, none⟩) (L.length - (k)) (cap - (k)))) := Rk.shut_some _ _ _
            have hl6 : Hid (([] ++ L.take k ++ [x]).length + (L.drop (k)).length ≤ 1000000000) := by show _ ≤ _; simp <;> omega
            go_wp2_with (at_builtin; (refine Rk.wpList_append_view _ rfl (.tmp 48) (.tmp 51) 43 rfl (w.heap.size + 1) 76 i0 _ 2 24 rfl Try.underlying43 hi hz0 hz1 hz2 hzs (by decide) (.slice a2 n2' c2) (.slice (some ⟨g, (k) * 2, none⟩) (L.length - (k)) (cap - (k))) ([] ++ L.take k ++ [x]) (L.drop (k)) rfl rfl O6.out hV6.out hS6.out hl6.out hz6 ?_; intro u3 w3 o3 g3; have B3 := Fk.hide (B6.out.grown g3 B6.out.size (fun j hj => by have := (World.ownsRow.lt O6.out j hj).1; omega)); have O3 := Fk.hide o3; obtain ⟨a3, n3, c3, rfl⟩ := o3.slice'; clear g3 o3))
            go_ret
            refine ⟨⟨_, rfl, ?_⟩, B3.out⟩
            rw [HPUT.out]
            have o9 := O3.out.mono (by omega : w.heap.size ≤ w.heap.size + 1)
            simpa using o9
    · have e : k = L.length := by omega
      have HPUT : Hid (Rc.put L x = L.take k ++ [x] ++ L.drop k) := by
        show _ = _
        have := Rc.put_spec hup (by omega) HK.out (fun _ => by omega)
        rw [if_neg (fun h => by omega)] at this
        exact this
      have d1 : decide ((k : Int) < (L.length : Int)) = false := decide_eq_false (by omega)
      have d2 : decide (k < L.length) = false := decide_eq_false (by omega)
      have k0 : (0 : Int) ≤ (k : Int) := by omega
      clear e
      go_wp2_with fail
      refine wp_region_quiet_below (by kernel_rfl) (by kernel_rfl) ?_
      repeat (go_big_quiet_step (fail))
      refine wpQuiet_nil ?_
      intro w4 hw'
      obtain ⟨⟨dq, osq⟩, hw''⟩ := hw'
      have bq : Below wr.heap.size wr w4 := by rw [hw'']; exact below_regrown wr dq osq
      clear hw''
      clear r0 p0
      have B4 := Fk.hide (bel.out.trans (bq.mono bel.out.size))
      clear bq
      have BW4 := Fk.hide (HB0.out.trans (B4.out.mono HB0.out.size))
      have hz4 : w.heap.size < w4.heap.size := Nat.lt_of_lt_of_le hsz B4.out.size
      have e0 := (B4.out.cell (p := ⟨w.heap.size, 0, none⟩) hsz).trans q0
      have e1 := (B4.out.cell (p := ⟨w.heap.size, 1, none⟩) hsz).trans q1
      have b5 : Below w4.heap.size w4 (w4.alloc (.cells #[] 76)) := (Below.refl _ _).alloc (Nat.le_refl _) _
      have B5 : Hid (Below w.heap.size w (w4.alloc (.cells #[] 76))) := BW4.out.trans (b5.mono BW4.out.size)
      have hM := Fk.hide (Rk.own_empty (S := Fd.S) w4 76 (w.heap.size + 1) hz4)
      have hV : Hid (Rk.View Fd.S (w4.alloc (.cells #[] 76)) (.slice (some ⟨g, 0, none⟩) k cap) (L.take k)) := Rk.view_of (Rk.sees_take (HSEE.out.below hg B5.out) k) (Nat.lt_of_lt_of_le hg B5.out.size) (by simp; omega)
      have hS : Hid (Rk.Shut (.slice (some ⟨g, 0, none⟩) k cap)) := Rk.shut_some _ _ _
      have hb5 : Hid (w.heap.size + 1 ≤ (w4.alloc (.cells #[] 76)).heap.size) := by show _ ≤ _; simp <;> omega
      have hl1 : Hid (([] : List Fd.E).length + (L.take k).length ≤ 1000000000) := by show _ ≤ _; simp <;> omega
      have hl2 : Hid (([] ++ L.take k).length + [x].length ≤ 1000000000) := by show _ ≤ _; simp <;> omega
      have hS1 : Hid (∀ ad, Rk.Shut (.slice (some ad) 1 1)) := fun ad => Rk.shut_some ad _ _
      have NX : Hid (∀ (w1 : World) (u1 : Value), Rk.Own Fd.S w1 (w.heap.size + 1) 76 u1 ([] ++ L.take k) → (w4.alloc (.cells #[] 76)).grownBy w1 (Value.slice (some ⟨w4.heap.size, 0, none⟩) 0 0).ownBlock → Below w.heap.size w w1 ∧ w.heap.size < w1.heap.size ∧ w1.cell? ⟨w.heap.size, 0, none⟩ = some (.int .i64 x.1) ∧ w1.cell? ⟨w.heap.size, 1, none⟩ = some (.string x.2) ∧ Rk.Own Fd.S (w1.alloc (.cells #[.int .i64 x.1, .string x.2] 76)) (w.heap.size + 1) 76 u1 ([] ++ L.take k) ∧ Below w.heap.size w (w1.alloc (.cells #[.int .i64 x.1, .string x.2] 76)) ∧ w.heap.size + 1 ≤ (w1.alloc (.cells #[.int .i64 x.1, .string x.2] 76)).heap.size) := by
        intro w1 u1 o1 g1
        have b1 : Below w.heap.size w w1 := B5.out.grown g1 B5.out.size (fun k hk => by have h3 : w4.heap.size = k := Option.some.inj hk; omega)
        have hz : (w4.alloc (.cells #[] 76)).heap.size ≤ w1.heap.size := g1.size
        simp at hz
        have f0 := (g1.cell_far ⟨w.heap.size, 0, none⟩ (by show w.heap.size < _; simp <;> omega) (fun h => by have h3 : w.heap.size = w4.heap.size := Option.some.inj h; omega)).trans ((b5.cell hz4).trans e0)
        have f1 := (g1.cell_far ⟨w.heap.size, 1, none⟩ (by show w.heap.size < _; simp <;> omega) (fun h => by have h3 : w.heap.size = w4.heap.size := Option.some.inj h; omega)).trans ((b5.cell hz4).trans e1)
        exact ⟨b1, by omega, f0, f1, o1.below ((Below.refl _ _).alloc (Nat.le_refl _) _), b1.alloc b1.size _, by simp; omega⟩
      have VL : Hid (∀ w1 : World, Rk.View Fd.S (w1.alloc (.cells #[.int .i64 x.1, .string x.2] 76)) (.slice (some ⟨w1.heap.size, 0, none⟩) 1 1) [x]) := fun w1 => Rk.view_lit1 w1 76 #[.int .i64 x.1, .string x.2] x rfl
      have n1 : (k : Int) ≤ (cap : Int) := by omega
      have n2 : (0 : Int) ≤ (k : Int) := by omega
      clear bel
      clear b5
      set_option maxRecDepth 20000 in
      go_wp2_with (first
        | (at_builtin; (refine Rk.wpList_append_view _ rfl (.tmp 23) (.tmp 26) 43 rfl (w.heap.size + 1) 76 i0 _ 2 24 rfl Try.underlying43 hi hz0 hz1 hz2 hzs (by decide) (.slice (some ⟨w4.heap.size, 0, none⟩) 0 0) (.slice (some ⟨g, 0, none⟩) k cap) ([]) (L.take k) rfl rfl hM.out hV.out hS.out hl1.out hb5.out ?_; intro u1 w1 o1 g1; obtain ⟨k1, k2, k3, k4, k6, k7, k8⟩ := NX.out w1 u1 o1 g1; obtain ⟨a1, n1', c1, rfl⟩ := o1.slice'; clear g1))
        | (at_builtin; (refine Rk.wpList_append_view _ rfl (.tmp 28) (.tmp 30) 43 rfl (w.heap.size + 1) 76 i0 _ 2 24 rfl Try.underlying43 hi hz0 hz1 hz2 hzs (by decide) (.slice a1 n1' c1) (.slice (some ⟨w1.heap.size, 0, none⟩) 1 1) ([] ++ L.take k) ([x]) rfl rfl k6 (VL.out w1) (hS1.out _) hl2.out k8 ?_; intro u2 w2 o2 g2; have B2 := k7.grown g2 k7.size (fun j hj => by have := (World.ownsRow.lt k6 j hj).1; omega); have y0 : w2.cell? ⟨w.heap.size, 0, none⟩ = some (.int .i64 x.1) := (g2.cell_far ⟨w.heap.size, 0, none⟩ (by show w.heap.size < _; simp <;> omega) (fun h => by have := (World.ownsRow.lt k6 w.heap.size h.symm).1; omega)).trans ((Fk.cellOld _ _ _ _ k2).trans k3); have hzz : w.heap.size + 1 ≤ w2.heap.size := Nat.le_trans k8 g2.size; have O2 := Fk.hide o2; obtain ⟨a2, n2', c2, rfl⟩ := o2.slice')))
      have BW2 := Fk.hide B2
      clear B2 o2 g2 k1 k2 k3 k4 k6 k7 k8 e0 e1 o1
      have t0 := cell_regrown y0
      refine wp_region_quiet_below (by kernel_rfl) (by kernel_rfl) ?_
      repeat (go_big_quiet_step (fail))
      refine wpQuiet_nil ?_
      intro w6 hw'
      obtain ⟨⟨dq, osq⟩, hw''⟩ := hw'
      have bq : Below w2.heap.size w2 w6 := by rw [hw'']; exact below_regrown w2 dq osq
      clear hw''
      have B6 := Fk.hide (BW2.out.trans (bq.mono BW2.out.size))
      have O6 := Fk.hide (O2.out.below bq)
      have hz6 : w.heap.size + 1 ≤ w6.heap.size := Nat.le_trans hzz bq.size
      clear bq t0 y0
      have m1 : ((k : Nat) : Int) ≤ (L.length : Int) := by omega
      have m2 : (0 : Int) ≤ ((k : Nat) : Int) := by omega
      by_cases hc : cap = k
      · have hd : L.drop (k) = [] := List.drop_eq_nil_of_le (by omega)
        have hll : L.length = k := by omega
        have HPUT2 : Hid (Rc.put L x = L.take k ++ [x] ++ L.drop (k)) := HPUT.out
        clear HPUT
        have HPUT : Hid (Rc.put L x = L.take k ++ [x] ++ []) := by show _ = _; rw [HPUT2.out, hd]
        have hV6 : Hid (Rk.View Fd.S w6 (.slice (some ⟨g, 0, none⟩) 0 0) (([] : List Fd.E))) := Rk.view_of (fun i hi => absurd hi (by simp)) (Nat.lt_of_lt_of_le hg B6.out.size) rfl
        have hS6 : Hid (Rk.Shut (.slice (some ⟨g, 0, none⟩) 0 0)) := Rk.shut_some _ _ _
        have hl6 : Hid (([] ++ L.take k ++ [x]).length + (([] : List Fd.E)).length ≤ 1000000000) := by show _ ≤ _; simp <;> omega
        go_wp2_with (at_builtin; (refine Rk.wpList_append_view _ rfl (.tmp 48) (.tmp 51) 43 rfl (w.heap.size + 1) 76 i0 _ 2 24 rfl Try.underlying43 hi hz0 hz1 hz2 hzs (by decide) (.slice a2 n2' c2) (.slice (some ⟨g, 0, none⟩) 0 0) ([] ++ L.take k ++ [x]) (([] : List Fd.E)) rfl rfl O6.out hV6.out hS6.out hl6.out hz6 ?_; intro u3 w3 o3 g3; have B3 := Fk.hide (B6.out.grown g3 B6.out.size (fun j hj => by have := (World.ownsRow.lt O6.out j hj).1; omega)); have O3 := Fk.hide o3; obtain ⟨a3, n3, c3, rfl⟩ := o3.slice'; clear g3 o3))
        go_ret
        refine ⟨⟨_, rfl, ?_⟩, B3.out⟩
        rw [HPUT.out]
        have o9 := O3.out.mono (by omega : w.heap.size ≤ w.heap.size + 1)
        simpa using o9
      · have m3 : ((k : Nat) : Int) < (cap : Int) := by omega
        have hV6 : Hid (Rk.View Fd.S w6 (.slice (some ⟨g, (k) * 2, none⟩) (L.length - (k)) (cap - (k))) (L.drop (k))) := Rk.view_of (by have := Rk.sees_drop (HSEE.out.below hg B6.out) (k); rw [Nat.zero_add] at this; exact this) (Nat.lt_of_lt_of_le hg B6.out.size) (by simp)
        have hS6 : Hid (Rk.Shut (.slice (some ⟨g, (k) * 2, none⟩) (L.length - (k)) (cap - (k)))) := Rk.shut_some _ _ _
        have hl6 : Hid (([] ++ L.take k ++ [x]).length + (L.drop (k)).length ≤ 1000000000) := by show _ ≤ _; simp <;> omega
        go_wp2_with (at_builtin; (refine Rk.wpList_append_view _ rfl (.tmp 48) (.tmp 51) 43 rfl (w.heap.size + 1) 76 i0 _ 2 24 rfl Try.underlying43 hi hz0 hz1 hz2 hzs (by decide) (.slice a2 n2' c2) (.slice (some ⟨g, (k) * 2, none⟩) (L.length - (k)) (cap - (k))) ([] ++ L.take k ++ [x]) (L.drop (k)) rfl rfl O6.out hV6.out hS6.out hl6.out hz6 ?_; intro u3 w3 o3 g3; have B3 := Fk.hide (B6.out.grown g3 B6.out.size (fun j hj => by have := (World.ownsRow.lt O6.out j hj).1; omega)); have O3 := Fk.hide o3; obtain ⟨a3, n3, c3, rfl⟩ := o3.slice'; clear g3 o3))
        go_ret
        refine ⟨⟨_, rfl, ?_⟩, B3.out⟩
        rw [HPUT.out]
        have o9 := O3.out.mono (by omega : w.heap.size ≤ w.heap.size + 1)
        simpa using o9

set_option maxHeartbeats 8000000 in
theorem l03Put_nil (x : Fd.E) (w : World) :
    Calls Try.prog 53 #[.slice none 0 0, .agg #[.int .i64 x.1, .string x.2]] w fun e w' => (∃ u, e = .returned u ∧ Rk.Own Fd.S w' w.heap.size 76 u (Rc.put [] x)) ∧ Below w.heap.size w w' := by
  obtain ⟨i0, hi, hz0, hz1, hz2⟩ := info_parts infoField
  have hzs : (Value.agg #[.int .i64 0, .string ByteArray.empty]).cells.size = 2 := by kernel_rfl
  obtain ⟨W, hW⟩ : ∃ W, W = w.alloc (.cells #[.int .i64 x.1, .string x.2] 76) := ⟨_, rfl⟩
  have b0 : Below w.heap.size w W := by rw [hW]; exact (Below.refl _ _).alloc (Nat.le_refl _) _
  have hsz : w.heap.size < W.heap.size := by rw [hW]; simp
  have q0 : W.cell? ⟨w.heap.size, 0, none⟩ = some (.int .i64 x.1) := by rw [hW, Fk.cellTop _ _ _ _ _ rfl]; rfl
  have q1 : W.cell? ⟨w.heap.size, 1, none⟩ = some (.string x.2) := by rw [hW, Fk.cellTop _ _ _ _ _ rfl]; rfl
  have HW := Fk.hide hW
  have HB0 := Fk.hide b0
  have HPUT : Hid (Rc.put [] x = [x]) := rfl
  clear hW b0
  go_enter Try.func53, Try.ntmps53
  go_wp2_with fail
  rw [← HW.out]
  go_loopw [5] (fun i wr => i = .int .i64 0 ∧ Hid (Below W.heap.size W wr)) (fun i _ => (intOf i).toNat)
  case atStart => exact ⟨rfl, Below.refl _ _⟩
  case round =>
    obtain ⟨rfl, bel⟩ := hrel
    have p0 : wr.cell? ⟨w.heap.size, 0, none⟩ = some (.int .i64 x.1) := (bel.out.cell (by exact hsz)).trans q0
    have r0 := cell_regrown p0
    go_wp2_with fail
    refine wp_region_quiet_below (by kernel_rfl) (by kernel_rfl) ?_
    repeat (go_big_quiet_step (fail))
    refine wpQuiet_nil ?_
    intro w4 hw'
    obtain ⟨⟨dq, osq⟩, hw''⟩ := hw'
    have bq : Below wr.heap.size wr w4 := by rw [hw'']; exact below_regrown wr dq osq
    clear hw''
    clear r0 p0
    have B4 := Fk.hide (bel.out.trans (bq.mono bel.out.size))
    clear bq
    have BW4 := Fk.hide (HB0.out.trans (B4.out.mono HB0.out.size))
    have hz4 : w.heap.size < w4.heap.size := Nat.lt_of_lt_of_le hsz B4.out.size
    have e0 := (B4.out.cell (p := ⟨w.heap.size, 0, none⟩) hsz).trans q0
    have e1 := (B4.out.cell (p := ⟨w.heap.size, 1, none⟩) hsz).trans q1
    have b5 : Below w4.heap.size w4 (w4.alloc (.cells #[] 76)) := (Below.refl _ _).alloc (Nat.le_refl _) _
    have B5 : Hid (Below w.heap.size w (w4.alloc (.cells #[] 76))) := BW4.out.trans (b5.mono BW4.out.size)
    have hM := Fk.hide (Rk.own_empty (S := Fd.S) w4 76 (w.heap.size + 1) hz4)
    have hV : Hid (Rk.View Fd.S (w4.alloc (.cells #[] 76)) (.slice none 0 0) ([] : List Fd.E)) := Rk.view_none _
    have hS : Hid (Rk.Shut (.slice none 0 0)) := Rk.shut_none
    have hb5 : Hid (w.heap.size + 1 ≤ (w4.alloc (.cells #[] 76)).heap.size) := by show _ ≤ _; simp <;> omega
    have hl1 : Hid (([] : List Fd.E).length + (([] : List Fd.E)).length ≤ 1000000000) := by show _ ≤ _; simp <;> omega
    have hl2 : Hid (([] ++ ([] : List Fd.E)).length + [x].length ≤ 1000000000) := by show _ ≤ _; simp <;> omega
    have hS1 : Hid (∀ ad, Rk.Shut (.slice (some ad) 1 1)) := fun ad => Rk.shut_some ad _ _
    have NX : Hid (∀ (w1 : World) (u1 : Value), Rk.Own Fd.S w1 (w.heap.size + 1) 76 u1 ([] ++ ([] : List Fd.E)) → (w4.alloc (.cells #[] 76)).grownBy w1 (Value.slice (some ⟨w4.heap.size, 0, none⟩) 0 0).ownBlock → Below w.heap.size w w1 ∧ w.heap.size < w1.heap.size ∧ w1.cell? ⟨w.heap.size, 0, none⟩ = some (.int .i64 x.1) ∧ w1.cell? ⟨w.heap.size, 1, none⟩ = some (.string x.2) ∧ Rk.Own Fd.S (w1.alloc (.cells #[.int .i64 x.1, .string x.2] 76)) (w.heap.size + 1) 76 u1 ([] ++ ([] : List Fd.E)) ∧ Below w.heap.size w (w1.alloc (.cells #[.int .i64 x.1, .string x.2] 76)) ∧ w.heap.size + 1 ≤ (w1.alloc (.cells #[.int .i64 x.1, .string x.2] 76)).heap.size) := by
      intro w1 u1 o1 g1
      have b1 : Below w.heap.size w w1 := B5.out.grown g1 B5.out.size (fun k hk => by have h3 : w4.heap.size = k := Option.some.inj hk; omega)
      have hz : (w4.alloc (.cells #[] 76)).heap.size ≤ w1.heap.size := g1.size
      simp at hz
      have f0 := (g1.cell_far ⟨w.heap.size, 0, none⟩ (by show w.heap.size < _; simp <;> omega) (fun h => by have h3 : w.heap.size = w4.heap.size := Option.some.inj h; omega)).trans ((b5.cell hz4).trans e0)
      have f1 := (g1.cell_far ⟨w.heap.size, 1, none⟩ (by show w.heap.size < _; simp <;> omega) (fun h => by have h3 : w.heap.size = w4.heap.size := Option.some.inj h; omega)).trans ((b5.cell hz4).trans e1)
      exact ⟨b1, by omega, f0, f1, o1.below ((Below.refl _ _).alloc (Nat.le_refl _) _), b1.alloc b1.size _, by simp; omega⟩
    have VL : Hid (∀ w1 : World, Rk.View Fd.S (w1.alloc (.cells #[.int .i64 x.1, .string x.2] 76)) (.slice (some ⟨w1.heap.size, 0, none⟩) 1 1) [x]) := fun w1 => Rk.view_lit1 w1 76 #[.int .i64 x.1, .string x.2] x rfl
    clear bel
    clear b5
    set_option maxRecDepth 20000 in
    go_wp2_with (first
      | (at_builtin; (refine Rk.wpList_append_view _ rfl (.tmp 23) (.tmp 26) 43 rfl (w.heap.size + 1) 76 i0 _ 2 24 rfl Try.underlying43 hi hz0 hz1 hz2 hzs (by decide) (.slice (some ⟨w4.heap.size, 0, none⟩) 0 0) (.slice none 0 0) ([]) (([] : List Fd.E)) rfl rfl hM.out hV.out hS.out hl1.out hb5.out ?_; intro u1 w1 o1 g1; obtain ⟨k1, k2, k3, k4, k6, k7, k8⟩ := NX.out w1 u1 o1 g1; obtain ⟨a1, n1', c1, rfl⟩ := o1.slice'; clear g1))
      | (at_builtin; (refine Rk.wpList_append_view _ rfl (.tmp 28) (.tmp 30) 43 rfl (w.heap.size + 1) 76 i0 _ 2 24 rfl Try.underlying43 hi hz0 hz1 hz2 hzs (by decide) (.slice a1 n1' c1) (.slice (some ⟨w1.heap.size, 0, none⟩) 1 1) ([] ++ ([] : List Fd.E)) ([x]) rfl rfl k6 (VL.out w1) (hS1.out _) hl2.out k8 ?_; intro u2 w2 o2 g2; have B2 := k7.grown g2 k7.size (fun j hj => by have := (World.ownsRow.lt k6 j hj).1; omega); have y0 : w2.cell? ⟨w.heap.size, 0, none⟩ = some (.int .i64 x.1) := (g2.cell_far ⟨w.heap.size, 0, none⟩ (by show w.heap.size < _; simp <;> omega) (fun h => by have := (World.ownsRow.lt k6 w.heap.size h.symm).1; omega)).trans ((Fk.cellOld _ _ _ _ k2).trans k3); have hzz : w.heap.size + 1 ≤ w2.heap.size := Nat.le_trans k8 g2.size; have O2 := Fk.hide o2; obtain ⟨a2, n2', c2, rfl⟩ := o2.slice')))
    have BW2 := Fk.hide B2
    clear B2 o2 g2 k1 k2 k3 k4 k6 k7 k8 e0 e1 o1
    have t0 := cell_regrown y0
    refine wp_region_quiet_below (by kernel_rfl) (by kernel_rfl) ?_
    repeat (go_big_quiet_step (fail))
    refine wpQuiet_nil ?_
    intro w6 hw'
    obtain ⟨⟨dq, osq⟩, hw''⟩ := hw'
    have bq : Below w2.heap.size w2 w6 := by rw [hw'']; exact below_regrown w2 dq osq
    clear hw''
    have B6 := Fk.hide (BW2.out.trans (bq.mono BW2.out.size))
    have O6 := Fk.hide (O2.out.below bq)
    have hz6 : w.heap.size + 1 ≤ w6.heap.size := Nat.le_trans hzz bq.size
    clear bq t0 y0
    have hV6 : Hid (Rk.View Fd.S w6 (.slice none 0 0) (([] : List Fd.E))) := Rk.view_none _
    have hS6 : Hid (Rk.Shut (.slice none 0 0)) := Rk.shut_none
    have hl6 : Hid (([] ++ ([] : List Fd.E) ++ [x]).length + (([] : List Fd.E)).length ≤ 1000000000) := by show _ ≤ _; simp <;> omega
    go_wp2_with (at_builtin; (refine Rk.wpList_append_view _ rfl (.tmp 48) (.tmp 51) 43 rfl (w.heap.size + 1) 76 i0 _ 2 24 rfl Try.underlying43 hi hz0 hz1 hz2 hzs (by decide) (.slice a2 n2' c2) (.slice none 0 0) ([] ++ ([] : List Fd.E) ++ [x]) (([] : List Fd.E)) rfl rfl O6.out hV6.out hS6.out hl6.out hz6 ?_; intro u3 w3 o3 g3; have B3 := Fk.hide (B6.out.grown g3 B6.out.size (fun j hj => by have := (World.ownsRow.lt O6.out j hj).1; omega)); have O3 := Fk.hide o3; obtain ⟨a3, n3, c3, rfl⟩ := o3.slice'; clear g3 o3))
    go_ret
    refine ⟨⟨_, rfl, ?_⟩, B3.out⟩
    rw [HPUT.out]
    have o9 := O3.out.mono (by omega : w.heap.size ≤ w.heap.size + 1)
    simpa using o9


/-- l03Put of a list that the call itself has made -/
theorem l03Put_own (v : Value) (L : List Fd.E) (x : Fd.E) (w : World) (b : Nat) (ho : Rk.Own Fd.S w b 76 v L) (hup : Rc.Up L) (hl : L.length ≤ 1000) :
    Calls Try.prog 53 #[v, .agg #[.int .i64 x.1, .string x.2]] w fun e w' => (∃ u, e = .returned u ∧ Rk.Own Fd.S w' w.heap.size 76 u (Rc.put L x)) ∧ Below w.heap.size w w' := by
  have h' := ho
  obtain ⟨_, ⟨h1, h2⟩ | ⟨g, cap, cur, rfl, _, hg, hc, hm, _⟩⟩ := h'
  · obtain rfl := List.eq_nil_of_length_eq_zero h2
    subst h1
    exact l03Put_nil x w
  · refine l03Put_some g cap L x w (Array.getElem?_eq_some_iff.1 hg).1 (fun i hi j hj => by rw [Nat.zero_add]; exact ho.at hi j hj) hc hup hl ?_
    unfold maxLen at hm
    omega

set_option maxHeartbeats 8000000 in
theorem recWith_spec (K : Int) (v : Value) (L : List Fd.E) (id : Int) (t : ByteArray) (w : World) (b : Nat) (ho : Rk.Own Fd.S w b 76 v L) (hL : ∀ f ∈ L, Fd.Fit f) (hl : L.length ≤ maxLen) (ht : t.size ≤ maxLen) :
    Calls Try.prog 22 #[.agg #[.int .i64 K, v], .int .i64 id, .string t] w fun e w' => (∃ u, e = .returned (.agg #[.int .i64 (Rc.with_ K L id t).1, u, .int .i64 0, .int .i64 (Rc.with_ K L id t).2.2]) ∧ Rk.Own Fd.S w' w.heap.size 76 u (Rc.with_ K L id t).2.1) ∧ Below w.heap.size w w' := by
  unfold maxLen at ht
  obtain ⟨W, hW⟩ : ∃ W, W = (w.alloc (.cells #[.int .i64 K, v] 45)).alloc (.cells #[.int .i64 0, .slice none 0 0, .int .i64 0, .int .i64 0] 50) := ⟨_, rfl⟩
  have b0 : Below w.heap.size w W := by
    rw [hW]
    repeat (first | exact Below.refl _ _ | refine Below.alloc ?_ (by simp <;> omega) _)
  have hsz : W.heap.size = w.heap.size + 2 := by rw [hW]; simp
  have c0 : W.cell? ⟨w.heap.size, 0, none⟩ = some (.int .i64 K) := by rw [hW, Fk.cellOld _ _ _ _ (by simp <;> omega), Fk.cellTop _ _ _ _ _ rfl]; rfl
  have c1 : W.cell? ⟨w.heap.size, 1, none⟩ = some v := by rw [hW, Fk.cellOld _ _ _ _ (by simp <;> omega), Fk.cellTop _ _ _ _ _ rfl]; rfl
  have c3 : W.cell? ⟨w.heap.size + 1, 0, none⟩ = some (.int .i64 0) := by rw [hW, Fk.cellTop _ _ _ _ _ (by simp)]; rfl
  have c4 : W.cell? ⟨w.heap.size + 1, 1, none⟩ = some (.slice none 0 0) := by rw [hW, Fk.cellTop _ _ _ _ _ (by simp)]; rfl
  have c5 : W.cell? ⟨w.heap.size + 1, 2, none⟩ = some (.int .i64 0) := by rw [hW, Fk.cellTop _ _ _ _ _ (by simp)]; rfl
  have c6 : W.cell? ⟨w.heap.size + 1, 3, none⟩ = some (.int .i64 0) := by rw [hW, Fk.cellTop _ _ _ _ _ (by simp)]; rfl
  have cf : ∀ j, W.frozen? ⟨w.heap.size + 1, j, none⟩ = false := fun j => by rw [hW, Fk.frozTop _ _ _ _ _ (by simp)]
  have HO := Fk.hide (ho.below b0)
  obtain ⟨a, cap, rfl⟩ := ho.slice
  have HW := Fk.hide hW
  have HB0 := Fk.hide b0
  clear hW b0 ho
  by_cases hbig : 8000 < t.size
  · have HE : Hid (Rc.with_ K L id t = (0, [], 2)) := Rc.with_size hbig
    have hb1 : (8000 : Int) < (t.size : Int) := by omega
    go_enter Try.func22, Try.ntmps22
    go_wp2_with fail
    exact bodyPost_ret (v := .agg #[.int .i64 0, .slice none 0 0, .int .i64 0, .int .i64 2]) (by simp [results, Try.results22, go_sem] <;> rfl) rfl ⟨⟨_, by rw [HE.out], by rw [HE.out]; exact Rk.own_nil _ _ _⟩, by repeat (first | exact Below.refl _ _ | refine Below.alloc ?_ (by simp <;> omega) _)⟩
  · have hb1 : ¬ (8000 : Int) < (t.size : Int) := by omega
    go_enter Try.func22, Try.ntmps22
    go_wp2_with fail
    rw [← HW.out]
    refine (recRight_spec K _ L _ HO.out.view hL hl).mono ?_
    rintro e w1 ⟨rfl, b1⟩
    have d0 := (b1.cell (p := ⟨w.heap.size, 0, none⟩) (by show w.heap.size < _; omega)).trans c0
    have d1 := (b1.cell (p := ⟨w.heap.size, 1, none⟩) (by show w.heap.size < _; omega)).trans c1
    have d3 := (b1.cell (p := ⟨w.heap.size + 1, 0, none⟩) (by show w.heap.size + 1 < _; omega)).trans c3
    have d4 := (b1.cell (p := ⟨w.heap.size + 1, 1, none⟩) (by show w.heap.size + 1 < _; omega)).trans c4
    have d5 := (b1.cell (p := ⟨w.heap.size + 1, 2, none⟩) (by show w.heap.size + 1 < _; omega)).trans c5
    have d6 := (b1.cell (p := ⟨w.heap.size + 1, 3, none⟩) (by show w.heap.size + 1 < _; omega)).trans c6
    have df : ∀ j, w1.frozen? ⟨w.heap.size + 1, j, none⟩ = false := fun j => (b1.frozen (by show w.heap.size + 1 < _; omega)).trans (cf j)
    have hs1 : w.heap.size + 2 ≤ w1.heap.size := by rw [← hsz]; exact b1.size
    have B1 := Fk.hide (HB0.out.trans (b1.mono HB0.out.size))
    have O1 := Fk.hide (HO.out.below b1)
    clear b1 cf hsz c0 c1 c3 c4 c5 c6
    obtain ⟨rb, hrb⟩ : ∃ rb, rb = Rc.right K L := ⟨_, rfl⟩
    have HR := Fk.hide hrb
    rw [← hrb]
    clear hrb
    cases rb with
    | false =>
      have HE : Hid (Rc.with_ K L id t = (0, [], 1)) := Rc.with_ill hbig (by rw [← HR.out]; rfl)
      go_wp2_with fail
      refine bodyPost_ret (v := .agg #[.int .i64 0, .slice none 0 0, .int .i64 0, .int .i64 1]) (by simp [results, Try.results22, go_sem, d3, d4, d5, d6] <;> rfl) rfl ⟨⟨_, by rw [HE.out], by rw [HE.out]; exact Rk.own_nil _ _ _⟩, ?_⟩
      have b9 := B1.out
      repeat (first | exact b9 | refine Below.setCell ?_ (by simp <;> omega) _)
    | true =>
      have HF : Hid (Rc.fok (id, t) = (decide (0 ≤ id) && (decide (id ≤ 1000) && decide ((t.size : Int) ≤ 500)))) := rfl
      by_cases hin : 0 ≤ id ∧ id ≤ 1000
      · have h1 : decide (0 ≤ id ∧ id ≤ 1000) = true := decide_eq_true hin
        have HI : Hid (∀ w', Calls Try.prog 51 #[.int .i64 id, .int .i64 0, .int .i64 1000] w' fun e w'' => e = .returned (.bool true) ∧ w'' = w') := fun w' => by have := l02Is_any id 0 1000 w'; rw [h1] at this; exact this
        clear h1
        by_cases h5 : (500 : Int) < (t.size : Int)
        · have HE : Hid (Rc.with_ K L id t = (0, [], 1)) := Rc.with_ill hbig (by rw [HF.out]; simp; omega)
          clear hin
          go_wp2_with fail
          refine (HI.out _).mono ?_
          rintro e w2 ⟨rfl, rfl⟩
          go_wp2_with fail
          refine bodyPost_ret (v := .agg #[.int .i64 0, .slice none 0 0, .int .i64 0, .int .i64 1]) (by simp [results, Try.results22, go_sem, d3, d4, d5, d6] <;> rfl) rfl ⟨⟨_, by rw [HE.out], by rw [HE.out]; exact Rk.own_nil _ _ _⟩, ?_⟩
          have b9 := B1.out
          repeat (first | exact b9 | refine Below.setCell ?_ (by simp <;> omega) _)
        · have HU : Hid (Rc.fok (id, t) = true) := by show _ = _; rw [HF.out]; simp; omega
          have h30 : L.length ≤ 30 := (Rc.right_inv HR.out.symm).1.2.2
          have HFI := Fk.hide (Rc.full_iff h30 id)
          clear hin
          by_cases h29 : 30 ≤ L.length
          · have h291 : (30 : Int) ≤ (L.length : Int) := by omega
            go_wp2_with fail
            refine (HI.out _).mono ?_
            rintro e w2 ⟨rfl, rfl⟩
            go_wp2_with fail
            refine (l03At_any K id _ L _ O1.out.view (by omega)).mono ?_
            rintro e w3 ⟨rfl, b3⟩
            rcases Rc.place_cases L id with ⟨hpl, hno⟩ | ⟨kk, hkk, hpl, hyes, _⟩
            · have HE : Hid (Rc.with_ K L id t = (0, [], 9)) := Rc.with_full hbig HR.out.symm HU.out (HFI.out.2 ⟨h29, hno⟩)
              rw [hpl]
              have f0 := (b3.cell (p := ⟨w.heap.size, 0, none⟩) (by show w.heap.size < _; omega)).trans d0
              have f1 := (b3.cell (p := ⟨w.heap.size, 1, none⟩) (by show w.heap.size < _; omega)).trans d1
              have f3 := (b3.cell (p := ⟨w.heap.size + 1, 0, none⟩) (by show w.heap.size + 1 < _; omega)).trans d3
              have f4 := (b3.cell (p := ⟨w.heap.size + 1, 1, none⟩) (by show w.heap.size + 1 < _; omega)).trans d4
              have f5 := (b3.cell (p := ⟨w.heap.size + 1, 2, none⟩) (by show w.heap.size + 1 < _; omega)).trans d5
              have f6 := (b3.cell (p := ⟨w.heap.size + 1, 3, none⟩) (by show w.heap.size + 1 < _; omega)).trans d6
              have ff : ∀ j, w3.frozen? ⟨w.heap.size + 1, j, none⟩ = false := fun j => (b3.frozen (by show w.heap.size + 1 < _; omega)).trans (df j)
              have B3 := Fk.hide (B1.out.trans (b3.mono B1.out.size))
              clear b3 df hno hpl d0 d1 d3 d4 d5 d6
              go_wp2_with fail
              refine bodyPost_ret (v := .agg #[.int .i64 0, .slice none 0 0, .int .i64 0, .int .i64 9]) (by simp [results, Try.results22, go_sem, f3, f4, f5, f6] <;> rfl) rfl ⟨⟨_, by rw [HE.out], by rw [HE.out]; exact Rk.own_nil _ _ _⟩, ?_⟩
              have b9 := B3.out
              repeat (first | exact b9 | refine Below.setCell ?_ (by simp <;> omega) _)
            · have HE : Hid (Rc.with_ K L id t = (K, Rc.put L (id, t), 0)) := Rc.with_ok hbig HR.out.symm HU.out (fun h => (HFI.out.1 h).2 kk hkk hyes)
              rw [hpl]
              have hk0 : (0 : Int) ≤ (kk : Int) := by omega
              have f0 := (b3.cell (p := ⟨w.heap.size, 0, none⟩) (by show w.heap.size < _; omega)).trans d0
              have f1 := (b3.cell (p := ⟨w.heap.size, 1, none⟩) (by show w.heap.size < _; omega)).trans d1
              have f3 := (b3.cell (p := ⟨w.heap.size + 1, 0, none⟩) (by show w.heap.size + 1 < _; omega)).trans d3
              have f4 := (b3.cell (p := ⟨w.heap.size + 1, 1, none⟩) (by show w.heap.size + 1 < _; omega)).trans d4
              have f5 := (b3.cell (p := ⟨w.heap.size + 1, 2, none⟩) (by show w.heap.size + 1 < _; omega)).trans d5
              have f6 := (b3.cell (p := ⟨w.heap.size + 1, 3, none⟩) (by show w.heap.size + 1 < _; omega)).trans d6
              have ff : ∀ j, w3.frozen? ⟨w.heap.size + 1, j, none⟩ = false := fun j => (b3.frozen (by show w.heap.size + 1 < _; omega)).trans (df j)
              have hs3 : w.heap.size + 2 ≤ w3.heap.size := Nat.le_trans hs1 b3.size
              have B3 := Fk.hide (B1.out.trans (b3.mono B1.out.size))
              have O3 := Fk.hide (O1.out.below b3)
              clear b3 df hyes hpl d0 d1 d3 d4 d5 d6
              set_option maxRecDepth 20000 in
              go_wp2_with fail
              have HUP : Hid (Rc.Up L) := Rc.right_up HR.out.symm
              have OD : Hid (Rk.Own Fd.S w3.drew b 76 (.slice a L.length cap) L) := O3.out.below (Below.drew (Below.refl _ _))
              have BD : Hid (Below w.heap.size w w3.drew) := Below.drew B3.out
              have HFC := Fk.hide (⟨f0, f1, f3, f4, f5, f6, ff⟩ : _ ∧ _ ∧ _ ∧ _ ∧ _ ∧ _ ∧ ∀ j, _)
              have HHS := Fk.hide hs3
              set_option maxRecDepth 20000 in
              go_region_with (first
                | (go_at_call 53; refine (l03Put_own _ L (id, t) _ b OD.out HUP.out (by omega)).mono ?_; rintro e w9 ⟨⟨u9, rfl, o9⟩, k9⟩; have y0 : w9.cell? ⟨w.heap.size, 0, none⟩ = some (.int .i64 K) := (k9.cell (by show w.heap.size < w3.heap.size; omega)).trans HFC.out.1; have y3 : w9.cell? ⟨w.heap.size + 1, 0, none⟩ = some (.int .i64 0) := (k9.cell (by show w.heap.size + 1 < w3.heap.size; omega)).trans HFC.out.2.2.1; have y4 : w9.cell? ⟨w.heap.size + 1, 1, none⟩ = some (.slice none 0 0) := (k9.cell (by show w.heap.size + 1 < w3.heap.size; omega)).trans HFC.out.2.2.2.1; have y5 : w9.cell? ⟨w.heap.size + 1, 2, none⟩ = some (.int .i64 0) := (k9.cell (by show w.heap.size + 1 < w3.heap.size; omega)).trans HFC.out.2.2.2.2.1; have y6 : w9.cell? ⟨w.heap.size + 1, 3, none⟩ = some (.int .i64 0) := (k9.cell (by show w.heap.size + 1 < w3.heap.size; omega)).trans HFC.out.2.2.2.2.2.1; have yf : ∀ j, w9.frozen? ⟨w.heap.size + 1, j, none⟩ = false := (fun j => (k9.frozen (by show w.heap.size + 1 < w3.heap.size; omega)).trans (HFC.out.2.2.2.2.2.2 j)); have B9 := Fk.hide (BD.out.trans (k9.mono BD.out.size)); have O9 := Fk.hide o9; obtain ⟨a9, n9, c9, rfl⟩ := o9.slice'; clear k9 o9))
              all_goals
                clear f0 f1 f3 f4 f5 f6 ff y0
                set_option maxRecDepth 20000 in
                go_wp2_with fail
                refine bodyPost_ret (v := .agg #[.int .i64 K, .slice a9 n9 c9, .int .i64 0, .int .i64 0]) (by simp [results, Try.results22, go_sem, y3, y4, y5, y6] <;> rfl) rfl ⟨⟨.slice a9 n9 c9, by rw [HE.out], ?_⟩, ?_⟩
                · rw [HE.out]
                  have hh := HHS.out
                  refine Rk.Own.mono ?_ (by omega : w.heap.size ≤ w3.heap.size)
                  have o9 := O9.out
                  repeat (first | exact o9 | refine ownsRow_setCell_below ?_ (by show w.heap.size + 1 < w3.heap.size; omega) _)
                · have b9 := B9.out
                  repeat (first | exact b9 | refine Below.setCell ?_ (by simp <;> omega) _)
          · have h291 : ¬ (30 : Int) ≤ (L.length : Int) := by omega
            have HE : Hid (Rc.with_ K L id t = (K, Rc.put L (id, t), 0)) := Rc.with_ok hbig HR.out.symm HU.out (fun h => h29 (HFI.out.1 h).1)
            go_wp2_with fail
            refine (HI.out _).mono ?_
            rintro e w3 ⟨rfl, rfl⟩
            have B3 := B1
            have O3 := O1
            have hs3 := hs1
            have f0 := d0
            have f1 := d1
            have f3 := d3
            have f4 := d4
            have f5 := d5
            have f6 := d6
            have ff := df
            clear df hs1 d0 d1 d3 d4 d5 d6
            set_option maxRecDepth 20000 in
            go_wp2_with fail
            have HUP : Hid (Rc.Up L) := Rc.right_up HR.out.symm
            have OD : Hid (Rk.Own Fd.S w3.drew b 76 (.slice a L.length cap) L) := O3.out.below (Below.drew (Below.refl _ _))
            have BD : Hid (Below w.heap.size w w3.drew) := Below.drew B3.out
            have HFC := Fk.hide (⟨f0, f1, f3, f4, f5, f6, ff⟩ : _ ∧ _ ∧ _ ∧ _ ∧ _ ∧ _ ∧ ∀ j, _)
            have HHS := Fk.hide hs3
            set_option maxRecDepth 20000 in
            go_region_with (first
              | (go_at_call 53; refine (l03Put_own _ L (id, t) _ b OD.out HUP.out (by omega)).mono ?_; rintro e w9 ⟨⟨u9, rfl, o9⟩, k9⟩; have y0 : w9.cell? ⟨w.heap.size, 0, none⟩ = some (.int .i64 K) := (k9.cell (by show w.heap.size < w3.heap.size; omega)).trans HFC.out.1; have y3 : w9.cell? ⟨w.heap.size + 1, 0, none⟩ = some (.int .i64 0) := (k9.cell (by show w.heap.size + 1 < w3.heap.size; omega)).trans HFC.out.2.2.1; have y4 : w9.cell? ⟨w.heap.size + 1, 1, none⟩ = some (.slice none 0 0) := (k9.cell (by show w.heap.size + 1 < w3.heap.size; omega)).trans HFC.out.2.2.2.1; have y5 : w9.cell? ⟨w.heap.size + 1, 2, none⟩ = some (.int .i64 0) := (k9.cell (by show w.heap.size + 1 < w3.heap.size; omega)).trans HFC.out.2.2.2.2.1; have y6 : w9.cell? ⟨w.heap.size + 1, 3, none⟩ = some (.int .i64 0) := (k9.cell (by show w.heap.size + 1 < w3.heap.size; omega)).trans HFC.out.2.2.2.2.2.1; have yf : ∀ j, w9.frozen? ⟨w.heap.size + 1, j, none⟩ = false := (fun j => (k9.frozen (by show w.heap.size + 1 < w3.heap.size; omega)).trans (HFC.out.2.2.2.2.2.2 j)); have B9 := Fk.hide (BD.out.trans (k9.mono BD.out.size)); have O9 := Fk.hide o9; obtain ⟨a9, n9, c9, rfl⟩ := o9.slice'; clear k9 o9))
            all_goals
              clear f0 f1 f3 f4 f5 f6 ff y0
              set_option maxRecDepth 20000 in
              go_wp2_with fail
              refine bodyPost_ret (v := .agg #[.int .i64 K, .slice a9 n9 c9, .int .i64 0, .int .i64 0]) (by simp [results, Try.results22, go_sem, y3, y4, y5, y6] <;> rfl) rfl ⟨⟨.slice a9 n9 c9, by rw [HE.out], ?_⟩, ?_⟩
              · rw [HE.out]
                have hh := HHS.out
                refine Rk.Own.mono ?_ (by omega : w.heap.size ≤ w3.heap.size)
                have o9 := O9.out
                repeat (first | exact o9 | refine ownsRow_setCell_below ?_ (by show w.heap.size + 1 < w3.heap.size; omega) _)
              · have b9 := B9.out
                repeat (first | exact b9 | refine Below.setCell ?_ (by simp <;> omega) _)
      · have h1 : decide (0 ≤ id ∧ id ≤ 1000) = false := decide_eq_false hin
        have HI : Hid (∀ w', Calls Try.prog 51 #[.int .i64 id, .int .i64 0, .int .i64 1000] w' fun e w'' => e = .returned (.bool false) ∧ w'' = w') := fun w' => by have := l02Is_any id 0 1000 w'; rw [h1] at this; exact this
        have HE : Hid (Rc.with_ K L id t = (0, [], 1)) := Rc.with_ill hbig (by rw [HF.out]; simp; omega)
        clear h1 hin
        go_wp2_with fail
        refine (HI.out _).mono ?_
        rintro e w2 ⟨rfl, rfl⟩
        go_wp2_with fail
        refine bodyPost_ret (v := .agg #[.int .i64 0, .slice none 0 0, .int .i64 0, .int .i64 1]) (by simp [results, Try.results22, go_sem, d3, d4, d5, d6] <;> rfl) rfl ⟨⟨_, by rw [HE.out], by rw [HE.out]; exact Rk.own_nil _ _ _⟩, ?_⟩
        have b9 := B1.out
        repeat (first | exact b9 | refine Below.setCell ?_ (by simp <;> omega) _)
end Go.Proofs.Ytkkmjffepdejnaa

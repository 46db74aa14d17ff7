/- The walks of the program's question whether an older book is right. -/
import Derived.Test.YtnhpcknbnmhlhaaProg
import Derived.Test.YtnhpcknbnmhlhaaOldMath
import Derived.Test.YtnhpcknbnmhlhaaCmdRightBase
import Derived.Test.YtnhpcknbnmhlhaaRowsMore
import Derived.Deep.RegionHeld3
namespace Go.Proofs.Ytnhpcknbnmhlhaa
open Go.RowKit
set_option linter.unusedVariables false
set_option linter.unusedSimpArgs false

set_option maxHeartbeats 400000 in
theorem sideOf_yes (u v : Value) (n : Int) (w : World) :
    Calls Try.prog 54 #[.agg #[u, v, .int .i64 n], .bool true] w fun e w' => e = .returned u ∧ Below w.heap.size w w' := by
  go_enter Try.func54, Try.ntmps54
  go_wp2_with fail
  go_ret
  exact ⟨rfl, (Below.refl _ _).alloc (Nat.le_refl _) _⟩
set_option maxHeartbeats 400000 in
theorem sideOf_no (u v : Value) (n : Int) (w : World) :
    Calls Try.prog 54 #[.agg #[u, v, .int .i64 n], .bool false] w fun e w' => e = .returned v ∧ Below w.heap.size w w' := by
  go_enter Try.func54, Try.ntmps54
  go_wp2_with fail
  go_ret
  exact ⟨rfl, (Below.refl _ _).alloc (Nat.le_refl _) _⟩
/-- one of two -/
def Ob.pick {α : Type} (buy : Bool) (u v : α) : α := if buy then u else v
theorem sideOf_any (u v : Value) (n : Int) (buy : Bool) (w : World) :
    Calls Try.prog 54 #[.agg #[u, v, .int .i64 n], .bool buy] w fun e w' => e = .returned (Ob.pick buy u v) ∧ Below w.heap.size w w' := by
  cases buy
  · exact sideOf_no u v n w
  · exact sideOf_yes u v n w

set_option maxHeartbeats 400000 in
theorem goesBehind_any (o p : Or.E) (buy rests : Bool) (w : World) :
    Calls Try.prog 56 #[.agg #[.int .i64 o.1, .int .i64 o.2.1, .int .i64 o.2.2.1, .int .i64 o.2.2.2.1, .bool o.2.2.2.2.1, .int .i64 o.2.2.2.2.2.1, .int .i64 o.2.2.2.2.2.2.1, .bool o.2.2.2.2.2.2.2, .bool buy, .bool rests], .agg #[.int .i64 p.1, .int .i64 p.2.1, .int .i64 p.2.2.1, .int .i64 p.2.2.2.1, .bool p.2.2.2.2.1, .int .i64 p.2.2.2.2.2.1, .int .i64 p.2.2.2.2.2.2.1, .bool p.2.2.2.2.2.2.2]] w fun e w' => e = .returned (.bool (Ob.behind buy p.2.2.1 o.2.2.1)) ∧ Below w.heap.size w w' := by
  have HB : Hid (∀ o p, Below w.heap.size w ((w.alloc o).alloc p)) := fun o p => ((Below.refl w.heap.size w).alloc (Nat.le_refl _) o).alloc (by simp) p
  cases buy
  · go_enter Try.func56, Try.ntmps56
    go_wp2_with fail
    go_ret
    exact ⟨rfl, HB.out _ _⟩
  · go_enter Try.func56, Try.ntmps56
    go_wp2_with fail
    go_ret
    exact ⟨rfl, HB.out _ _⟩

set_option maxHeartbeats 2000000 in
theorem restRight_any (o : Or.E) (n : Int) (w : World) (h0 : 1 ≤ n) (h1 : n ≤ 1000000) :
    Calls Try.prog 55 #[.agg #[.int .i64 o.1, .int .i64 o.2.1, .int .i64 o.2.2.1, .int .i64 o.2.2.2.1, .bool o.2.2.2.2.1, .int .i64 o.2.2.2.2.2.1, .int .i64 o.2.2.2.2.2.2.1, .bool o.2.2.2.2.2.2.2], .int .i64 n] w fun e w' => e = .returned (.bool (Ob.okP o && Ob.okN n o)) ∧ Below w.heap.size w w' := by
  have HB : Hid (∀ o p, Below w.heap.size w ((w.alloc o).alloc p)) := fun o p => ((Below.refl w.heap.size w).alloc (Nat.le_refl _) o).alloc (by simp) p
  go_enter Try.func55, Try.ntmps55
  go_wp2_with (go_at_call 45; refine (within_any _ _ _ _).mono ?_; rintro e w' ⟨rfl, rfl⟩)
  all_goals
    go_ret
    refine ⟨?_, HB.out _ _⟩
    simp_all [Ob.okP, Ob.okN, Cm.inn] <;> omega

set_option maxHeartbeats 4000000 in
theorem sideRight_any (u v : Value) (n : Int) (buy : Bool) (L : List Or.E) (w : World) (hv : Rk.View Or.S w (Ob.pick buy u v) L) (hl : L.length ≤ 1048576) (h0 : 1 ≤ n) (h1 : n ≤ 1000000) :
    Calls Try.prog 46 #[.agg #[u, v, .int .i64 n], .bool buy] w fun e w' => e = .returned (.bool (Ob.side n buy L)) ∧ Below w.heap.size w w' := by
  obtain ⟨a, cap, ev, hs⟩ := hv
  obtain ⟨W, hW⟩ : ∃ W, W = w.alloc (.cells #[u, v, .int .i64 n] 34) := ⟨_, rfl⟩
  have b0 : Below w.heap.size w W := by rw [hW]; exact (Below.refl _ _).alloc (Nat.le_refl _) _
  have c2 : W.cell? ⟨w.heap.size, 2, none⟩ = some (.int .i64 n) := by rw [hW, Fk.cellTop _ _ _ _ _ rfl]; rfl
  have hz : w.heap.size < W.heap.size := by rw [hW]; simp
  have HW := Fk.hide hW
  clear hW
  go_enter Try.func46, Try.ntmps46
  go_wp2_with fail
  rw [← HW.out]
  refine (sideOf_any _ _ _ _ _).mono ?_
  rw [ev]
  rintro e w1 ⟨rfl, k1⟩
  have d2 := (k1.cell (p := ⟨w.heap.size, 2, none⟩) (by show w.heap.size < _; omega)).trans c2
  have b1 : Below w.heap.size w w1 := b0.trans (k1.mono b0.size)
  have hz1 : w.heap.size < w1.heap.size := Nat.lt_of_lt_of_le hz k1.size
  clear k1 c2
  go_wp2_with fail
  go_loopw [13] (fun i wr => ∃ k : Nat, k ≤ L.length ∧ i = .int .i64 k ∧ Hid (∀ j, j < k → Ob.step n buy L j = true) ∧ Below w1.heap.size w1 wr) (fun i _ => L.length - (intOf i).toNat)
  case atStart => exact ⟨0, Nat.zero_le _, rfl, fun j hj => absurd hj (by omega), Below.refl _ _⟩
  case round =>
    obtain ⟨k, hk, rfl, HK, bel⟩ := hrel
    have HBL := Fk.hide (b1.trans (bel.mono b1.size))
    have e2 := (bel.cell (p := ⟨w.heap.size, 2, none⟩) (by show w.heap.size < _; omega)).trans d2
    have hzr : w.heap.size < wr.heap.size := Nat.lt_of_lt_of_le hz1 bel.size
    by_cases hlt : k < L.length
    · obtain ⟨b, o, rfl, hb, hs1⟩ := hs (by omega)
      have hs' := hs1.below hb HBL.out
      have q0 := Or.c0 hs' hlt
      have q1 := Or.c1 hs' hlt
      have q2 := Or.c2 hs' hlt
      have q3 := Or.c3 hs' hlt
      have q4 := Or.c4 hs' hlt
      have q5 := Or.c5 hs' hlt
      have q6 := Or.c6 hs' hlt
      have q7 := Or.c7 hs' hlt
      obtain ⟨f, hf⟩ : ∃ f, f = Rk.at_ Or.S L k := ⟨_, rfl⟩
      have HF := Fk.hide hf
      rw [← hf] at q0 q1 q2 q3 q4 q5 q6 q7
      clear hf hs'
      obtain ⟨X, hX⟩ : ∃ W, W = wr.alloc (.cells #[.int .i64 f.1, .int .i64 f.2.1, .int .i64 f.2.2.1, .int .i64 f.2.2.2.1, .bool f.2.2.2.2.1, .int .i64 f.2.2.2.2.2.1, .int .i64 f.2.2.2.2.2.2.1, .bool f.2.2.2.2.2.2.2] 87) := ⟨_, rfl⟩
      have bX : Below wr.heap.size wr X := by rw [hX]; exact (Below.refl _ _).alloc (Nat.le_refl _) _
      have x0 : X.cell? ⟨wr.heap.size, 0, none⟩ = some (.int .i64 f.1) := by rw [hX, Fk.cellTop _ _ _ _ _ rfl]; rfl
      have x1 : X.cell? ⟨wr.heap.size, 1, none⟩ = some (.int .i64 f.2.1) := by rw [hX, Fk.cellTop _ _ _ _ _ rfl]; rfl
      have x2 : X.cell? ⟨wr.heap.size, 2, none⟩ = some (.int .i64 f.2.2.1) := by rw [hX, Fk.cellTop _ _ _ _ _ rfl]; rfl
      have x3 : X.cell? ⟨wr.heap.size, 3, none⟩ = some (.int .i64 f.2.2.2.1) := by rw [hX, Fk.cellTop _ _ _ _ _ rfl]; rfl
      have x4 : X.cell? ⟨wr.heap.size, 4, none⟩ = some (.bool f.2.2.2.2.1) := by rw [hX, Fk.cellTop _ _ _ _ _ rfl]; rfl
      have x5 : X.cell? ⟨wr.heap.size, 5, none⟩ = some (.int .i64 f.2.2.2.2.2.1) := by rw [hX, Fk.cellTop _ _ _ _ _ rfl]; rfl
      have x6 : X.cell? ⟨wr.heap.size, 6, none⟩ = some (.int .i64 f.2.2.2.2.2.2.1) := by rw [hX, Fk.cellTop _ _ _ _ _ rfl]; rfl
      have x7 : X.cell? ⟨wr.heap.size, 7, none⟩ = some (.bool f.2.2.2.2.2.2.2) := by rw [hX, Fk.cellTop _ _ _ _ _ rfl]; rfl
      have hzX : wr.heap.size < X.heap.size := by rw [hX]; simp
      have HX := Fk.hide hX
      clear hX
      go_wp2_with fail
      rw [← HX.out]
      refine (restRight_any f n _ h0 h1).mono ?_
      rintro e w2 ⟨rfl, k2⟩
      have HB2 : Hid (Below w1.heap.size w1 w2) := (bel.trans (bX.mono bel.size)).trans (k2.mono (Nat.le_trans bel.size (Nat.le_of_lt hzX)))
      have y0 := (k2.cell (p := ⟨wr.heap.size, 0, none⟩) (by show wr.heap.size < _; omega)).trans x0
      have y1 := (k2.cell (p := ⟨wr.heap.size, 1, none⟩) (by show wr.heap.size < _; omega)).trans x1
      have y2 := (k2.cell (p := ⟨wr.heap.size, 2, none⟩) (by show wr.heap.size < _; omega)).trans x2
      have y3 := (k2.cell (p := ⟨wr.heap.size, 3, none⟩) (by show wr.heap.size < _; omega)).trans x3
      have y4 := (k2.cell (p := ⟨wr.heap.size, 4, none⟩) (by show wr.heap.size < _; omega)).trans x4
      have y5 := (k2.cell (p := ⟨wr.heap.size, 5, none⟩) (by show wr.heap.size < _; omega)).trans x5
      have y6 := (k2.cell (p := ⟨wr.heap.size, 6, none⟩) (by show wr.heap.size < _; omega)).trans x6
      have y7 := (k2.cell (p := ⟨wr.heap.size, 7, none⟩) (by show wr.heap.size < _; omega)).trans x7
      have hz2 : X.heap.size ≤ w2.heap.size := k2.size
      clear k2 x0 x1 x2 x3 x4 x5 x6 x7 q0 q1 q2 q3 q4 q5 q6 q7
      obtain ⟨r, hr⟩ : ∃ r, r = (Ob.okP f && Ob.okN n f) := ⟨_, rfl⟩
      rw [← hr]
      have HR : Hid (r = (Ob.okP (Ob.at' L k) && Ob.okN n (Ob.at' L k))) := by show _ = _; rw [hr, HF.out]
      clear hr
      have HBW : Hid (Below w.heap.size w w2) := b1.trans (HB2.out.mono b1.size)
      cases r with
      | false =>
        have HA : Hid (Ob.side n buy L = false) := Ob.upTo_no hlt (by simp only [Ob.step]; rw [← HR.out]; rfl)
        go_wp2_with fail
        go_ret
        exact ⟨by rw [HA.out]; rfl, HBW.out⟩
      | true =>
        by_cases hk0 : k = 0
        · subst hk0
          have HS : Hid (Ob.step n buy L 0 = true) := by
            show _ = _
            simp only [Ob.step, Ob.turn]; rw [← HR.out]; rfl
          go_wp2_with fail
          go_region
          all_goals
            go_wp2_with fail
            refine ⟨⟨1, by omega, rfl, (fun j hj => ?_), HB2.out.trans ((Below.drew (Below.refl _ _)).mono HB2.out.size)⟩, ?_⟩
            · have e : j = 0 := by omega
              rw [e]; exact HS.out
            · simp [intOf]; omega
        · have kp : (0 : Int) < (k : Int) := by omega
          have k2' : ((k : Int) - 1).toNat = k - 1 := by omega
          have k3 : (0 : Int) ≤ (k : Int) - 1 := by omega
          have k4 : (k : Int) - 1 < (L.length : Int) := by omega
          have hs2 := hs1.below hb HBW.out
          have p0 := Or.c0 hs2 (k := k - 1) (by omega)
          have p1 := Or.c1 hs2 (k := k - 1) (by omega)
          have p2 := Or.c2 hs2 (k := k - 1) (by omega)
          have p3 := Or.c3 hs2 (k := k - 1) (by omega)
          have p4 := Or.c4 hs2 (k := k - 1) (by omega)
          have p5 := Or.c5 hs2 (k := k - 1) (by omega)
          have p6 := Or.c6 hs2 (k := k - 1) (by omega)
          have p7 := Or.c7 hs2 (k := k - 1) (by omega)
          obtain ⟨g, hg⟩ : ∃ f, f = Rk.at_ Or.S L (k - 1) := ⟨_, rfl⟩
          have HG := Fk.hide hg
          rw [← hg] at p0 p1 p2 p3 p4 p5 p6 p7
          clear hg hs2
          have dg1 : decide ((0 : Int) < (k : Int)) = true := decide_eq_true kp
          have dg2 : decide (0 < k) = true := decide_eq_true (by omega)
          have ry0 := cell_regrown y0
          have rp0 := cell_regrown p0
          have ry1 := cell_regrown y1
          have rp1 := cell_regrown p1
          have ry2 := cell_regrown y2
          have rp2 := cell_regrown p2
          have ry3 := cell_regrown y3
          have rp3 := cell_regrown p3
          have ry4 := cell_regrown y4
          have rp4 := cell_regrown p4
          have ry5 := cell_regrown y5
          have rp5 := cell_regrown p5
          have ry6 := cell_regrown y6
          have rp6 := cell_regrown p6
          have ry7 := cell_regrown y7
          have rp7 := cell_regrown p7
          have fb : ∀ w', Calls Try.prog 56 #[.agg #[.int .i64 f.1, .int .i64 f.2.1, .int .i64 f.2.2.1, .int .i64 f.2.2.2.1, .bool f.2.2.2.2.1, .int .i64 f.2.2.2.2.2.1, .int .i64 f.2.2.2.2.2.2.1, .bool f.2.2.2.2.2.2.2, .bool buy, .bool false], .agg #[.int .i64 g.1, .int .i64 g.2.1, .int .i64 g.2.2.1, .int .i64 g.2.2.2.1, .bool g.2.2.2.2.1, .int .i64 g.2.2.2.2.2.1, .int .i64 g.2.2.2.2.2.2.1, .bool g.2.2.2.2.2.2.2]] w' fun e w'' => e = .returned (.bool (Ob.behind buy g.2.2.1 f.2.2.1)) ∧ Below w'.heap.size w' w'' := fun w' => goesBehind_any f g buy false w'
          obtain ⟨d, hd⟩ : ∃ d, d = Ob.behind buy g.2.2.1 f.2.2.1 := ⟨_, rfl⟩
          have HD : Hid (d = Ob.turn buy L k) := by
            show _ = _
            have e0 : (k == 0) = false := by simpa using hk0
            rw [hd, HF.out, HG.out]
            simp only [Ob.turn, e0, Bool.false_or]
          rw [← hd] at fb
          clear hd
          go_wp2_with fail
          refine wp_region_quiet_below (by kernel_rfl) (by kernel_rfl) ?_
          repeat (go_big_quiet_step (exact Calls.regrown_of (fb _)))
          refine wpQuiet_nil ?_
          intro w4 hw'
          obtain ⟨⟨dq, osq⟩, hw''⟩ := hw'
          have B4 : Below w1.heap.size w1 w4 := by rw [hw'']; exact HB2.out.trans ((below_regrown w2 dq osq).mono HB2.out.size)
          have HB4 : Hid (Below w.heap.size w w4) := b1.trans (B4.mono b1.size)
          clear hw'' fb ry0 rp0 y0 p0 ry1 rp1 y1 p1 ry2 rp2 y2 p2 ry3 rp3 y3 p3 ry4 rp4 y4 p4 ry5 rp5 y5 p5 ry6 rp6 y6 p6 ry7 rp7 y7 p7
          cases d with
          | false =>
            have HA : Hid (Ob.side n buy L = false) := Ob.upTo_no hlt (by simp only [Ob.step]; rw [← HD.out]; simp)
            go_wp2_with fail
            go_ret
            exact ⟨by rw [HA.out]; rfl, HB4.out⟩
          | true =>
            go_wp2_with fail
            go_roundw
            case rel =>
              refine ⟨k + 1, by omega, by go_num, (fun j hj => ?_), B4⟩
              by_cases e : j = k
              · rw [e]; simp only [Ob.step]; rw [← HR.out, ← HD.out]; rfl
              · exact HK.out j (by omega)
            case measure => simp [intOf]; omega
    · have e : k = L.length := by omega
      have HA : Hid (Ob.side n buy L = true) := Ob.upTo_yes (fun i hi => HK.out i (by omega))
      go_wp2_with fail
      go_ret
      exact ⟨by rw [HA.out]; rfl, HBL.out⟩

theorem infoOrd : (Try.prog.info? 87).map (fun i => (i.zero, i.size, i.bytes)) = some (some (.agg #[.int .i64 0, .int .i64 0, .int .i64 0, .int .i64 0, .bool false, .int .i64 0, .int .i64 0, .bool false]), 8, 64) := by kernel_rfl
set_option maxHeartbeats 1000000 in
theorem copyOrders_any (v : Value) (L : List Or.E) (w : World) (hv : Rk.View Or.S w v L) (hsh : Rk.Shut v) (hl : L.length ≤ 1048576) :
    Calls Try.prog 57 #[v] w fun e w' => (∃ u, e = .returned u ∧ Rk.Own Or.S w' w.heap.size 87 u L) ∧ Below w.heap.size w w' := by
  obtain ⟨i0, hi, hz0, hz1, hz2⟩ := info_parts infoOrd
  have HV := Fk.hide hv
  obtain ⟨a, cap, rfl, _⟩ := hv
  go_enter Try.func57, Try.ntmps57
  go_wp2_with (at_builtin; refine Rk.wpList_append_view _ rfl _ _ 32 rfl w.heap.size 87 i0 _ 8 64 rfl Try.underlying32 hi hz0 hz1 hz2 rfl (by decide) (.slice none 0 0) (.slice a L.length cap) [] L rfl rfl (Rk.own_nil _ _ _) HV.out hsh (by simp; omega) (Nat.le_refl _) ?_; intro u w1 hown hgrow; rw [List.nil_append] at hown; obtain ⟨au, cu, rfl⟩ := hown.slice; have HO := Fk.hide hown; have HG : Hid (Below w.heap.size w w1) := (Below.refl _ _).grown hgrow (Nat.le_refl _) (fun j hj => by cases hj); clear hown hgrow)
  go_ret
  exact ⟨⟨_, rfl, HO.out⟩, HG.out⟩

set_option maxRecDepth 100000 in
set_option maxHeartbeats 8000000 in
theorem idsDiffer_any (u v : Value) (n : Int) (B A : List Or.E) (w : World) (hu : Rk.View Or.S w u B) (hv : Rk.View Or.S w v A) (su : Rk.Shut u) (sv : Rk.Shut v) (hl : B.length + A.length ≤ 24) :
    Calls Try.prog 47 #[.agg #[u, v, .int .i64 n]] w fun e w' => e = .returned (.bool (Ob.ids (B ++ A))) ∧ Below w.heap.size w w' := by
  obtain ⟨i0, hi, hz0, hz1, hz2⟩ := info_parts infoOrd
  obtain ⟨W, hW⟩ : ∃ W, W = w.alloc (.cells #[u, v, .int .i64 n] 34) := ⟨_, rfl⟩
  have b0 : Below w.heap.size w W := by rw [hW]; exact (Below.refl _ _).alloc (Nat.le_refl _) _
  have c0 : W.cell? ⟨w.heap.size, 0, none⟩ = some u := by rw [hW, Fk.cellTop _ _ _ _ _ rfl]; rfl
  have c1 : W.cell? ⟨w.heap.size, 1, none⟩ = some v := by rw [hW, Fk.cellTop _ _ _ _ _ rfl]; rfl
  have hz : w.heap.size < W.heap.size := by rw [hW]; simp
  have HU := Fk.hide hu
  have HV := Fk.hide hv
  obtain ⟨a0, cap0, rfl, _⟩ := hu
  obtain ⟨a1, cap1, rfl, _⟩ := hv
  have HW := Fk.hide hW
  clear hW
  go_enter Try.func47, Try.ntmps47
  go_wp2_with fail
  rw [← HW.out]
  have HB : Hid (Below w.heap.size w W.drew) := b0.trans ((Below.drew (Below.refl W.heap.size W)).mono b0.size)
  have hzd : W.drew.heap.size = W.heap.size := by simp
  have HC := Fk.hide (⟨c0, c1⟩ : _ ∧ _)
  go_region_held3 (fun w' => w'.cell? ⟨w.heap.size, 0, none⟩ = some (.slice a0 B.length cap0) ∧ w'.cell? ⟨w.heap.size, 1, none⟩ = some (.slice a1 A.length cap1))
    (first | go_keep | (go_split_ands; exact ⟨by assumption, by assumption⟩))
    (first
      | (go_at_call 57; refine (copyOrders_any _ B _ (HU.out.below HB.out) su (by omega)).mono ?_; rintro e w1 ⟨⟨uc, rfl, oc⟩, m1⟩; have HB1 : Hid (Below w.heap.size w w1) := HB.out.trans (m1.mono HB.out.size); have d0 := (m1.cell (p := ⟨w.heap.size, 0, none⟩) (by show w.heap.size < _; simp; omega)).trans HC.out.1; have d1 := (m1.cell (p := ⟨w.heap.size, 1, none⟩) (by show w.heap.size < _; simp; omega)).trans HC.out.2; have sz1 : W.heap.size ≤ w1.heap.size := m1.size; obtain ⟨ac, nc, kc, rfl⟩ := oc.slice'; have HO1 := Fk.hide oc; clear oc m1)
      | (refine Rk.step_append_view _ (by rfl) _ _ 32 (by rfl) W.heap.size 87 i0 _ 8 64 rfl Try.underlying32 hi hz0 hz1 hz2 (by rfl) (by decide) (.slice ac nc kc) (.slice a1 A.length cap1) B A (by rfl) (by rfl) HO1.out (HV.out.below HB1.out) sv (by omega) sz1 ?_; intro u2 w2 o2 g2; have HB2 : Hid (Below w.heap.size w w2) := HB1.out.grown g2 HB1.out.size (fun j hj => by have := HO1.out.lt j hj; omega); obtain ⟨a2, n2, k2, rfl⟩ := o2.slice'; have HO2 := Fk.hide o2; have f0 : w2.cell? ⟨w.heap.size, 0, none⟩ = some (.slice a0 B.length cap0) := g2.cell d0 (fun e => by have := HO1.out.lt _ e.symm; simp only at this; omega); have f1 : w2.cell? ⟨w.heap.size, 1, none⟩ = some (.slice a1 A.length cap1) := g2.cell d1 (fun e => by have := HO1.out.lt _ e.symm; simp only at this; omega); clear o2 g2))
  obtain ⟨M, hM⟩ : ∃ M, M = B ++ A := ⟨_, rfl⟩
  rw [← hM] at HO2
  have hlM : M.length ≤ 24 := by rw [hM]; simp; omega
  obtain rfl : n2 = M.length := by obtain ⟨x1, x2, hx⟩ := HO2.out.slice; simp only [Value.slice.injEq] at hx; exact hx.2.1
  have HVM := Fk.hide HO2.out.view
  have HM := Fk.hide hM
  clear hM f0 f1 d0 d1 c0 c1
  have hgM : Hid (0 < M.length → ∃ g, a2 = some ⟨g, 0, none⟩ ∧ g < w2.heap.size ∧ Rk.Sees Or.S w2 g 0 M) := fun h => by
    rcases HO2.out.form with ⟨h1, h2⟩ | ⟨g, c, h1, _, hg⟩
    · rw [h2] at h; simp at h
    · simp only [Value.slice.injEq] at h1
      obtain ⟨b, o, e', hb, hs⟩ := (by obtain ⟨a', c', e, hh⟩ := HVM.out; simp only [Value.slice.injEq] at e; obtain ⟨e1, _⟩ := e; rw [← e1] at hh; exact hh h : ∃ b o, a2 = some ⟨b, o, none⟩ ∧ b < w2.heap.size ∧ Rk.Sees Or.S w2 b o M)
      rw [h1.1] at e'
      simp only [Option.some.injEq, Addr.mk.injEq] at e'
      obtain ⟨e1, e2, _⟩ := e'
      subst e1 e2
      exact ⟨g, h1.1, hb, hs⟩
  have hcap : Hid (M.length ≤ k2) := by
    obtain ⟨_, h1 | ⟨g', cap', cur, hv, _, _, hc, _⟩⟩ := HO2.out
    · show _ ≤ _
      simp only [Value.slice.injEq] at h1; omega
    · simp only [Value.slice.injEq] at hv
      show _ ≤ _
      omega
  go_wp2_with fail
  go_loopw [16] (fun i wr => ∃ k : Nat, k ≤ M.length ∧ i = .int .i64 k ∧ Hid (∀ j, j < k → Ob.fresh M j = true) ∧ Below w2.heap.size w2 wr) (fun i _ => M.length - (intOf i).toNat)
  case atStart => exact ⟨0, Nat.zero_le _, rfl, fun j hj => absurd hj (by omega), Below.refl _ _⟩
  case round =>
    obtain ⟨k, hk, rfl, HK, bel⟩ := hrel
    obtain ⟨wo, hwo⟩ : ∃ x, x = wr := ⟨_, rfl⟩
    subst hwo
    have HBL := Fk.hide (HB2.out.trans (bel.mono HB2.out.size))
    by_cases hlt : k < M.length
    · obtain ⟨g, rfl, hb, hs1⟩ := hgM.out (by omega)
      have hs' := hs1.below hb bel
      have q0 := Or.c0 hs' hlt
      have q1 := Or.c1 hs' hlt
      have q2 := Or.c2 hs' hlt
      have q3 := Or.c3 hs' hlt
      have q4 := Or.c4 hs' hlt
      have q5 := Or.c5 hs' hlt
      have q6 := Or.c6 hs' hlt
      have q7 := Or.c7 hs' hlt
      simp only [Nat.zero_add] at q0 q1 q2 q3 q4 q5 q6 q7
      obtain ⟨f, hf⟩ : ∃ f, f = Rk.at_ Or.S M k := ⟨_, rfl⟩
      have HF := Fk.hide hf
      rw [← hf] at q0 q1 q2 q3 q4 q5 q6 q7
      clear hf hs'
      obtain ⟨X, hX⟩ : ∃ W, W = wo.alloc (.cells #[.int .i64 f.1, .int .i64 f.2.1, .int .i64 f.2.2.1, .int .i64 f.2.2.2.1, .bool f.2.2.2.2.1, .int .i64 f.2.2.2.2.2.1, .int .i64 f.2.2.2.2.2.2.1, .bool f.2.2.2.2.2.2.2] 87) := ⟨_, rfl⟩
      have bX : Below wo.heap.size wo X := by rw [hX]; exact (Below.refl _ _).alloc (Nat.le_refl _) _
      have x0 : X.cell? ⟨wo.heap.size, 0, none⟩ = some (.int .i64 f.1) := by rw [hX, Fk.cellTop _ _ _ _ _ rfl]; rfl
      have hzX : wo.heap.size < X.heap.size := by rw [hX]; simp
      have BX : Below w2.heap.size w2 X := bel.trans (bX.mono bel.size)
      have HX := Fk.hide hX
      have hk1 : (k : Int) ≤ (k2 : Int) := by have := hcap.out; omega
      have hk2 : k ≤ k2 := by have := hcap.out; omega
      clear hX
      go_wp2_with fail
      rw [← HX.out]
      clear q0 q1 q2 q3 q4 q5 q6 q7
      go_loopw [25] (fun i wr => ∃ j : Nat, j ≤ k ∧ i = .int .i64 j ∧ Hid (∀ t, t < j → (Ob.at' M t).1 ≠ f.1) ∧ Below X.heap.size X wr) (fun i _ => k - (intOf i).toNat)
      case atStart => exact ⟨0, Nat.zero_le _, rfl, fun j hj => absurd hj (by omega), Below.refl _ _⟩
      case round =>
        obtain ⟨j, hj, rfl, HJ, beli⟩ := hrel
        have BI : Below w2.heap.size w2 wr := BX.trans (beli.mono BX.size)
        have HBI : Hid (Below w.heap.size w wr) := HB2.out.trans (BI.mono HB2.out.size)
        by_cases hjt : j < k
        · have hs' := hs1.below hb BI
          have q0 := Or.c0 hs' (k := j) (by omega)
          have q1 := Or.c1 hs' (k := j) (by omega)
          have q2 := Or.c2 hs' (k := j) (by omega)
          have q3 := Or.c3 hs' (k := j) (by omega)
          have q4 := Or.c4 hs' (k := j) (by omega)
          have q5 := Or.c5 hs' (k := j) (by omega)
          have q6 := Or.c6 hs' (k := j) (by omega)
          have q7 := Or.c7 hs' (k := j) (by omega)
          simp only [Nat.zero_add] at q0 q1 q2 q3 q4 q5 q6 q7
          obtain ⟨g', hg'⟩ : ∃ f, f = Rk.at_ Or.S M j := ⟨_, rfl⟩
          have HG := Fk.hide hg'
          rw [← hg'] at q0 q1 q2 q3 q4 q5 q6 q7
          clear hg' hs'
          obtain ⟨Y, hY⟩ : ∃ W, W = wr.alloc (.cells #[.int .i64 g'.1, .int .i64 g'.2.1, .int .i64 g'.2.2.1, .int .i64 g'.2.2.2.1, .bool g'.2.2.2.2.1, .int .i64 g'.2.2.2.2.2.1, .int .i64 g'.2.2.2.2.2.2.1, .bool g'.2.2.2.2.2.2.2] 87) := ⟨_, rfl⟩
          have bY : Below wr.heap.size wr Y := by rw [hY]; exact (Below.refl _ _).alloc (Nat.le_refl _) _
          have y0 : Y.cell? ⟨wr.heap.size, 0, none⟩ = some (.int .i64 g'.1) := by rw [hY, Fk.cellTop _ _ _ _ _ rfl]; rfl
          have y1 : Y.cell? ⟨wo.heap.size, 0, none⟩ = some (.int .i64 f.1) := by
            rw [hY, Fk.cellOld _ _ _ _ (by have := beli.size; omega)]
            exact (beli.cell (p := ⟨wo.heap.size, 0, none⟩) (by show wo.heap.size < _; omega)).trans x0
          have BY : Below w2.heap.size w2 Y := BI.trans (bY.mono BI.size)
          have BYX : Hid (Below X.heap.size X Y) := beli.trans (bY.mono beli.size)
          have HBY : Hid (Below w.heap.size w Y) := HB2.out.trans (BY.mono HB2.out.size)
          clear BY bY
          rw [hY] at y1 BYX HBY
          clear y0 hY
          by_cases heq : f.1 = g'.1
          · have HA : Hid (Ob.ids (B ++ A) = false) := by
              show _ = _
              rw [← HM.out]
              refine Ob.upTo_no hlt (Ob.upTo_no hjt ?_)
              unfold Ob.at'
              rw [← HF.out, ← HG.out]; simp [heq]
            go_wp2_with fail
            go_ret
            exact ⟨by rw [HA.out]; rfl, HBY.out⟩
          · go_wp2_with fail
            go_roundw
            case rel =>
              refine ⟨j + 1, by omega, by go_num, (fun t ht => ?_), BYX.out⟩
              by_cases e : t = j
              · rw [e]; intro h; exact heq (by rw [← h, HG.out])
              · exact HJ.out t (by omega)
            case measure => simp [intOf]; omega
        · have e : j = k := by omega
          subst e
          have HS : Hid (Ob.fresh M j = true) := Ob.upTo_yes (fun t ht => by have := HJ.out t ht; rw [HF.out] at this; simpa using this)
          go_wp2_with fail
          go_roundw
          case rel =>
            refine ⟨j + 1, by omega, by go_num, (fun t ht => ?_), BI⟩
            by_cases e : t = j
            · rw [e]; exact HS.out
            · exact HK.out t (by omega)
          case measure => simp [intOf]; omega
    · have e : k = M.length := by omega
      have HA : Hid (Ob.ids (B ++ A) = true) := by
        show _ = _
        rw [← HM.out]
        exact Ob.upTo_yes (fun i hi => HK.out i (by omega))
      go_wp2_with fail
      go_ret
      exact ⟨by rw [HA.out]; rfl, HBL.out⟩

set_option maxRecDepth 100000 in
set_option maxHeartbeats 4000000 in
theorem oldRight_impl (u v : Value) (n : Int) (B A : List Or.E) (w : World) (hu : Rk.View Or.S w u B) (hv : Rk.View Or.S w v A) (su : Rk.Shut u) (sv : Rk.Shut v) (l0 : B.length ≤ 1048576) (l1 : A.length ≤ 1048576) :
    Calls Try.prog 33 #[.agg #[u, v, .int .i64 n]] w fun e w' => e = .returned (.bool (Ob.right B A n)) ∧ Below w.heap.size w w' := by
  obtain ⟨W, hW⟩ : ∃ W, W = w.alloc (.cells #[u, v, .int .i64 n] 34) := ⟨_, rfl⟩
  have b0 : Below w.heap.size w W := by rw [hW]; exact (Below.refl _ _).alloc (Nat.le_refl _) _
  have c0 : W.cell? ⟨w.heap.size, 0, none⟩ = some u := by rw [hW, Fk.cellTop _ _ _ _ _ rfl]; rfl
  have c1 : W.cell? ⟨w.heap.size, 1, none⟩ = some v := by rw [hW, Fk.cellTop _ _ _ _ _ rfl]; rfl
  have c2 : W.cell? ⟨w.heap.size, 2, none⟩ = some (.int .i64 n) := by rw [hW, Fk.cellTop _ _ _ _ _ rfl]; rfl
  have hz : w.heap.size < W.heap.size := by rw [hW]; simp
  have HU := Fk.hide hu
  have HV := Fk.hide hv
  obtain ⟨a0, cap0, rfl, hs0⟩ := hu
  obtain ⟨a1, cap1, rfl, hs1⟩ := hv
  have HW := Fk.hide hW
  clear hW
  by_cases hf : Ob.frame B A n
  · have HFR := Fk.hide hf
    have n1 : 1 ≤ n := hf.1
    have n2 : n ≤ 1000000 := hf.2.1
    have n3 : (B.length : Int) + A.length ≤ 24 := hf.2.2
    have hin : Cm.inn n 1 1000000 = true := by simp [Cm.inn, n1, n2]
    clear hf
    go_enter Try.func33, Try.ntmps33
    go_wp2_with (first | (go_at_call 45; refine (within_any _ _ _ _).mono ?_; rintro e w' ⟨rfl, rfl⟩; rw [hin]))
    rw [← HW.out]
    refine (sideRight_any _ _ _ true B _ (HU.out.below b0) l0 n1 n2).mono ?_
    rintro e w1 ⟨rfl, k1⟩
    obtain ⟨r1, hr1⟩ : ∃ r, r = Ob.side n true B := ⟨_, rfl⟩
    rw [← hr1]
    have H1 := Fk.hide hr1
    have B1 : Below w.heap.size w w1 := b0.trans (k1.mono b0.size)
    have hz1 : w.heap.size < w1.heap.size := Nat.lt_of_lt_of_le hz k1.size
    have d0 := (k1.cell (p := ⟨w.heap.size, 0, none⟩) (by show w.heap.size < _; omega)).trans c0
    have d1 := (k1.cell (p := ⟨w.heap.size, 1, none⟩) (by show w.heap.size < _; omega)).trans c1
    have d2 := (k1.cell (p := ⟨w.heap.size, 2, none⟩) (by show w.heap.size < _; omega)).trans c2
    clear k1 hr1 c0 c1 c2
    cases r1 with
    | false =>
      have HA : Hid (Ob.right B A n = false) := by show _ = _; simp only [Ob.right]; rw [← H1.out]; simp
      go_wp2_with fail
      go_ret
      exact ⟨by rw [HA.out]; rfl, B1⟩
    | true =>
    go_wp2_with fail
    refine (sideRight_any _ _ _ false A _ (HV.out.below B1) l1 n1 n2).mono ?_
    rintro e w2 ⟨rfl, k2⟩
    obtain ⟨r2, hr2⟩ : ∃ r, r = Ob.side n false A := ⟨_, rfl⟩
    rw [← hr2]
    have H2 := Fk.hide hr2
    have B2 : Below w.heap.size w w2 := B1.trans (k2.mono B1.size)
    have hz2 : w.heap.size < w2.heap.size := Nat.lt_of_lt_of_le hz1 k2.size
    have e0 := (k2.cell (p := ⟨w.heap.size, 0, none⟩) (by show w.heap.size < _; omega)).trans d0
    have e1 := (k2.cell (p := ⟨w.heap.size, 1, none⟩) (by show w.heap.size < _; omega)).trans d1
    have e2 := (k2.cell (p := ⟨w.heap.size, 2, none⟩) (by show w.heap.size < _; omega)).trans d2
    clear k2 hr2 d0 d1 d2
    cases r2 with
    | false =>
      have HA : Hid (Ob.right B A n = false) := by show _ = _; simp only [Ob.right]; rw [← H1.out, ← H2.out]; simp
      go_wp2_with fail
      go_ret
      exact ⟨by rw [HA.out]; rfl, B2⟩
    | true =>
    go_wp2_with fail
    refine (idsDiffer_any _ _ _ B A _ (HU.out.below B2) (HV.out.below B2) su sv (by omega)).mono ?_
    rintro e w3 ⟨rfl, k3⟩
    obtain ⟨r3, hr3⟩ : ∃ r, r = Ob.ids (B ++ A) := ⟨_, rfl⟩
    rw [← hr3]
    have H3 := Fk.hide hr3
    have B3 : Below w.heap.size w w3 := B2.trans (k3.mono B2.size)
    have f0 := (k3.cell (p := ⟨w.heap.size, 0, none⟩) (by show w.heap.size < _; omega)).trans e0
    have f1 := (k3.cell (p := ⟨w.heap.size, 1, none⟩) (by show w.heap.size < _; omega)).trans e1
    clear k3 hr3 e0 e1 e2
    cases r3 with
    | false =>
      have HA : Hid (Ob.right B A n = false) := by show _ = _; simp only [Ob.right]; rw [← H1.out, ← H2.out, ← H3.out]; simp
      go_wp2_with fail
      go_ret
      exact ⟨by rw [HA.out]; rfl, B3⟩
    | true =>
    have HA : Hid (Ob.right B A n = Ob.apart B A) := by
      show _ = _
      simp only [Ob.right]
      rw [← H1.out, ← H2.out, ← H3.out, decide_eq_true HFR.out]; simp
    obtain ⟨nb, hnb⟩ : ∃ x, x = B.length := ⟨_, rfl⟩
    obtain ⟨na, hna⟩ : ∃ x, x = A.length := ⟨_, rfl⟩
    rw [← hnb] at f0
    rw [← hna] at f1
    by_cases z0 : nb = 0
    · have HE : Hid (Ob.apart B A = true) := by show _ = _; simp [Ob.apart, ← hnb, z0]
      subst z0
      clear hnb hna HU HV hs0 hs1 n3 HFR
      have rf0 := cell_regrown f0
      have rf1 := cell_regrown f1
      go_wp2_with fail
      refine wp_region_quiet_below (by kernel_rfl) (by kernel_rfl) ?_
      repeat (go_big_quiet_step (fail))
      refine wpQuiet_nil ?_
      intro w4 hw'
      obtain ⟨⟨dq, osq⟩, hw''⟩ := hw'
      have HB4 : Hid (Below w.heap.size w w4) := by
        show Below _ _ _
        rw [hw'']; exact B3.trans ((below_regrown w3 dq osq).mono B3.size)
      clear hw''
      go_wp2_with fail
      go_ret
      exact ⟨by rw [HA.out, HE.out]; rfl, HB4.out⟩
    have z6 : ¬ (nb : Int) = 0 := by omega
    have z8 : decide (nb = 0) = false := decide_eq_false z0
    have y6 : ((nb : Int) == 0) = false := by simpa using z0
    have y8 : (nb == 0) = false := by simpa using z0
    by_cases z1 : na = 0
    · have HE : Hid (Ob.apart B A = true) := by show _ = _; simp [Ob.apart, ← hna, z1]
      subst z1
      clear hnb hna HU HV hs0 hs1 n3 HFR
      have rf0 := cell_regrown f0
      have rf1 := cell_regrown f1
      go_wp2_with fail
      refine wp_region_quiet_below (by kernel_rfl) (by kernel_rfl) ?_
      repeat (go_big_quiet_step (fail))
      refine wpQuiet_nil ?_
      intro w4 hw'
      obtain ⟨⟨dq, osq⟩, hw''⟩ := hw'
      have HB4 : Hid (Below w.heap.size w w4) := by
        show Below _ _ _
        rw [hw'']; exact B3.trans ((below_regrown w3 dq osq).mono B3.size)
      clear hw''
      go_wp2_with fail
      go_ret
      exact ⟨by rw [HA.out, HE.out]; rfl, HB4.out⟩
    have HE : Hid (Ob.apart B A = decide ((Rk.at_ Or.S B 0).2.2.1 < (Rk.at_ Or.S A 0).2.2.1)) := by show _ = _; simp [Ob.apart, ← hnb, ← hna, z0, z1]
    have z2 : 0 < nb := Nat.pos_of_ne_zero z0
    have z3 : 0 < na := Nat.pos_of_ne_zero z1
    obtain ⟨b, o, rfl, hb, hs0'⟩ := hs0 (by rw [← hnb]; exact z2)
    obtain ⟨b', o', rfl, hb', hs1'⟩ := hs1 (by rw [← hna]; exact z3)
    have p0 := Or.c2 (hs0'.below hb B3) (k := 0) (by rw [← hnb]; exact z2)
    have p1 := Or.c2 (hs1'.below hb' B3) (k := 0) (by rw [← hna]; exact z3)
    simp only [Nat.zero_mul, Nat.add_zero] at p0 p1
    obtain ⟨x0, hx0⟩ : ∃ x, x = (Rk.at_ Or.S B 0).2.2.1 := ⟨_, rfl⟩
    obtain ⟨x1, hx1⟩ : ∃ x, x = (Rk.at_ Or.S A 0).2.2.1 := ⟨_, rfl⟩
    rw [← hx0] at p0
    rw [← hx1] at p1
    rw [← hx0, ← hx1] at HE
    have z4 : (0 : Int) < (nb : Int) := by omega
    have z5 : (0 : Int) < (na : Int) := by omega
    have z7 : ¬ (na : Int) = 0 := by omega
    have z9 : decide (na = 0) = false := decide_eq_false z1
    have y7 : ((na : Int) == 0) = false := by simpa using z1
    have y9 : (na == 0) = false := by simpa using z1
    have r0 := cell_regrown p0
    have r1 := cell_regrown p1
    clear hx0 hx1 hs0 hs1 hnb hna HU HV n3 HFR hs0' hs1' su sv
    have rf0 := cell_regrown f0
    have rf1 := cell_regrown f1
    go_wp2_with fail
    refine wp_region_quiet_below (by kernel_rfl) (by kernel_rfl) ?_
    repeat (go_big_quiet_step (fail))
    refine wpQuiet_nil ?_
    intro w4 hw'
    obtain ⟨⟨dq, osq⟩, hw''⟩ := hw'
    have HB4 : Hid (Below w.heap.size w w4) := by
      show Below _ _ _
      rw [hw'']; exact B3.trans ((below_regrown w3 dq osq).mono B3.size)
    clear hw''
    go_wp2_with fail
    go_ret
    exact ⟨by rw [HA.out, HE.out]; rfl, HB4.out⟩
  · have HA : Hid (Ob.right B A n = false) := Ob.right_long hf
    have HBL := Fk.hide b0
    cases hin : Cm.inn n 1 1000000 with
    | false =>
      go_enter Try.func33, Try.ntmps33
      go_wp2_with (first | (go_at_call 45; refine (within_any _ _ _ _).mono ?_; rintro e w' ⟨rfl, rfl⟩; rw [hin]))
      go_ret
      exact ⟨by rw [HA.out]; rfl, by rw [← HW.out]; exact HBL.out⟩
    | true =>
      have hlen : (24 : Int) < (B.length : Int) + A.length := by
        have h := hin
        simp [Cm.inn] at h
        unfold Ob.frame at hf
        omega
      go_enter Try.func33, Try.ntmps33
      go_wp2_with (first | (go_at_call 45; refine (within_any _ _ _ _).mono ?_; rintro e w' ⟨rfl, rfl⟩; rw [hin]))
      go_ret
      exact ⟨by rw [HA.out]; rfl, by rw [← HW.out]; exact HBL.out⟩
end Go.Proofs.Ytnhpcknbnmhlhaa

/- The walks of what the law of bars draws. -/
import Derived.Test.YtficlppngnnpoaaDrawTrades
import Derived.Test.YtficlppngnnpoaaDrawEventsS
namespace Go.Proofs.Ytficlppngnnpoaa
open Go.RowKit
set_option linter.unusedVariables false
set_option linter.unusedSimpArgs false
/-- what holds of the operations done so far where the number of a bar's trades is picked -/
structure Dt.Bp (B S : Nat) (w : World) (lv : Value) (l : Array Bool) (X : World) (x12 x13 x14 x15 x16 x17 x2 x3 : Value) : Prop where
  sz : l.size = 8
  t : Dk.T B S w X
  d0 : l.getD 0 false = true → x12 = lv
  d1 : l.getD 1 false = true → Dk.Lit S [0, 100, 101] X x13
  d2 : l.getD 2 false = true → x14 = .pointer (some ⟨S, 0, none⟩)
  d3 : l.getD 3 false = true → Dk.Idx 3 x15
  d4 : l.getD 4 false = true → Dk.Ptr S [0, 100, 101] X x16
  d5 : l.getD 5 false = true → Dk.Num [0, 100, 101] x17
  d6 : l.getD 6 false = true → x2 = lv
  d7 : l.getD 7 false = true → Dk.Num [0, 100, 101] x3
theorem Dt.Bp.grown {B S : Nat} {w : World} {lv : Value} {l : Array Bool} {X Y : World} {x12 x13 x14 x15 x16 x17 x2 x3 : Value} {r : Option Nat} (h : Dt.Bp B S w lv l X x12 x13 x14 x15 x16 x17 x2 x3) (hg : X.grownBy Y r) (hr : r = none ∨ r = some S) (ht : Dk.T B S w Y) : Dt.Bp B S w lv l Y x12 x13 x14 x15 x16 x17 x2 x3 where
  sz := h.sz
  t := ht
  d0 := h.d0
  d1 := fun e => (h.d1 e).grown hg hr
  d2 := h.d2
  d3 := h.d3
  d4 := fun e => (h.d4 e).grown hg hr
  d5 := h.d5
  d6 := h.d6
  d7 := h.d7
set_option maxRecDepth 100000 in
set_option maxHeartbeats 4000000 in
theorem drawBarsOf_any (ca : Option Addr) (cn cc : Nat) (w : World) (hn : cn ≤ 1048576) (hby : Dk.Bytes w.heap.size w ca cn) :
    Calls Try.prog 10 #[.slice ca cn cc] w fun e w' => (∃ (u : Value) (L : List Td.E) (m : Int), e = .returned (.tuple #[u, .int .i64 m]) ∧ Rk.Own Td.S w' w.heap.size 37 u L ∧ L.length ≤ 8 ∧ -9223372036854775808 ≤ m ∧ m ≤ 9223372036854775807) ∧ Below w.heap.size w w' := by
  go_enter Try.func10, Try.ntmps10
  go_wp2_with fail
  refine (source_any w.heap.size ca cn cc w (Nat.le_refl _) hn hby).mono ?_
  rintro e w1 ⟨rfl, s1, b1⟩
  obtain ⟨S, hS⟩ : ∃ S, S = w.heap.size := ⟨_, rfl⟩
  have HS := Fk.hide hS
  have T1 : Hid (Dk.T w.heap.size S w1 w1) := ⟨by rw [hS]; exact s1, World.grownBy.refl _ _⟩
  have hSw : S < w1.heap.size := by rw [hS]; exact s1.lt.2
  have HB1 := Fk.hide b1
  rw [← hS]
  clear hS s1 b1 hby hn
  go_wp2_with fail
  refine (drawTrades_any w.heap.size S w1 T1.out.1).mono ?_
  rintro e w2 ⟨⟨u, L, rfl, ho, hll⟩, h1, h2⟩
  obtain ⟨ua, uc, rfl⟩ := ho.slice
  have HO2 := Fk.hide ho
  have HLL := Fk.hide hll
  have T2 : Hid (Dk.T w.heap.size S w1 w2) := T1.out.next h1 h2
  clear h1 h2 T1 ho hll
  go_wp2_with fail
  refine (drawOne_any w.heap.size S 10 w2 T2.out.1 (by omega)).mono ?_
  rintro e w3 ⟨⟨rt, rfl⟩, h1, h2⟩
  have T3 : Hid (Dk.T w.heap.size S w1 w3) := T2.out.next h1 h2
  have HO3 : Hid (Rk.Own Td.S w3 w1.heap.size 37 (.slice ua L.length uc) L) := HO2.out.kept h2 (fun k hk e => by have h9 := (HO2.out.lt k hk).1; have := Option.some.inj e; omega)
  clear h1 h2 T2 HO2
  have FIN : ∀ (X : World) (m : Int), -9223372036854775808 ≤ m → m ≤ 9223372036854775807 → Rk.Own Td.S X w1.heap.size 37 (.slice ua L.length uc) L → Dk.T w.heap.size S w1 X → (∃ (u : Value) (L' : List Td.E) (m' : Int), Ending.returned (.tuple #[.slice ua L.length uc, .int .i64 m]) = .returned (.tuple #[u, .int .i64 m']) ∧ Rk.Own Td.S X w.heap.size 37 u L' ∧ L'.length ≤ 8 ∧ -9223372036854775808 ≤ m' ∧ m' ≤ 9223372036854775807) ∧ Below w.heap.size w X := by
    intro X m m0 m1 ho ht
    exact ⟨⟨_, L, m, rfl, ho.mono HB1.out.size, HLL.out, m0, m1⟩, HB1.out.grown ht.2 HB1.out.size (fun k hk => by have h9 := Option.some.inj hk; rw [← h9, HS.out]; exact Nat.le_refl _)⟩
  cases rt with
  | false =>
    go_wp2_with fail
    refine (drawN_any w.heap.size S 4 w3 T3.out.1 (by omega)).mono ?_
    rintro e w4 ⟨⟨rb, rfl, rb0, rb1, _⟩, h1, h2⟩
    have rbl := rb1 (by omega)
    have T4 : Hid (Dk.T w.heap.size S w1 w4) := T3.out.next h1 h2
    have HO4 : Hid (Rk.Own Td.S w4 w1.heap.size 37 (.slice ua L.length uc) L) := HO3.out.kept h2 (fun k hk e => by have h9 := (HO3.out.lt k hk).1; have := Option.some.inj e; omega)
    have m0 : -9223372036854775808 ≤ 1 + rb := by omega
    have m1 : 1 + rb ≤ 9223372036854775807 := by omega
    have HF := Fk.hide FIN
    clear h1 h2 T3 HO3 FIN rb1
    go_wp2_with fail
    refine bodyPost_ret (results_tmp2 rfl _ _ _) rfl ?_
    exact HF.out _ _ m0 m1 HO4.out T4.out
  | true =>
    have HF := Fk.hide FIN
    clear FIN
    go_wp2_with fail
    refine wp_region_any (by kernel_rfl) ?_
    obtain ⟨J, hJ⟩ : ∃ J : Array Bool → Act → World → Prop, J = fun l a X => ∃ x12 x13 x14 x15 x16 x17 x2 x3 : Value, a = { tmps := #[.slice ca cn cc, undef, x2, x3, .pointer (some ⟨S, 0, none⟩), .slice ua L.length uc, .slice ca cn cc, .pointer (some ⟨S, 0, none⟩), .pointer (some ⟨S, 0, none⟩), .slice ua L.length uc, .pointer (some ⟨S, 0, none⟩), .bool true, x12, x13, x14, x15, x16, x17, undef, undef, undef, undef], defers := [] } ∧ Dt.Bp w.heap.size S w3 (.slice ua L.length uc) l X x12 x13 x14 x15 x16 x17 x2 x3 := ⟨_, rfl⟩
    have HJ := Fk.hide hJ
    clear hJ
    refine Ri.any_inv J ?step ?done _ _ _ _ (by decide) ?init
    case init =>
      rw [HJ.out]
      refine ⟨_, _, _, _, _, _, _, _, rfl, ?_⟩
      exact { sz := rfl, t := Dk.T.drew ⟨T3.out.1, World.grownBy.refl _ _⟩, d0 := fun e => absurd e (by decide), d1 := fun e => absurd e (by decide), d2 := fun e => absurd e (by decide), d3 := fun e => absurd e (by decide), d4 := fun e => absurd e (by decide), d5 := fun e => absurd e (by decide), d6 := fun e => absurd e (by decide), d7 := fun e => absurd e (by decide) }
    case done =>
      intro l a X hr hJl
      rw [HJ.out] at hJl
      obtain ⟨x12, x13, x14, x15, x16, x17, x2, x3, rfl, h⟩ := hJl
      have hall := Ri.all_done' hr (by rw [h.sz]; decide) (by decide)
      have e2 := h.d6 (hall 6 (by decide))
      obtain ⟨j, j1, e3⟩ := h.d7 (hall 7 (by decide))
      subst e2 e3
      obtain ⟨y, hy⟩ : ∃ y, y = List.getD ([0, 100, 101] : List Int) j 0 := ⟨_, rfl⟩
      have HYB : Hid (-9223372036854775808 ≤ y ∧ y ≤ 9223372036854775807) := by
        rw [hy]
        have j4 : j < 3 := j1
        rcases (by omega : j = 0 ∨ j = 1 ∨ j = 2) with rfl | rfl | rfl <;> exact ⟨by decide, by decide⟩
      rw [← hy]
      have HT7 : Hid (Dk.T w.heap.size S w1 X) := T3.out.next h.t.1 h.t.2
      have HO7 : Hid (Rk.Own Td.S X w1.heap.size 37 (.slice ua L.length uc) L) := HO3.out.kept h.t.2 (fun k hk e => by have h9 := (HO3.out.lt k hk).1; have := Option.some.inj e; omega)
      clear h hall hr HJ hy
      go_wp2_with fail
      refine bodyPost_ret (results_tmp2 rfl _ _ _) rfl ?_
      exact HF.out _ _ HYB.out.1 HYB.out.2 HO7.out HT7.out
    case step =>
      intro i l a X hi hJl
      rw [HJ.out] at hJl
      obtain ⟨x12, x13, x14, x15, x16, x17, x2, x3, rfl, h⟩ := hJl
      have hib : i < 8 := (Ri.ready_mem hi).1
      have hnot := Ri.not_yet (Ri.ready_mem hi).2.1
      rcases (by omega : i = 0 ∨ i = 1 ∨ i = 2 ∨ i = 3 ∨ i = 4 ∨ i = 5 ∨ i = 6 ∨ i = 7) with rfl | rfl | rfl | rfl | rfl | rfl | rfl | rfl
      · -- operation 0
        refine Ri.op (by rfl) rfl ?_
        go_simp
        rw [HJ.out]
        exact ⟨_, _, _, _, _, _, _, _, rfl, { sz := by simp [h.sz], t := h.t, d0 := fun _ => rfl, d1 := fun e => h.d1 (Ri.was e (by decide)), d2 := fun e => h.d2 (Ri.was e (by decide)), d3 := fun e => h.d3 (Ri.was e (by decide)), d4 := fun e => h.d4 (Ri.was e (by decide)), d5 := fun e => h.d5 (Ri.was e (by decide)), d6 := fun e => h.d6 (Ri.was e (by decide)), d7 := fun e => h.d7 (Ri.was e (by decide)) }⟩
      · -- operation 1
        refine Ri.op (by rfl) rfl ?_
        go_simp
        have h2 := h.grown (World.grownBy_alloc X (.cells #[.int .i64 0, .int .i64 100, .int .i64 101] 2) none) (.inl rfl) (h.t.alloc _)
        have hlit : Dk.Lit S [0, 100, 101] (X.alloc (.cells #[.int .i64 0, .int .i64 100, .int .i64 101] 2)) (.slice (some ⟨X.heap.size, 0, none⟩) 3 3) := by
          refine ⟨X.heap.size, rfl, by simp, by have := h.t.1.lt.2; omega, fun i hi => ?_⟩
          rw [Fk.cellTop _ _ _ _ _ rfl]
          match i, hi with
          | 0, _ => rfl
          | 1, _ => rfl
          | 2, _ => rfl
        rw [HJ.out]
        exact ⟨_, _, _, _, _, _, _, _, rfl, { sz := by simp [h2.sz], t := h2.t, d0 := fun e => h2.d0 (Ri.was e (by decide)), d1 := fun _ => hlit, d2 := fun e => h2.d2 (Ri.was e (by decide)), d3 := fun e => h2.d3 (Ri.was e (by decide)), d4 := fun e => h2.d4 (Ri.was e (by decide)), d5 := fun e => h2.d5 (Ri.was e (by decide)), d6 := fun e => h2.d6 (Ri.was e (by decide)), d7 := fun e => h2.d7 (Ri.was e (by decide)) }⟩
      · -- operation 2
        refine Ri.op (by rfl) rfl ?_
        go_simp
        rw [HJ.out]
        exact ⟨_, _, _, _, _, _, _, _, rfl, { sz := by simp [h.sz], t := h.t, d0 := fun e => h.d0 (Ri.was e (by decide)), d1 := fun e => h.d1 (Ri.was e (by decide)), d2 := fun _ => rfl, d3 := fun e => h.d3 (Ri.was e (by decide)), d4 := fun e => h.d4 (Ri.was e (by decide)), d5 := fun e => h.d5 (Ri.was e (by decide)), d6 := fun e => h.d6 (Ri.was e (by decide)), d7 := fun e => h.d7 (Ri.was e (by decide)) }⟩
      · -- operation 3
        have e1 := h.d2 (Ri.dep hi (by rfl) (by rfl))
        subst e1
        refine Ri.op (by rfl) rfl ?_
        go_simp
        refine (drawN_any w.heap.size S 3 X h.t.1 (by omega)).mono ?_
        rintro e Y ⟨⟨r, rfl, r0, r1, _⟩, s1, g1⟩
        have r2 := r1 (by omega)
        have h2 := h.grown g1 (.inr rfl) (h.t.next s1 g1)
        have er : ((r.toNat : Nat) : Int) = r := by omega
        have hidx : Dk.Idx 3 (.int .i64 r) := ⟨r.toNat, by omega, by rw [er]⟩
        go_simp
        rw [HJ.out]
        exact ⟨_, _, _, _, _, _, _, _, rfl, { sz := by simp [h2.sz], t := h2.t, d0 := fun e => h2.d0 (Ri.was e (by decide)), d1 := fun e => h2.d1 (Ri.was e (by decide)), d2 := fun e => h2.d2 (Ri.was e (by decide)), d3 := fun _ => hidx, d4 := fun e => h2.d4 (Ri.was e (by decide)), d5 := fun e => h2.d5 (Ri.was e (by decide)), d6 := fun e => h2.d6 (Ri.was e (by decide)), d7 := fun e => h2.d7 (Ri.was e (by decide)) }⟩
      · -- operation 4
        obtain ⟨g, e1, g1, g2, g3⟩ := h.d1 (Ri.dep hi (by rfl) (by rfl))
        obtain ⟨j, j1, e2⟩ := h.d3 (Ri.dep hi (by rfl) (by rfl))
        subst e1 e2
        have j2 : j < [0, 100, 101].length := j1
        have hc := g3 j j2
        have j3 : (j : Int) < 3 := by omega
        refine Ri.op (by rfl) rfl ?_
        go_simp
        rw [HJ.out]
        exact ⟨_, _, _, _, _, _, _, _, rfl, { sz := by simp [h.sz], t := h.t, d0 := fun e => h.d0 (Ri.was e (by decide)), d1 := fun e => h.d1 (Ri.was e (by decide)), d2 := fun e => h.d2 (Ri.was e (by decide)), d3 := fun e => h.d3 (Ri.was e (by decide)), d4 := fun _ => ⟨g, j, rfl, g1, g2, j2, hc⟩, d5 := fun e => h.d5 (Ri.was e (by decide)), d6 := fun e => h.d6 (Ri.was e (by decide)), d7 := fun e => h.d7 (Ri.was e (by decide)) }⟩
      · -- operation 5
        obtain ⟨g, j, e1, g1, g2, g3, hc⟩ := h.d4 (Ri.dep hi (by rfl) (by rfl))
        subst e1
        obtain ⟨y, hy⟩ : ∃ y, y = List.getD ([0, 100, 101] : List Int) j 0 := ⟨_, rfl⟩
        rw [← hy] at hc
        have HY := Fk.hide hy
        clear hy
        refine Ri.op (by rfl) rfl ?_
        go_simp
        rw [HJ.out]
        exact ⟨_, _, _, _, _, _, _, _, rfl, { sz := by simp [h.sz], t := h.t, d0 := fun e => h.d0 (Ri.was e (by decide)), d1 := fun e => h.d1 (Ri.was e (by decide)), d2 := fun e => h.d2 (Ri.was e (by decide)), d3 := fun e => h.d3 (Ri.was e (by decide)), d4 := fun e => h.d4 (Ri.was e (by decide)), d5 := fun _ => ⟨j, g3, by rw [HY.out]⟩, d6 := fun e => h.d6 (Ri.was e (by decide)), d7 := fun e => h.d7 (Ri.was e (by decide)) }⟩
      · -- operation 6
        have e1 := h.d0 (Ri.dep hi (by rfl) (by rfl))
        subst e1
        refine Ri.op (by rfl) rfl ?_
        go_simp
        rw [HJ.out]
        exact ⟨_, _, _, _, _, _, _, _, rfl, { sz := by simp [h.sz], t := h.t, d0 := fun e => h.d0 (Ri.was e (by decide)), d1 := fun e => h.d1 (Ri.was e (by decide)), d2 := fun e => h.d2 (Ri.was e (by decide)), d3 := fun e => h.d3 (Ri.was e (by decide)), d4 := fun e => h.d4 (Ri.was e (by decide)), d5 := fun e => h.d5 (Ri.was e (by decide)), d6 := fun _ => rfl, d7 := fun e => h.d7 (Ri.was e (by decide)) }⟩
      · -- operation 7
        have e1 := h.d5 (Ri.dep hi (by rfl) (by rfl))
        refine Ri.op (by rfl) rfl ?_
        go_simp
        rw [HJ.out]
        exact ⟨_, _, _, _, _, _, _, _, rfl, { sz := by simp [h.sz], t := h.t, d0 := fun e => h.d0 (Ri.was e (by decide)), d1 := fun e => h.d1 (Ri.was e (by decide)), d2 := fun e => h.d2 (Ri.was e (by decide)), d3 := fun e => h.d3 (Ri.was e (by decide)), d4 := fun e => h.d4 (Ri.was e (by decide)), d5 := fun e => h.d5 (Ri.was e (by decide)), d6 := fun e => h.d6 (Ri.was e (by decide)), d7 := fun _ => e1 }⟩
set_option maxHeartbeats 1000000 in
theorem drawTradesOf_any (ca : Option Addr) (cn cc : Nat) (w : World) (hn : cn ≤ 1048576) (hby : Dk.Bytes w.heap.size w ca cn) :
    Calls Try.prog 12 #[.slice ca cn cc] w fun e w' => (∃ (u : Value) (L : List Vt.E), e = .returned u ∧ Rk.Own Vt.S w' w.heap.size 68 u L ∧ L.length ≤ 4) ∧ Below w.heap.size w w' := by
  go_enter Try.func12, Try.ntmps12
  go_wp2_with fail
  refine (source_any w.heap.size ca cn cc w (Nat.le_refl _) hn hby).mono ?_
  rintro e w1 ⟨rfl, s1, b1⟩
  have HB1 := Fk.hide b1
  clear b1
  go_wp2_with fail
  refine (drawEvents_any w.heap.size w.heap.size w1 s1).mono ?_
  rintro e w2 ⟨⟨u, L, rfl, ho, hll⟩, h1, h2⟩
  have HO2 := Fk.hide (ho.mono HB1.out.size)
  have HLL := Fk.hide hll
  have HB2 : Hid (Below w.heap.size w w2) := HB1.out.grown h2 HB1.out.size (fun k hk => by have h9 := Option.some.inj hk; omega)
  clear h1 h2 ho hll
  go_wp2_with fail
  go_ret
  first | exact ⟨⟨_, L, rfl, HO2.out, HLL.out⟩, HB2.out⟩ | exact ⟨⟨_, rfl, L, HO2.out, HLL.out⟩, HB2.out⟩
end Go.Proofs.Ytficlppngnnpoaa

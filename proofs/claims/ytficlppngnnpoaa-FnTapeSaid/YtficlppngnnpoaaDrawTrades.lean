/- The walk of the specification's drawn list of trades. -/
import Derived.Test.YtficlppngnnpoaaDrawPick
import Derived.Test.YtficlppngnnpoaaTapeTrades
import Derived.Test.YtficlppngnnpoaaRowsMore
namespace Go.Proofs.Ytficlppngnnpoaa
open Go.RowKit
set_option linter.unusedVariables false
set_option linter.unusedSimpArgs false
/-- what holds of the operations done so far, in the region that puts an edge trade behind the drawn ones -/
structure Dt.C (B S : Nat) (w : World) (lv : Value) (L : List Td.E) (l : Array Bool) (X : World) (x3 x24 x25 x26 x27 x28 x29 x30 x31 x32 x33 x34 x35 x36 x37 : Value) : Prop where
  sz : l.size = 15
  t : Dk.T B S w X
  own : l.getD 13 false = false → Rk.Own Td.S X w.heap.size 37 lv L
  c3 : l.getD 14 false = false → x3 = lv
  d0 : l.getD 0 false = true → x24 = lv
  d1 : l.getD 13 false = false → l.getD 1 false = true → Dk.Lit S [0, 10000, 10001] X x25
  d2 : l.getD 2 false = true → x26 = .pointer (some ⟨S, 0, none⟩)
  d3 : l.getD 3 false = true → Dk.Idx 3 x27
  d4 : l.getD 13 false = false → l.getD 4 false = true → Dk.Ptr S [0, 10000, 10001] X x28
  d5 : l.getD 5 false = true → Dk.Num [0, 10000, 10001] x29
  d6 : l.getD 13 false = false → l.getD 6 false = true → Dk.Lit S [0, 1, 1000, 1001] X x30
  d7 : l.getD 7 false = true → x31 = .pointer (some ⟨S, 0, none⟩)
  d8 : l.getD 8 false = true → Dk.Idx 4 x32
  d9 : l.getD 13 false = false → l.getD 9 false = true → Dk.Ptr S [0, 1, 1000, 1001] X x33
  d10 : l.getD 10 false = true → Dk.Num [0, 1, 1000, 1001] x34
  d11 : l.getD 11 false = true → ∃ p q : Int, x35 = .agg #[.int .i64 p, .int .i64 q]
  d12 : l.getD 13 false = false → l.getD 12 false = true → ∃ (g : Nat) (p q : Int), x36 = .slice (some ⟨g, 0, none⟩) 1 1 ∧ g ≠ S ∧ Rk.View Td.S X x36 [(p, q)]
  d13 : l.getD 13 false = true → ∃ t : Td.E, Rk.Own Td.S X w.heap.size 37 x37 (L ++ [t])
  d14 : l.getD 14 false = true → l.getD 0 false = true ∧ x3 = x37
  e5 : l.getD 5 false = true → l.getD 4 false = true
  e10 : l.getD 10 false = true → l.getD 9 false = true
  e11 : l.getD 11 false = true → l.getD 5 false = true ∧ l.getD 10 false = true
  e12 : l.getD 12 false = true → l.getD 11 false = true
  e13 : l.getD 13 false = true → l.getD 12 false = true
  e14 : l.getD 14 false = true → l.getD 13 false = true
theorem Dk.view_grown {S : Nat} {X Y : World} {x : Value} {M : List Td.E} {g : Nat} {r : Option Nat} (hx : x = .slice (some ⟨g, 0, none⟩) 1 1) (hne : g ≠ S) (h : Rk.View Td.S X x M) (hg : X.grownBy Y r) (hr : r = none ∨ r = some S) : Rk.View Td.S Y x M := by
  obtain ⟨a, c, e, hs⟩ := h
  refine ⟨a, c, e, fun h0 => ?_⟩
  obtain ⟨b, o, e2, hb, hse⟩ := hs h0
  subst e2
  rw [hx] at e
  simp only [Value.slice.injEq, Option.some.injEq] at e
  have hbg : b = g := by have := e.1; cases this; rfl
  have hn : some b ≠ r := by rcases hr with rfl | rfl <;> simp [hbg, hne]
  exact ⟨b, o, rfl, Nat.lt_of_lt_of_le hb hg.size, fun i hi j hj => (hg.cell_far ⟨b, _, none⟩ hb hn).trans (hse i hi j hj)⟩
theorem Dt.C.grown {B S : Nat} {w : World} {lv : Value} {L : List Td.E} {l : Array Bool} {X Y : World} {x3 x24 x25 x26 x27 x28 x29 x30 x31 x32 x33 x34 x35 x36 x37 : Value} {r : Option Nat} (h : Dt.C B S w lv L l X x3 x24 x25 x26 x27 x28 x29 x30 x31 x32 x33 x34 x35 x36 x37) (hS : S < w.heap.size) (hg : X.grownBy Y r) (hr : r = none ∨ r = some S) (ht : Dk.T B S w Y) : Dt.C B S w lv L l Y x3 x24 x25 x26 x27 x28 x29 x30 x31 x32 x33 x34 x35 x36 x37 where
  sz := h.sz
  t := ht
  own := fun e => (h.own e).kept hg (fun k hk e2 => by have h9 := ((h.own e).lt k hk).1; rcases hr with rfl | rfl <;> simp at e2; omega)
  c3 := h.c3
  d0 := h.d0
  d1 := fun n e => (h.d1 n e).grown hg hr
  d2 := h.d2
  d3 := h.d3
  d4 := fun n e => (h.d4 n e).grown hg hr
  d5 := h.d5
  d6 := fun n e => (h.d6 n e).grown hg hr
  d7 := h.d7
  d8 := h.d8
  d9 := fun n e => (h.d9 n e).grown hg hr
  d10 := h.d10
  d11 := h.d11
  d12 := fun n e => by obtain ⟨g, p, q, h1, h2, h3⟩ := h.d12 n e; exact ⟨g, p, q, h1, h2, Dk.view_grown h1 h2 h3 hg hr⟩
  d13 := fun e => by obtain ⟨t, h1⟩ := h.d13 e; exact ⟨t, h1.kept hg (fun k hk e2 => by have h9 := (h1.lt k hk).1; rcases hr with rfl | rfl <;> simp at e2; omega)⟩
  d14 := h.d14
  e5 := h.e5
  e10 := h.e10
  e11 := h.e11
  e12 := h.e12
  e13 := h.e13
  e14 := h.e14
set_option maxRecDepth 100000 in
set_option maxHeartbeats 8000000 in
theorem drawTrades_any (B S : Nat) (w : World) (hs : Dk.Src B w S) :
    Calls Try.prog 39 #[.pointer (some ⟨S, 0, none⟩)] w fun e w' => (∃ (u : Value) (L : List Td.E), e = .returned u ∧ Rk.Own Td.S w' w.heap.size 37 u L ∧ L.length ≤ 8) ∧ Dk.Src B w' S ∧ w.grownBy w' (some S) := by
  obtain ⟨hBS, hSw⟩ := hs.lt
  obtain ⟨i0, hi0, hz0, hz1, hz2⟩ := info_parts Td.info
  have T0 : Hid (Dk.T B S w (w.alloc (.cells #[] 37))) := Dk.T.alloc ⟨hs, World.grownBy.refl _ _⟩ _
  have HN0 : Hid (Rk.Own Td.S (w.alloc (.cells #[] 37)) w.heap.size 37 (.slice (some ⟨w.heap.size, 0, none⟩) 0 0) []) := Rk.own_empty w 37 w.heap.size (Nat.le_refl _)
  clear hs
  go_enter Try.func39, Try.ntmps39
  go_wp2_with fail
  refine (drawN_any B S 8 _ T0.out.1 (by omega)).mono ?_
  rintro e w1 ⟨⟨ra, rfl, ra0, ra1, _⟩, h1, h2⟩
  have ral := ra1 (by omega)
  clear ra1
  have T1 : Hid (Dk.T B S w w1) := T0.out.next h1 h2
  have HN1 : Hid (Rk.Own Td.S w1 w.heap.size 37 (.slice (some ⟨w.heap.size, 0, none⟩) 0 0) []) := HN0.out.kept h2 (fun k hk e => by have h9 := (HN0.out.lt k hk).1; have := Option.some.inj e; omega)
  clear h1 h2
  go_wp2_with fail
  go_loopw [3, 4] (fun out i wr => ∃ (c : Int) (L : List Td.E) (ua : Option Addr) (uc : Nat), out = .slice ua L.length uc ∧ i = .int .i64 c ∧ 0 ≤ c ∧ (L.length : Int) + c ≤ 7 ∧ Hid (Rk.Own Td.S wr w.heap.size 37 (.slice ua L.length uc) L) ∧ Hid (Dk.T B S w wr)) (fun _ i _ => (intOf i).toNat)
  case atStart => exact ⟨ra, [], _, _, rfl, rfl, ra0, by simp; omega, HN1.out, T1.out⟩
  case round =>
    obtain ⟨c, L, ua, uc, rfl, rfl, hc0, hc1, HO, TR⟩ := hrel
    clear T0 T1 HN0 HN1
    by_cases hlt : 0 < c
    · go_wp2_with fail
      refine (drawN_any B S 20 wr TR.out.1 (by omega)).mono ?_
      rintro e w2 ⟨⟨r1, rfl, r10, r11, _⟩, h1, h2⟩
      have r1l := r11 (by omega)
      have T2 : Hid (Dk.T B S w w2) := TR.out.next h1 h2
      have HO2 : Hid (Rk.Own Td.S w2 w.heap.size 37 (.slice ua L.length uc) L) := HO.out.kept h2 (fun k hk e => by have h9 := (HO.out.lt k hk).1; have := Option.some.inj e; omega)
      clear h1 h2 HO TR r11
      go_wp2_with fail
      refine (drawN_any B S 9 w2 T2.out.1 (by omega)).mono ?_
      rintro e w3 ⟨⟨r2, rfl, r20, r21, _⟩, h1, h2⟩
      have r2l := r21 (by omega)
      have T3 : Hid (Dk.T B S w w3) := T2.out.next h1 h2
      have HO3 : Hid (Rk.Own Td.S w3 w.heap.size 37 (.slice ua L.length uc) L) := HO2.out.kept h2 (fun k hk e => by have h9 := (HO2.out.lt k hk).1; have := Option.some.inj e; omega)
      have HWS : Hid (w.heap.size ≤ w3.heap.size) := T3.out.2.size
      clear h1 h2 HO2 T2 r21
      have T5 : Hid (Dk.T B S w (w3.alloc (.cells #[.int .i64 (90 + r1), .int .i64 (1 + r2)] 37))) := T3.out.alloc _
      have HO5 := Fk.hide (HO3.out.below ((Below.refl w3.heap.size w3).alloc (Nat.le_refl _) (.cells #[.int .i64 (90 + r1), .int .i64 (1 + r2)] 37)))
      have HV5 := Fk.hide (Rk.view_lit1 (S := Td.S) w3 37 #[.int .i64 (90 + r1), .int .i64 (1 + r2)] (90 + r1, 1 + r2) rfl)
      have hll : L.length ≤ 6 := by omega
      go_wp2_with (at_builtin; refine Rk.wpList_append_view _ rfl _ _ 23 rfl w.heap.size 37 i0 _ 2 16 rfl Try.underlying23 hi0 hz0 hz1 hz2 rfl (by decide) (.slice ua L.length uc) (.slice (some ⟨w3.heap.size, 0, none⟩) 1 1) L [(90 + r1, 1 + r2)] rfl rfl HO5.out HV5.out (Rk.shut_some _ _ _) (by simp <;> omega) (Nat.le_trans HWS.out (by simp)) ?_; intro u6 w6 o6 g6; have T6 : Hid (Dk.T B S w w6) := T5.out.far g6 (fun j hj => by have h9 := (HO5.out.lt j hj).1; exact ⟨h9, by omega, by omega⟩); obtain ⟨x6, c6, rfl⟩ := o6.slice; have HO6 := Fk.hide o6; clear o6 g6)
      go_roundw
      case rel =>
        refine ⟨c - 1, L ++ [(90 + r1, 1 + r2)], x6, c6, by rw [List.length_append]; rfl, by go_num, by omega, by simp; omega, HO6.out, T6.out⟩
      case measure => simp [intOf]; omega
    · have e : c = 0 := by omega
      have HLL : Hid (L.length ≤ 7) := by show _ ≤ _; omega
      have HL8 : Hid (L.length ≤ 8) := by show _ ≤ _; omega
      subst e
      clear hc1
      go_wp2_with fail
      refine (drawOne_any B S 15 wr TR.out.1 (by omega)).mono ?_
      rintro e w2 ⟨⟨rt, rfl⟩, h1, h2⟩
      have T2 : Hid (Dk.T B S w w2) := TR.out.next h1 h2
      have HO2 : Hid (Rk.Own Td.S w2 w.heap.size 37 (.slice ua L.length uc) L) := HO.out.kept h2 (fun k hk e => by have h9 := (HO.out.lt k hk).1; have := Option.some.inj e; omega)
      clear h1 h2 HO TR
      cases rt with
      | false =>
        go_wp2_with fail
        go_ret
        first | exact ⟨⟨_, L, rfl, HO2.out, HL8.out⟩, T2.out.1, T2.out.2⟩ | exact ⟨⟨_, rfl, L, HO2.out, HL8.out⟩, T2.out.1, T2.out.2⟩
      | true =>
        go_wp2_with fail
        refine wp_region_any (by kernel_rfl) ?_
        obtain ⟨J, hJ⟩ : ∃ J : Array Bool → Act → World → Prop, J = fun l a X => ∃ x3 x24 x25 x26 x27 x28 x29 x30 x31 x32 x33 x34 x35 x36 x37 : Value, a = { tmps := #[.pointer (some ⟨S, 0, none⟩), undef, .slice none 0 0, x3, .int .i64 0, .slice (some ⟨w.heap.size, 0, none⟩) 0 0, .pointer (some ⟨S, 0, none⟩), .int .i64 ra, .int .i64 0, .bool false, u10, u11, u12, u13, u14, u15, u16, u17, u18, u19, u20, u21, .pointer (some ⟨S, 0, none⟩), .bool true, x24, x25, x26, x27, x28, x29, x30, x31, x32, x33, x34, x35, x36, x37, undef], defers := [] } ∧ Dt.C B S w (.slice ua L.length uc) L l X x3 x24 x25 x26 x27 x28 x29 x30 x31 x32 x33 x34 x35 x36 x37 := ⟨_, rfl⟩
        have HJ := Fk.hide hJ
        clear hJ
        refine Ri.any_inv J ?step ?done _ _ _ _ (by decide) ?init
        case init =>
          rw [HJ.out]
          refine ⟨_, _, _, _, _, _, _, _, _, _, _, _, _, _, _, rfl, ?_⟩
          exact { sz := rfl, t := T2.out.drew, own := fun _ => HO2.out.below (Below.drew (Below.refl _ _)), c3 := fun _ => rfl, d0 := fun e => absurd e (by decide), d1 := fun _ e => absurd e (by decide), d2 := fun e => absurd e (by decide), d3 := fun e => absurd e (by decide), d4 := fun _ e => absurd e (by decide), d5 := fun e => absurd e (by decide), d6 := fun _ e => absurd e (by decide), d7 := fun e => absurd e (by decide), d8 := fun e => absurd e (by decide), d9 := fun _ e => absurd e (by decide), d10 := fun e => absurd e (by decide), d11 := fun e => absurd e (by decide), d12 := fun _ e => absurd e (by decide), d13 := fun e => absurd e (by decide), d14 := fun e => absurd e (by decide), e5 := fun e => absurd e (by decide), e10 := fun e => absurd e (by decide), e11 := fun e => absurd e (by decide), e12 := fun e => absurd e (by decide), e13 := fun e => absurd e (by decide), e14 := fun e => absurd e (by decide) }
        case done =>
          intro l a X hr hJl
          rw [HJ.out] at hJl
          obtain ⟨x3, x24, x25, x26, x27, x28, x29, x30, x31, x32, x33, x34, x35, x36, x37, rfl, h⟩ := hJl
          have hall := Ri.all_done' hr (by rw [h.sz]; decide) (by decide)
          obtain ⟨t, h13⟩ := h.d13 (hall 13 (by decide))
          have e3 := (h.d14 (hall 14 (by decide))).2
          rw [← e3] at h13
          have HO7 := Fk.hide h13
          have T7 := Fk.hide h.t
          have HL9 : Hid ((L ++ [t]).length ≤ 8) := by show _ ≤ _; rw [List.length_append]; have := HLL.out; simp; omega
          clear h13 e3 hall h hr HJ
          go_wp2_with fail
          go_ret
          first | exact ⟨⟨_, _, rfl, HO7.out, HL9.out⟩, T7.out.1, T7.out.2⟩ | exact ⟨⟨_, rfl, _, HO7.out, HL9.out⟩, T7.out.1, T7.out.2⟩
        case step =>
          intro i l a X hi hJl
          rw [HJ.out] at hJl
          obtain ⟨x3, x24, x25, x26, x27, x28, x29, x30, x31, x32, x33, x34, x35, x36, x37, rfl, h⟩ := hJl
          have hi15 : i < 15 := (Ri.ready_mem hi).1
          have hnot := Ri.not_yet (Ri.ready_mem hi).2.1
          rcases (by omega : i = 0 ∨ i = 1 ∨ i = 2 ∨ i = 3 ∨ i = 4 ∨ i = 5 ∨ i = 6 ∨ i = 7 ∨ i = 8 ∨ i = 9 ∨ i = 10 ∨ i = 11 ∨ i = 12 ∨ i = 13 ∨ i = 14) with rfl | rfl | rfl | rfl | rfl | rfl | rfl | rfl | rfl | rfl | rfl | rfl | rfl | rfl | rfl
          · -- operation 0
            have e3 : x3 = (.slice ua L.length uc) := h.c3 (by cases hx : l.getD 14 false with | false => rfl | true => have := (h.d14 hx).1; rw [hnot] at this; cases this)
            subst e3
            refine Ri.op (by rfl) rfl ?_
            go_simp
            rw [HJ.out]
            exact ⟨_, _, _, _, _, _, _, _, _, _, _, _, _, _, _, rfl, { sz := by simp [h.sz], t := h.t, own := fun e => h.own (Ri.wasf e), c3 := fun e => h.c3 (Ri.wasf e), d0 := fun _ => rfl, d1 := fun n e => h.d1 (Ri.wasf n) (Ri.was e (by decide)), d2 := fun e => h.d2 (Ri.was e (by decide)), d3 := fun e => h.d3 (Ri.was e (by decide)), d4 := fun n e => h.d4 (Ri.wasf n) (Ri.was e (by decide)), d5 := fun e => h.d5 (Ri.was e (by decide)), d6 := fun n e => h.d6 (Ri.wasf n) (Ri.was e (by decide)), d7 := fun e => h.d7 (Ri.was e (by decide)), d8 := fun e => h.d8 (Ri.was e (by decide)), d9 := fun n e => h.d9 (Ri.wasf n) (Ri.was e (by decide)), d10 := fun e => h.d10 (Ri.was e (by decide)), d11 := fun e => h.d11 (Ri.was e (by decide)), d12 := fun n e => h.d12 (Ri.wasf n) (Ri.was e (by decide)), d13 := fun e => h.d13 (Ri.was e (by decide)), d14 := fun e => ⟨Ri.keep (h.d14 (Ri.was e (by decide))).1, (h.d14 (Ri.was e (by decide))).2⟩, e5 := fun e => Ri.keep (h.e5 (Ri.was e (by decide))), e10 := fun e => Ri.keep (h.e10 (Ri.was e (by decide))), e11 := fun e => ⟨Ri.keep (h.e11 (Ri.was e (by decide))).1, Ri.keep (h.e11 (Ri.was e (by decide))).2⟩, e12 := fun e => Ri.keep (h.e12 (Ri.was e (by decide))), e13 := fun e => Ri.keep (h.e13 (Ri.was e (by decide))), e14 := fun e => Ri.keep (h.e14 (Ri.was e (by decide))) }⟩
          · -- operation 1
            refine Ri.op (by rfl) rfl ?_
            go_simp
            have hg := World.grownBy_alloc X (.cells #[.int .i64 0, .int .i64 10000, .int .i64 10001] 2) none
            have h2 := h.grown hSw hg (.inl rfl) (h.t.alloc _)
            have hlit : Dk.Lit S [0, 10000, 10001] (X.alloc (.cells #[.int .i64 0, .int .i64 10000, .int .i64 10001] 2)) (.slice (some ⟨X.heap.size, 0, none⟩) 3 3) := by
              refine ⟨X.heap.size, rfl, by simp, by have := h.t.1.lt.2; omega, fun i hi => ?_⟩
              rw [Fk.cellTop _ _ _ _ _ rfl]
              match i, hi with
              | 0, _ => rfl
              | 1, _ => rfl
              | 2, _ => rfl
            rw [HJ.out]
            exact ⟨_, _, _, _, _, _, _, _, _, _, _, _, _, _, _, rfl, { sz := by simp [h2.sz], t := h2.t, own := fun e => h2.own (Ri.wasf e), c3 := fun e => h2.c3 (Ri.wasf e), d0 := fun e => h2.d0 (Ri.was e (by decide)), d1 := fun _ _ => hlit, d2 := fun e => h2.d2 (Ri.was e (by decide)), d3 := fun e => h2.d3 (Ri.was e (by decide)), d4 := fun n e => h2.d4 (Ri.wasf n) (Ri.was e (by decide)), d5 := fun e => h2.d5 (Ri.was e (by decide)), d6 := fun n e => h2.d6 (Ri.wasf n) (Ri.was e (by decide)), d7 := fun e => h2.d7 (Ri.was e (by decide)), d8 := fun e => h2.d8 (Ri.was e (by decide)), d9 := fun n e => h2.d9 (Ri.wasf n) (Ri.was e (by decide)), d10 := fun e => h2.d10 (Ri.was e (by decide)), d11 := fun e => h2.d11 (Ri.was e (by decide)), d12 := fun n e => h2.d12 (Ri.wasf n) (Ri.was e (by decide)), d13 := fun e => h2.d13 (Ri.was e (by decide)), d14 := fun e => ⟨Ri.keep (h2.d14 (Ri.was e (by decide))).1, (h2.d14 (Ri.was e (by decide))).2⟩, e5 := fun e => Ri.keep (h2.e5 (Ri.was e (by decide))), e10 := fun e => Ri.keep (h2.e10 (Ri.was e (by decide))), e11 := fun e => ⟨Ri.keep (h2.e11 (Ri.was e (by decide))).1, Ri.keep (h2.e11 (Ri.was e (by decide))).2⟩, e12 := fun e => Ri.keep (h2.e12 (Ri.was e (by decide))), e13 := fun e => Ri.keep (h2.e13 (Ri.was e (by decide))), e14 := fun e => Ri.keep (h2.e14 (Ri.was e (by decide))) }⟩
          · -- operation 2
            refine Ri.op (by rfl) rfl ?_
            go_simp
            rw [HJ.out]
            exact ⟨_, _, _, _, _, _, _, _, _, _, _, _, _, _, _, rfl, { sz := by simp [h.sz], t := h.t, own := fun e => h.own (Ri.wasf e), c3 := fun e => h.c3 (Ri.wasf e), d0 := fun e => h.d0 (Ri.was e (by decide)), d1 := fun n e => h.d1 (Ri.wasf n) (Ri.was e (by decide)), d2 := fun _ => rfl, d3 := fun e => h.d3 (Ri.was e (by decide)), d4 := fun n e => h.d4 (Ri.wasf n) (Ri.was e (by decide)), d5 := fun e => h.d5 (Ri.was e (by decide)), d6 := fun n e => h.d6 (Ri.wasf n) (Ri.was e (by decide)), d7 := fun e => h.d7 (Ri.was e (by decide)), d8 := fun e => h.d8 (Ri.was e (by decide)), d9 := fun n e => h.d9 (Ri.wasf n) (Ri.was e (by decide)), d10 := fun e => h.d10 (Ri.was e (by decide)), d11 := fun e => h.d11 (Ri.was e (by decide)), d12 := fun n e => h.d12 (Ri.wasf n) (Ri.was e (by decide)), d13 := fun e => h.d13 (Ri.was e (by decide)), d14 := fun e => ⟨Ri.keep (h.d14 (Ri.was e (by decide))).1, (h.d14 (Ri.was e (by decide))).2⟩, e5 := fun e => Ri.keep (h.e5 (Ri.was e (by decide))), e10 := fun e => Ri.keep (h.e10 (Ri.was e (by decide))), e11 := fun e => ⟨Ri.keep (h.e11 (Ri.was e (by decide))).1, Ri.keep (h.e11 (Ri.was e (by decide))).2⟩, e12 := fun e => Ri.keep (h.e12 (Ri.was e (by decide))), e13 := fun e => Ri.keep (h.e13 (Ri.was e (by decide))), e14 := fun e => Ri.keep (h.e14 (Ri.was e (by decide))) }⟩
          · -- operation 3
            have e1 := h.d2 (Ri.dep hi (by rfl) (by rfl))
            subst e1
            refine Ri.op (by rfl) rfl ?_
            go_simp
            refine (drawN_any B S 3 X h.t.1 (by omega)).mono ?_
            rintro e Y ⟨⟨r, rfl, r0, r1, _⟩, s1, g1⟩
            have r2 := r1 (by omega)
            have h2 := h.grown hSw g1 (.inr rfl) (h.t.next s1 g1)
            have er : ((r.toNat : Nat) : Int) = r := by omega
            have hidx : Dk.Idx 3 (.int .i64 r) := ⟨r.toNat, by omega, by rw [er]⟩
            go_simp
            rw [HJ.out]
            exact ⟨_, _, _, _, _, _, _, _, _, _, _, _, _, _, _, rfl, { sz := by simp [h2.sz], t := h2.t, own := fun e => h2.own (Ri.wasf e), c3 := fun e => h2.c3 (Ri.wasf e), d0 := fun e => h2.d0 (Ri.was e (by decide)), d1 := fun n e => h2.d1 (Ri.wasf n) (Ri.was e (by decide)), d2 := fun e => h2.d2 (Ri.was e (by decide)), d3 := fun _ => hidx, d4 := fun n e => h2.d4 (Ri.wasf n) (Ri.was e (by decide)), d5 := fun e => h2.d5 (Ri.was e (by decide)), d6 := fun n e => h2.d6 (Ri.wasf n) (Ri.was e (by decide)), d7 := fun e => h2.d7 (Ri.was e (by decide)), d8 := fun e => h2.d8 (Ri.was e (by decide)), d9 := fun n e => h2.d9 (Ri.wasf n) (Ri.was e (by decide)), d10 := fun e => h2.d10 (Ri.was e (by decide)), d11 := fun e => h2.d11 (Ri.was e (by decide)), d12 := fun n e => h2.d12 (Ri.wasf n) (Ri.was e (by decide)), d13 := fun e => h2.d13 (Ri.was e (by decide)), d14 := fun e => ⟨Ri.keep (h2.d14 (Ri.was e (by decide))).1, (h2.d14 (Ri.was e (by decide))).2⟩, e5 := fun e => Ri.keep (h2.e5 (Ri.was e (by decide))), e10 := fun e => Ri.keep (h2.e10 (Ri.was e (by decide))), e11 := fun e => ⟨Ri.keep (h2.e11 (Ri.was e (by decide))).1, Ri.keep (h2.e11 (Ri.was e (by decide))).2⟩, e12 := fun e => Ri.keep (h2.e12 (Ri.was e (by decide))), e13 := fun e => Ri.keep (h2.e13 (Ri.was e (by decide))), e14 := fun e => Ri.keep (h2.e14 (Ri.was e (by decide))) }⟩
          · -- operation 4
            have n13 : l.getD 13 false = false := by
              cases hx : l.getD 13 false with
              | false => rfl
              | true =>
                have a12 := h.e13 hx
                have a11 := h.e12 a12
                have a5 := (h.e11 a11).1
                have a10 := (h.e11 a11).2
                have a4 := h.e5 a5
                have a9 := h.e10 a10
                rw [hnot] at a4
                cases a4
            obtain ⟨g, e1, g1, g2, g3⟩ := h.d1 n13 (Ri.dep hi (by rfl) (by rfl))
            obtain ⟨j, j1, e2⟩ := h.d3 (Ri.dep hi (by rfl) (by rfl))
            subst e1 e2
            have j2 : j < [0, 10000, 10001].length := j1
            have hc := g3 j j2
            have j3 : (j : Int) < 3 := by omega
            refine Ri.op (by rfl) rfl ?_
            go_simp
            rw [HJ.out]
            exact ⟨_, _, _, _, _, _, _, _, _, _, _, _, _, _, _, rfl, { sz := by simp [h.sz], t := h.t, own := fun e => h.own (Ri.wasf e), c3 := fun e => h.c3 (Ri.wasf e), d0 := fun e => h.d0 (Ri.was e (by decide)), d1 := fun n e => h.d1 (Ri.wasf n) (Ri.was e (by decide)), d2 := fun e => h.d2 (Ri.was e (by decide)), d3 := fun e => h.d3 (Ri.was e (by decide)), d4 := fun _ _ => ⟨g, j, rfl, g1, g2, j2, hc⟩, d5 := fun e => h.d5 (Ri.was e (by decide)), d6 := fun n e => h.d6 (Ri.wasf n) (Ri.was e (by decide)), d7 := fun e => h.d7 (Ri.was e (by decide)), d8 := fun e => h.d8 (Ri.was e (by decide)), d9 := fun n e => h.d9 (Ri.wasf n) (Ri.was e (by decide)), d10 := fun e => h.d10 (Ri.was e (by decide)), d11 := fun e => h.d11 (Ri.was e (by decide)), d12 := fun n e => h.d12 (Ri.wasf n) (Ri.was e (by decide)), d13 := fun e => h.d13 (Ri.was e (by decide)), d14 := fun e => ⟨Ri.keep (h.d14 (Ri.was e (by decide))).1, (h.d14 (Ri.was e (by decide))).2⟩, e5 := fun e => Ri.keep (h.e5 (Ri.was e (by decide))), e10 := fun e => Ri.keep (h.e10 (Ri.was e (by decide))), e11 := fun e => ⟨Ri.keep (h.e11 (Ri.was e (by decide))).1, Ri.keep (h.e11 (Ri.was e (by decide))).2⟩, e12 := fun e => Ri.keep (h.e12 (Ri.was e (by decide))), e13 := fun e => Ri.keep (h.e13 (Ri.was e (by decide))), e14 := fun e => Ri.keep (h.e14 (Ri.was e (by decide))) }⟩
          · -- operation 5
            have n13 : l.getD 13 false = false := by
              cases hx : l.getD 13 false with
              | false => rfl
              | true =>
                have a12 := h.e13 hx
                have a11 := h.e12 a12
                have a5 := (h.e11 a11).1
                have a10 := (h.e11 a11).2
                have a4 := h.e5 a5
                have a9 := h.e10 a10
                rw [hnot] at a5
                cases a5
            obtain ⟨g, j, e1, g1, g2, g3, hc⟩ := h.d4 n13 (Ri.dep hi (by rfl) (by rfl))
            subst e1
            obtain ⟨y, hy⟩ : ∃ y, y = List.getD ([0, 10000, 10001] : List Int) j 0 := ⟨_, rfl⟩
            rw [← hy] at hc
            have HY := Fk.hide hy
            clear hy
            refine Ri.op (by rfl) rfl ?_
            go_simp
            rw [HJ.out]
            exact ⟨_, _, _, _, _, _, _, _, _, _, _, _, _, _, _, rfl, { sz := by simp [h.sz], t := h.t, own := fun e => h.own (Ri.wasf e), c3 := fun e => h.c3 (Ri.wasf e), d0 := fun e => h.d0 (Ri.was e (by decide)), d1 := fun n e => h.d1 (Ri.wasf n) (Ri.was e (by decide)), d2 := fun e => h.d2 (Ri.was e (by decide)), d3 := fun e => h.d3 (Ri.was e (by decide)), d4 := fun n e => h.d4 (Ri.wasf n) (Ri.was e (by decide)), d5 := fun _ => ⟨j, g3, by rw [HY.out]⟩, d6 := fun n e => h.d6 (Ri.wasf n) (Ri.was e (by decide)), d7 := fun e => h.d7 (Ri.was e (by decide)), d8 := fun e => h.d8 (Ri.was e (by decide)), d9 := fun n e => h.d9 (Ri.wasf n) (Ri.was e (by decide)), d10 := fun e => h.d10 (Ri.was e (by decide)), d11 := fun e => h.d11 (Ri.was e (by decide)), d12 := fun n e => h.d12 (Ri.wasf n) (Ri.was e (by decide)), d13 := fun e => h.d13 (Ri.was e (by decide)), d14 := fun e => ⟨Ri.keep (h.d14 (Ri.was e (by decide))).1, (h.d14 (Ri.was e (by decide))).2⟩, e5 := fun _ => Ri.keep (Ri.dep hi (by rfl) (by rfl)), e10 := fun e => Ri.keep (h.e10 (Ri.was e (by decide))), e11 := fun e => ⟨Ri.keep (h.e11 (Ri.was e (by decide))).1, Ri.keep (h.e11 (Ri.was e (by decide))).2⟩, e12 := fun e => Ri.keep (h.e12 (Ri.was e (by decide))), e13 := fun e => Ri.keep (h.e13 (Ri.was e (by decide))), e14 := fun e => Ri.keep (h.e14 (Ri.was e (by decide))) }⟩
          · -- operation 6
            refine Ri.op (by rfl) rfl ?_
            go_simp
            have hg := World.grownBy_alloc X (.cells #[.int .i64 0, .int .i64 1, .int .i64 1000, .int .i64 1001] 2) none
            have h2 := h.grown hSw hg (.inl rfl) (h.t.alloc _)
            have hlit : Dk.Lit S [0, 1, 1000, 1001] (X.alloc (.cells #[.int .i64 0, .int .i64 1, .int .i64 1000, .int .i64 1001] 2)) (.slice (some ⟨X.heap.size, 0, none⟩) 4 4) := by
              refine ⟨X.heap.size, rfl, by simp, by have := h.t.1.lt.2; omega, fun i hi => ?_⟩
              rw [Fk.cellTop _ _ _ _ _ rfl]
              match i, hi with
              | 0, _ => rfl
              | 1, _ => rfl
              | 2, _ => rfl
              | 3, _ => rfl
            rw [HJ.out]
            exact ⟨_, _, _, _, _, _, _, _, _, _, _, _, _, _, _, rfl, { sz := by simp [h2.sz], t := h2.t, own := fun e => h2.own (Ri.wasf e), c3 := fun e => h2.c3 (Ri.wasf e), d0 := fun e => h2.d0 (Ri.was e (by decide)), d1 := fun n e => h2.d1 (Ri.wasf n) (Ri.was e (by decide)), d2 := fun e => h2.d2 (Ri.was e (by decide)), d3 := fun e => h2.d3 (Ri.was e (by decide)), d4 := fun n e => h2.d4 (Ri.wasf n) (Ri.was e (by decide)), d5 := fun e => h2.d5 (Ri.was e (by decide)), d6 := fun _ _ => hlit, d7 := fun e => h2.d7 (Ri.was e (by decide)), d8 := fun e => h2.d8 (Ri.was e (by decide)), d9 := fun n e => h2.d9 (Ri.wasf n) (Ri.was e (by decide)), d10 := fun e => h2.d10 (Ri.was e (by decide)), d11 := fun e => h2.d11 (Ri.was e (by decide)), d12 := fun n e => h2.d12 (Ri.wasf n) (Ri.was e (by decide)), d13 := fun e => h2.d13 (Ri.was e (by decide)), d14 := fun e => ⟨Ri.keep (h2.d14 (Ri.was e (by decide))).1, (h2.d14 (Ri.was e (by decide))).2⟩, e5 := fun e => Ri.keep (h2.e5 (Ri.was e (by decide))), e10 := fun e => Ri.keep (h2.e10 (Ri.was e (by decide))), e11 := fun e => ⟨Ri.keep (h2.e11 (Ri.was e (by decide))).1, Ri.keep (h2.e11 (Ri.was e (by decide))).2⟩, e12 := fun e => Ri.keep (h2.e12 (Ri.was e (by decide))), e13 := fun e => Ri.keep (h2.e13 (Ri.was e (by decide))), e14 := fun e => Ri.keep (h2.e14 (Ri.was e (by decide))) }⟩
          · -- operation 7
            refine Ri.op (by rfl) rfl ?_
            go_simp
            rw [HJ.out]
            exact ⟨_, _, _, _, _, _, _, _, _, _, _, _, _, _, _, rfl, { sz := by simp [h.sz], t := h.t, own := fun e => h.own (Ri.wasf e), c3 := fun e => h.c3 (Ri.wasf e), d0 := fun e => h.d0 (Ri.was e (by decide)), d1 := fun n e => h.d1 (Ri.wasf n) (Ri.was e (by decide)), d2 := fun e => h.d2 (Ri.was e (by decide)), d3 := fun e => h.d3 (Ri.was e (by decide)), d4 := fun n e => h.d4 (Ri.wasf n) (Ri.was e (by decide)), d5 := fun e => h.d5 (Ri.was e (by decide)), d6 := fun n e => h.d6 (Ri.wasf n) (Ri.was e (by decide)), d7 := fun _ => rfl, d8 := fun e => h.d8 (Ri.was e (by decide)), d9 := fun n e => h.d9 (Ri.wasf n) (Ri.was e (by decide)), d10 := fun e => h.d10 (Ri.was e (by decide)), d11 := fun e => h.d11 (Ri.was e (by decide)), d12 := fun n e => h.d12 (Ri.wasf n) (Ri.was e (by decide)), d13 := fun e => h.d13 (Ri.was e (by decide)), d14 := fun e => ⟨Ri.keep (h.d14 (Ri.was e (by decide))).1, (h.d14 (Ri.was e (by decide))).2⟩, e5 := fun e => Ri.keep (h.e5 (Ri.was e (by decide))), e10 := fun e => Ri.keep (h.e10 (Ri.was e (by decide))), e11 := fun e => ⟨Ri.keep (h.e11 (Ri.was e (by decide))).1, Ri.keep (h.e11 (Ri.was e (by decide))).2⟩, e12 := fun e => Ri.keep (h.e12 (Ri.was e (by decide))), e13 := fun e => Ri.keep (h.e13 (Ri.was e (by decide))), e14 := fun e => Ri.keep (h.e14 (Ri.was e (by decide))) }⟩
          · -- operation 8
            have e1 := h.d7 (Ri.dep hi (by rfl) (by rfl))
            subst e1
            refine Ri.op (by rfl) rfl ?_
            go_simp
            refine (drawN_any B S 4 X h.t.1 (by omega)).mono ?_
            rintro e Y ⟨⟨r, rfl, r0, r1, _⟩, s1, g1⟩
            have r2 := r1 (by omega)
            have h2 := h.grown hSw g1 (.inr rfl) (h.t.next s1 g1)
            have er : ((r.toNat : Nat) : Int) = r := by omega
            have hidx : Dk.Idx 4 (.int .i64 r) := ⟨r.toNat, by omega, by rw [er]⟩
            go_simp
            rw [HJ.out]
            exact ⟨_, _, _, _, _, _, _, _, _, _, _, _, _, _, _, rfl, { sz := by simp [h2.sz], t := h2.t, own := fun e => h2.own (Ri.wasf e), c3 := fun e => h2.c3 (Ri.wasf e), d0 := fun e => h2.d0 (Ri.was e (by decide)), d1 := fun n e => h2.d1 (Ri.wasf n) (Ri.was e (by decide)), d2 := fun e => h2.d2 (Ri.was e (by decide)), d3 := fun e => h2.d3 (Ri.was e (by decide)), d4 := fun n e => h2.d4 (Ri.wasf n) (Ri.was e (by decide)), d5 := fun e => h2.d5 (Ri.was e (by decide)), d6 := fun n e => h2.d6 (Ri.wasf n) (Ri.was e (by decide)), d7 := fun e => h2.d7 (Ri.was e (by decide)), d8 := fun _ => hidx, d9 := fun n e => h2.d9 (Ri.wasf n) (Ri.was e (by decide)), d10 := fun e => h2.d10 (Ri.was e (by decide)), d11 := fun e => h2.d11 (Ri.was e (by decide)), d12 := fun n e => h2.d12 (Ri.wasf n) (Ri.was e (by decide)), d13 := fun e => h2.d13 (Ri.was e (by decide)), d14 := fun e => ⟨Ri.keep (h2.d14 (Ri.was e (by decide))).1, (h2.d14 (Ri.was e (by decide))).2⟩, e5 := fun e => Ri.keep (h2.e5 (Ri.was e (by decide))), e10 := fun e => Ri.keep (h2.e10 (Ri.was e (by decide))), e11 := fun e => ⟨Ri.keep (h2.e11 (Ri.was e (by decide))).1, Ri.keep (h2.e11 (Ri.was e (by decide))).2⟩, e12 := fun e => Ri.keep (h2.e12 (Ri.was e (by decide))), e13 := fun e => Ri.keep (h2.e13 (Ri.was e (by decide))), e14 := fun e => Ri.keep (h2.e14 (Ri.was e (by decide))) }⟩
          · -- operation 9
            have n13 : l.getD 13 false = false := by
              cases hx : l.getD 13 false with
              | false => rfl
              | true =>
                have a12 := h.e13 hx
                have a11 := h.e12 a12
                have a5 := (h.e11 a11).1
                have a10 := (h.e11 a11).2
                have a4 := h.e5 a5
                have a9 := h.e10 a10
                rw [hnot] at a9
                cases a9
            obtain ⟨g, e1, g1, g2, g3⟩ := h.d6 n13 (Ri.dep hi (by rfl) (by rfl))
            obtain ⟨j, j1, e2⟩ := h.d8 (Ri.dep hi (by rfl) (by rfl))
            subst e1 e2
            have j2 : j < [0, 1, 1000, 1001].length := j1
            have hc := g3 j j2
            have j3 : (j : Int) < 4 := by omega
            refine Ri.op (by rfl) rfl ?_
            go_simp
            rw [HJ.out]
            exact ⟨_, _, _, _, _, _, _, _, _, _, _, _, _, _, _, rfl, { sz := by simp [h.sz], t := h.t, own := fun e => h.own (Ri.wasf e), c3 := fun e => h.c3 (Ri.wasf e), d0 := fun e => h.d0 (Ri.was e (by decide)), d1 := fun n e => h.d1 (Ri.wasf n) (Ri.was e (by decide)), d2 := fun e => h.d2 (Ri.was e (by decide)), d3 := fun e => h.d3 (Ri.was e (by decide)), d4 := fun n e => h.d4 (Ri.wasf n) (Ri.was e (by decide)), d5 := fun e => h.d5 (Ri.was e (by decide)), d6 := fun n e => h.d6 (Ri.wasf n) (Ri.was e (by decide)), d7 := fun e => h.d7 (Ri.was e (by decide)), d8 := fun e => h.d8 (Ri.was e (by decide)), d9 := fun _ _ => ⟨g, j, rfl, g1, g2, j2, hc⟩, d10 := fun e => h.d10 (Ri.was e (by decide)), d11 := fun e => h.d11 (Ri.was e (by decide)), d12 := fun n e => h.d12 (Ri.wasf n) (Ri.was e (by decide)), d13 := fun e => h.d13 (Ri.was e (by decide)), d14 := fun e => ⟨Ri.keep (h.d14 (Ri.was e (by decide))).1, (h.d14 (Ri.was e (by decide))).2⟩, e5 := fun e => Ri.keep (h.e5 (Ri.was e (by decide))), e10 := fun e => Ri.keep (h.e10 (Ri.was e (by decide))), e11 := fun e => ⟨Ri.keep (h.e11 (Ri.was e (by decide))).1, Ri.keep (h.e11 (Ri.was e (by decide))).2⟩, e12 := fun e => Ri.keep (h.e12 (Ri.was e (by decide))), e13 := fun e => Ri.keep (h.e13 (Ri.was e (by decide))), e14 := fun e => Ri.keep (h.e14 (Ri.was e (by decide))) }⟩
          · -- operation 10
            have n13 : l.getD 13 false = false := by
              cases hx : l.getD 13 false with
              | false => rfl
              | true =>
                have a12 := h.e13 hx
                have a11 := h.e12 a12
                have a5 := (h.e11 a11).1
                have a10 := (h.e11 a11).2
                have a4 := h.e5 a5
                have a9 := h.e10 a10
                rw [hnot] at a10
                cases a10
            obtain ⟨g, j, e1, g1, g2, g3, hc⟩ := h.d9 n13 (Ri.dep hi (by rfl) (by rfl))
            subst e1
            obtain ⟨y, hy⟩ : ∃ y, y = List.getD ([0, 1, 1000, 1001] : List Int) j 0 := ⟨_, rfl⟩
            rw [← hy] at hc
            have HY := Fk.hide hy
            clear hy
            refine Ri.op (by rfl) rfl ?_
            go_simp
            rw [HJ.out]
            exact ⟨_, _, _, _, _, _, _, _, _, _, _, _, _, _, _, rfl, { sz := by simp [h.sz], t := h.t, own := fun e => h.own (Ri.wasf e), c3 := fun e => h.c3 (Ri.wasf e), d0 := fun e => h.d0 (Ri.was e (by decide)), d1 := fun n e => h.d1 (Ri.wasf n) (Ri.was e (by decide)), d2 := fun e => h.d2 (Ri.was e (by decide)), d3 := fun e => h.d3 (Ri.was e (by decide)), d4 := fun n e => h.d4 (Ri.wasf n) (Ri.was e (by decide)), d5 := fun e => h.d5 (Ri.was e (by decide)), d6 := fun n e => h.d6 (Ri.wasf n) (Ri.was e (by decide)), d7 := fun e => h.d7 (Ri.was e (by decide)), d8 := fun e => h.d8 (Ri.was e (by decide)), d9 := fun n e => h.d9 (Ri.wasf n) (Ri.was e (by decide)), d10 := fun _ => ⟨j, g3, by rw [HY.out]⟩, d11 := fun e => h.d11 (Ri.was e (by decide)), d12 := fun n e => h.d12 (Ri.wasf n) (Ri.was e (by decide)), d13 := fun e => h.d13 (Ri.was e (by decide)), d14 := fun e => ⟨Ri.keep (h.d14 (Ri.was e (by decide))).1, (h.d14 (Ri.was e (by decide))).2⟩, e5 := fun e => Ri.keep (h.e5 (Ri.was e (by decide))), e10 := fun _ => Ri.keep (Ri.dep hi (by rfl) (by rfl)), e11 := fun e => ⟨Ri.keep (h.e11 (Ri.was e (by decide))).1, Ri.keep (h.e11 (Ri.was e (by decide))).2⟩, e12 := fun e => Ri.keep (h.e12 (Ri.was e (by decide))), e13 := fun e => Ri.keep (h.e13 (Ri.was e (by decide))), e14 := fun e => Ri.keep (h.e14 (Ri.was e (by decide))) }⟩
          · -- operation 11
            obtain ⟨j1, _, e1⟩ := h.d5 (Ri.dep hi (by rfl) (by rfl))
            obtain ⟨j2, _, e2⟩ := h.d10 (Ri.dep hi (by rfl) (by rfl))
            obtain ⟨y1, hy1⟩ : ∃ y, y = List.getD ([0, 10000, 10001] : List Int) j1 0 := ⟨_, rfl⟩
            obtain ⟨y2, hy2⟩ : ∃ y, y = List.getD ([0, 1, 1000, 1001] : List Int) j2 0 := ⟨_, rfl⟩
            rw [← hy1] at e1
            rw [← hy2] at e2
            clear hy1 hy2
            subst e1 e2
            refine Ri.op (by rfl) rfl ?_
            go_simp
            rw [HJ.out]
            exact ⟨_, _, _, _, _, _, _, _, _, _, _, _, _, _, _, rfl, { sz := by simp [h.sz], t := h.t, own := fun e => h.own (Ri.wasf e), c3 := fun e => h.c3 (Ri.wasf e), d0 := fun e => h.d0 (Ri.was e (by decide)), d1 := fun n e => h.d1 (Ri.wasf n) (Ri.was e (by decide)), d2 := fun e => h.d2 (Ri.was e (by decide)), d3 := fun e => h.d3 (Ri.was e (by decide)), d4 := fun n e => h.d4 (Ri.wasf n) (Ri.was e (by decide)), d5 := fun e => h.d5 (Ri.was e (by decide)), d6 := fun n e => h.d6 (Ri.wasf n) (Ri.was e (by decide)), d7 := fun e => h.d7 (Ri.was e (by decide)), d8 := fun e => h.d8 (Ri.was e (by decide)), d9 := fun n e => h.d9 (Ri.wasf n) (Ri.was e (by decide)), d10 := fun e => h.d10 (Ri.was e (by decide)), d11 := fun _ => ⟨y1, y2, rfl⟩, d12 := fun n e => h.d12 (Ri.wasf n) (Ri.was e (by decide)), d13 := fun e => h.d13 (Ri.was e (by decide)), d14 := fun e => ⟨Ri.keep (h.d14 (Ri.was e (by decide))).1, (h.d14 (Ri.was e (by decide))).2⟩, e5 := fun e => Ri.keep (h.e5 (Ri.was e (by decide))), e10 := fun e => Ri.keep (h.e10 (Ri.was e (by decide))), e11 := fun _ => ⟨Ri.keep (Ri.dep hi (by rfl) (by rfl)), Ri.keep (Ri.dep hi (by rfl) (by rfl))⟩, e12 := fun e => Ri.keep (h.e12 (Ri.was e (by decide))), e13 := fun e => Ri.keep (h.e13 (Ri.was e (by decide))), e14 := fun e => Ri.keep (h.e14 (Ri.was e (by decide))) }⟩
          · -- operation 12
            obtain ⟨p1, q1, e1⟩ := h.d11 (Ri.dep hi (by rfl) (by rfl))
            subst e1
            refine Ri.op (by rfl) rfl ?_
            go_simp
            have hg := World.grownBy_alloc X (.cells #[.int .i64 p1, .int .i64 q1] 37) none
            have h2 := h.grown hSw hg (.inl rfl) (h.t.alloc _)
            have hvw := Rk.view_lit1 (S := Td.S) X 37 #[.int .i64 p1, .int .i64 q1] (p1, q1) rfl
            rw [HJ.out]
            exact ⟨_, _, _, _, _, _, _, _, _, _, _, _, _, _, _, rfl, { sz := by simp [h2.sz], t := h2.t, own := fun e => h2.own (Ri.wasf e), c3 := fun e => h2.c3 (Ri.wasf e), d0 := fun e => h2.d0 (Ri.was e (by decide)), d1 := fun n e => h2.d1 (Ri.wasf n) (Ri.was e (by decide)), d2 := fun e => h2.d2 (Ri.was e (by decide)), d3 := fun e => h2.d3 (Ri.was e (by decide)), d4 := fun n e => h2.d4 (Ri.wasf n) (Ri.was e (by decide)), d5 := fun e => h2.d5 (Ri.was e (by decide)), d6 := fun n e => h2.d6 (Ri.wasf n) (Ri.was e (by decide)), d7 := fun e => h2.d7 (Ri.was e (by decide)), d8 := fun e => h2.d8 (Ri.was e (by decide)), d9 := fun n e => h2.d9 (Ri.wasf n) (Ri.was e (by decide)), d10 := fun e => h2.d10 (Ri.was e (by decide)), d11 := fun e => h2.d11 (Ri.was e (by decide)), d12 := fun _ _ => ⟨X.heap.size, p1, q1, rfl, by have := h.t.1.lt.2; omega, hvw⟩, d13 := fun e => h2.d13 (Ri.was e (by decide)), d14 := fun e => ⟨Ri.keep (h2.d14 (Ri.was e (by decide))).1, (h2.d14 (Ri.was e (by decide))).2⟩, e5 := fun e => Ri.keep (h2.e5 (Ri.was e (by decide))), e10 := fun e => Ri.keep (h2.e10 (Ri.was e (by decide))), e11 := fun e => ⟨Ri.keep (h2.e11 (Ri.was e (by decide))).1, Ri.keep (h2.e11 (Ri.was e (by decide))).2⟩, e12 := fun _ => Ri.keep (Ri.dep hi (by rfl) (by rfl)), e13 := fun e => Ri.keep (h2.e13 (Ri.was e (by decide))), e14 := fun e => Ri.keep (h2.e14 (Ri.was e (by decide))) }⟩
          · -- operation 13
            have n13 := hnot
            have hno14 : l.getD 14 false = false := by
              cases hx : l.getD 14 false with
              | false => rfl
              | true => have a := h.e14 hx; rw [hnot] at a; cases a
            have e1 := h.d0 (Ri.dep hi (by rfl) (by rfl))
            obtain ⟨g, p1, q1, e2, g2, hvw⟩ := h.d12 n13 (Ri.dep hi (by rfl) (by rfl))
            subst e1
            have hown := h.own hnot
            have hwX := h.t.2.size
            refine Ri.op (by rfl) rfl ?_
            refine Rk.wp_append_view (S := Td.S) X (.tmp 24) (.tmp 36) 23 rfl w.heap.size 37 i0 _ 2 16 rfl Try.underlying23 hi0 hz0 hz1 hz2 rfl (by decide) (.slice ua L.length uc) x36 L [(p1, q1)] rfl rfl hown hvw (by rw [e2]; exact Rk.shut_some _ _ _) (by have := HLL.out; simp; omega) hwX ?_
            intro u6 w6 o6 g6
            have ht6 : Dk.T B S w w6 := h.t.far g6 (fun j hj => by have h9 := (hown.lt j hj).1; exact ⟨h9, by omega, by omega⟩)
            have h2 : Dt.C B S w (.slice ua L.length uc) L (l.setIfInBounds 13 true) w6 x3 (.slice ua L.length uc) x25 x26 x27 x28 x29 x30 x31 x32 x33 x34 x35 x36 u6 := {
              sz := by simp [h.sz], t := ht6, own := fun e => absurd e (by simp [Array.getD, h.sz]), c3 := fun e => h.c3 (Ri.wasf e)
              d0 := fun e => h.d0 (Ri.was e (by decide))
              d1 := fun n _ => absurd n (by simp [Array.getD, h.sz])
              d2 := fun e => h.d2 (Ri.was e (by decide))
              d3 := fun e => h.d3 (Ri.was e (by decide))
              d4 := fun n _ => absurd n (by simp [Array.getD, h.sz])
              d5 := fun e => h.d5 (Ri.was e (by decide))
              d6 := fun n _ => absurd n (by simp [Array.getD, h.sz])
              d7 := fun e => h.d7 (Ri.was e (by decide))
              d8 := fun e => h.d8 (Ri.was e (by decide))
              d9 := fun n _ => absurd n (by simp [Array.getD, h.sz])
              d10 := fun e => h.d10 (Ri.was e (by decide))
              d11 := fun e => h.d11 (Ri.was e (by decide))
              d12 := fun n _ => absurd n (by simp [Array.getD, h.sz])
              d13 := fun _ => ⟨(p1, q1), o6⟩
              d14 := fun e => by have h0 := Ri.was e (by decide); rw [hno14] at h0; cases h0
              e5 := fun e => Ri.keep (h.e5 (Ri.was e (by decide)))
              e10 := fun e => Ri.keep (h.e10 (Ri.was e (by decide)))
              e11 := fun e => ⟨Ri.keep (h.e11 (Ri.was e (by decide))).1, Ri.keep (h.e11 (Ri.was e (by decide))).2⟩
              e12 := fun e => Ri.keep (h.e12 (Ri.was e (by decide)))
              e13 := fun _ => Ri.keep (Ri.dep hi (by rfl) (by rfl))
              e14 := fun e => Ri.keep (h.e14 (Ri.was e (by decide)))
            }
            rw [HJ.out]
            exact ⟨_, _, _, _, _, _, _, _, _, _, _, _, _, _, _, rfl, h2⟩
          · -- operation 14
            have e1 : l.getD 13 false = true := Ri.dep hi (by rfl) (by rfl)
            have e0 : l.getD 0 false = true := Ri.dep hi (by rfl) (by rfl)
            refine Ri.op (by rfl) rfl ?_
            go_simp
            rw [HJ.out]
            exact ⟨_, _, _, _, _, _, _, _, _, _, _, _, _, _, _, rfl, { sz := by simp [h.sz], t := h.t, own := fun e => h.own (Ri.wasf e), c3 := fun e => absurd e (by simp [Array.getD, h.sz]), d0 := fun e => h.d0 (Ri.was e (by decide)), d1 := fun n e => h.d1 (Ri.wasf n) (Ri.was e (by decide)), d2 := fun e => h.d2 (Ri.was e (by decide)), d3 := fun e => h.d3 (Ri.was e (by decide)), d4 := fun n e => h.d4 (Ri.wasf n) (Ri.was e (by decide)), d5 := fun e => h.d5 (Ri.was e (by decide)), d6 := fun n e => h.d6 (Ri.wasf n) (Ri.was e (by decide)), d7 := fun e => h.d7 (Ri.was e (by decide)), d8 := fun e => h.d8 (Ri.was e (by decide)), d9 := fun n e => h.d9 (Ri.wasf n) (Ri.was e (by decide)), d10 := fun e => h.d10 (Ri.was e (by decide)), d11 := fun e => h.d11 (Ri.was e (by decide)), d12 := fun n e => h.d12 (Ri.wasf n) (Ri.was e (by decide)), d13 := fun e => h.d13 (Ri.was e (by decide)), d14 := fun _ => ⟨Ri.keep e0, rfl⟩, e5 := fun e => Ri.keep (h.e5 (Ri.was e (by decide))), e10 := fun e => Ri.keep (h.e10 (Ri.was e (by decide))), e11 := fun e => ⟨Ri.keep (h.e11 (Ri.was e (by decide))).1, Ri.keep (h.e11 (Ri.was e (by decide))).2⟩, e12 := fun e => Ri.keep (h.e12 (Ri.was e (by decide))), e13 := fun e => Ri.keep (h.e13 (Ri.was e (by decide))), e14 := fun _ => Ri.keep (Ri.dep hi (by rfl) (by rfl)) }⟩
end Go.Proofs.Ytficlppngnnpoaa

/- The walk of the specification's drawn list of events. -/
import Derived.Test.YtficlppngnnpoaaDrawEvents
namespace Go.Proofs.Ytficlppngnnpoaa
open Go.RowKit
set_option linter.unusedVariables false
set_option linter.unusedSimpArgs false
theorem Vt.info : (Try.prog.info? 68).map (fun i => (i.zero, i.size, i.bytes)) = some (some (.agg #[.int .i64 0, .int .i64 0, .int .i64 0, .int .i64 0, .int .i64 0]), 5, 40) := by kernel_rfl
set_option maxRecDepth 100000 in
set_option maxHeartbeats 8000000 in
theorem drawEvents_any (B S : Nat) (w : World) (hs : Dk.Src B w S) :
    Calls Try.prog 46 #[.pointer (some ⟨S, 0, none⟩)] w fun e w' => (∃ (u : Value) (L : List Vt.E), e = .returned u ∧ Rk.Own Vt.S w' w.heap.size 68 u L ∧ L.length ≤ 4) ∧ Dk.Src B w' S ∧ w.grownBy w' (some S) := by
  obtain ⟨hBS, hSw⟩ := hs.lt
  obtain ⟨i0, hi, hz0, hz1, hz2⟩ := info_parts Vt.info
  have T0 : Hid (Dk.T B S w (w.alloc (.cells #[] 68))) := Dk.T.alloc ⟨hs, World.grownBy.refl _ _⟩ _
  have HN0 : Hid (Rk.Own Vt.S (w.alloc (.cells #[] 68)) w.heap.size 68 (.slice (some ⟨w.heap.size, 0, none⟩) 0 0) []) := Rk.own_empty w 68 w.heap.size (Nat.le_refl _)
  clear hs
  go_enter Try.func46, Try.ntmps46
  go_wp2_with fail
  refine (drawN_any B S 5 _ T0.out.1 (by omega)).mono ?_
  rintro e w1 ⟨⟨ra, rfl, ra0, ra1, _⟩, h1, h2⟩
  have ral := ra1 (by omega)
  clear ra1
  have T1 : Hid (Dk.T B S w w1) := T0.out.next h1 h2
  have HN1 : Hid (Rk.Own Vt.S w1 w.heap.size 68 (.slice (some ⟨w.heap.size, 0, none⟩) 0 0) []) := HN0.out.kept h2 (fun k hk e => by have h9 := (HN0.out.lt k hk).1; have := Option.some.inj e; omega)
  clear h1 h2
  go_wp2_with fail
  go_loopw [3, 4] (fun out i wr => ∃ (c : Int) (L : List Vt.E) (ua : Option Addr) (uc : Nat), out = .slice ua L.length uc ∧ i = .int .i64 c ∧ 0 ≤ c ∧ (L.length : Int) + c ≤ 4 ∧ Hid (Rk.Own Vt.S wr w.heap.size 68 (.slice ua L.length uc) L) ∧ Hid (Dk.T B S w wr)) (fun _ i _ => (intOf i).toNat)
  case atStart => exact ⟨ra, [], _, _, rfl, rfl, ra0, by simp; omega, HN1.out, T1.out⟩
  case round =>
    obtain ⟨c, L, ua, uc, rfl, rfl, hc0, hc1, HO, TR⟩ := hrel
    clear T0 T1 HN0 HN1
    by_cases hlt : 0 < c
    · go_wp2_with fail
      refine (drawEvent_any B S wr TR.out.1).mono ?_
      rintro e w2 ⟨⟨f, rfl⟩, h1, h2⟩
      have T2 : Hid (Dk.T B S w w2) := TR.out.next h1 h2
      have HO2 : Hid (Rk.Own Vt.S w2 w.heap.size 68 (.slice ua L.length uc) L) := HO.out.kept h2 (fun k hk e => by have h9 := (HO.out.lt k hk).1; have := Option.some.inj e; omega)
      clear h1 h2 HO TR
      obtain ⟨f0, f1, f2, f3, f4⟩ := f
      obtain ⟨W3, hW3⟩ : ∃ W, W = w2.alloc (.cells #[.int .i64 f0, .int .i64 f1, .int .i64 f2, .int .i64 f3, .int .i64 f4] 68) := ⟨_, rfl⟩
      have T3 : Hid (Dk.T B S w W3) := by show Dk.T _ _ _ _; rw [hW3]; exact T2.out.alloc _
      have b3 : Below w2.heap.size w2 W3 := by rw [hW3]; exact (Below.refl _ _).alloc (Nat.le_refl _) _
      have HO3 := Fk.hide (HO2.out.below b3)
      have BX : Hid (Dk.Ev W3 w2.heap.size (f0, f1, f2, f3, f4)) := by
        refine ⟨?_, ?_, ?_, ?_, ?_, fun j => ?_⟩
        · rw [hW3, Fk.cellTop _ _ _ _ _ rfl]; rfl
        · rw [hW3, Fk.cellTop _ _ _ _ _ rfl]; rfl
        · rw [hW3, Fk.cellTop _ _ _ _ _ rfl]; rfl
        · rw [hW3, Fk.cellTop _ _ _ _ _ rfl]; rfl
        · rw [hW3, Fk.cellTop _ _ _ _ _ rfl]; rfl
        · rw [hW3, Fk.frozTop _ _ _ _ _ rfl]
      have hq3 : w2.heap.size < W3.heap.size := by rw [hW3]; simp
      have HW3 := Fk.hide hW3
      have HWS : Hid (w.heap.size ≤ w2.heap.size) := T2.out.2.size
      clear hW3 b3
      obtain ⟨r, hr⟩ : ∃ r, r = Ev.right ⟨f0, f1, f2, f3, f4⟩ := ⟨_, rfl⟩
      have hev : Calls Try.prog 53 #[.agg #[.int .i64 f0, .int .i64 f1, .int .i64 f2, .int .i64 f3, .int .i64 f4]] W3 fun e w'' => e = .returned (.bool r) ∧ Below W3.heap.size W3 w'' := by rw [hr]; exact eventRight_spec ⟨f0, f1, f2, f3, f4⟩ W3
      clear hr
      go_wp2_with fail
      rw [← HW3.out]
      refine hev.mono ?_
      rintro e W4 ⟨rfl, k4⟩
      have T4 : Hid (Dk.T B S w W4) := T3.out.far (Fk.grownBy_below none k4) (fun j e => by cases e)
      have B4 : Hid (Dk.Ev W4 w2.heap.size (f0, f1, f2, f3, f4)) := BX.out.grown hq3 (Fk.grownBy_below none k4) (by simp)
      have HO4 := Fk.hide (HO3.out.below k4)
      have hq4 : w2.heap.size < W4.heap.size := Nat.lt_of_lt_of_le hq3 k4.size
      have hS2 : S ≠ w2.heap.size := by have := T2.out.1.lt.2; omega
      clear k4 hev T3 BX HO3 hq3 HO2 T2
      have KK : Hid True := trivial
      cases r with
      | true =>
        obtain ⟨p0, p1, p2, p3, p4, pf⟩ := B4.out
        have T5 : Hid (Dk.T B S w (W4.alloc (.cells #[.int .i64 f0, .int .i64 f1, .int .i64 f2, .int .i64 f3, .int .i64 f4] 68))) := T4.out.alloc _
        have HO5 := Fk.hide (HO4.out.below ((Below.refl W4.heap.size W4).alloc (Nat.le_refl _) (.cells #[.int .i64 f0, .int .i64 f1, .int .i64 f2, .int .i64 f3, .int .i64 f4] 68)))
        have HV5 := Fk.hide (Rk.view_lit1 (S := Vt.S) W4 68 #[.int .i64 f0, .int .i64 f1, .int .i64 f2, .int .i64 f3, .int .i64 f4] (f0, f1, f2, f3, f4) rfl)
        have hll : L.length ≤ 3 := by omega
        go_wp2_with (at_builtin; refine Rk.wpList_append_view _ rfl _ _ 28 rfl w.heap.size 68 i0 _ 5 40 rfl Try.underlying28 hi hz0 hz1 hz2 rfl (by decide) (.slice ua L.length uc) (.slice (some ⟨W4.heap.size, 0, none⟩) 1 1) L [(f0, f1, f2, f3, f4)] rfl rfl HO5.out HV5.out (Rk.shut_some _ _ _) (by simp <;> omega) (Nat.le_trans HWS.out (by have := hq4; simp; omega)) ?_; intro u6 w6 o6 g6; have T6 : Hid (Dk.T B S w w6) := T5.out.far g6 (fun j hj => by have h9 := (HO5.out.lt j hj).1; exact ⟨h9, by omega, by omega⟩); obtain ⟨x6, c6, rfl⟩ := o6.slice; have HO6 := Fk.hide o6; clear o6 g6)
        go_roundw
        case rel =>
          refine ⟨c - 1, L ++ [(f0, f1, f2, f3, f4)], x6, c6, by rw [List.length_append]; rfl, by go_num, by omega, by simp; omega, HO6.out, T6.out⟩
        case measure => simp [intOf]; omega
      | false =>
        obtain ⟨p0, p1, p2, p3, p4, pf⟩ := B4.out
        go_wp2_with fail
        refine (drawOne_any B S 3 W4 T4.out.1 (by omega)).mono ?_
        rintro e W7 ⟨⟨rt, rfl⟩, h1, h2⟩
        have T7 : Hid (Dk.T B S w W7) := T4.out.next h1 h2
        have B7 : Hid (Dk.Ev W7 w2.heap.size (f0, f1, f2, f3, f4)) := B4.out.grown hq4 h2 (fun e => hS2 (Option.some.inj e).symm)
        have HO7 : Hid (Rk.Own Vt.S W7 w.heap.size 68 (.slice ua L.length uc) L) := HO4.out.kept h2 (fun k hk e => by have h9 := (HO4.out.lt k hk).1; have := Option.some.inj e; omega)
        have hq7 : w2.heap.size < W7.heap.size := Nat.lt_of_lt_of_le hq4 h2.size
        clear h1 h2 T4 B4 HO4 hq4 p0 p1 p2 p3 p4 pf
        cases rt with
        | true =>
          obtain ⟨p0, p1, p2, p3, p4, pf⟩ := B7.out
          have T5 : Hid (Dk.T B S w (W7.alloc (.cells #[.int .i64 f0, .int .i64 f1, .int .i64 f2, .int .i64 f3, .int .i64 f4] 68))) := T7.out.alloc _
          have HO5 := Fk.hide (HO7.out.below ((Below.refl W7.heap.size W7).alloc (Nat.le_refl _) (.cells #[.int .i64 f0, .int .i64 f1, .int .i64 f2, .int .i64 f3, .int .i64 f4] 68)))
          have HV5 := Fk.hide (Rk.view_lit1 (S := Vt.S) W7 68 #[.int .i64 f0, .int .i64 f1, .int .i64 f2, .int .i64 f3, .int .i64 f4] (f0, f1, f2, f3, f4) rfl)
          have hll : L.length ≤ 3 := by omega
          go_wp2_with (at_builtin; refine Rk.wpList_append_view _ rfl _ _ 28 rfl w.heap.size 68 i0 _ 5 40 rfl Try.underlying28 hi hz0 hz1 hz2 rfl (by decide) (.slice ua L.length uc) (.slice (some ⟨W7.heap.size, 0, none⟩) 1 1) L [(f0, f1, f2, f3, f4)] rfl rfl HO5.out HV5.out (Rk.shut_some _ _ _) (by simp <;> omega) (Nat.le_trans HWS.out (by have := hq7; simp; omega)) ?_; intro u6 w6 o6 g6; have T6 : Hid (Dk.T B S w w6) := T5.out.far g6 (fun j hj => by have h9 := (HO5.out.lt j hj).1; exact ⟨h9, by omega, by omega⟩); obtain ⟨x6, c6, rfl⟩ := o6.slice; have HO6 := Fk.hide o6; clear o6 g6)
          go_roundw
          case rel =>
            refine ⟨c - 1, L ++ [(f0, f1, f2, f3, f4)], x6, c6, by rw [List.length_append]; rfl, by go_num, by omega, by simp; omega, HO6.out, T6.out⟩
          case measure => simp [intOf]; omega
        | false =>
          go_wp2_with fail
          go_roundw
          case rel => exact ⟨c - 1, L, ua, uc, rfl, by go_num, by omega, by omega, HO7.out, T7.out⟩
          case measure => simp [intOf]; omega
    · have e : c = 0 := by omega
      have HLL : Hid (L.length ≤ 4) := by show _ ≤ _; omega
      subst e
      go_wp2_with fail
      go_ret
      exact ⟨⟨_, rfl, L, HO.out, HLL.out⟩, TR.out.1, TR.out.2⟩
end Go.Proofs.Ytficlppngnnpoaa

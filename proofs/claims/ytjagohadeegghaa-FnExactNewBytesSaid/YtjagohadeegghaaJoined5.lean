/- The walks of the program's OldBytes: its orders as bytes. The walk of the program's bytes of a book of either make. The walk of the program's OldBytes. -/
import Derived.Test.YtjagohadeegghaaSnapMath
import Derived.Test.YtjagohadeegghaaRecBytesImpl
import Derived.Test.YtjagohadeegghaaOldRightImpl
import Derived.Test.YtjagohadeegghaaSealWalks
import Derived.Test.YtjagohadeegghaaJoined4
namespace Go.Proofs.Ytjagohadeegghaa
open Go.RowKit
set_option linter.unusedVariables false
set_option linter.unusedSimpArgs false

/-- a cell of a box is as it was, when other memory is made, and an owned list has grown -/
theorem Sp.keep {W1 w6 w8 : World} {b j : Nat} {x : Value} {o : Obj} {row : Option Nat} (y : W1.cell? ⟨b, j, none⟩ = some x) (hb : b < W1.heap.size) (B : Below W1.heap.size W1 w6) (g : (w6.alloc o).grownBy w8 row) (hne : some b ≠ row) : w8.cell? ⟨b, j, none⟩ = some x :=
  g.cell ((Fk.cellOld w6 o b j (Nat.lt_of_lt_of_le hb B.size)).trans ((B.cell (p := ⟨b, j, none⟩) hb).trans y)) hne

/-- where an owned list has grown to, no elder box lies -/
theorem Sp.far {W1 w6 : World} {b g : Nat} {row : Option Nat} (hn : some b ≠ row) (hz : b < W1.heap.size) (hB : Below W1.heap.size W1 w6) (hat : row = some g ∨ g = w6.heap.size + 1) : some b ≠ some g := by
  intro e
  have e' := Option.some.inj e
  rcases hat with h | h
  · exact hn (by rw [h, e'])
  · have := hB.size; omega

set_option maxHeartbeats 1000000 in
theorem flagBytes_any (b : Bool) (w : World) :
    Calls Try.prog 166 #[.bool b] w fun e w' => e = .returned (.string (Sp.flag b)) ∧ Below w.heap.size w w' := by
  cases b
  · go_enter Try.func166, Try.ntmps166
    go_wp2_with fail
    refine (implPut_any 0 _ (by decide) (by decide)).mono ?_
    rintro e w1 ⟨rfl, hb⟩
    go_wp2_with fail
    go_ret
    exact ⟨rfl, hb⟩
  · go_enter Try.func166, Try.ntmps166
    go_wp2_with fail
    refine (implPut_any 1 _ (by decide) (by decide)).mono ?_
    rintro e w1 ⟨rfl, hb⟩
    go_wp2_with fail
    go_ret
    exact ⟨rfl, hb⟩

set_option maxRecDepth 100000 in
set_option maxHeartbeats 8000000 in
theorem ordersBytes_any (g : Int) (wide : Bool) (hg : (g == 2) = wide) (v : Value) (L : List Or.E) (w : World) (hv : Rk.View Or.S w v L) (hl : L.length ≤ 1048576) (hl8 : (Sp.parts wide L L.length).length ≤ 1048576) (hf : ∀ k, k < L.length → Or.Fit (Ob.at' L k)) :
    Calls Try.prog 132 #[.int .i64 g, v] w fun e w' => e = .returned (.string (Sp.row wide L L.length)) ∧ Below w.heap.size w w' := by
  obtain ⟨i0, hi, hz0, hz1, hz2⟩ := info_parts infoStr
  have hzs : (Value.string ByteArray.empty).cells.size = 1 := by kernel_rfl
  obtain ⟨a, cap, rfl, hs⟩ := hv
  have HF := Fk.hide hf
  clear hf
  go_enter Try.func132, Try.ntmps132
  go_wp2_with fail
  go_loopw [5, 10] (fun u i wr => ∃ k : Nat, k ≤ L.length ∧ i = .int .i64 k ∧ Hid (Rk.Own Ts.S wr w.heap.size 9 u (Sp.parts wide L k)) ∧ Hid (Below w.heap.size w wr)) (fun _ i _ => L.length - (intOf i).toNat)
  case atStart => exact ⟨0, Nat.zero_le _, rfl, Rk.own_nil _ _ _, Below.refl _ _⟩
  case round =>
    obtain ⟨k, hk, rfl, HO, bel⟩ := hrel
    obtain ⟨ua, uc, hu⟩ := HO.out.slice
    obtain ⟨un, hun⟩ : ∃ n, n = (Sp.parts wide L k).length := ⟨_, rfl⟩
    rw [← hun] at hu
    have hun2 : un ≤ 8388608 := by have := Sp.parts_length wide L k; omega
    subst hu
    by_cases hlt : k < L.length
    · obtain ⟨b, o, rfl, hb, hs1⟩ := hs (by omega)
      have hs' := hs1.below hb bel.out
      have x0 := Or.c0 hs' hlt
      have x1 := Or.c1 hs' hlt
      have x2 := Or.c2 hs' hlt
      have x3 := Or.c3 hs' hlt
      have x4 := Or.c4 hs' hlt
      have x5 := Or.c5 hs' hlt
      have x6 := Or.c6 hs' hlt
      have x7 := Or.c7 hs' hlt
      have hfit := HF.out k hlt
      have hnx : Sp.parts wide L (k + 1) = (if wide then Sp.parts wide L k ++ Sp.five (Ob.at' L k) ++ Sp.three (Ob.at' L k) else Sp.parts wide L k ++ Sp.five (Ob.at' L k)) := rfl
      change Or.Fit (Rk.at_ Or.S L k) at hfit
      change _ = (if wide then Sp.parts wide L k ++ Sp.five (Rk.at_ Or.S L k) ++ Sp.three (Rk.at_ Or.S L k) else Sp.parts wide L k ++ Sp.five (Rk.at_ Or.S L k)) at hnx
      obtain ⟨f, hf'⟩ : ∃ f, f = Rk.at_ Or.S L k := ⟨_, rfl⟩
      rw [← hf'] at x0 x1 x2 x3 x4 x5 x6 x7 hfit hnx
      clear hf' hs hs1 hs'
      obtain ⟨f0, f1, f2, f3, f4, f5, f6, f7⟩ := f
      obtain ⟨⟨g00, g01⟩, ⟨g10, g11⟩, ⟨g20, g21⟩, ⟨g30, g31⟩, _, ⟨g50, g51⟩, ⟨g60, g61⟩, _⟩ := hfit
      dsimp only at x0 x1 x2 x3 x4 x5 x6 x7 g00 g01 g10 g11 g20 g21 g30 g31 g50 g51 g60 g61
      have c0 : ∀ w', Calls Try.prog 131 #[.int .i64 f0] w' fun e w'' => e = .returned (.string (Pn.putNum f0)) ∧ Below w'.heap.size w' w'' := fun w' => implPut_any f0 w' g00 g01
      have c1 : ∀ w', Calls Try.prog 131 #[.int .i64 f1] w' fun e w'' => e = .returned (.string (Pn.putNum f1)) ∧ Below w'.heap.size w' w'' := fun w' => implPut_any f1 w' g10 g11
      have c2 : ∀ w', Calls Try.prog 131 #[.int .i64 f2] w' fun e w'' => e = .returned (.string (Pn.putNum f2)) ∧ Below w'.heap.size w' w'' := fun w' => implPut_any f2 w' g20 g21
      have c3 : ∀ w', Calls Try.prog 131 #[.int .i64 f3] w' fun e w'' => e = .returned (.string (Pn.putNum f3)) ∧ Below w'.heap.size w' w'' := fun w' => implPut_any f3 w' g30 g31
      have c4 : ∀ w', Calls Try.prog 166 #[.bool f4] w' fun e w'' => e = .returned (.string (Sp.flag f4)) ∧ Below w'.heap.size w' w'' := fun w' => flagBytes_any f4 w'
      have c5 : ∀ w', Calls Try.prog 131 #[.int .i64 f5] w' fun e w'' => e = .returned (.string (Pn.putNum f5)) ∧ Below w'.heap.size w' w'' := fun w' => implPut_any f5 w' g50 g51
      have c6 : ∀ w', Calls Try.prog 131 #[.int .i64 f6] w' fun e w'' => e = .returned (.string (Pn.putNum f6)) ∧ Below w'.heap.size w' w'' := fun w' => implPut_any f6 w' g60 g61
      have c7 : ∀ w', Calls Try.prog 166 #[.bool f7] w' fun e w'' => e = .returned (.string (Sp.flag f7)) ∧ Below w'.heap.size w' w'' := fun w' => flagBytes_any f7 w'
      unfold Sp.five Sp.three at hnx
      dsimp only at hnx
      generalize Pn.putNum f0 = s0 at *
      generalize Pn.putNum f1 = s1 at *
      generalize Pn.putNum f2 = s2 at *
      generalize Pn.putNum f3 = s3 at *
      generalize Sp.flag f4 = s4 at *
      generalize Pn.putNum f5 = s5 at *
      generalize Pn.putNum f6 = s6 at *
      generalize Sp.flag f7 = s7 at *
      clear g00 g01 g10 g11 g20 g21 g30 g31 g50 g51 g60 g61
      have HNX := Fk.hide hnx
      clear hnx
      have HL : Hid ((Sp.parts wide L k).length = un) := hun.symm
      clear hun
      have k0 : (0 : Int) ≤ (k : Int) := Int.natCast_nonneg _
      have k1 : (k : Int) < (L.length : Int) := by omega
      obtain ⟨W1, hW1⟩ : ∃ W, W = wr.alloc (.cells #[.int .i64 f0, .int .i64 f1, .int .i64 f2, .int .i64 f3, .bool f4, .int .i64 f5, .int .i64 f6, .bool f7] 55) := ⟨_, rfl⟩
      have b1 : Below wr.heap.size wr W1 := by rw [hW1]; exact (Below.refl _ _).alloc (Nat.le_refl _) _
      have hzW1 : wr.heap.size < W1.heap.size := by rw [hW1]; simp
      have y0 : W1.cell? ⟨wr.heap.size, 0, none⟩ = some (.int .i64 f0) := by rw [hW1, Fk.cellTop _ _ _ _ _ rfl]; rfl
      have y1 : W1.cell? ⟨wr.heap.size, 1, none⟩ = some (.int .i64 f1) := by rw [hW1, Fk.cellTop _ _ _ _ _ rfl]; rfl
      have y2 : W1.cell? ⟨wr.heap.size, 2, none⟩ = some (.int .i64 f2) := by rw [hW1, Fk.cellTop _ _ _ _ _ rfl]; rfl
      have y3 : W1.cell? ⟨wr.heap.size, 3, none⟩ = some (.int .i64 f3) := by rw [hW1, Fk.cellTop _ _ _ _ _ rfl]; rfl
      have y4 : W1.cell? ⟨wr.heap.size, 4, none⟩ = some (.bool f4) := by rw [hW1, Fk.cellTop _ _ _ _ _ rfl]; rfl
      have y5 : W1.cell? ⟨wr.heap.size, 5, none⟩ = some (.int .i64 f5) := by rw [hW1, Fk.cellTop _ _ _ _ _ rfl]; rfl
      have y6 : W1.cell? ⟨wr.heap.size, 6, none⟩ = some (.int .i64 f6) := by rw [hW1, Fk.cellTop _ _ _ _ _ rfl]; rfl
      have y7 : W1.cell? ⟨wr.heap.size, 7, none⟩ = some (.bool f7) := by rw [hW1, Fk.cellTop _ _ _ _ _ rfl]; rfl
      have HW1 := Fk.hide hW1
      have HBW1 := Fk.hide (bel.out.trans (b1.mono bel.out.size))
      have HOW1 := Fk.hide (HO.out.below b1)
      have LW1 : Hid ((Sp.parts wide L k).length = un) := HL.out
      have HNW1 : Hid (some wr.heap.size ≠ (Value.slice ua un uc).ownBlock) := fun e => by have := (HO.out.lt _ e.symm).2; omega
      clear hW1 b1 HO
      go_wp2_with fail
      rw [← HW1.out]
      clear x0 x1 x2 x3 x4 x5 x6 x7
      have HD2 : Hid (Below W1.heap.size W1 W1.drew) := Below.drew (Below.refl _ _)
      have r0 := y0
      have r1 := y1
      have r2 := y2
      have r3 := y3
      have r4 := y4
      have NX2 : Hid (∀ w6, Below W1.heap.size W1 w6 → (w6.alloc (.cells #[.string s0, .string s1, .string s2, .string s3, .string s4] 9)).ownsRow w.heap.size 9 1 (.slice ua un uc) un (Rk.flat Ts.S (Sp.parts wide L k)) ∧ Below w.heap.size w (w6.alloc (.cells #[.string s0, .string s1, .string s2, .string s3, .string s4] 9)) ∧ w.heap.size ≤ (w6.alloc (.cells #[.string s0, .string s1, .string s2, .string s3, .string s4] 9)).heap.size) := by
        intro w6 b6
        have O6 := HOW1.out.below b6
        have B6 : Below w.heap.size w w6 := HBW1.out.trans (b6.mono HBW1.out.size)
        have b7 : Below w6.heap.size w6 (w6.alloc (.cells #[.string s0, .string s1, .string s2, .string s3, .string s4] 9)) := (Below.refl _ _).alloc (Nat.le_refl _) _
        refine ⟨?_, B6.trans (b7.mono B6.size), by have := B6.size; simp; omega⟩
        have := O6.below b7
        unfold Rk.Own at this
        rw [LW1.out] at this
        exact this
      clear HOW1
      go_wp2_with fail
      go_region_held3 (fun w' => w'.cell? ⟨wr.heap.size, 0, none⟩ = some (.int .i64 f0) ∧ w'.cell? ⟨wr.heap.size, 1, none⟩ = some (.int .i64 f1) ∧ w'.cell? ⟨wr.heap.size, 2, none⟩ = some (.int .i64 f2) ∧ w'.cell? ⟨wr.heap.size, 3, none⟩ = some (.int .i64 f3) ∧ w'.cell? ⟨wr.heap.size, 4, none⟩ = some (.bool f4))
        (first | go_keep | (go_split_ands; exact ⟨by assumption, by assumption, by assumption, by assumption, by assumption⟩))
        (first
          | (have hchk := HCw6.out; clear hchk; refine step_append_lies _ (by rfl) _ _ _ (by rfl) w.heap.size 9 i0 _ 1 16 Try.underlying195 hi hz0 hz1 hz2 hzs (by decide) (.slice ua un uc) (un) (Rk.flat Ts.S (Sp.parts wide L k)) (by rfl) Nw6.out.1 ⟨w6.heap.size, 0, none⟩ 5 5 [.string s0, .string s1, .string s2, .string s3, .string s4] (by rfl) (by rfl) (World.news_of_block (cs := #[.string s0, .string s1, .string s2, .string s3, .string s4]) (t := 9) (fr := (0, 0)) (heap_alloc_new w6 _)) (by simp [Value.oneCell']) (by omega) (by unfold maxLen; omega) (by omega) Nw6.out.2.2 (w6.heap.size + 1) (by simp) ?_; intro gW1 cW1 vW1 oW1 g8W1 hat hlt8; have HGW1 : Hid (Below w.heap.size w vW1) := Nw6.out.2.1.grown g8W1 Nw6.out.2.1.size (fun j hj => (World.ownsRow.lt Nw6.out.1 j hj).1); have u0 := Sp.keep y0 hzW1 HCw6.out g8W1 (HNW1.out); have u1 := Sp.keep y1 hzW1 HCw6.out g8W1 (HNW1.out); have u2 := Sp.keep y2 hzW1 HCw6.out g8W1 (HNW1.out); have u3 := Sp.keep y3 hzW1 HCw6.out g8W1 (HNW1.out); have u4 := Sp.keep y4 hzW1 HCw6.out g8W1 (HNW1.out); have u5 := Sp.keep y5 hzW1 HCw6.out g8W1 (HNW1.out); have u6 := Sp.keep y6 hzW1 HCw6.out g8W1 (HNW1.out); have u7 := Sp.keep y7 hzW1 HCw6.out g8W1 (HNW1.out); have HQW1 := Fk.hide (Sp.far HNW1.out hzW1 HCw6.out hat); have hz8W1 : Hid (wr.heap.size < vW1.heap.size) := Nat.lt_of_lt_of_le (Nat.lt_of_lt_of_le hzW1 HCw6.out.size) (Nat.le_trans (by simp) g8W1.size); have HPW1 := Fk.hide oW1; clear oW1 g8W1 hat hlt8)
          | (have hchk := HCw5.out; clear hchk; go_at_call 166; refine (c4 _).mono ?_; rintro e w6 ⟨rfl, b5⟩; have B5 : Below W1.heap.size W1 w6 := HCw5.out.trans (b5.mono HCw5.out.size); have q0w6 := (B5.cell (p := ⟨wr.heap.size, 0, none⟩) (by exact hzW1)).trans y0; have q1w6 := (B5.cell (p := ⟨wr.heap.size, 1, none⟩) (by exact hzW1)).trans y1; have q2w6 := (B5.cell (p := ⟨wr.heap.size, 2, none⟩) (by exact hzW1)).trans y2; have q3w6 := (B5.cell (p := ⟨wr.heap.size, 3, none⟩) (by exact hzW1)).trans y3; have q4w6 := (B5.cell (p := ⟨wr.heap.size, 4, none⟩) (by exact hzW1)).trans y4; have Nw6 := Fk.hide (NX2.out w6 B5); have HCw6 := Fk.hide B5; clear B5 b5)
          | (have hchk := HCw4.out; clear hchk; go_at_call 131; refine (c3 _).mono ?_; rintro e w5 ⟨rfl, b5⟩; have B5 : Below W1.heap.size W1 w5 := HCw4.out.trans (b5.mono HCw4.out.size); have q0w5 := (B5.cell (p := ⟨wr.heap.size, 0, none⟩) (by exact hzW1)).trans y0; have q1w5 := (B5.cell (p := ⟨wr.heap.size, 1, none⟩) (by exact hzW1)).trans y1; have q2w5 := (B5.cell (p := ⟨wr.heap.size, 2, none⟩) (by exact hzW1)).trans y2; have q3w5 := (B5.cell (p := ⟨wr.heap.size, 3, none⟩) (by exact hzW1)).trans y3; have q4w5 := (B5.cell (p := ⟨wr.heap.size, 4, none⟩) (by exact hzW1)).trans y4; have HCw5 := Fk.hide B5; clear B5 b5)
          | (have hchk := HCw3.out; clear hchk; go_at_call 131; refine (c2 _).mono ?_; rintro e w4 ⟨rfl, b5⟩; have B5 : Below W1.heap.size W1 w4 := HCw3.out.trans (b5.mono HCw3.out.size); have q0w4 := (B5.cell (p := ⟨wr.heap.size, 0, none⟩) (by exact hzW1)).trans y0; have q1w4 := (B5.cell (p := ⟨wr.heap.size, 1, none⟩) (by exact hzW1)).trans y1; have q2w4 := (B5.cell (p := ⟨wr.heap.size, 2, none⟩) (by exact hzW1)).trans y2; have q3w4 := (B5.cell (p := ⟨wr.heap.size, 3, none⟩) (by exact hzW1)).trans y3; have q4w4 := (B5.cell (p := ⟨wr.heap.size, 4, none⟩) (by exact hzW1)).trans y4; have HCw4 := Fk.hide B5; clear B5 b5)
          | (have hchk := HCw2.out; clear hchk; go_at_call 131; refine (c1 _).mono ?_; rintro e w3 ⟨rfl, b5⟩; have B5 : Below W1.heap.size W1 w3 := HCw2.out.trans (b5.mono HCw2.out.size); have q0w3 := (B5.cell (p := ⟨wr.heap.size, 0, none⟩) (by exact hzW1)).trans y0; have q1w3 := (B5.cell (p := ⟨wr.heap.size, 1, none⟩) (by exact hzW1)).trans y1; have q2w3 := (B5.cell (p := ⟨wr.heap.size, 2, none⟩) (by exact hzW1)).trans y2; have q3w3 := (B5.cell (p := ⟨wr.heap.size, 3, none⟩) (by exact hzW1)).trans y3; have q4w3 := (B5.cell (p := ⟨wr.heap.size, 4, none⟩) (by exact hzW1)).trans y4; have HCw3 := Fk.hide B5; clear B5 b5)
          | (go_at_call 131; refine (c0 _).mono ?_; rintro e w2 ⟨rfl, b5⟩; have B5 : Below W1.heap.size W1 w2 := HD2.out.trans b5; have q0w2 := (B5.cell (p := ⟨wr.heap.size, 0, none⟩) (by exact hzW1)).trans y0; have q1w2 := (B5.cell (p := ⟨wr.heap.size, 1, none⟩) (by exact hzW1)).trans y1; have q2w2 := (B5.cell (p := ⟨wr.heap.size, 2, none⟩) (by exact hzW1)).trans y2; have q3w2 := (B5.cell (p := ⟨wr.heap.size, 3, none⟩) (by exact hzW1)).trans y3; have q4w2 := (B5.cell (p := ⟨wr.heap.size, 4, none⟩) (by exact hzW1)).trans y4; have HCw2 := Fk.hide B5; clear B5 b5))
      cases wide with
      | false =>
        have OE : Hid (Rk.Own Ts.S vW1 w.heap.size 9 (.slice (some ⟨gW1, 0, none⟩) (un + 5) cW1) (Sp.parts false L (k + 1))) := by
          show Rk.Own _ _ _ _ _ _
          have e8 := HPW1.out
          unfold Rk.Own
          rw [HNX.out]
          simp only [Bool.false_eq_true, if_false]
          rw [Rk.flat_append, List.length_append, HL.out]
          exact e8
        go_wp2_with fail
        go_roundw
        case rel => exact ⟨k + 1, by omega, by go_num, OE.out, HGW1.out⟩
        case measure => simp [intOf]; omega
      | true =>
        have OE : Hid (Rk.Own Ts.S vW1 w.heap.size 9 (.slice (some ⟨gW1, 0, none⟩) (un + 5) cW1) (Sp.parts true L k ++ [s0, s1, s2, s3, s4])) := by
          show Rk.Own _ _ _ _ _ _
          have e8 := HPW1.out
          unfold Rk.Own
          rw [Rk.flat_append, List.length_append, HL.out]
          exact e8
        have LvW1 : Hid ((Sp.parts true L k ++ [s0, s1, s2, s3, s4]).length = un + 5) := by show _ = _; rw [List.length_append, HL.out]; rfl
        have HOvW1 := OE
        have HBvW1 := HGW1
        have hzvW1 := hz8W1.out
        have HNvW1 : Hid (some wr.heap.size ≠ (Value.slice (some ⟨gW1, 0, none⟩) (un + 5) cW1).ownBlock) := fun e => HQW1.out (by simpa [Value.ownBlock] using e)
        clear y0 y1 y2 y3 y4 y5 y6 y7 u0 u1 u2 u3 u4 q0w2 q1w2 q2w2 q3w2 q4w2 q0w3 q1w3 q2w3 q3w3 q4w3 q0w4 q1w4 q2w4 q3w4 q4w4 q0w5 q1w5 q2w5 q3w5 q4w5 q0w6 q1w6 q2w6 q3w6 q4w6
        have y5 := u5
        have y6 := u6
        have y7 := u7
        clear u5 u6 u7 OE HGW1 hz8W1 HPW1
        have hum2 : un + 5 ≤ 8388613 := by omega
        generalize un + 5 = um at *
        have HD12 : Hid (Below vW1.heap.size vW1 vW1.drew) := Below.drew (Below.refl _ _)
        have r5 := y5
        have r6 := y6
        have r7 := y7
        have NX12 : Hid (∀ w6, Below vW1.heap.size vW1 w6 → (w6.alloc (.cells #[.string s5, .string s6, .string s7] 9)).ownsRow w.heap.size 9 1 (.slice (some ⟨gW1, 0, none⟩) um cW1) um (Rk.flat Ts.S (Sp.parts true L k ++ [s0, s1, s2, s3, s4])) ∧ Below w.heap.size w (w6.alloc (.cells #[.string s5, .string s6, .string s7] 9)) ∧ w.heap.size ≤ (w6.alloc (.cells #[.string s5, .string s6, .string s7] 9)).heap.size) := by
          intro w6 b6
          have O6 := HOvW1.out.below b6
          have B6 : Below w.heap.size w w6 := HBvW1.out.trans (b6.mono HBvW1.out.size)
          have b7 : Below w6.heap.size w6 (w6.alloc (.cells #[.string s5, .string s6, .string s7] 9)) := (Below.refl _ _).alloc (Nat.le_refl _) _
          refine ⟨?_, B6.trans (b7.mono B6.size), by have := B6.size; simp; omega⟩
          have := O6.below b7
          unfold Rk.Own at this
          rw [LvW1.out] at this
          exact this
        clear HOvW1
        go_wp2_with fail
        go_region_held3 (fun w' => w'.cell? ⟨wr.heap.size, 5, none⟩ = some (.int .i64 f5) ∧ w'.cell? ⟨wr.heap.size, 6, none⟩ = some (.int .i64 f6) ∧ w'.cell? ⟨wr.heap.size, 7, none⟩ = some (.bool f7))
          (first | go_keep | (go_split_ands; exact ⟨by assumption, by assumption, by assumption⟩))
          (first
            | (have hchk := HCw14.out; clear hchk; refine step_append_lies _ (by rfl) _ _ _ (by rfl) w.heap.size 9 i0 _ 1 16 Try.underlying195 hi hz0 hz1 hz2 hzs (by decide) (.slice (some ⟨gW1, 0, none⟩) um cW1) (um) (Rk.flat Ts.S (Sp.parts true L k ++ [s0, s1, s2, s3, s4])) (by rfl) Nw14.out.1 ⟨w14.heap.size, 0, none⟩ 3 3 [.string s5, .string s6, .string s7] (by rfl) (by rfl) (World.news_of_block (cs := #[.string s5, .string s6, .string s7]) (t := 9) (fr := (0, 0)) (heap_alloc_new w14 _)) (by simp [Value.oneCell']) (by omega) (by unfold maxLen; omega) (by omega) Nw14.out.2.2 (w14.heap.size + 1) (by simp) ?_; intro gvW1 cvW1 vvW1 ovW1 g8vW1 hat hlt8; have HGvW1 : Hid (Below w.heap.size w vvW1) := Nw14.out.2.1.grown g8vW1 Nw14.out.2.1.size (fun j hj => (World.ownsRow.lt Nw14.out.1 j hj).1); have u5 := Sp.keep y5 hzvW1 HCw14.out g8vW1 (HNvW1.out); have u6 := Sp.keep y6 hzvW1 HCw14.out g8vW1 (HNvW1.out); have u7 := Sp.keep y7 hzvW1 HCw14.out g8vW1 (HNvW1.out); have HQvW1 := Fk.hide (Sp.far HNvW1.out hzvW1 HCw14.out hat); have hz8vW1 : Hid (wr.heap.size < vvW1.heap.size) := Nat.lt_of_lt_of_le (Nat.lt_of_lt_of_le hzvW1 HCw14.out.size) (Nat.le_trans (by simp) g8vW1.size); have HPvW1 := Fk.hide ovW1; clear ovW1 g8vW1 hat hlt8)
            | (have hchk := HCw13.out; clear hchk; go_at_call 166; refine (c7 _).mono ?_; rintro e w14 ⟨rfl, b5⟩; have B5 : Below vW1.heap.size vW1 w14 := HCw13.out.trans (b5.mono HCw13.out.size); have q5w14 := (B5.cell (p := ⟨wr.heap.size, 5, none⟩) (by exact hzvW1)).trans y5; have q6w14 := (B5.cell (p := ⟨wr.heap.size, 6, none⟩) (by exact hzvW1)).trans y6; have q7w14 := (B5.cell (p := ⟨wr.heap.size, 7, none⟩) (by exact hzvW1)).trans y7; have Nw14 := Fk.hide (NX12.out w14 B5); have HCw14 := Fk.hide B5; clear B5 b5)
            | (have hchk := HCw12.out; clear hchk; go_at_call 131; refine (c6 _).mono ?_; rintro e w13 ⟨rfl, b5⟩; have B5 : Below vW1.heap.size vW1 w13 := HCw12.out.trans (b5.mono HCw12.out.size); have q5w13 := (B5.cell (p := ⟨wr.heap.size, 5, none⟩) (by exact hzvW1)).trans y5; have q6w13 := (B5.cell (p := ⟨wr.heap.size, 6, none⟩) (by exact hzvW1)).trans y6; have q7w13 := (B5.cell (p := ⟨wr.heap.size, 7, none⟩) (by exact hzvW1)).trans y7; have HCw13 := Fk.hide B5; clear B5 b5)
            | (go_at_call 131; refine (c5 _).mono ?_; rintro e w12 ⟨rfl, b5⟩; have B5 : Below vW1.heap.size vW1 w12 := HD12.out.trans b5; have q5w12 := (B5.cell (p := ⟨wr.heap.size, 5, none⟩) (by exact hzvW1)).trans y5; have q6w12 := (B5.cell (p := ⟨wr.heap.size, 6, none⟩) (by exact hzvW1)).trans y6; have q7w12 := (B5.cell (p := ⟨wr.heap.size, 7, none⟩) (by exact hzvW1)).trans y7; have HCw12 := Fk.hide B5; clear B5 b5))
        have OF : Hid (Rk.Own Ts.S vvW1 w.heap.size 9 (.slice (some ⟨gvW1, 0, none⟩) (um + 3) cvW1) (Sp.parts true L (k + 1))) := by
          show Rk.Own _ _ _ _ _ _
          have e8 := HPvW1.out
          unfold Rk.Own
          rw [HNX.out]
          simp only [if_true]
          rw [Rk.flat_append, List.length_append, LvW1.out]
          exact e8
        go_wp2_with fail
        go_roundw
        case rel => exact ⟨k + 1, by omega, by go_num, OF.out, HGvW1.out⟩
        case measure => simp [intOf]; omega
    · have e : k = L.length := by omega
      subst e
      have VT : Hid (Sk.View wr (.slice ua un uc) (Sp.parts wide L L.length)) := (Ts.own HO.out).view
      have HCT : Hid (Sk.cat (Sp.parts wide L L.length) (Sp.parts wide L L.length).length = Sp.row wide L L.length) := Sp.cat_parts wide L _
      have HLN : Hid ((Sp.parts wide L L.length).length ≤ 1048576) := hl8
      have HTT : Hid (Sk.tot (Sp.parts wide L L.length) (Sp.parts wide L L.length).length ≤ 1073741824) := by show _ ≤ _; rw [← Sk.cat_size, HCT.out]; have := Sp.row_size wide L L.length; omega
      clear hs HO hun hun2 hl8
      go_wp2_with fail
      refine (join_list _ _ _ VT.out HLN.out HTT.out).mono ?_
      rintro e w6 ⟨rfl, b6⟩
      rw [HCT.out]
      have B6 := Fk.hide (bel.out.trans (b6.mono bel.out.size))
      clear b6
      go_wp2_with fail
      go_ret
      exact ⟨rfl, B6.out⟩
end Go.Proofs.Ytjagohadeegghaa

namespace Go.Proofs.Ytjagohadeegghaa
open Go.RowKit
set_option linter.unusedVariables false
set_option linter.unusedSimpArgs false
set_option maxRecDepth 100000 in
set_option maxHeartbeats 4000000 in
theorem snapBytes_any (g n s : Int) (hg : g = 1 ∨ g = 2) (x y : Value) (B A : List Or.E) (w : World)
    (hx : Rk.View Or.S w x B) (hy : Rk.View Or.S w y A) (l0 : B.length ≤ 1048576) (l1 : A.length ≤ 1048576) (m0 : B.length ≤ 131072) (m1 : A.length ≤ 131072) (f0 : ∀ k, k < B.length → Or.Fit (Ob.at' B k)) (f1 : ∀ k, k < A.length → Or.Fit (Ob.at' A k)) (n0 : -9223372036854775808 ≤ n ∧ n ≤ 9223372036854775807) (s0 : -9223372036854775808 ≤ s ∧ s ≤ 9223372036854775807) :
    Calls Try.prog 98 #[.agg #[.int .i64 g, .int .i64 n, x, y, .int .i64 s]] w fun e w' => e = .returned (.string (sealed (Rc.bytes g (Sp.fields (decide (g = 2)) B A n s)))) ∧ Below w.heap.size w w' := by
  have HX := Fk.hide hx
  have HY := Fk.hide hy
  obtain ⟨a0, cap0, rfl, _⟩ := hx
  obtain ⟨a1, cap1, rfl, _⟩ := hy
  obtain ⟨wide, hw⟩ : ∃ b, (g == 2) = b := ⟨_, rfl⟩
  have HWD : Hid (decide (g = 2) = wide) := by show _ = _; rw [← hw]; rcases hg with rfl | rfl <;> rfl
  obtain ⟨W1, hW1⟩ : ∃ W, W = w.alloc (.cells #[.int .i64 g, .int .i64 n, .slice a0 B.length cap0, .slice a1 A.length cap1, .int .i64 s] 135) := ⟨_, rfl⟩
  have b1 : Below w.heap.size w W1 := by rw [hW1]; exact (Below.refl _ _).alloc (Nat.le_refl _) _
  have hz1 : w.heap.size < W1.heap.size := by rw [hW1]; simp
  have d0 : W1.cell? ⟨w.heap.size, 0, none⟩ = some (.int .i64 g) := by rw [hW1, Fk.cellTop _ _ _ _ _ rfl]; rfl
  have d1 : W1.cell? ⟨w.heap.size, 1, none⟩ = some (.int .i64 n) := by rw [hW1, Fk.cellTop _ _ _ _ _ rfl]; rfl
  have d2 : W1.cell? ⟨w.heap.size, 2, none⟩ = some (.slice a0 B.length cap0) := by rw [hW1, Fk.cellTop _ _ _ _ _ rfl]; rfl
  have d3 : W1.cell? ⟨w.heap.size, 3, none⟩ = some (.slice a1 A.length cap1) := by rw [hW1, Fk.cellTop _ _ _ _ _ rfl]; rfl
  have d4 : W1.cell? ⟨w.heap.size, 4, none⟩ = some (.int .i64 s) := by rw [hW1, Fk.cellTop _ _ _ _ _ rfl]; rfl
  have HW1 := Fk.hide hW1
  have HB1 := Fk.hide b1
  have HX1 := Fk.hide (HX.out.below b1)
  have HY1 := Fk.hide (HY.out.below b1)
  clear hW1 b1 HX HY
  have HB : Hid (Below W1.heap.size W1 W1.drew) := Below.drew (Below.refl _ _)
  obtain ⟨p0, hp0⟩ : ∃ t, t = Pn.putNum n := ⟨_, rfl⟩
  obtain ⟨p3, hp3⟩ : ∃ t, t = Pn.putNum s := ⟨_, rfl⟩
  obtain ⟨rB, hrB⟩ : ∃ t, t = Sp.row wide B B.length := ⟨_, rfl⟩
  obtain ⟨rA, hrA⟩ : ∃ t, t = Sp.row wide A A.length := ⟨_, rfl⟩
  have g0 : Hid (∀ w', Calls Try.prog 131 #[.int .i64 n] w' fun e w'' => e = .returned (.string p0) ∧ Below w'.heap.size w' w'') := fun w' => by rw [hp0]; exact implPut_any n w' n0.1 n0.2
  have g3 : Hid (∀ w', Calls Try.prog 131 #[.int .i64 s] w' fun e w'' => e = .returned (.string p3) ∧ Below w'.heap.size w' w'') := fun w' => by rw [hp3]; exact implPut_any s w' s0.1 s0.2
  have g1 : Hid (∀ w', Below W1.heap.size W1 w' → Calls Try.prog 132 #[.int .i64 g, .slice a0 B.length cap0] w' fun e w'' => e = .returned (.string rB) ∧ Below w'.heap.size w' w'') := fun w' h' => by rw [hrB]; exact ordersBytes_any g wide hw _ B w' (HX1.out.below h') l0 (by have := Sp.parts_length wide B B.length; omega) f0
  have g2 : Hid (∀ w', Below W1.heap.size W1 w' → Calls Try.prog 132 #[.int .i64 g, .slice a1 A.length cap1] w' fun e w'' => e = .returned (.string rA) ∧ Below w'.heap.size w' w'') := fun w' h' => by rw [hrA]; exact ordersBytes_any g wide hw _ A w' (HY1.out.below h') l1 (by have := Sp.parts_length wide A A.length; omega) f1
  have HE : Hid (Sp.fields (decide (g = 2)) B A n s = [(1, p0), (2, rB), (3, rA), (4, p3)]) := by show _ = _; rw [HWD.out, hp0, hp3, hrB, hrA]; rfl
  have HFF := Fk.hide (Sp.fields_fit (decide (g = 2)) B A n s l0 l1)
  clear hp0 hp3 hrB hrA hw HWD n0 s0 hg
  go_enter Try.func98, Try.ntmps98
  go_wp2_with fail
  rw [← HW1.out]
  go_region_held3 (fun w' => w'.cell? ⟨w.heap.size, 0, none⟩ = some (.int .i64 g) ∧ w'.cell? ⟨w.heap.size, 1, none⟩ = some (.int .i64 n) ∧ w'.cell? ⟨w.heap.size, 2, none⟩ = some (.slice a0 B.length cap0) ∧ w'.cell? ⟨w.heap.size, 3, none⟩ = some (.slice a1 A.length cap1) ∧ w'.cell? ⟨w.heap.size, 4, none⟩ = some (.int .i64 s))
    (first | go_keep | (go_split_ands; exact ⟨by assumption, by assumption, by assumption, by assumption, by assumption⟩))
    (first
      | (have hchk := HB4.out; clear hchk; go_at_call 131; refine (g3.out _).mono ?_; rintro e w5 ⟨rfl, b5⟩; have B5 : Below W1.heap.size W1 w5 := HB4.out.trans (b5.mono HB4.out.size); have vq0 := (B5.cell (p := ⟨w.heap.size, 0, none⟩) (by exact hz1)).trans d0; have vq1 := (B5.cell (p := ⟨w.heap.size, 1, none⟩) (by exact hz1)).trans d1; have vq2 := (B5.cell (p := ⟨w.heap.size, 2, none⟩) (by exact hz1)).trans d2; have vq3 := (B5.cell (p := ⟨w.heap.size, 3, none⟩) (by exact hz1)).trans d3; have vq4 := (B5.cell (p := ⟨w.heap.size, 4, none⟩) (by exact hz1)).trans d4; have HB5 := Fk.hide B5; clear B5 b5)
      | (have hchk := HB3.out; clear hchk; go_at_call 132; refine (g2.out _ HB3.out).mono ?_; rintro e w4 ⟨rfl, b4⟩; have B4 : Below W1.heap.size W1 w4 := HB3.out.trans (b4.mono HB3.out.size); have uq0 := (B4.cell (p := ⟨w.heap.size, 0, none⟩) (by exact hz1)).trans d0; have uq1 := (B4.cell (p := ⟨w.heap.size, 1, none⟩) (by exact hz1)).trans d1; have uq2 := (B4.cell (p := ⟨w.heap.size, 2, none⟩) (by exact hz1)).trans d2; have uq3 := (B4.cell (p := ⟨w.heap.size, 3, none⟩) (by exact hz1)).trans d3; have uq4 := (B4.cell (p := ⟨w.heap.size, 4, none⟩) (by exact hz1)).trans d4; have HB4 := Fk.hide B4; clear B4 b4)
      | (have hchk := HB2.out; clear hchk; go_at_call 132; refine (g1.out _ HB2.out).mono ?_; rintro e w3 ⟨rfl, b3⟩; have B3 : Below W1.heap.size W1 w3 := HB2.out.trans (b3.mono HB2.out.size); have tq0 := (B3.cell (p := ⟨w.heap.size, 0, none⟩) (by exact hz1)).trans d0; have tq1 := (B3.cell (p := ⟨w.heap.size, 1, none⟩) (by exact hz1)).trans d1; have tq2 := (B3.cell (p := ⟨w.heap.size, 2, none⟩) (by exact hz1)).trans d2; have tq3 := (B3.cell (p := ⟨w.heap.size, 3, none⟩) (by exact hz1)).trans d3; have tq4 := (B3.cell (p := ⟨w.heap.size, 4, none⟩) (by exact hz1)).trans d4; have HB3 := Fk.hide B3; clear B3 b3)
      | (go_at_call 131; refine (g0.out _).mono ?_; rintro e w2 ⟨rfl, b2⟩; have B2 : Below W1.heap.size W1 w2 := HB.out.trans b2; have sq0 := (B2.cell (p := ⟨w.heap.size, 0, none⟩) (by exact hz1)).trans d0; have sq1 := (B2.cell (p := ⟨w.heap.size, 1, none⟩) (by exact hz1)).trans d1; have sq2 := (B2.cell (p := ⟨w.heap.size, 2, none⟩) (by exact hz1)).trans d2; have sq3 := (B2.cell (p := ⟨w.heap.size, 3, none⟩) (by exact hz1)).trans d3; have sq4 := (B2.cell (p := ⟨w.heap.size, 4, none⟩) (by exact hz1)).trans d4; have HB2 := Fk.hide B2; clear B2 b2))
  obtain ⟨W6, hW6⟩ : ∃ W, W = w5.alloc (.cells #[.int .i64 1, .string p0, .int .i64 2, .string rB, .int .i64 3, .string rA, .int .i64 4, .string p3] 167) := ⟨_, rfl⟩
  have b6 : Below w5.heap.size w5 W6 := by rw [hW6]; exact (Below.refl _ _).alloc (Nat.le_refl _) _
  have O6 : Hid (Rk.View Fd.S W6 (.slice (some ⟨w5.heap.size, 0, none⟩) 4 4) (Sp.fields (decide (g = 2)) B A n s)) := by
    show Rk.View _ _ _ _
    rw [HE.out, hW6]
    exact (show Rk.Own Fd.S _ w5.heap.size 167 _ [(1, p0), (2, rB), (3, rA), (4, p3)] from World.ownsRow_lit w5 #[.int .i64 1, .string p0, .int .i64 2, .string rB, .int .i64 3, .string rA, .int .i64 4, .string p3] 4 (Nat.le_refl _) (by unfold maxLen; omega) rfl).view
  have B6 := Fk.hide (HB1.out.trans ((HB5.out.trans (b6.mono HB5.out.size)).mono HB1.out.size))
  have e0 : W6.cell? ⟨w.heap.size, 0, none⟩ = some (.int .i64 g) := (b6.cell (by show w.heap.size < w5.heap.size; have := HB5.out.size; omega)).trans vq0
  rw [← hW6]
  clear hW6 b6 hz1 sq0 sq1 sq2 sq3 sq4 tq0 tq1 tq2 tq3 tq4 uq0 uq1 uq2 uq3 uq4 vq0 vq1 vq2 vq3 vq4 d0 d1 d2 d3 d4
  obtain ⟨t7, ht7⟩ : ∃ t, t = Rc.bytes g (Sp.fields (decide (g = 2)) B A n s) := ⟨_, rfl⟩
  have HZ : Hid (t7.size ≤ maxLen) := by show _ ≤ _; rw [ht7]; exact Sp.bytes_size _ _
  have FB : Hid (∀ w', Rk.View Fd.S w' (.slice (some ⟨w5.heap.size, 0, none⟩) 4 4) (Sp.fields (decide (g = 2)) B A n s) → Calls Try.prog 134 #[.agg #[.int .i64 g, .slice (some ⟨w5.heap.size, 0, none⟩) 4 4]] w' fun e w'' => e = .returned (.string t7) ∧ Below w'.heap.size w' w'') := fun w' h => by rw [ht7]; exact recBytes_impl g _ _ w' h HFF.out (by rw [Sp.fields_length]; unfold maxLen; omega)
  have HT7 := Fk.hide ht7
  clear ht7
  have HD6 : Hid (Below W6.heap.size W6 W6.drew) := Below.drew (Below.refl _ _)
  go_wp2_with fail
  refine (FB.out _ O6.out).mono ?_
  rintro e w7 ⟨rfl, k7⟩
  have B7 := Fk.hide (B6.out.trans (k7.mono B6.out.size))
  clear k7
  go_wp2_with fail
  refine (implSeal_any _ _ HZ.out).mono ?_
  rintro e w8 ⟨rfl, k8⟩
  have B8 := Fk.hide (B7.out.trans (k8.mono B7.out.size))
  clear k8
  go_wp2_with fail
  go_ret
  exact ⟨by rw [← HT7.out]; rfl, B8.out⟩
end Go.Proofs.Ytjagohadeegghaa

namespace Go.Proofs.Ytjagohadeegghaa
open Go.RowKit
set_option linter.unusedVariables false
set_option linter.unusedSimpArgs false
set_option maxHeartbeats 1000000 in
theorem seqRight_any (s : Int) (w : World) :
    Calls Try.prog 97 #[.int .i64 s] w fun e w' => e = .returned (.bool (Sp.seqOk s)) ∧ Below w.heap.size w w' := by
  go_enter Try.func97, Try.ntmps97
  go_wp2_with (go_at_call 112; refine (within_any _ _ _ _).mono ?_; rintro e w' ⟨rfl, rfl⟩)
  go_ret
  exact ⟨rfl, Below.refl _ _⟩
end Go.Proofs.Ytjagohadeegghaa

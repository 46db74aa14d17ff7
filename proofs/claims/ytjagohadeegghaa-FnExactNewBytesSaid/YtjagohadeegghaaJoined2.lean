/- Plain mathematics of numbers as bytes: seven bits a byte, the lowest first. No Go here. The walks of PutNum, the program's and the specification's. The walk of the specification's PutNum: a slice that it appends to. -/
import Derived.Below
import Derived.Laws.BytesArg
import Derived.Test.YtjagohadeegghaaProg
import Derived.Test.YtjagohadeegghaaRows8
import Derived.WalkKit
import Derived.WalkSpells
import Derived.WalkLawsBesides
import Derived.Test.YtjagohadeegghaaCopy8
namespace Go.Proofs.Ytjagohadeegghaa
namespace Pn
/-- the sign folded in -/
def fold (n : Int) : Int := if n < 0 then 2 * (-(n + 1)) + 1 else 2 * n
/-- the bytes of a number from 0 on, with fuel -/
def encU : Nat → Nat → List Int
  | 0, u => [(u : Int)]
  | f + 1, u => if 128 ≤ u then ((u : Int) % 128 + 128) :: encU f (u / 128) else [(u : Int)]
/-- the bytes of a number of int64 -/
def putNum (n : Int) : ByteArray := strOfNums (encU 10 (fold n).toNat)

/-- what is left to be written, and what has been: the fuel suffices -/
def Left (u0 u f : Nat) (xs : List Int) : Prop := encU 10 u0 = xs ++ encU f u ∧ xs.length + f = 10 ∧ u < 128 ^ f

theorem fold_bd (n : Int) (h1 : -9223372036854775808 ≤ n) (h2 : n ≤ 9223372036854775807) : 0 ≤ fold n ∧ fold n ≤ 18446744073709551615 := by
  unfold fold; split <;> omega

theorem left_start (u : Nat) (h : u ≤ 18446744073709551615) : Left u u 10 [] := by
  refine ⟨rfl, rfl, ?_⟩
  have : (128 : Nat) ^ 10 = 1180591620717411303424 := by decide
  omega

theorem left_bd {u0 u f : Nat} {xs : List Int} (h : Left u0 u f xs) (h128 : 128 ≤ u) : 2 ≤ f := by
  obtain ⟨_, _, h3⟩ := h
  match f, h3 with
  | 0, h3 => simp at h3; omega
  | 1, h3 => simp at h3; omega
  | f + 2, _ => omega

theorem left_pos {u0 u f : Nat} {xs : List Int} (h : Left u0 u f xs) (h1 : 1 ≤ f) : xs.length ≤ 9 := by
  have := h.2.1; omega

theorem left_step {u0 u f : Nat} {xs : List Int} (h : Left u0 u f xs) (h128 : 128 ≤ u) : ∃ g, 1 ≤ g ∧ Left u0 (u / 128) g (xs ++ [(u : Int) % 128 + 128]) := by
  have hf := left_bd h h128
  obtain ⟨h1, h2, h3⟩ := h
  match f, hf, h1, h2, h3 with
  | f + 1, hf, h1, h2, h3 =>
    refine ⟨f, by omega, ?_, by simp; omega, ?_⟩
    · rw [h1, encU, if_pos h128]; simp
    · rw [Nat.pow_succ] at h3
      exact Nat.div_lt_of_lt_mul (by omega)

theorem left_last {u0 u f : Nat} {xs : List Int} (h : Left u0 u f xs) (hu : u < 128) : encU 10 u0 = xs ++ [(u : Int)] := by
  obtain ⟨h1, h2, h3⟩ := h
  rw [h1]
  match f with
  | 0 => rfl
  | f + 1 => rw [encU, if_neg (by omega)]

theorem enc_length (f u : Nat) : (encU f u).length ≤ f + 1 := by
  induction f generalizing u with
  | zero => simp [encU]
  | succ f ih =>
    rw [encU]; split
    · have := ih (u / 128); simp; omega
    · simp

theorem put_size (n : Int) : (putNum n).size ≤ 11 := by
  unfold putNum; rw [strOfNums_size]; exact enc_length 10 _

theorem take_set (ys xs : List Int) (k : Nat) (x : Int) (hk : k = xs.length) (hy : k < ys.length) (h : ys.take xs.length = xs) : (ys.set k x).take (k + 1) = xs ++ [x] := by
  subst hk
  rw [List.take_succ_eq_append_getElem (by simpa using hy), List.take_set_of_le (Nat.le_refl _), h]
  simp
end Pn
end Go.Proofs.Ytjagohadeegghaa

namespace Go.Proofs.Ytjagohadeegghaa
open Go.RowKit
set_option linter.unusedVariables false

theorem ret_u64 {a b : Int} (h : a = b) : Ending.returned (.int .u64 a) = .returned (.int .u64 b) := by rw [h]

set_option maxHeartbeats 400000 in
theorem foldSign_any (n : Int) (w : World) (h1 : -9223372036854775808 ≤ n) (h2 : n ≤ 9223372036854775807) :
    Calls Try.prog 165 #[.int .i64 n] w fun e w' => e = .returned (.int .u64 (Pn.fold n)) ∧ w' = w := by
  by_cases hn : 0 ≤ n
  all_goals
    go_enter Try.func165, Try.ntmps165
    go_wp2
    go_ret
    exact ⟨ret_u64 (by simp only [Pn.fold]; split <;> omega), rfl⟩

set_option maxHeartbeats 400000 in
theorem specFold_any (n : Int) (w : World) (h1 : -9223372036854775808 ≤ n) (h2 : n ≤ 9223372036854775807) :
    Calls Try.prog 163 #[.int .i64 n] w fun e w' => e = .returned (.int .u64 (Pn.fold n)) ∧ w' = w := by
  by_cases hn : n < 0
  all_goals
    go_enter Try.func163, Try.ntmps163
    go_wp2
    go_ret
    exact ⟨ret_u64 (by simp only [Pn.fold]; split <;> omega), rfl⟩

theorem un10 : Try.prog.underlying 194 = some (.array (Try.prog.arrayLen 194) (Try.prog.elem 194)) := by kernel_rfl
theorem len10 : Try.prog.arrayLen 194 = 10 := by kernel_rfl
theorem size10 (w : World) : (sizeOf (Try.prog.elem 194)).run Try.prog w = .ok 1 w := by kernel_rfl

theorem slice10 (b k : Nat) (hk : k ≤ 9) (w : World) :
    (Instr.sliceAt 194 (.pointer (some ⟨b, 0, none⟩)) none (some (.int .i64 ((k : Int) + 1))) none).run Try.prog w = .ok (.slice (some ⟨b, 0, none⟩) (k + 1) 10) w := by
  rw [run_sliceAt_array_h w _ _ un10 .i64 _ (by omega) (by rw [len10]; omega), size10]
  have e : ((k : Int) + 1).toNat = k + 1 := by omega
  simp [Result.andThen, slicedAt, len10, e, Addr.add]

set_option maxHeartbeats 1000000 in
theorem implPut_any (n : Int) (w : World) (h1 : -9223372036854775808 ≤ n) (h2 : n ≤ 9223372036854775807) :
    Calls Try.prog 131 #[.int .i64 n] w fun e w' => e = .returned (.string (Pn.putNum n)) ∧ Below w.heap.size w w' := by
  have hb := Pn.fold_bd n h1 h2
  obtain ⟨u0, hu0⟩ := Int.eq_ofNat_of_zero_le hb.1
  have HU : Hid (Pn.putNum n = strOfNums (Pn.encU 10 u0)) := by show Pn.putNum n = _; rw [Pn.putNum, hu0]; rfl
  have hu1 : u0 ≤ 18446744073709551615 := by omega
  have HF : Hid (Pn.fold n = (u0 : Int)) := hu0
  clear hu0 hb
  go_enter Try.func131, Try.ntmps131
  go_wp2_with fail
  refine (foldSign_any n _ h1 h2).mono ?_
  rintro e w' ⟨rfl, rfl⟩
  rw [HF.out]
  go_wp2_with fail
  go_loopw [4, 5] (fun u l wr => ∃ (v f : Nat) (xs ys : List Int), u = .int .u64 v ∧ l = .int .i64 xs.length ∧ (v : Int) ≤ 18446744073709551615 ∧ xs.length ≤ 9 ∧ Hid (1 ≤ f ∧ Pn.Left u0 v f xs) ∧
      Hid (Row8 wr w.heap.size ys ∧ ys.length = 10 ∧ ys.take xs.length = xs) ∧ Hid (Below w.heap.size w wr)) (fun u _ _ => (intOf u).toNat)
  case atStart =>
    refine ⟨u0, 10, [], List.replicate 10 0, rfl, rfl, by omega, by simp, ⟨by omega, Pn.left_start u0 hu1⟩, ⟨row8_new _ _ _, by simp, by simp⟩, ?_⟩
    exact (Below.refl _ _).alloc (Nat.le_refl _) _
  case round =>
    obtain ⟨v, f, xs, ys, rfl, rfl, hv, hx, HL, HR, HB⟩ := hrel
    obtain ⟨k, hk⟩ : ∃ k, k = xs.length := ⟨_, rfl⟩
    rw [← hk] at hx ⊢
    have HK : Hid (k = xs.length) := hk
    clear hk
    have hc := HR.out.1.1 k (by have := HR.out.2.1; omega)
    have hz := HR.out.1.2 k
    by_cases h128 : (128 : Int) ≤ v
    · go_wp2
      go_roundw
      case rel =>
        obtain ⟨g, hg, hL⟩ := Pn.left_step HL.out.2 (by omega)
        have hk := HK.out
        refine ⟨v / 128, g, xs ++ [(v : Int) % 128 + 128], ys.set k ((v : Int) % 128 + 128), by go_num, by simp [hk], by omega, Pn.left_pos hL hg, ⟨hg, hL⟩, ⟨row8_set HR.out.1 k _ (by have := HR.out.2.1; omega), by simpa using HR.out.2.1, ?_⟩, HB.out.setCell (Nat.le_refl _) _⟩
        rw [List.length_append, ← hk]
        exact Pn.take_set ys xs k _ hk (by have := HR.out.2.1; omega) HR.out.2.2
      case measure => simp [intOf]; omega
    · have hR := row8_set HR.out.1 k (v : Int) (by have := HR.out.2.1; omega)
      have ht := row8_text (P := Try.prog) hR 189 9 5 Try.underlying189 Try.underlying5 Try.underlying9 (k + 1) 10 (by have := HR.out.2.1; simp; omega)
      have hsl := fun W => slice10 w.heap.size k hx W
      have HT : Hid (Pn.putNum n = strOfNums ((ys.set k (v : Int)).take (k + 1))) := by
        show Pn.putNum n = _
        rw [HU.out, Pn.left_last HL.out.2 (by omega), Pn.take_set ys xs k _ HK.out (by have := HR.out.2.1; omega) HR.out.2.2]
      have HE : Hid (Below w.heap.size w (wr.setCell ⟨w.heap.size, k, none⟩ (.int .u8 (v : Int)))) := HB.out.setCell (Nat.le_refl _) _
      clear hR
      go_wp2
      go_ret
      exact ⟨by rw [HT.out]; rfl, HE.out⟩
end Go.Proofs.Ytjagohadeegghaa

namespace Go.Proofs.Ytjagohadeegghaa
open Go.RowKit
set_option linter.unusedVariables false

theorem own8_new (w : World) (e : TypeId) : (w.alloc (.cells #[] e)).ownsRow w.heap.size e 1 (.slice (some ⟨w.heap.size, 0, none⟩) 0 0) 0 [] := by
  refine ⟨rfl, .inr ⟨w.heap.size, 0, #[], rfl, Nat.le_refl _, ?_, Nat.le_refl _, Nat.zero_le _, rfl, rfl⟩⟩
  exact (MapKept.heap_alloc w _).1

/-- behind an append the row is still the call's own, and what was there is as it was -/
theorem own8_step {w wr w1 : World} {B : Nat} {e : TypeId} {v : Value} {k : Nat} {xs : List Value} {o : Obj} (hB : B ≤ wr.heap.size) (hb : Below B w wr) (hown : wr.ownsRow B e 1 v k xs) (hg : (wr.alloc o).grownBy w1 v.ownBlock) : Below B w w1 ∧ B ≤ w1.heap.size := by
  have h1 : Below B w (wr.alloc o) := hb.alloc hB o
  have h2 : Below B w w1 := h1.grown hg (by simp; omega) (fun j hj => by
    obtain ⟨_, h⟩ := hown
    rcases h with ⟨rfl, _⟩ | ⟨g, cap, cur, rfl, hg, _⟩
    · simp [Value.ownBlock] at hj
    · simp [Value.ownBlock] at hj; omega)
  exact ⟨h2, Nat.le_trans (by simp; omega) hg.size⟩

set_option maxHeartbeats 1000000 in
theorem specPut_any (n : Int) (w : World) (h1 : -9223372036854775808 ≤ n) (h2 : n ≤ 9223372036854775807) :
    Calls Try.prog 129 #[.int .i64 n] w fun e w' => e = .returned (.string (Pn.putNum n)) ∧ Below w.heap.size w w' := by
  have hb := Pn.fold_bd n h1 h2
  obtain ⟨u0, hu0⟩ := Int.eq_ofNat_of_zero_le hb.1
  have HU : Hid (Pn.putNum n = strOfNums (Pn.encU 10 u0)) := by show Pn.putNum n = _; rw [Pn.putNum, hu0]; rfl
  have hu1 : u0 ≤ 18446744073709551615 := by omega
  have HF : Hid (Pn.fold n = (u0 : Int)) := hu0
  clear hu0 hb
  obtain ⟨i0, hi, hz0, hz1, hz2⟩ := info_parts Try.infoU8
  go_enter Try.func129, Try.ntmps129
  go_wp2_with fail
  refine (specFold_any n _ h1 h2).mono ?_
  rintro e w' ⟨rfl, hw⟩
  obtain rfl := hw.symm
  rw [HF.out]
  go_wp2_with fail
  go_loopw [3, 4] (fun u l wr => ∃ (v f : Nat) (xs : List Int), u = .int .u64 v ∧ (v : Int) ≤ 18446744073709551615 ∧ xs.length ≤ 9 ∧ Hid (1 ≤ f ∧ Pn.Left u0 v f xs) ∧
      Hid (wr.ownsRow w.heap.size 5 1 l xs.length (xs.map (Value.int .u8))) ∧ Hid (Below w.heap.size w wr ∧ w.heap.size ≤ wr.heap.size)) (fun u _ _ => (intOf u).toNat)
  case atStart =>
    refine ⟨u0, 10, [], rfl, by omega, by simp, ⟨by omega, Pn.left_start u0 hu1⟩, own8_new _ _, (Below.refl _ _).alloc (Nat.le_refl _) _, by simp⟩
  case round =>
    obtain ⟨v, f, xs, rfl, hv, hx, HL, HR, HB⟩ := hrel
    have hown := HR.out
    by_cases h128 : (128 : Int) ≤ v
    · go_wp2_with (at_builtin; refine wpList_append_own _ rfl _ _ 189 rfl w.heap.size 5 i0 (.int .u8 0) 1 1 Try.underlying189 hi hz0 hz1 hz2 rfl (by decide) _ _ _ rfl (hown.alloc _) ⟨wr.heap.size, 0, none⟩ 1 1 [.int .u8 ((v : Int) % 128 + 128)] rfl rfl ?c1 ?c2 ?c3 ?c4 ?c5 ?_)
      try (case c1 => exact cell_one_new _ _ _)
      case c2 => first | rfl | (intro u hu; simp at hu; subst hu; rfl)
      case c3 => unfold maxLen; omega
      case c4 => omega
      case c5 => have := HB.out.2; simp; omega
      · intro v' w1 hown' hgrow _
        have HO : Hid (w1.ownsRow w.heap.size 5 1 v' (xs ++ [(v : Int) % 128 + 128]).length ((xs ++ [(v : Int) % 128 + 128]).map (Value.int .u8))) := by show w1.ownsRow _ _ _ _ _ _; simpa using hown'
        have HE : Hid (Below w.heap.size w w1 ∧ w.heap.size ≤ w1.heap.size) := own8_step HB.out.2 HB.out.1 hown hgrow
        clear hown' hgrow hown
        go_wp2
        go_roundw
        case rel =>
          obtain ⟨g, hg, hL⟩ := Pn.left_step HL.out.2 (by omega)
          exact ⟨v / 128, g, xs ++ [(v : Int) % 128 + 128], by go_num, by omega, Pn.left_pos hL hg, ⟨hg, hL⟩, HO, HE⟩
        case measure => simp [intOf]; omega
    · go_wp2_with (at_builtin; refine wpList_append_own _ rfl _ _ 189 rfl w.heap.size 5 i0 (.int .u8 0) 1 1 Try.underlying189 hi hz0 hz1 hz2 rfl (by decide) _ _ _ rfl (hown.alloc _) ⟨wr.heap.size, 0, none⟩ 1 1 [.int .u8 (v : Int)] rfl rfl ?d1 ?d2 ?d3 ?d4 ?d5 ?_)
      try (case d1 => exact cell_one_new _ _ _)
      case d2 => first | rfl | (intro u hu; simp at hu; subst hu; rfl)
      case d3 => unfold maxLen; omega
      case d4 => omega
      case d5 => have := HB.out.2; simp; omega
      · intro v' w1 hown' hgrow _
        have ho : w1.ownsRow w.heap.size 5 1 v' (xs.length + 1) ((xs ++ [(v : Int)]).map (Value.int .u8)) := by simpa using hown'
        have ht := own8_text (P := Try.prog) ho 189 9 Try.underlying189 Try.underlying5 Try.underlying9
        have HE : Hid (Below w.heap.size w w1 ∧ w.heap.size ≤ w1.heap.size) := own8_step HB.out.2 HB.out.1 hown hgrow
        have HT : Hid (Pn.putNum n = strOfNums (xs ++ [(v : Int)])) := by
          show Pn.putNum n = _
          rw [HU.out, Pn.left_last HL.out.2 (by omega)]
        clear hown' hgrow hown ho
        go_wp2
        go_ret
        exact ⟨by rw [HT.out]; rfl, HE.out.1⟩
end Go.Proofs.Ytjagohadeegghaa

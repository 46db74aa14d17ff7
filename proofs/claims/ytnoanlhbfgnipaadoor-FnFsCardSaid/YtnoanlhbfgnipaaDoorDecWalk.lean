/- The walk of the specification's digits of a number that is not below nought. -/
import Derived.Test.YtnoanlhbfgnipaaDoorJoined7
import Derived.Test.YtnoanlhbfgnipaaDoorFsKit
namespace Go.Proofs.YtnoanlhbfgnipaaDoor
open Go.RowKit
set_option linter.unusedVariables false
set_option linter.unusedSimpArgs false
namespace Dk
/-- the digits of a number above nought, as bytes -/
def dec10 (n : Nat) : List Int := if h : n = 0 then [] else dec10 (n / 10) ++ [48 + ((n % 10 : Nat) : Int)]
termination_by n
decreasing_by omega
theorem dec10_zero : dec10 0 = [] := by rw [dec10]; simp
theorem dec10_pos {n : Nat} (h : n ≠ 0) : dec10 n = dec10 (n / 10) ++ [48 + ((n % 10 : Nat) : Int)] := by rw [dec10]; simp [h]
theorem dec10_len : ∀ (k n : Nat), n < 10 ^ k → (dec10 n).length ≤ k
  | 0, n, h => by
    obtain rfl : n = 0 := by simpa using h
    simp [dec10_zero]
  | k + 1, n, h => by
    by_cases hn : n = 0
    · subst hn; simp [dec10_zero]
    · rw [dec10_pos hn, List.length_append]
      have := dec10_len k (n / 10) (by rw [Nat.pow_succ] at h; omega)
      simp only [List.length_cons, List.length_nil]
      omega
/-- a number's text -/
def decS (n : Nat) : ByteArray := if n = 0 then ⟨#[48]⟩ else strOfNums (dec10 n)
theorem decS_len {k n : Nat} (hk : 1 ≤ k) (h : n < 10 ^ k) : (decS n).size ≤ k := by
  unfold decS
  split
  · exact hk
  · have := dec10_len k n h
    show (strOfNums _).data.size ≤ k
    simpa [strOfNums] using this
end Dk

theorem conv_one (W : World) (x : Int) : (convert 22 9 (.slice (some ⟨W.heap.size, 0, none⟩) 1 1)).run Tryd.prog (W.alloc (.cells #[.int .u8 x] 5)) = .ok (.string (strOfNums [x])) (W.alloc (.cells #[.int .u8 x] 5)) :=
  run_convert_bytes_arg _ 22 5 Tryd.underlying22 Tryd.underlying5 _ 0 1 1 [x] rfl (fun i hi => by
    obtain rfl : i = 0 := by omega
    rw [Fk.cellTop _ _ _ _ _ rfl]; rfl) 9 Tryd.underlying9

set_option maxHeartbeats 2000000 in
theorem l01Dec_any (n : Nat) (w : World) (hn : n < 1000000000000000000) :
    Calls Tryd.prog 136 #[.int .i64 n] w fun e w' => e = .returned (.string (Dk.decS n)) ∧ Below w.heap.size w w' := by
  by_cases h0 : n = 0
  · subst h0
    go_enter Tryd.func136, Tryd.ntmps136
    go_wp2_with fail
    go_ret
    exact ⟨rfl, Below.refl _ _⟩
  · have z0 : ((n : Int) == 0) = false := by simpa using h0
    have z1 : ¬ (n : Int) < 0 := by omega
    have HB0 := Fk.hide (Below.refl w.heap.size w)
    have HD : Hid (Dk.decS n = strOfNums (Dk.dec10 n)) := by show _ = _; simp [Dk.decS, h0]
    go_enter Tryd.func136, Tryd.ntmps136
    go_wp2_with fail
    clear z0
    go_loopw [0, 4] (fun i o wr => ∃ (v : Nat) (xs : List Int), i = .int .i64 v ∧ o = .string (strOfNums xs) ∧ v < 1000000000000000000 ∧ Hid (Dk.dec10 n = Dk.dec10 v ++ xs) ∧ Hid (Below w.heap.size w wr ∧ w.heap.size ≤ wr.heap.size)) (fun i _ _ => (intOf i).toNat)
    case atStart => exact ⟨n, [], rfl, rfl, hn, by show _ = _; simp, HB0.out, Nat.le_refl _⟩
    case round =>
      obtain ⟨v, xs, rfl, rfl, hv, HX, HB⟩ := hrel
      by_cases hv0 : v = 0
      · subst hv0
        have HE : Hid (Dk.dec10 n = xs) := by show _ = _; rw [HX.out, Dk.dec10_zero]; rfl
        go_wp2_with fail
        go_ret
        exact ⟨by rw [HD.out, HE.out]; rfl, HB.out.1⟩
      · have y0 : ((v : Int) == 0) = false := by simpa using hv0
        have y1 : ¬ (v : Int) % 10 < 0 := by omega
        have y2 : (v : Int) % 10 < 10 := by omega
        have hc := fun x => conv_one wr x
        have hx : (strOfNums xs).size ≤ 18 := by
          have h1 := Dk.dec10_len 18 n (by simpa using hn)
          rw [HX.out, List.length_append] at h1
          show (strOfNums _).data.size ≤ 18
          simp [strOfNums]
          omega
        have hx1 : ∀ x, (strOfNums [x]).size = 1 := fun _ => rfl
        have HJ : Hid (strOfNums [48 + (v : Int) % 10] ++ strOfNums xs = strOfNums ((48 + ((v % 10 : Nat) : Int)) :: xs)) := by show _ = _; rw [← str_append]; simp
        have HN : Hid (Dk.dec10 n = Dk.dec10 (v / 10) ++ ((48 + ((v % 10 : Nat) : Int)) :: xs)) := by show _ = _; rw [HX.out, Dk.dec10_pos hv0]; simp
        have HC : Hid (∀ o, Below w.heap.size w (wr.alloc o)) := fun o => HB.out.1.alloc HB.out.2 o
        go_wp2_with fail
        go_roundw
        case rel => exact ⟨v / 10, (48 + ((v % 10 : Nat) : Int)) :: xs, by go_num, by rw [HJ.out], by omega, HN.out, HC.out _, by have := HB.out.2; simp; omega⟩
        case measure => simp [intOf]; omega

theorem l01Dec_int (n : Int) (w : World) (h0 : 0 ≤ n) (h1 : n < 1000000000000000000) :
    Calls Tryd.prog 136 #[.int .i64 n] w fun e w' => e = .returned (.string (Dk.decS n.toNat)) ∧ Below w.heap.size w w' := by
  obtain ⟨m, rfl⟩ := Int.eq_ofNat_of_zero_le h0
  exact l01Dec_any m w (by omega)
end Go.Proofs.YtnoanlhbfgnipaaDoor

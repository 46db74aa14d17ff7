/- Plain mathematics of numbers as bytes: seven bits a byte, the lowest first. No Go here. -/
import Derived.Below
import Derived.Laws.BytesArg
namespace Go.Proofs.YtfefafmcaepoiaaGreatDoor
namespace Pn
/-- the sign folded in -/
def fold (n : Int) : Int := if n < 0 then 2 * (-(n + 1)) + 1 else 2 * n
/-- the bytes of a number from 0 on, with fuel -/
def encU : Nat → Nat → List Int
  | 0, u => [(u : Int)]
  | f + 1, u => if 128 ≤ u then ((u : Int) % 128 + 128) :: encU f (u / 128) else [(u : Int)]
/-- the bytes of a number of int64 -/
def putNum (n : Int) : ByteArray := strOfNums (encU 10 (fold n).toNat)

/-- what is left to be written, and what has been: the fuel suffices -/
def Left (u0 u f : Nat) (xs : List Int) : Prop := encU 10 u0 = xs ++ encU f u ∧ xs.length + f = 10 ∧ u < 128 ^ f

theorem fold_bd (n : Int) (h1 : -9223372036854775808 ≤ n) (h2 : n ≤ 9223372036854775807) : 0 ≤ fold n ∧ fold n ≤ 18446744073709551615 := by
  unfold fold; split <;> omega

theorem left_start (u : Nat) (h : u ≤ 18446744073709551615) : Left u u 10 [] := by
  refine ⟨rfl, rfl, ?_⟩
  have : (128 : Nat) ^ 10 = 1180591620717411303424 := by decide
  omega

theorem left_bd {u0 u f : Nat} {xs : List Int} (h : Left u0 u f xs) (h128 : 128 ≤ u) : 2 ≤ f := by
  obtain ⟨_, _, h3⟩ := h
  match f, h3 with
  | 0, h3 => simp at h3; omega
  | 1, h3 => simp at h3; omega
  | f + 2, _ => omega

theorem left_pos {u0 u f : Nat} {xs : List Int} (h : Left u0 u f xs) (h1 : 1 ≤ f) : xs.length ≤ 9 := by
  have := h.2.1; omega

theorem left_step {u0 u f : Nat} {xs : List Int} (h : Left u0 u f xs) (h128 : 128 ≤ u) : ∃ g, 1 ≤ g ∧ Left u0 (u / 128) g (xs ++ [(u : Int) % 128 + 128]) := by
  have hf := left_bd h h128
  obtain ⟨h1, h2, h3⟩ := h
  match f, hf, h1, h2, h3 with
  | f + 1, hf, h1, h2, h3 =>
    refine ⟨f, by omega, ?_, by simp; omega, ?_⟩
    · rw [h1, encU, if_pos h128]; simp
    · rw [Nat.pow_succ] at h3
      exact Nat.div_lt_of_lt_mul (by omega)

theorem left_last {u0 u f : Nat} {xs : List Int} (h : Left u0 u f xs) (hu : u < 128) : encU 10 u0 = xs ++ [(u : Int)] := by
  obtain ⟨h1, h2, h3⟩ := h
  rw [h1]
  match f with
  | 0 => rfl
  | f + 1 => rw [encU, if_neg (by omega)]

theorem enc_length (f u : Nat) : (encU f u).length ≤ f + 1 := by
  induction f generalizing u with
  | zero => simp [encU]
  | succ f ih =>
    rw [encU]; split
    · have := ih (u / 128); simp; omega
    · simp

theorem put_size (n : Int) : (putNum n).size ≤ 11 := by
  unfold putNum; rw [strOfNums_size]; exact enc_length 10 _

theorem take_set (ys xs : List Int) (k : Nat) (x : Int) (hk : k = xs.length) (hy : k < ys.length) (h : ys.take xs.length = xs) : (ys.set k x).take (k + 1) = xs ++ [x] := by
  subst hk
  rw [List.take_succ_eq_append_getElem (by simpa using hy), List.take_set_of_le (Nat.le_refl _), h]
  simp
end Pn
end Go.Proofs.YtfefafmcaepoiaaGreatDoor

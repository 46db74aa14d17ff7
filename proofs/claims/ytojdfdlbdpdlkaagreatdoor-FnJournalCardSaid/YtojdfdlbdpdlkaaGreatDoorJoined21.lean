/- Plain mathematics of reading a number: seven bits a byte, the lowest first, at most ten bytes. No Go here. Plain mathematics: what was read lies in the text, and fits in 64 bits; a text with its length ahead of it. No Go here. An error of bytes, by its code. The walk of the comparison of two answers with a text. A scope in which the run jumps to several labels: what holds at each jump, and a measure that every pass from a label lowers. After the library's law for one label. -/
import Derived.WalkKit
import Derived.Laws.BitsAllLaws
import Derived.Test.YtojdfdlbdpdlkaaGreatDoorProg
import Derived.WalkSpells
import Derived.WalkLawsBesides
import Derived.Scope
import Derived.WalkMore
namespace Go.Proofs.YtojdfdlbdpdlkaaGreatDoor
namespace Dc
/-- code, number, how many bytes: the next i-th byte on, u so far, f bytes of fuel -/
def dec : Nat → Nat → Nat → List UInt8 → Int × Nat × Nat
  | 0, _, _, _ => (3, 0, 0)
  | _ + 1, _, _, [] => (4, 0, 0)
  | f + 1, i, u, c :: r =>
    if i = 9 ∧ 1 < c.toNat then (3, 0, 0)
    else if c.toNat < 128 then (if c.toNat = 0 ∧ 0 < i then (3, 0, 0) else (0, u + c.toNat % 128 * 2 ^ (7 * i), i + 1))
    else dec f (i + 1) (u + c.toNat % 128 * 2 ^ (7 * i)) r

/-- the sign taken out again -/
def unfold (u : Nat) : Int := if u % 2 = 0 then (u / 2 : Int) else -(u / 2 : Int) - 1

/-- what is read at place p: number, place behind it, code -/
def getNum (s : ByteArray) (p : Int) : Int × Int × Int :=
  if 8000 < s.size then (0, 0, 2) else if p < 0 then (0, 0, 1)
  else if (dec 10 0 0 (s.data.toList.drop p.toNat)).1 = 0 then (unfold (dec 10 0 0 (s.data.toList.drop p.toNat)).2.1, p + ((dec 10 0 0 (s.data.toList.drop p.toNat)).2.2 : Int), 0)
  else (0, 0, (dec 10 0 0 (s.data.toList.drop p.toNat)).1)

theorem dec_end (f i u : Nat) : dec (f + 1) i u [] = (4, 0, 0) := rfl
theorem dec_ten (f u : Nat) (c : UInt8) (r : List UInt8) (h : 1 < c.toNat) : dec (f + 1) 9 u (c :: r) = (3, 0, 0) := by
  rw [dec, if_pos ⟨rfl, h⟩]
theorem dec_last (f i u : Nat) (c : UInt8) (r : List UInt8) (h9 : ¬ (i = 9 ∧ 1 < c.toNat)) (hc : c.toNat < 128) :
    dec (f + 1) i u (c :: r) = if c.toNat = 0 ∧ 0 < i then (3, 0, 0) else (0, u + c.toNat % 128 * 2 ^ (7 * i), i + 1) := by
  rw [dec, if_neg h9, if_pos hc]
theorem dec_more (f i u : Nat) (c : UInt8) (r : List UInt8) (h9 : ¬ (i = 9 ∧ 1 < c.toNat)) (hc : ¬ c.toNat < 128) :
    dec (f + 1) i u (c :: r) = dec f (i + 1) (u + c.toNat % 128 * 2 ^ (7 * i)) r := by
  rw [dec, if_neg h9, if_neg hc]

theorem drop_get (s : ByteArray) (k : Nat) (h : k < s.size) : s.data.toList.drop k = s[k] :: s.data.toList.drop (k + 1) := by
  rw [List.drop_eq_getElem_cons (by simpa using h)]; rfl
theorem drop_none (s : ByteArray) (k : Nat) (h : s.size ≤ k) : s.data.toList.drop k = [] := List.drop_of_length_le (by simpa using h)

/-- what is added stays below the next power -/
theorem add_lt (i u c : Nat) (hu : u < 2 ^ (7 * i)) : u + c % 128 * 2 ^ (7 * i) < 2 ^ (7 * (i + 1)) := by
  have h1 : c % 128 + 1 ≤ 128 := by omega
  have h2 : (c % 128 + 1) * 2 ^ (7 * i) ≤ 128 * 2 ^ (7 * i) := Nat.mul_le_mul_right _ h1
  have h3 : 2 ^ (7 * (i + 1)) = 128 * 2 ^ (7 * i) := by rw [show 7 * (i + 1) = 7 * i + 7 by omega, Nat.pow_add]; omega
  rw [h3]
  rw [Nat.add_mul, Nat.one_mul] at h2
  omega

theorem pow_le (i : Nat) (h : i ≤ 8) : 2 ^ (7 * (i + 1)) ≤ 9223372036854775808 := by
  have : 2 ^ (7 * (i + 1)) ≤ 2 ^ 63 := Nat.pow_le_pow_right (by omega) (by omega)
  simpa using this

/-- within 64 bits: below the tenth byte, and at it where it is at most 1 -/
theorem add_bd (i u c : Nat) (hi : i ≤ 9) (hu : u < 2 ^ (7 * i)) (h9 : ¬ (i = 9 ∧ 1 < c)) : u + c % 128 * 2 ^ (7 * i) < 18446744073709551616 := by
  by_cases h : i = 9
  · subst h
    have hc : c ≤ 1 := by omega
    have e : (2 : Nat) ^ (7 * 9) = 9223372036854775808 := by decide
    rw [e] at hu ⊢
    have : c % 128 ≤ 1 := by omega
    have : c % 128 * 9223372036854775808 ≤ 1 * 9223372036854775808 := Nat.mul_le_mul_right _ this
    omega
  · have := add_lt i u c hu
    have := pow_le i (by omega)
    omega

theorem or_add (i u x : Nat) (hu : u < 2 ^ i) : u ||| x * 2 ^ i = u + x * 2 ^ i := by
  rw [Nat.or_comm, nat_join i (x * 2 ^ i) u (by simp) hu, Nat.add_comm]

theorem unfold_bd (u : Nat) (h : u < 18446744073709551616) : -9223372036854775808 ≤ unfold u ∧ unfold u ≤ 9223372036854775807 := by
  unfold unfold; split <;> omega

theorem get_err (s : ByteArray) (p : Int) (c : Int) (hs : s.size ≤ 8000) (h0 : 0 ≤ p) (hc : c ≠ 0) (h : dec 10 0 0 (s.data.toList.drop p.toNat) = (c, 0, 0)) : getNum s p = (0, 0, c) ∧ c ≠ 0 := by
  refine ⟨?_, hc⟩
  rw [getNum, if_neg (by omega), if_neg (by omega), h]
  simp [hc]
theorem get_ok (s : ByteArray) (p : Int) (u k : Nat) (hs : s.size ≤ 8000) (h0 : 0 ≤ p) (h : dec 10 0 0 (s.data.toList.drop p.toNat) = (0, u, k)) : getNum s p = (unfold u, p + (k : Int), 0) := by
  rw [getNum, if_neg (by omega), if_neg (by omega), h]
  simp
theorem get_big (s : ByteArray) (p : Int) (hs : 8000 < s.size) : getNum s p = (0, 0, 2) := by rw [getNum, if_pos hs]
theorem get_neg (s : ByteArray) (p : Int) (hs : s.size ≤ 8000) (h : p < 0) : getNum s p = (0, 0, 1) := by rw [getNum, if_neg (by omega), if_pos h]

/-- what stands at the i-th byte -/
theorem at_end (s : ByteArray) (p : Int) (i u : Nat) (hi : i ≤ 9) (h0 : 0 ≤ p) (hlen : (s.size : Int) ≤ p + (i : Int)) (h : dec 10 0 0 (s.data.toList.drop p.toNat) = dec (10 - i) i u (s.data.toList.drop (p.toNat + i))) :
    dec 10 0 0 (s.data.toList.drop p.toNat) = (4, 0, 0) := by
  rw [h, drop_none s _ (by omega), show 10 - i = (9 - i) + 1 by omega, dec_end]
theorem at_byte (s : ByteArray) (p : Int) (i u q : Nat) (hi : i ≤ 9) (h0 : 0 ≤ p) (hq : p + (i : Int) = q) (hq1 : q < s.size) (h : dec 10 0 0 (s.data.toList.drop p.toNat) = dec (10 - i) i u (s.data.toList.drop (p.toNat + i))) :
    dec 10 0 0 (s.data.toList.drop p.toNat) = dec ((9 - i) + 1) i u (s[q] :: s.data.toList.drop (q + 1)) := by
  have e : p.toNat + i = q := by omega
  rw [h, show 10 - i = (9 - i) + 1 by omega, ← drop_get s q hq1]
  simp only [e]

theorem or_val (i u c : Nat) (hi : i ≤ 9) (hu : u < 2 ^ (7 * i)) (h9 : ¬ (i = 9 ∧ 1 < c)) :
    bits .or .u64 (u : Int) (IntKind.u64.wrap ((c : Int) % 128 * 2 ^ (7 * i))) = ((u + c % 128 * 2 ^ (7 * i) : Nat) : Int) := by
  have hb := add_bd i u c hi hu h9
  have e : IntKind.u64.wrap ((c : Int) % 128 * 2 ^ (7 * i)) = ((c % 128 * 2 ^ (7 * i) : Nat) : Int) := by
    rw [IntKind.wrap_u64]
    have : (c : Int) % 128 * 2 ^ (7 * i) = ((c % 128 * 2 ^ (7 * i) : Nat) : Int) := by simp
    rw [this]
    omega
  rw [e, u64_or_nat _ _ (by omega) (by omega), or_add _ _ _ hu]
theorem shl_val (i u c : Nat) (hi : i ≤ 9) (hu : u < 2 ^ (7 * i)) (h9 : ¬ (i = 9 ∧ 1 < c)) : IntKind.u64.wrap ((c : Int) % 128 * 2 ^ (7 * i)) = ((c % 128 * 2 ^ (7 * i) : Nat) : Int) := by
  have hb := add_bd i u c hi hu h9
  rw [IntKind.wrap_u64]
  have : (c : Int) % 128 * 2 ^ (7 * i) = ((c % 128 * 2 ^ (7 * i) : Nat) : Int) := by simp
  rw [this]
  omega

theorem or_zero (c : Nat) : bits .or .u64 0 ((c : Int) % 128) = ((c % 128 : Nat) : Int) := by
  rw [show (0 : Int) = ((0 : Nat) : Int) from rfl, show (c : Int) % 128 = ((c % 128 : Nat) : Int) from by omega, u64_or_nat _ _ (by omega) (by omega), Nat.zero_or]
end Dc
end Go.Proofs.YtojdfdlbdpdlkaaGreatDoor

namespace Go.Proofs.YtojdfdlbdpdlkaaGreatDoor
namespace Dc
theorem dec_bd : ∀ (f i u : Nat) (l : List UInt8) (v k : Nat), i + f = 10 → u < 2 ^ (7 * i) → dec f i u l = (0, v, k) → i < k ∧ k ≤ i + l.length ∧ v < 18446744073709551616
  | 0, i, u, l, v, k, _, _, h => by simp [dec] at h
  | f + 1, i, u, [], v, k, _, _, h => by simp [dec] at h
  | f + 1, i, u, c :: r, v, k, hf, hu, h => by
    by_cases h9 : i = 9 ∧ 1 < c.toNat
    · rw [dec, if_pos h9] at h; simp at h
    · by_cases hc : c.toNat < 128
      · rw [dec_last f i u c r h9 hc] at h
        by_cases hz : c.toNat = 0 ∧ 0 < i
        · rw [if_pos hz] at h; simp at h
        · rw [if_neg hz] at h
          have hb := add_bd i u c.toNat (by omega) hu h9
          simp at h
          obtain ⟨rfl, rfl⟩ := h
          exact ⟨by omega, by simp, hb⟩
      · rw [dec_more f i u c r h9 hc] at h
        have := dec_bd f (i + 1) _ r v k (by omega) (add_lt i u c.toNat hu) h
        exact ⟨by omega, by simp; omega, this.2.2⟩

theorem get_bd (s : ByteArray) (p n x : Int) (h : getNum s p = (n, x, 0)) : s.size ≤ 8000 ∧ 0 ≤ p ∧ 0 < x ∧ x ≤ s.size ∧ -9223372036854775808 ≤ n ∧ n ≤ 9223372036854775807 := by
  unfold getNum at h
  split at h
  · simp at h
  · split at h
    · simp at h
    · rename_i h1 h2
      obtain ⟨⟨c, v, k⟩, hd⟩ : ∃ r, r = dec 10 0 0 (s.data.toList.drop p.toNat) := ⟨_, rfl⟩
      rw [← hd] at h
      split at h
      · rename_i h3
        have hc : c = 0 := h3
        subst hc
        have hb := dec_bd 10 0 0 _ v k rfl (by decide) hd.symm
        have hu := unfold_bd v hb.2.2
        simp at h
        have hl : (s.data.toList.drop p.toNat).length = s.size - p.toNat := by simp
        obtain ⟨rfl, rfl⟩ := h
        omega
      · rename_i h3
        exact absurd (by have := congrArg (fun r : Int × Int × Int => r.2.2) h; simpa using this) h3

/-- a text read at a place: the text, the place behind it, the code -/
def getText (s : ByteArray) (p : Int) : ByteArray × Int × Int :=
  if (getNum s p).2.2 ≠ 0 then (ByteArray.empty, 0, (getNum s p).2.2)
  else if (getNum s p).1 < 0 ∨ 8000 < (getNum s p).1 then (ByteArray.empty, 0, 3)
  else if (s.size : Int) - (getNum s p).2.1 < (getNum s p).1 then (ByteArray.empty, 0, 4)
  else (s.extract (getNum s p).2.1.toNat ((getNum s p).2.1 + (getNum s p).1).toNat, (getNum s p).2.1 + (getNum s p).1, 0)

theorem text_code {s : ByteArray} {p n x c : Int} (h : getNum s p = (n, x, c)) (hc : c ≠ 0) : getText s p = (ByteArray.empty, 0, c) := by
  rw [getText, h, if_pos hc]
theorem text_size {s : ByteArray} {p n x : Int} (h : getNum s p = (n, x, 0)) (hn : n < 0 ∨ 8000 < n) : getText s p = (ByteArray.empty, 0, 3) := by
  rw [getText, h, if_neg (by simp), if_pos hn]
theorem text_short {s : ByteArray} {p n x : Int} (h : getNum s p = (n, x, 0)) (h0 : ¬ (n < 0 ∨ 8000 < n)) (hn : (s.size : Int) - x < n) : getText s p = (ByteArray.empty, 0, 4) := by
  rw [getText, h, if_neg (by simp), if_neg h0, if_pos hn]
theorem text_ok {s : ByteArray} {p n x : Int} (h : getNum s p = (n, x, 0)) (h0 : ¬ (n < 0 ∨ 8000 < n)) (hn : ¬ (s.size : Int) - x < n) : getText s p = (s.extract x.toNat (x + n).toNat, x + n, 0) := by
  rw [getText, h, if_neg (by simp), if_neg h0, if_neg hn]
end Dc
end Go.Proofs.YtojdfdlbdpdlkaaGreatDoor

namespace Go.Proofs.YtojdfdlbdpdlkaaGreatDoor
open Go.RowKit

/-- an error of bytes by its code -/
def errv (c : Int) : Value := if c = 0 then .nilIface else .iface 147 (.agg #[.int .i64 c])

end Go.Proofs.YtojdfdlbdpdlkaaGreatDoor

namespace Go.Proofs.YtojdfdlbdpdlkaaGreatDoor
open Go.RowKit
set_option linter.unusedVariables false

/-- an answer with a text -/
def textOut (r : ByteArray × Int × Int) : Value := .agg #[.string r.1, .int .i64 r.2.1, .int .i64 r.2.2]

end Go.Proofs.YtojdfdlbdpdlkaaGreatDoor

namespace Go.Proofs.YtojdfdlbdpdlkaaGreatDoor
/-- a fact kept out of the walk's sight -/
theorem hide {p : Prop} (h : p) : RowKit.Hid p := h
/-- by a goto to a label: what is said of that label; else as Q -/
def jumps (J : Nat → Act → World → Prop) (Q : Exit → Act → World → Prop) : Exit → Act → World → Prop
  | .goto l, a, w => J l a w
  | e, a, w => Q e a w

section
variable {P : Program} {a : Act} {w : World} {Q : Exit → Act → World → Prop}

theorem wp_scope_labels {c : Code} (rest : Nat → Code) (J : Nat → Act → World → Prop) (μ : Nat → Act → World → Nat) (hf : ∀ l a w, J l a w → findLabel c l = some (rest l))
    (first : c.wp P (jumps J Q) a w)
    (pass : ∀ l a w, J l a w → (rest l).wp P (jumps (fun l' a' w' => J l' a' w' ∧ μ l' a' w' < μ l a w) Q) a w) : (Code.scope c).wp P Q a w := by
  intro b k cs
  have hg : ∀ l a w, J l a w → gotoIn l (.inScope c :: k) = some (.code (rest l) :: .inScope c :: k) := fun l a w h => by simp [gotoIn, hf l a w h]
  have key : ∀ n l a w, μ l a w = n → J l a w → ∃ e a' w', Q e a' w' ∧ Arrives P (lone (b.at a (.code (rest l) :: .inScope c :: k)) cs w) b k cs e a' w' := by
    intro n
    induction n using Nat.strongRecOn with
    | _ n ih =>
      intro l a w hn hJ
      obtain ⟨e, a₁, w₁, hq, harr⟩ := pass l a w hJ b (.inScope c :: k) cs
      cases e with
      | normal => exact ⟨.normal, a₁, w₁, hq, Steps.trans harr (.one step_inScope)⟩
      | exit id => exact ⟨.exit id, a₁, w₁, hq, fun k' hk => harr k' (by simp [exitTo, hk])⟩
      | goto l' =>
        obtain ⟨hJ', hlt⟩ := hq
        obtain ⟨e₂, a₂, w₂, hq₂, harr₂⟩ := ih _ (by omega) l' a₁ w₁ rfl hJ'
        exact ⟨e₂, a₂, w₂, hq₂, .of_steps (harr _ (hg l' a₁ w₁ hJ')) harr₂⟩
      | ret => exact ⟨_, a₁, w₁, hq, harr⟩
      | panic ch => exact ⟨_, a₁, w₁, hq, harr⟩
      | outgrown => exact ⟨_, a₁, w₁, hq, harr⟩
  obtain ⟨e, a₁, w₁, hq, harr⟩ := first b (.inScope c :: k) cs
  cases e with
  | normal => exact ⟨.normal, a₁, w₁, hq, .head step_scope (Steps.trans harr (.one step_inScope))⟩
  | exit id => exact ⟨.exit id, a₁, w₁, hq, fun k' hk => .head step_scope (harr k' (by simp [exitTo, hk]))⟩
  | goto l' =>
    obtain ⟨e₂, a₂, w₂, hq₂, harr₂⟩ := key _ l' a₁ w₁ rfl hq
    exact ⟨e₂, a₂, w₂, hq₂, .of_steps (.head step_scope (harr _ (hg l' a₁ w₁ hq))) harr₂⟩
  | ret => exact ⟨_, a₁, w₁, hq, .of_steps (.one step_scope) harr⟩
  | panic ch => exact ⟨_, a₁, w₁, hq, .of_steps (.one step_scope) harr⟩
  | outgrown => exact ⟨_, a₁, w₁, hq, .of_steps (.one step_scope) harr⟩

/-- three labels, 0, 1 and 2 -/
def three (J0 J1 J2 : Act → World → Prop) : Nat → Act → World → Prop
  | 0 => J0
  | 1 => J1
  | 2 => J2
  | _ => fun _ _ => False

theorem jumps_mono {c : Code} {J J' : Nat → Act → World → Prop} (h : ∀ l a w, J l a w → J' l a w) (hc : c.wp P (jumps J Q) a w) : c.wp P (jumps J' Q) a w := by
  intro b k cs
  obtain ⟨e, a', w', hq, harr⟩ := hc b k cs
  refine ⟨e, a', w', ?_, harr⟩
  cases e with
  | goto l => exact h l a' w' hq
  | normal => exact hq
  | exit id => exact hq
  | ret => exact hq
  | panic ch => exact hq
  | outgrown => exact hq

/-- label 1 is a loop's, from which label 2 and label 0 are met; from label 2 label 0; label 0 leaves -/
theorem wp_scope_three {c r0 r1 r2 : Code} (J0 J1 J2 : Act → World → Prop) (μ : Act → World → Nat) (h0 : findLabel c 0 = some r0) (h1 : findLabel c 1 = some r1) (h2 : findLabel c 2 = some r2)
    (first : c.wp P (jumps (three J0 J1 J2) Q) a w)
    (pass1 : ∀ a w, J1 a w → r1.wp P (jumps (three J0 (fun a' w' => J1 a' w' ∧ μ a' w' < μ a w) J2) Q) a w)
    (pass2 : ∀ a w, J2 a w → r2.wp P (jumps (three J0 (fun _ _ => False) (fun _ _ => False)) Q) a w)
    (pass0 : ∀ a w, J0 a w → r0.wp P (jumps (fun _ _ _ => False) Q) a w) : (Code.scope c).wp P Q a w := by
  refine wp_scope_labels (fun l => match l with | 0 => r0 | 1 => r1 | _ => r2) (three J0 J1 J2) (fun l a w => match l with | 0 => 0 | 1 => μ a w + 2 | _ => 1) ?_ first ?_
  · intro l a w h
    match l, h with
    | 0, _ => exact h0
    | 1, _ => exact h1
    | 2, _ => exact h2
  · intro l a w h
    match l, h with
    | 0, h => exact jumps_mono (fun _ _ _ h => h.elim) (pass0 a w h)
    | 1, h =>
      refine jumps_mono (fun l a' w' h' => ?_) (pass1 a w h)
      match l, h' with
      | 0, h' => exact ⟨h', by show 0 < μ a w + 2; omega⟩
      | 1, h' => exact ⟨h'.1, by have := h'.2; show μ a' w' + 2 < μ a w + 2; omega⟩
      | 2, h' => exact ⟨h', by show 1 < μ a w + 2; omega⟩
    | 2, h =>
      refine jumps_mono (fun l a' w' h' => ?_) (pass2 a w h)
      match l, h' with
      | 0, h' => exact ⟨h', by show 0 < 1; omega⟩
      | 1, h' => exact h'.elim
      | 2, h' => exact h'.elim
      | _ + 3, h' => exact h'.elim
end
end Go.Proofs.YtojdfdlbdpdlkaaGreatDoor

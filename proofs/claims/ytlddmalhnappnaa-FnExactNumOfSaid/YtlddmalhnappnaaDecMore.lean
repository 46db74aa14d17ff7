/- Plain mathematics: what was read lies in the text, and fits in 64 bits; a text with its length ahead of it. No Go here. -/
import Derived.Test.YtlddmalhnappnaaDecMath
namespace Go.Proofs.Ytlddmalhnappnaa
namespace Dc
theorem dec_bd : ∀ (f i u : Nat) (l : List UInt8) (v k : Nat), i + f = 10 → u < 2 ^ (7 * i) → dec f i u l = (0, v, k) → i < k ∧ k ≤ i + l.length ∧ v < 18446744073709551616
  | 0, i, u, l, v, k, _, _, h => by simp [dec] at h
  | f + 1, i, u, [], v, k, _, _, h => by simp [dec] at h
  | f + 1, i, u, c :: r, v, k, hf, hu, h => by
    by_cases h9 : i = 9 ∧ 1 < c.toNat
    · rw [dec, if_pos h9] at h; simp at h
    · by_cases hc : c.toNat < 128
      · rw [dec_last f i u c r h9 hc] at h
        by_cases hz : c.toNat = 0 ∧ 0 < i
        · rw [if_pos hz] at h; simp at h
        · rw [if_neg hz] at h
          have hb := add_bd i u c.toNat (by omega) hu h9
          simp at h
          obtain ⟨rfl, rfl⟩ := h
          exact ⟨by omega, by simp, hb⟩
      · rw [dec_more f i u c r h9 hc] at h
        have := dec_bd f (i + 1) _ r v k (by omega) (add_lt i u c.toNat hu) h
        exact ⟨by omega, by simp; omega, this.2.2⟩

theorem get_bd (s : ByteArray) (p n x : Int) (h : getNum s p = (n, x, 0)) : s.size ≤ 8000 ∧ 0 ≤ p ∧ 0 < x ∧ x ≤ s.size ∧ -9223372036854775808 ≤ n ∧ n ≤ 9223372036854775807 := by
  unfold getNum at h
  split at h
  · simp at h
  · split at h
    · simp at h
    · rename_i h1 h2
      obtain ⟨⟨c, v, k⟩, hd⟩ : ∃ r, r = dec 10 0 0 (s.data.toList.drop p.toNat) := ⟨_, rfl⟩
      rw [← hd] at h
      split at h
      · rename_i h3
        have hc : c = 0 := h3
        subst hc
        have hb := dec_bd 10 0 0 _ v k rfl (by decide) hd.symm
        have hu := unfold_bd v hb.2.2
        simp at h
        have hl : (s.data.toList.drop p.toNat).length = s.size - p.toNat := by simp
        obtain ⟨rfl, rfl⟩ := h
        omega
      · rename_i h3
        exact absurd (by have := congrArg (fun r : Int × Int × Int => r.2.2) h; simpa using this) h3

/-- a text read at a place: the text, the place behind it, the code -/
def getText (s : ByteArray) (p : Int) : ByteArray × Int × Int :=
  if (getNum s p).2.2 ≠ 0 then (ByteArray.empty, 0, (getNum s p).2.2)
  else if (getNum s p).1 < 0 ∨ 8000 < (getNum s p).1 then (ByteArray.empty, 0, 3)
  else if (s.size : Int) - (getNum s p).2.1 < (getNum s p).1 then (ByteArray.empty, 0, 4)
  else (s.extract (getNum s p).2.1.toNat ((getNum s p).2.1 + (getNum s p).1).toNat, (getNum s p).2.1 + (getNum s p).1, 0)

theorem text_code {s : ByteArray} {p n x c : Int} (h : getNum s p = (n, x, c)) (hc : c ≠ 0) : getText s p = (ByteArray.empty, 0, c) := by
  rw [getText, h, if_pos hc]
theorem text_size {s : ByteArray} {p n x : Int} (h : getNum s p = (n, x, 0)) (hn : n < 0 ∨ 8000 < n) : getText s p = (ByteArray.empty, 0, 3) := by
  rw [getText, h, if_neg (by simp), if_pos hn]
theorem text_short {s : ByteArray} {p n x : Int} (h : getNum s p = (n, x, 0)) (h0 : ¬ (n < 0 ∨ 8000 < n)) (hn : (s.size : Int) - x < n) : getText s p = (ByteArray.empty, 0, 4) := by
  rw [getText, h, if_neg (by simp), if_neg h0, if_pos hn]
theorem text_ok {s : ByteArray} {p n x : Int} (h : getNum s p = (n, x, 0)) (h0 : ¬ (n < 0 ∨ 8000 < n)) (hn : ¬ (s.size : Int) - x < n) : getText s p = (s.extract x.toNat (x + n).toNat, x + n, 0) := by
  rw [getText, h, if_neg (by simp), if_neg h0, if_neg hn]
end Dc
end Go.Proofs.Ytlddmalhnappnaa

/- Plain mathematics of names: which texts are names, byte by byte. No Go here. -/
import Derived.Below
namespace Go.Proofs.YtfefafmcaepoiaaDoor
namespace Nm
/-- a small letter -/
def low (c : Int) : Bool := decide (97 ≤ c ∧ c ≤ 122)
/-- a byte of a name behind its first -/
def nb (c : Int) : Bool := decide ((97 ≤ c ∧ c ≤ 122) ∨ (48 ≤ c ∧ c ≤ 57) ∨ c = 95)
/-- the byte at a place of a text, as a number -/
def at_ (s : ByteArray) (k : Nat) : Int := ((s.data.toList.getD k 0).toNat : Int)
/-- the text is a name -/
def nameB (s : ByteArray) : Bool := decide (1 ≤ s.size ∧ s.size ≤ 20) && low (at_ s 0) && (List.range s.size).all fun k => k == 0 || nb (at_ s k)

theorem at_get (s : ByteArray) (k : Nat) (h : k < s.size) : at_ s k = (s[k].toNat : Int) := by
  have h' : k < s.data.toList.length := by simpa using h
  unfold at_
  rw [List.getD_eq_getElem?_getD, List.getElem?_eq_getElem h']
  rfl

theorem name_short (s : ByteArray) (h : s.size < 1 ∨ 20 < s.size) : nameB s = false := by
  unfold nameB
  have : ¬ (1 ≤ s.size ∧ s.size ≤ 20) := by omega
  simp [this]

theorem name_first (s : ByteArray) (h : low (at_ s 0) = false) : nameB s = false := by
  unfold nameB; simp [h]

theorem name_later (s : ByteArray) (k : Nat) (hk : k < s.size) (h0 : k ≠ 0) (h : nb (at_ s k) = false) : nameB s = false := by
  unfold nameB
  have : ((List.range s.size).all fun k => k == 0 || nb (at_ s k)) = false := by
    rw [List.all_eq_false]
    exact ⟨k, by simpa using hk, by simp [h0, h]⟩
  simp [this]

theorem name_yes (s : ByteArray) (h1 : 1 ≤ s.size) (h2 : s.size ≤ 20) (h3 : low (at_ s 0) = true) (h : ∀ k, k < s.size → k ≠ 0 → nb (at_ s k) = true) : nameB s = true := by
  unfold nameB
  have : ((List.range s.size).all fun k => k == 0 || nb (at_ s k)) = true := by
    rw [List.all_eq_true]
    intro k hk
    have hk' : k < s.size := by simpa using hk
    by_cases h0 : k = 0
    · simp [h0]
    · simp [h k hk' h0]
  simp [this, h1, h2, h3]
end Nm
end Go.Proofs.YtfefafmcaepoiaaDoor

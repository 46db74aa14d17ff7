/- Plain mathematics of names: which texts are names, byte by byte. No Go here. Plain mathematics of files: which lists of files are right. No function of the program here. -/
import Derived.Below
import Derived.Test.YtfefafmcaepoiaaGreatDoorFsKit
namespace Go.Proofs.YtfefafmcaepoiaaGreatDoor
namespace Nm
/-- a small letter -/
def low (c : Int) : Bool := decide (97 ≤ c ∧ c ≤ 122)
/-- a byte of a name behind its first -/
def nb (c : Int) : Bool := decide ((97 ≤ c ∧ c ≤ 122) ∨ (48 ≤ c ∧ c ≤ 57) ∨ c = 95)
/-- the byte at a place of a text, as a number -/
def at_ (s : ByteArray) (k : Nat) : Int := ((s.data.toList.getD k 0).toNat : Int)
/-- the text is a name -/
def nameB (s : ByteArray) : Bool := decide (1 ≤ s.size ∧ s.size ≤ 20) && low (at_ s 0) && (List.range s.size).all fun k => k == 0 || nb (at_ s k)

theorem at_get (s : ByteArray) (k : Nat) (h : k < s.size) : at_ s k = (s[k].toNat : Int) := by
  have h' : k < s.data.toList.length := by simpa using h
  unfold at_
  rw [List.getD_eq_getElem?_getD, List.getElem?_eq_getElem h']
  rfl

theorem name_short (s : ByteArray) (h : s.size < 1 ∨ 20 < s.size) : nameB s = false := by
  unfold nameB
  have : ¬ (1 ≤ s.size ∧ s.size ≤ 20) := by omega
  simp [this]

theorem name_first (s : ByteArray) (h : low (at_ s 0) = false) : nameB s = false := by
  unfold nameB; simp [h]

theorem name_later (s : ByteArray) (k : Nat) (hk : k < s.size) (h0 : k ≠ 0) (h : nb (at_ s k) = false) : nameB s = false := by
  unfold nameB
  have : ((List.range s.size).all fun k => k == 0 || nb (at_ s k)) = false := by
    rw [List.all_eq_false]
    exact ⟨k, by simpa using hk, by simp [h0, h]⟩
  simp [this]

theorem name_yes (s : ByteArray) (h1 : 1 ≤ s.size) (h2 : s.size ≤ 20) (h3 : low (at_ s 0) = true) (h : ∀ k, k < s.size → k ≠ 0 → nb (at_ s k) = true) : nameB s = true := by
  unfold nameB
  have : ((List.range s.size).all fun k => k == 0 || nb (at_ s k)) = true := by
    rw [List.all_eq_true]
    intro k hk
    have hk' : k < s.size := by simpa using hk
    by_cases h0 : k = 0
    · simp [h0]
    · simp [h k hk' h0]
  simp [this, h1, h2, h3]
end Nm
end Go.Proofs.YtfefafmcaepoiaaGreatDoor

namespace Go.Proofs.YtfefafmcaepoiaaGreatDoor
namespace Fk
/-- a file by itself is right -/
def fok (a b : ByteArray) (s : Int) : Bool := Nm.nameB a && (decide (b.size ≤ 3000) && (decide (0 ≤ s) && decide (s ≤ b.size)))
/-- the file at a place is right, and its name is greater than the one ahead of it -/
def step (L : List Fl) (k : Nat) : Bool := fok (nm L k) (dt L k) (sy L k) && (k == 0 || Op.bytesLess (nm L (k - 1)).toList (nm L k).toList)
/-- the list is right -/
def right (L : List Fl) : Bool := decide (L.length ≤ 12) && (List.range L.length).all (step L)

theorem right_long (L : List Fl) (h : 12 < L.length) : right L = false := by
  unfold right
  have : ¬ L.length ≤ 12 := by omega
  simp [this]

theorem right_at (L : List Fl) (k : Nat) (hk : k < L.length) (h : step L k = false) : right L = false := by
  unfold right
  have : ((List.range L.length).all (step L)) = false := by
    rw [List.all_eq_false]
    exact ⟨k, by simpa using hk, by simp [h]⟩
  simp [this]

theorem right_yes (L : List Fl) (hl : L.length ≤ 12) (h : ∀ k, k < L.length → step L k = true) : right L = true := by
  unfold right
  have : ((List.range L.length).all (step L)) = true := by
    rw [List.all_eq_true]
    intro k hk
    exact h k (by simpa using hk)
  simp [this, hl]

theorem right_inv (L : List Fl) (h : right L = true) : L.length ≤ 12 ∧ ∀ k, k < L.length → step L k = true := by
  unfold right at h
  simp only [Bool.and_eq_true, decide_eq_true_eq, List.all_eq_true] at h
  exact ⟨h.1, fun k hk => h.2 k (by simpa using hk)⟩

theorem fok_inv {a b : ByteArray} {s : Int} (h : fok a b s = true) : Nm.nameB a = true ∧ b.size ≤ 3000 ∧ 0 ≤ s ∧ s ≤ b.size := by
  simpa [fok] using h

theorem fok_name {a b : ByteArray} {s : Int} (h : Nm.nameB a = false) : fok a b s = false := by simp [fok, h]
theorem fok_long {a b : ByteArray} {s : Int} (h : (3000 : Int) < (b.size : Int)) : fok a b s = false := by
  have e : ¬ b.size ≤ 3000 := by omega
  simp [fok, e]
theorem fok_sync {a b : ByteArray} {s : Int} (h : ¬ (0 ≤ s ∧ s ≤ b.size)) : fok a b s = false := by
  have e : (decide (0 ≤ s) && decide (s ≤ (b.size : Int))) = false := by rw [← Bool.decide_and, decide_eq_false_iff_not]; exact h
  simp [fok, e]
theorem fok_yes {a b : ByteArray} {s : Int} (hn : Nm.nameB a = true) (hd : ¬ (3000 : Int) < (b.size : Int)) (hi : 0 ≤ s ∧ s ≤ b.size) : fok a b s = true := by
  have e : b.size ≤ 3000 := by omega
  simp [fok, hn, e, hi.1, hi.2]
theorem step_first (L : List Fl) (h : fok (nm L 0) (dt L 0) (sy L 0) = true) : step L 0 = true := by simp [step, h]
theorem step_later (L : List Fl) (k : Nat) (h : fok (nm L k) (dt L k) (sy L k) = true) (hl : Op.bytesLess (nm L (k - 1)).toList (nm L k).toList = true) : step L k = true := by simp [step, h, hl]
theorem step_ill (L : List Fl) (k : Nat) (h : fok (nm L k) (dt L k) (sy L k) = false) : step L k = false := by simp [step, h]
theorem step_down (L : List Fl) (k : Nat) (h0 : k ≠ 0) (hl : Op.bytesLess (nm L (k - 1)).toList (nm L k).toList = false) : step L k = false := by simp [step, h0, hl]
end Fk
end Go.Proofs.YtfefafmcaepoiaaGreatDoor

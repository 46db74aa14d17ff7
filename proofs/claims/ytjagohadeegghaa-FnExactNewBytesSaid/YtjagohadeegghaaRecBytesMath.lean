/- Plain mathematics of a record's bytes. No function of the program here. -/
import Derived.Test.YtjagohadeegghaaRecMath
import Derived.Test.YtjagohadeegghaaStrList
import Derived.Test.YtjagohadeegghaaTextWalks
namespace Go.Proofs.Ytjagohadeegghaa
namespace Rc
/-- the pieces of a record's bytes -/
def parts (K : Int) (L : List Fd.E) : Nat → List ByteArray
  | 0 => [Pn.putNum K, Pn.putNum L.length]
  | k + 1 => parts K L k ++ [Pn.putNum (idAt L k), putText (textAt L k)]
/-- the bytes of the first fields, behind the head -/
def row (K : Int) (L : List Fd.E) : Nat → ByteArray
  | 0 => Pn.putNum K ++ Pn.putNum L.length
  | k + 1 => row K L k ++ Pn.putNum (idAt L k) ++ putText (textAt L k)
theorem parts_length (K : Int) (L : List Fd.E) : ∀ k, (parts K L k).length = 2 * k + 2
  | 0 => rfl
  | k + 1 => by rw [parts, List.length_append, parts_length K L k]; simp; omega
theorem cat_left (A B : List ByteArray) : ∀ k, k ≤ A.length → Sk.cat (A ++ B) k = Sk.cat A k
  | 0, _ => rfl
  | k + 1, h => by
    rw [Sk.cat, Sk.cat, cat_left A B k (by omega)]
    congr 1
    have : k < A.length := by omega
    simp only [Sk.at_, List.getD]
    rw [List.getElem?_append_left this]
theorem cat_more (A : List ByteArray) (x y : ByteArray) : Sk.cat (A ++ [x, y]) (A ++ [x, y]).length = Sk.cat A A.length ++ x ++ y := by
  have e : (A ++ [x, y]).length = A.length + 1 + 1 := by simp
  have e1 : Sk.at_ (A ++ [x, y]) A.length = x := by simp [Sk.at_, List.getD]
  have e2 : Sk.at_ (A ++ [x, y]) (A.length + 1) = y := by simp [Sk.at_, List.getD]
  rw [e, Sk.cat, Sk.cat, e1, e2, cat_left A _ A.length (Nat.le_refl _)]
theorem cat_parts (K : Int) (L : List Fd.E) : ∀ k, Sk.cat (parts K L k) (parts K L k).length = row K L k
  | 0 => Sk.cat_two _ _
  | k + 1 => by rw [parts, cat_more, cat_parts K L k, row]
theorem putText_size (t : ByteArray) : (putText t).size ≤ t.size + 11 := by
  unfold putText
  split
  · have := Pn.put_size t.size
    rw [ByteArray.size_append]; omega
  · simp
theorem row_size {K : Int} {L : List Fd.E} (h : right K L = true) : ∀ k, (row K L k).size ≤ 22 + k * 522
  | 0 => by
    have h1 := Pn.put_size K
    have h2 := Pn.put_size L.length
    rw [row, ByteArray.size_append]; omega
  | k + 1 => by
    have h0 := row_size h k
    have h1 := Pn.put_size (idAt L k)
    have h2 := putText_size (textAt L k)
    have h3 := textAt_small h k
    rw [row, ByteArray.size_append, ByteArray.size_append]; omega
/-- a record's bytes -/
def bytes (K : Int) (L : List Fd.E) : ByteArray := if right K L then (if (row K L L.length).size ≤ 7990 then putText (row K L L.length) else ByteArray.empty) else ByteArray.empty
theorem bytes_ill {K : Int} {L : List Fd.E} (h : right K L = false) : bytes K L = ByteArray.empty := by simp [bytes, h]
theorem bytes_long {K : Int} {L : List Fd.E} (h : 7990 < (row K L L.length).size) : bytes K L = ByteArray.empty := by
  have : ¬ (row K L L.length).size ≤ 7990 := by omega
  simp [bytes, this]
theorem bytes_ok {K : Int} {L : List Fd.E} (h : right K L = true) (h1 : (row K L L.length).size ≤ 7990) : bytes K L = putText (row K L L.length) := by simp [bytes, h, h1]
theorem id_bd {K : Int} {L : List Fd.E} (h : right K L = true) (k : Nat) (hk : k < L.length) : 0 ≤ idAt L k ∧ idAt L k ≤ 1000 := ⟨((right_inv h).2.1 k hk).1, ((right_inv h).2.1 k hk).2.1⟩
end Rc
/-- a text as a list's element -/
def Ts.S : Rk.Shape ByteArray where
  m := 1
  cs t := [.string t]
  z := ByteArray.empty
  pos := by decide
  len := fun _ => rfl
  one := fun a u hu => by simp at hu; subst hu; rfl
theorem Ts.flat_eq (T : List ByteArray) : Rk.flat Ts.S T = Sk.tc T := by
  induction T with
  | nil => rfl
  | cons f r ih =>
    rw [Rk.flat_cons, ih]
    rfl
theorem Ts.own {w : World} {base : Nat} {e : TypeId} {v : Value} {T : List ByteArray} (h : Rk.Own Ts.S w base e v T) : Sk.Own w base e v T := by
  unfold Rk.Own at h
  rw [Ts.flat_eq] at h
  exact h
theorem Ts.lit2 (w : World) (a b : ByteArray) (e : TypeId) (base : Nat) (hb : base ≤ w.heap.size) : Rk.Own Ts.S (w.alloc (.cells #[.string a, .string b] e)) base e (.slice (some ⟨w.heap.size, 0, none⟩) 2 2) [a, b] :=
  World.ownsRow_lit w #[.string a, .string b] 2 hb (by unfold maxLen; omega) rfl
end Go.Proofs.Ytjagohadeegghaa

/- Plain mathematics of a book's bytes. No function of the program here. -/
import Derived.Test.YtjagohadeegghaaRecBytesMath
import Derived.Test.YtjagohadeegghaaSealWalks
import Derived.Test.YtjagohadeegghaaOldMath
namespace Go.Proofs.Ytjagohadeegghaa
set_option linter.unusedSimpArgs false
set_option linter.unusedVariables false
namespace Sp
def flag (b : Bool) : ByteArray := Pn.putNum (if b then 1 else 0)
/-- what either make writes of an order, and what the newer one writes behind that -/
def five (o : Or.E) : List ByteArray := [Pn.putNum o.1, Pn.putNum o.2.1, Pn.putNum o.2.2.1, Pn.putNum o.2.2.2.1, flag o.2.2.2.2.1]
def three (o : Or.E) : List ByteArray := [Pn.putNum o.2.2.2.2.2.1, Pn.putNum o.2.2.2.2.2.2.1, flag o.2.2.2.2.2.2.2]
def fiveB (o : Or.E) : ByteArray := Pn.putNum o.1 ++ Pn.putNum o.2.1 ++ Pn.putNum o.2.2.1 ++ Pn.putNum o.2.2.2.1 ++ flag o.2.2.2.2.1
def threeB (o : Or.E) : ByteArray := Pn.putNum o.2.2.2.2.2.1 ++ Pn.putNum o.2.2.2.2.2.2.1 ++ flag o.2.2.2.2.2.2.2
def app5 (t : ByteArray) (o : Or.E) : ByteArray := t ++ Pn.putNum o.1 ++ Pn.putNum o.2.1 ++ Pn.putNum o.2.2.1 ++ Pn.putNum o.2.2.2.1 ++ flag o.2.2.2.2.1
def app3 (t : ByteArray) (o : Or.E) : ByteArray := t ++ Pn.putNum o.2.2.2.2.2.1 ++ Pn.putNum o.2.2.2.2.2.2.1 ++ flag o.2.2.2.2.2.2.2
theorem app5_eq (t : ByteArray) (o : Or.E) : app5 t o = t ++ fiveB o := by
  apply ByteArray.ext
  simp [app5, fiveB, ByteArray.data_append, Array.append_assoc]
theorem app3_eq (t : ByteArray) (o : Or.E) : app3 t o = t ++ threeB o := by
  apply ByteArray.ext
  simp [app3, threeB, ByteArray.data_append, Array.append_assoc]
def parts (wide : Bool) (L : List Or.E) : Nat → List ByteArray
  | 0 => []
  | k + 1 => if wide then parts wide L k ++ five (Ob.at' L k) ++ three (Ob.at' L k) else parts wide L k ++ five (Ob.at' L k)
def row (wide : Bool) (L : List Or.E) : Nat → ByteArray
  | 0 => ByteArray.empty
  | k + 1 => if wide then app3 (app5 (row wide L k) (Ob.at' L k)) (Ob.at' L k) else app5 (row wide L k) (Ob.at' L k)
theorem cat_app (A : List ByteArray) : ∀ (B : List ByteArray) (k : Nat), k ≤ B.length → Sk.cat (A ++ B) (A.length + k) = Sk.cat A A.length ++ Sk.cat B k
  | B, 0, _ => by simp only [Nat.add_zero, Sk.cat, Rc.cat_left A B A.length (Nat.le_refl _)]; apply ByteArray.ext; simp [ByteArray.data_append]
  | B, k + 1, h => by
    have e : Sk.at_ (A ++ B) (A.length + k) = Sk.at_ B k := by simp [Sk.at_, List.getD, List.getElem?_append_right]
    rw [← Nat.add_assoc, Sk.cat, Sk.cat, cat_app A B k (by omega), e]
    apply ByteArray.ext; simp [ByteArray.data_append, Array.append_assoc]
theorem cat_both (A B : List ByteArray) : Sk.cat (A ++ B) (A ++ B).length = Sk.cat A A.length ++ Sk.cat B B.length := by
  rw [List.length_append]; exact cat_app A B B.length (Nat.le_refl _)
theorem cat_five (o : Or.E) : Sk.cat (five o) (five o).length = fiveB o := by
  apply ByteArray.ext
  simp [five, fiveB, Sk.cat, Sk.at_, ByteArray.data_append, Array.append_assoc]
theorem cat_three (o : Or.E) : Sk.cat (three o) (three o).length = threeB o := by
  apply ByteArray.ext
  simp [three, threeB, Sk.cat, Sk.at_, ByteArray.data_append, Array.append_assoc]
theorem cat_parts (wide : Bool) (L : List Or.E) : ∀ k, Sk.cat (parts wide L k) (parts wide L k).length = row wide L k
  | 0 => rfl
  | k + 1 => by
    rw [parts, row]
    cases wide
    · simp only [Bool.false_eq_true, if_false]; rw [cat_both, cat_parts false L k, cat_five, app5_eq]
    · simp only [if_true]; rw [cat_both, cat_both, cat_parts true L k, cat_five, cat_three, app3_eq, app5_eq]
theorem parts_length (wide : Bool) (L : List Or.E) : ∀ k, (parts wide L k).length ≤ 8 * k
  | 0 => Nat.le_refl _
  | k + 1 => by
    have := parts_length wide L k
    rw [parts]
    cases wide
    · simp only [Bool.false_eq_true, if_false, List.length_append, five, List.length_cons, List.length_nil]; omega
    · simp only [if_true, List.length_append, five, three, List.length_cons, List.length_nil]; omega
theorem flag_size (b : Bool) : (flag b).size ≤ 11 := by have := Pn.put_size (if b then 1 else 0); unfold flag; omega
theorem five_size (o : Or.E) : (fiveB o).size ≤ 55 := by
  have h1 := Pn.put_size o.1; have h2 := Pn.put_size o.2.1; have h3 := Pn.put_size o.2.2.1; have h4 := Pn.put_size o.2.2.2.1; have h5 := flag_size o.2.2.2.2.1
  simp only [fiveB, ByteArray.size_append]; omega
theorem three_size (o : Or.E) : (threeB o).size ≤ 33 := by
  have h1 := Pn.put_size o.2.2.2.2.2.1; have h2 := Pn.put_size o.2.2.2.2.2.2.1; have h3 := flag_size o.2.2.2.2.2.2.2
  simp only [threeB, ByteArray.size_append]; omega
theorem row_size (wide : Bool) (L : List Or.E) : ∀ k, (row wide L k).size ≤ 88 * k
  | 0 => by simp [row]
  | k + 1 => by
    have h0 := row_size wide L k; have h1 := five_size (Ob.at' L k); have h2 := three_size (Ob.at' L k)
    rw [row]
    cases wide
    · simp only [Bool.false_eq_true, if_false, app5_eq, ByteArray.size_append]; omega
    · simp only [if_true, app3_eq, app5_eq, ByteArray.size_append]; omega
/-- the four fields of a book's bytes -/
def fields (wide : Bool) (B A : List Or.E) (n s : Int) : List Fd.E := [(1, Pn.putNum n), (2, row wide B B.length), (3, row wide A A.length), (4, Pn.putNum s)]
/-- a right book's bytes -/
def made (wide : Bool) (B A : List Or.E) (n s : Int) : ByteArray := sealed (Rc.bytes (if wide then 2 else 1) (fields wide B A n s))
def seqOk (s : Int) : Bool := decide (0 ≤ s ∧ s ≤ 1000000)
def oldBytes (B A : List Or.E) (n s : Int) : ByteArray := if Ob.right B A n && seqOk s then made false B A n s else ByteArray.empty
theorem bytes_size (K : Int) (L : List Fd.E) : (Rc.bytes K L).size ≤ maxLen := by
  unfold Rc.bytes maxLen
  split
  · split
    · have := Rc.putText_size (Rc.row K L L.length); omega
    · simp
  · simp
theorem fields_fit (wide : Bool) (B A : List Or.E) (n s : Int) (hB : B.length ≤ 1048576) (hA : A.length ≤ 1048576) : ∀ f ∈ fields wide B A n s, Fd.Fit f := by
  have h1 := Pn.put_size n; have h2 := Pn.put_size s; have h3 := row_size wide B B.length; have h4 := row_size wide A A.length
  intro f hf
  simp only [fields, List.mem_cons, List.mem_nil_iff, or_false] at hf
  rcases hf with rfl | rfl | rfl | rfl <;> (unfold Fd.Fit maxLen; refine ⟨?_, ?_⟩ <;> (try dsimp only) <;> omega)
theorem fit_of {n : Int} {o : Or.E} (h0 : Ob.okN n o = true) (hn : n ≤ 1000000) (h1 : 0 ≤ o.2.2.2.2.2.1 ∧ o.2.2.2.2.2.1 ≤ 1000) (h2 : 0 ≤ o.2.2.2.2.2.2.1 ∧ o.2.2.2.2.2.2.1 ≤ 1000) : Or.Fit o := by
  simp only [Ob.okN, Bool.and_eq_true, decide_eq_true_eq] at h0
  obtain ⟨⟨a1, a2⟩, ⟨b1, b2⟩, ⟨c1, c2⟩, d1, d2⟩ := h0
  exact ⟨⟨by omega, by omega⟩, ⟨by omega, by omega⟩, ⟨by omega, by omega⟩, ⟨by omega, by omega⟩, trivial, ⟨by omega, by omega⟩, ⟨by omega, by omega⟩, trivial⟩
theorem right_inv {B A : List Or.E} {n : Int} (h : Ob.right B A n = true) : Ob.frame B A n ∧ Ob.side n true B = true ∧ Ob.side n false A = true := by
  simp only [Ob.right, Bool.and_eq_true, decide_eq_true_eq] at h
  exact ⟨h.1, h.2.1, h.2.2.1⟩
theorem fit_side {n : Int} {buy : Bool} {L : List Or.E} (h : Ob.side n buy L = true) (hn : n ≤ 1000000) (k : Nat) (hk : k < L.length) : Or.Fit (Ob.at' L k) := by
  have := Ob.upTo_inv h k hk
  simp only [Ob.step, Bool.and_eq_true] at this
  have hp := this.1.1
  simp only [Ob.okP, Bool.and_eq_true, decide_eq_true_eq] at hp
  exact fit_of this.1.2 hn (by omega) (by omega)
theorem fit_old {B A : List Or.E} {n : Int} (h : Ob.right B A n = true) : (∀ k, k < B.length → Or.Fit (Ob.at' B k)) ∧ (∀ k, k < A.length → Or.Fit (Ob.at' A k)) ∧ 1 ≤ n ∧ n ≤ 1000000 ∧ B.length ≤ 24 ∧ A.length ≤ 24 := by
  obtain ⟨hf, h0, h1⟩ := right_inv h
  have hn := hf.2.1
  have hl := hf.2.2
  exact ⟨fit_side h0 hn, fit_side h1 hn, hf.1, hn, by omega, by omega⟩
theorem fields_length (wide : Bool) (B A : List Or.E) (n s : Int) : (fields wide B A n s).length = 4 := rfl
end Sp
end Go.Proofs.Ytjagohadeegghaa

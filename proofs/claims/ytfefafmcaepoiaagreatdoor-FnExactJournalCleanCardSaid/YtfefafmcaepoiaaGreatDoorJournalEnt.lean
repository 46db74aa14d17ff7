/- Plain mathematics of the journal's records: which stand in a row of bytes one behind the other, and where the last of them ends. -/
import Derived.Test.YtfefafmcaepoiaaGreatDoorJoined1
import Derived.Test.YtfefafmcaepoiaaGreatDoorUnsealWalks
namespace Go.Proofs.YtfefafmcaepoiaaGreatDoor
set_option linter.unusedSimpArgs false
namespace Jn
/-- the record at a place: its text, and the place behind it -/
def one (s : ByteArray) (p : Int) : Option (ByteArray × Int) :=
  if (Dc.getText s p).2.2 = 0 ∧ (unsealed (Dc.getText s p).1).2.2 = 0 ∧ (unsealed (Dc.getText s p).1).1.size ≤ 300 then some ((unsealed (Dc.getText s p).1).1, (Dc.getText s p).2.1) else none
def ents (s : ByteArray) : Nat → Int → List (ByteArray × Int)
  | 0, _ => []
  | k + 1, p => match one s p with
    | none => []
    | some x => x :: ents s k x.2
/-- all of them -/
def all (s : ByteArray) : List (ByteArray × Int) := ents s (s.size + 1) 0
/-- behind the last of them -/
def endOf (l : List (ByteArray × Int)) : Int := (l.getLast?.map (·.2)).getD 0
theorem endOf_nil : endOf [] = 0 := rfl
theorem endOf_snoc (l : List (ByteArray × Int)) (x : ByteArray × Int) : endOf (l ++ [x]) = x.2 := by simp [endOf]

theorem get_on {s : ByteArray} {p n x : Int} (h : Dc.getNum s p = (n, x, 0)) : p < x := by
  unfold Dc.getNum at h
  split at h
  · simp at h
  · split at h
    · simp at h
    · obtain ⟨⟨c, v, k⟩, hd⟩ : ∃ r, r = Dc.dec 10 0 0 (s.data.toList.drop p.toNat) := ⟨_, rfl⟩
      rw [← hd] at h
      split at h
      · rename_i h3
        have hc : c = 0 := h3
        subst hc
        have hb := Dc.dec_bd 10 0 0 _ v k rfl (by decide) hd.symm
        simp at h
        omega
      · rename_i h3
        exact absurd (by have := congrArg (fun r : Int × Int × Int => r.2.2) h; simpa using this) h3
theorem unsealed_ok {t : ByteArray} (h : (unsealed t).2.2 = 0) : 4 ≤ t.size ∧ t.size ≤ 8000 ∧ (unsealed t).1 = t.extract 0 (t.size - 4) ∧ (unsealed t).1.size = t.size - 4 := by
  unfold unsealed at h ⊢
  split
  · rename_i h1; rw [if_pos h1] at h; cases h
  · rename_i h1
    rw [if_neg h1] at h
    split
    · rename_i h2; rw [if_pos h2] at h; cases h
    · rename_i h2
      rw [if_neg h2] at h
      split
      · exact ⟨by omega, by omega, rfl, by simp [ByteArray.size_extract]⟩
      · rename_i h3; rw [if_neg h3] at h; cases h
theorem one_no_num {s : ByteArray} {p n x c : Int} (h : Dc.getNum s p = (n, x, c)) (hc : c ≠ 0) : one s p = none := by
  unfold one
  rw [if_neg]
  rintro ⟨h1, _⟩
  rw [Dc.text_code h hc] at h1
  exact hc h1
theorem one_no_size {s : ByteArray} {p n x : Int} (h : Dc.getNum s p = (n, x, 0)) (hn : n < 0 ∨ 304 < n ∨ (s.size : Int) - x < n) : one s p = none := by
  unfold one
  rw [if_neg]
  rintro ⟨h1, h2, h3⟩
  by_cases h8 : n < 0 ∨ 8000 < n
  · rw [Dc.text_size h h8] at h1; cases h1
  · by_cases hs : (s.size : Int) - x < n
    · rw [Dc.text_short h h8 hs] at h1; cases h1
    · have hb := Dc.get_bd s p n x h
      rw [Dc.text_ok h h8 hs] at h2 h3
      have h4 := unsealed_ok h2
      simp only at h4 h3
      have hsz : (s.extract x.toNat (x + n).toNat).size = n.toNat := by rw [ByteArray.size_extract]; omega
      rw [hsz] at h4
      omega
theorem one_no_seal {s t : ByteArray} {p n x : Int} (h : Dc.getNum s p = (n, x, 0)) (hn : ¬ (n < 0 ∨ 304 < n ∨ (s.size : Int) - x < n)) (ht : t = s.extract x.toNat (x + n).toNat) (hu : (unsealed t).2.2 ≠ 0) : one s p = none := by
  unfold one
  rw [if_neg]
  rintro ⟨h1, h2, h3⟩
  rw [Dc.text_ok h (by omega) (by omega)] at h2
  rw [ht] at hu
  exact hu h2
theorem one_yes {s t : ByteArray} {p n x : Int} (h : Dc.getNum s p = (n, x, 0)) (hn : ¬ (n < 0 ∨ 304 < n ∨ (s.size : Int) - x < n)) (ht : t = s.extract x.toNat (x + n).toNat) (hu : (unsealed t).2.2 = 0) :
    4 ≤ n ∧ one s p = some (s.extract x.toNat (x + n - 4).toNat, x + n) := by
  have hb := Dc.get_bd s p n x h
  have hsz : t.size = n.toNat := by rw [ht, ByteArray.size_extract]; omega
  have h4 := unsealed_ok hu
  have hte : (unsealed t).1 = s.extract x.toNat (x + n - 4).toNat := by
    rw [h4.2.2.1, hsz, ht, ByteArray.extract_extract]
    congr 1
    omega
  refine ⟨by omega, ?_⟩
  unfold one
  rw [Dc.text_ok h (by omega) (by omega)]
  rw [← ht, if_pos ⟨rfl, hu, by show (unsealed t).1.size ≤ 300; omega⟩, hte]
/-- where a record stands it lies in the bytes -/
theorem one_bd {s t : ByteArray} {p q : Int} (h : one s p = some (t, q)) : s.size ≤ 8000 ∧ 0 ≤ p ∧ p < q ∧ q ≤ s.size ∧ t.size ≤ 300 := by
  unfold one at h
  split at h
  · rename_i h1
    obtain ⟨⟨n, x, c⟩, hr⟩ : ∃ r, r = Dc.getNum s p := ⟨_, rfl⟩
    by_cases hc : c = 0
    · subst hc
      have hb := Dc.get_bd s p n x hr.symm
      have ho := get_on hr.symm
      by_cases h8 : n < 0 ∨ 8000 < n
      · rw [Dc.text_size hr.symm h8] at h1; exact absurd h1.1 (by decide)
      · by_cases hs : (s.size : Int) - x < n
        · rw [Dc.text_short hr.symm h8 hs] at h1; exact absurd h1.1 (by decide)
        · rw [Dc.text_ok hr.symm h8 hs] at h1 h
          simp only [Option.some.injEq, Prod.mk.injEq] at h
          obtain ⟨rfl, rfl⟩ := h
          exact ⟨hb.1, hb.2.1, by omega, by omega, h1.2.2⟩
    · rw [Dc.text_code hr.symm hc] at h1
      exact absurd h1.1 hc
  · cases h
theorem ents_end {s : ByteArray} {p : Int} (h : one s p = none) : ∀ k, ents s k p = []
  | 0 => rfl
  | k + 1 => by rw [ents, h]
theorem ents_step {s : ByteArray} {p : Int} {x : ByteArray × Int} {k : Nat} (h : one s p = some x) : ents s (k + 1) p = x :: ents s k x.2 := by rw [ents, h]
theorem ents_bd {s : ByteArray} : ∀ (k : Nat) (p : Int), ∀ x ∈ ents s k p, x.1.size ≤ 300 ∧ x.2 ≤ s.size ∧ 0 ≤ x.2
  | 0, _, x, hx => by simp [ents] at hx
  | k + 1, p, x, hx => by
    cases h : one s p with
    | none => rw [ents, h] at hx; simp at hx
    | some y =>
      rw [ents_step h] at hx
      have hb := one_bd (t := y.1) (q := y.2) h
      rcases List.mem_cons.1 hx with rfl | hx
      · omega
      · exact ents_bd k y.2 x hx
theorem ents_len {s : ByteArray} : ∀ (k : Nat) (p : Int), (ents s k p).length ≤ k
  | 0, _ => by simp [ents]
  | k + 1, p => by
    cases h : one s p with
    | none => rw [ents, h]; simp
    | some y => rw [ents_step h]; have := ents_len (s := s) k y.2; simp; omega
end Jn
end Go.Proofs.YtfefafmcaepoiaaGreatDoor

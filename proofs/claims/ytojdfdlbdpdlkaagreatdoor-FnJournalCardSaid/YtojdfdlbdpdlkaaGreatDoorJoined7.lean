/- Plain mathematics of the order of names: byte by byte, the shorter one first; lists of files that rise by name. No function of the program here. The walks of the two functions that tell names: each answers 'nameB'. The walks of the program's question whether files are right: it answers 'right'. -/
import Derived.Test.YtojdfdlbdpdlkaaGreatDoorFsMap
import Derived.Test.YtojdfdlbdpdlkaaGreatDoorProg
import Derived.Test.YtojdfdlbdpdlkaaGreatDoorJoined6
import Derived.WalkKit
import Derived.WalkSpells
import Derived.WalkLawsBesides
import Derived.BigQuiet
import Derived.Deep.QuietTactic
import Derived.BigRegion
import Derived.Lib.QuietBelow
namespace Go.Proofs.YtojdfdlbdpdlkaaGreatDoor
open Go.RowKit
namespace Fk
theorem lt_irrefl : ∀ a : List UInt8, Op.bytesLess a a = false
  | [] => rfl
  | x :: r => by
    have h : ¬ x < x := UInt8.lt_irrefl x
    simp [Op.bytesLess, lt_irrefl r]
theorem lt_trans : ∀ a b c : List UInt8, Op.bytesLess a b = true → Op.bytesLess b c = true → Op.bytesLess a c = true
  | _, [], _, h, _ => by cases ‹List UInt8› <;> simp [Op.bytesLess] at h
  | _, _ :: _, [], _, h => by simp [Op.bytesLess] at h
  | [], _ :: _, _ :: _, _, _ => rfl
  | x :: a, y :: b, z :: c, h1, h2 => by
    simp only [Op.bytesLess, Bool.or_eq_true, Bool.and_eq_true, decide_eq_true_eq, beq_iff_eq] at h1 h2 ⊢
    rcases h1 with h1 | ⟨rfl, h1⟩
    · rcases h2 with h2 | ⟨rfl, h2⟩
      · exact .inl (UInt8.lt_trans h1 h2)
      · exact .inl h1
    · rcases h2 with h2 | ⟨rfl, h2⟩
      · exact .inl h2
      · exact .inr ⟨rfl, lt_trans a b c h1 h2⟩
theorem lt_total : ∀ a b : List UInt8, Op.bytesLess a b = true ∨ a = b ∨ Op.bytesLess b a = true
  | [], [] => .inr (.inl rfl)
  | [], _ :: _ => .inl rfl
  | _ :: _, [] => .inr (.inr rfl)
  | x :: a, y :: b => by
    simp only [Op.bytesLess, Bool.or_eq_true, Bool.and_eq_true, decide_eq_true_eq, beq_iff_eq, List.cons.injEq]
    rcases Nat.lt_trichotomy x.toNat y.toNat with h | h | h
    · exact .inl (.inl h)
    · have e : x = y := UInt8.toNat_inj.1 h
      subst e
      rcases lt_total a b with h | h | h
      · exact .inl (.inr ⟨rfl, h⟩)
      · exact .inr (.inl ⟨rfl, h⟩)
      · exact .inr (.inr (.inr ⟨rfl, h⟩))
    · exact .inr (.inr (.inl h))
/-- a name ahead of another -/
def less (a b : ByteArray) : Bool := Op.bytesLess a.toList b.toList
theorem less_irrefl (a : ByteArray) : less a a = false := lt_irrefl _
theorem less_trans {a b c : ByteArray} (h : less a b = true) (k : less b c = true) : less a c = true := lt_trans _ _ _ h k
theorem less_ne {a b : ByteArray} (h : less a b = true) : a ≠ b := fun e => by subst e; rw [less_irrefl] at h; cases h
theorem less_total (a b : ByteArray) : less a b = true ∨ a = b ∨ less b a = true := by
  rcases lt_total a.toList b.toList with h | h | h
  · exact .inl h
  · exact .inr (.inl (data_inj (by rw [← toList_data, ← toList_data]; exact h)))
  · exact .inr (.inr h)
theorem less_asymm {a b : ByteArray} (h : less a b = true) : less b a = false := by
  cases h' : less b a with
  | false => rfl
  | true => have := less_trans h h'; rw [less_irrefl] at this; cases this
/-- the list rises by name -/
def Rises (L : List Fl) : Prop := L.Pairwise (fun f g => less f.1 g.1 = true)
theorem Rises.apart {L : List Fl} (h : Rises L) : L.Pairwise (fun f g => f.1 ≠ g.1) := h.imp less_ne
/-- two lists that rise and have the same files are one -/
theorem rises_ext : ∀ {A B : List Fl}, Rises A → Rises B → (∀ f, f ∈ A ↔ f ∈ B) → A = B
  | [], [], _, _, _ => rfl
  | [], b :: B, _, _, h => by have := (h b).2 (List.mem_cons_self ..); cases this
  | a :: A, [], _, _, h => by have := (h a).1 (List.mem_cons_self ..); cases this
  | a :: A, b :: B, hA, hB, h => by
    have hA' := List.pairwise_cons.1 hA
    have hB' := List.pairwise_cons.1 hB
    have e : a = b := by
      rcases List.mem_cons.1 ((h a).1 (List.mem_cons_self ..)) with e | ha
      · exact e
      · rcases List.mem_cons.1 ((h b).2 (List.mem_cons_self ..)) with e | hb
        · exact e.symm
        · have h1 := hB'.1 a ha
          have h2 := hA'.1 b hb
          have := less_trans h1 h2
          rw [less_irrefl] at this
          cases this
    subst e
    rw [rises_ext (A := A) (B := B) hA'.2 hB'.2 (fun f => ?_)]
    constructor
    · intro hf
      rcases List.mem_cons.1 ((h f).1 (List.mem_cons_of_mem _ hf)) with e | hf'
      · subst e
        have := hA'.1 f hf
        rw [less_irrefl] at this
        cases this
      · exact hf'
    · intro hf
      rcases List.mem_cons.1 ((h f).2 (List.mem_cons_of_mem _ hf)) with e | hf'
      · subst e
        have := hB'.1 f hf
        rw [less_irrefl] at this
        cases this
      · exact hf'
/-- each name ahead of the next one: the list rises -/
theorem rises_of_steps (L : List Fl) (h : ∀ k, k + 1 < L.length → less (nm L k) (nm L (k + 1)) = true) : Rises L := by
  induction L with
  | nil => exact List.Pairwise.nil
  | cons f r ih =>
    have hr : Rises r := ih (fun k hk => by have := h (k + 1) (by simpa using hk); simpa [nm] using this)
    refine List.pairwise_cons.2 ⟨fun g hg => ?_, hr⟩
    cases r with
    | nil => cases hg
    | cons g0 r' =>
      have h0 : less f.1 g0.1 = true := by have := h 0 (by simp); simpa [nm] using this
      rcases List.mem_cons.1 hg with e | hg'
      · rw [e]; exact h0
      · exact less_trans h0 ((List.pairwise_cons.1 hr).1 g hg')
theorem right_rises (L : List Fl) (h : right L = true) : Rises L := by
  refine rises_of_steps L fun k hk => ?_
  have := (right_inv L h).2 (k + 1) hk
  simp only [step, Bool.and_eq_true, Bool.or_eq_true, Nat.add_sub_cancel] at this
  rcases this.2 with e | e
  · simp at e
  · exact e
end Fk
end Go.Proofs.YtojdfdlbdpdlkaaGreatDoor

namespace Go.Proofs.YtojdfdlbdpdlkaaGreatDoor
open Go.RowKit
set_option linter.unusedVariables false

set_option maxHeartbeats 400000 in
theorem small_any (c : Int) (w : World) :
    Calls Tryz.prog 78 #[.int .u8 c] w fun e w' => e = .returned (.bool (Nm.low c)) ∧ w' = w := by
  by_cases ha : 97 ≤ c <;> by_cases hb : c ≤ 122
  all_goals
    go_enter Tryz.func78, Tryz.ntmps78
    go_wp2
    go_ret
    refine ⟨?_, rfl⟩
    simp [Nm.low, ha, hb]

set_option maxHeartbeats 400000 in
theorem nameByte_any (c : Int) (w : World) :
    Calls Tryz.prog 79 #[.int .u8 c] w fun e w' => e = .returned (.bool (Nm.nb c)) ∧ w' = w := by
  by_cases ha : 97 ≤ c <;> by_cases hb : c ≤ 122 <;> by_cases hc : 48 ≤ c <;> by_cases hd : c ≤ 57 <;> by_cases he : (c == 95) = true
  all_goals
    try have he' : (c == 95) = false := by simpa using he
    go_enter Tryz.func79, Tryz.ntmps79
    go_wp2
    go_ret
    refine ⟨?_, rfl⟩
    simp [Nm.nb]
    simp at he
    omega

set_option maxHeartbeats 1000000 in
theorem implName_any (s : ByteArray) (w : World) (hs : s.size ≤ maxLen) :
    Calls Tryz.prog 52 #[.string s] w fun e w' => e = .returned (.bool (Nm.nameB s)) ∧ w' = w := by
  unfold maxLen at hs
  by_cases h1 : s.size < 1
  · have H : Hid (Nm.nameB s = false) := Nm.name_short s (.inl h1)
    go_enter Tryz.func52, Tryz.ntmps52
    go_wp2
    go_ret
    exact ⟨by rw [H.out]; rfl, rfl⟩
  by_cases h2 : 20 < s.size
  · have H : Hid (Nm.nameB s = false) := Nm.name_short s (.inr h2)
    go_enter Tryz.func52, Tryz.ntmps52
    go_wp2
    go_ret
    exact ⟨by rw [H.out]; rfl, rfl⟩
  have h0 : 0 < s.size := by omega
  have e0 := Nm.at_get s 0 h0
  cases hl : Nm.low (s[0].toNat : Int) with
  | false =>
    have H : Hid (Nm.nameB s = false) := Nm.name_first s (by rw [e0]; exact hl)
    clear e0
    go_enter Tryz.func52, Tryz.ntmps52
    go_wp2_with (go_at_call 78; refine (small_any _ _).mono ?_; rintro e w' ⟨rfl, rfl⟩)
    go_ret
    exact ⟨by rw [H.out]; rfl, rfl⟩
  | true =>
    have HL : Hid (Nm.low (Nm.at_ s 0) = true) := by rw [e0]; exact hl
    clear e0
    go_enter Tryz.func52, Tryz.ntmps52
    go_wp2_with (go_at_call 78; refine (small_any _ _).mono ?_; rintro e w' ⟨rfl, rfl⟩)
    go_loop [3] (fun i => ∃ k : Nat, 1 ≤ k ∧ k ≤ s.size ∧ i = .int .i64 k ∧ Hid (∀ j, j < k → j ≠ 0 → Nm.nb (Nm.at_ s j) = true)) (fun i => s.size - (intOf i).toNat)
    case atStart => exact ⟨1, Nat.le_refl _, by omega, rfl, fun j hj h => absurd hj (by omega)⟩
    case round =>
      obtain ⟨k, hk1, hk, rfl, HK⟩ := hrel
      by_cases hlt : k < s.size
      · have ek := Nm.at_get s k hlt
        cases hn : Nm.nb (s[k].toNat : Int) with
        | false =>
          have H : Hid (Nm.nameB s = false) := Nm.name_later s k hlt (by omega) (by rw [ek]; exact hn)
          clear ek
          go_wp2_with (go_at_call 79; refine (nameByte_any _ _).mono ?_; rintro e w' ⟨rfl, rfl⟩)
          go_ret
          exact ⟨by rw [H.out]; rfl, rfl⟩
        | true =>
          have HN : Hid (Nm.nb (Nm.at_ s k) = true) := by rw [ek]; exact hn
          clear ek
          go_wp2_with (go_at_call 79; refine (nameByte_any _ _).mono ?_; rintro e w' ⟨rfl, rfl⟩)
          go_round
          case rel =>
            refine ⟨k + 1, by omega, by omega, by go_num, fun j hj h => ?_⟩
            by_cases e : j = k
            · subst e; exact HN.out
            · exact HK.out j (by omega) h
          case measure => simp [intOf]; omega
      · have H : Hid (Nm.nameB s = true) := Nm.name_yes s (by omega) (by omega) HL.out (fun j hj h => HK.out j (by omega) h)
        go_wp2
        go_ret
        exact ⟨by rw [H.out]; rfl, rfl⟩

set_option maxHeartbeats 2000000 in
theorem specName_any (s : ByteArray) (w : World) (hs : s.size ≤ maxLen) :
    Calls Tryz.prog 59 #[.string s] w fun e w' => e = .returned (.bool (Nm.nameB s)) ∧ w' = w := by
  unfold maxLen at hs
  by_cases h1 : s.size < 1
  · have H : Hid (Nm.nameB s = false) := Nm.name_short s (.inl h1)
    go_enter Tryz.func59, Tryz.ntmps59
    go_wp2
    go_ret
    exact ⟨by rw [H.out]; rfl, rfl⟩
  by_cases h2 : 20 < s.size
  · have H : Hid (Nm.nameB s = false) := Nm.name_short s (.inr h2)
    go_enter Tryz.func59, Tryz.ntmps59
    go_wp2
    go_ret
    exact ⟨by rw [H.out]; rfl, rfl⟩
  go_enter Tryz.func59, Tryz.ntmps59
  go_wp2
  go_loop [3] (fun i => ∃ k : Nat, k ≤ s.size ∧ i = .int .i64 k ∧ Hid ((0 < k → Nm.low (Nm.at_ s 0) = true) ∧ ∀ j, j < k → j ≠ 0 → Nm.nb (Nm.at_ s j) = true)) (fun i => s.size - (intOf i).toNat)
  case atStart => exact ⟨0, Nat.zero_le _, rfl, fun h => absurd h (by omega), fun j hj h => absurd hj (by omega)⟩
  case round =>
    obtain ⟨k, hk, rfl, HK⟩ := hrel
    by_cases hlt : k < s.size
    · have ek := Nm.at_get s k hlt
      have HE : Hid (Nm.at_ s k = (s[k].toNat : Int)) := ek
      clear ek
      by_cases ha : 97 ≤ (s[k].toNat : Int) ∧ (s[k].toNat : Int) ≤ 122
      · obtain ⟨ha1, ha2⟩ := ha
        go_wp2
        go_round
        case rel =>
          refine ⟨k + 1, by omega, by go_num, ?_, ?_⟩
          · intro _
            by_cases e : k = 0
            · subst e; rw [HE.out]; simp [Nm.low]; omega
            · exact HK.out.1 (by omega)
          · intro j hj h
            by_cases e : j = k
            · subst e; rw [HE.out]; simp [Nm.nb]; omega
            · exact HK.out.2 j (by omega) h
        case measure => simp [intOf]; omega
      · by_cases h0 : k = 0
        · subst h0
          have H : Hid (Nm.nameB s = false) := Nm.name_first s (by rw [HE.out]; simp only [Nm.low, decide_eq_false_iff_not]; exact ha)
          by_cases ha1 : 97 ≤ (s[0].toNat : Int)
          · have ha2 : ¬ (s[0].toNat : Int) ≤ 122 := fun h => ha ⟨ha1, h⟩
            clear ha
            go_wp2
            go_ret
            exact ⟨by rw [H.out]; rfl, rfl⟩
          · clear ha
            go_wp2
            go_ret
            exact ⟨by rw [H.out]; rfl, rfl⟩
        · have h0' : ((k : Int) == 0) = false := by simp; omega
          by_cases hb : 48 ≤ (s[k].toNat : Int) ∧ (s[k].toNat : Int) ≤ 57 ∨ (s[k].toNat : Int) = 95
          · have HB : Hid (Nm.nb (Nm.at_ s k) = true) := by show Nm.nb (Nm.at_ s k) = true; rw [HE.out]; simp only [Nm.nb, decide_eq_true_eq]; omega
            have HR : Hid ((0 < k + 1 → Nm.low (Nm.at_ s 0) = true) ∧ ∀ j, j < k + 1 → j ≠ 0 → Nm.nb (Nm.at_ s j) = true) := by
              refine ⟨fun _ => HK.out.1 (by omega), fun j hj h => ?_⟩
              by_cases e : j = k
              · subst e; exact HB.out
              · exact HK.out.2 j (by omega) h
            by_cases ha1 : 97 ≤ (s[k].toNat : Int) <;> by_cases ha2 : (s[k].toNat : Int) ≤ 122 <;> by_cases hb1 : 48 ≤ (s[k].toNat : Int) <;> by_cases hb2 : (s[k].toNat : Int) ≤ 57 <;> by_cases hb3 : (s[k].toNat : Int) = 95
            all_goals first | (exfalso; omega) | skip
            all_goals
              first | have hb4 : ((s[k].toNat : Int) != 95) = false := by simp [hb3] | have hb4 : ((s[k].toNat : Int) != 95) = true := bne_iff_ne.2 (by omega)
              clear ha hb hb3
              go_wp2
              go_round
              case rel => exact ⟨k + 1, by omega, by go_num, HR⟩
              case measure => simp [intOf]; omega
          · have H : Hid (Nm.nameB s = false) := Nm.name_later s k hlt h0 (by rw [HE.out]; simp only [Nm.nb, decide_eq_false_iff_not]; omega)
            by_cases ha1 : 97 ≤ (s[k].toNat : Int) <;> by_cases ha2 : (s[k].toNat : Int) ≤ 122 <;> by_cases hb1 : 48 ≤ (s[k].toNat : Int) <;> by_cases hb2 : (s[k].toNat : Int) ≤ 57
            all_goals first | (exfalso; omega) | skip
            all_goals
              have hb4 : ((s[k].toNat : Int) != 95) = true := bne_iff_ne.2 (by omega)
              clear ha hb
              go_wp2
              go_ret
              exact ⟨by rw [H.out]; rfl, rfl⟩
    · have H : Hid (Nm.nameB s = true) := Nm.name_yes s (by omega) (by omega) (HK.out.1 (by omega)) (fun j hj h => HK.out.2 j (by omega) h)
      go_wp2
      go_ret
      exact ⟨by rw [H.out]; rfl, rfl⟩
end Go.Proofs.YtojdfdlbdpdlkaaGreatDoor

namespace Go.Proofs.YtojdfdlbdpdlkaaGreatDoor
open Go.RowKit
set_option linter.unusedVariables false

set_option maxHeartbeats 2000000 in
theorem fileRight_any (a b : ByteArray) (s : Int) (w : World) (ha : a.size ≤ maxLen) (hb : b.size ≤ maxLen) :
    Calls Tryz.prog 77 #[.agg #[.string a, .string b, .int .i64 s]] w fun e w' => e = .returned (.bool (Fk.fok a b s)) ∧ Below w.heap.size w w' := by
  have HB : Hid (∀ o, Below w.heap.size w (w.alloc o)) := fun o => (Below.refl w.heap.size w).alloc (Nat.le_refl _) o
  have HM : Hid (b.size ≤ maxLen) := hb
  unfold maxLen at hb
  cases hn : Nm.nameB a with
  | false =>
    have HF : Hid (Fk.fok a b s = false) := by show _ = _; simp [Fk.fok, hn]
    go_enter Tryz.func77, Tryz.ntmps77
    go_wp2_with (go_at_call 52; refine (implName_any _ _ ha).mono ?_; rintro e w' ⟨rfl, rfl⟩)
    go_ret
    exact ⟨by rw [HF.out]; rfl, HB.out _⟩
  | true =>
    have HF : Hid (Fk.fok a b s = decide ((b.size : Int) ≤ 3000 ∧ 0 ≤ s ∧ s ≤ b.size)) := by
      show _ = _
      have e : decide (b.size ≤ 3000) = decide ((b.size : Int) ≤ 3000) := by simp; omega
      simp only [Fk.fok, hn, e]
      simp
    by_cases hd : (b.size : Int) ≤ 3000
    · by_cases h0 : 0 ≤ s
      · go_enter Tryz.func77, Tryz.ntmps77
        go_wp2_with (go_at_call 52; refine (implName_any _ _ ha).mono ?_; rintro e w' ⟨rfl, rfl⟩)
        go_ret
        refine ⟨?_, HB.out _⟩
        rw [HF.out]
        simp [hd, h0]
      · go_enter Tryz.func77, Tryz.ntmps77
        go_wp2_with (go_at_call 52; refine (implName_any _ _ ha).mono ?_; rintro e w' ⟨rfl, rfl⟩)
        go_ret
        refine ⟨?_, HB.out _⟩
        rw [HF.out]
        have e : ¬ ((b.size : Int) ≤ 3000 ∧ 0 ≤ s ∧ s ≤ b.size) := by omega
        rw [decide_eq_false e]
        rfl
    · go_enter Tryz.func77, Tryz.ntmps77
      go_wp2_with (go_at_call 52; refine (implName_any _ _ ha).mono ?_; rintro e w' ⟨rfl, rfl⟩)
      go_ret
      refine ⟨?_, HB.out _⟩
      rw [HF.out]
      have e : ¬ ((b.size : Int) ≤ 3000 ∧ 0 ≤ s ∧ s ≤ b.size) := by omega
      rw [decide_eq_false e]
      rfl

set_option maxHeartbeats 2000000 in
theorem fsRight_impl (v : Value) (L : List Fk.Fl) (w : World) (hv : Fk.View w v L) (hL : Fk.Fits L) (hl : L.length ≤ maxLen) :
    Calls Tryz.prog 51 #[.agg #[v]] w fun e w' => e = .returned (.bool (Fk.right L)) ∧ Below w.heap.size w w' := by
  unfold maxLen at hl
  have b0 : Below w.heap.size w (w.alloc (.cells #[v] 25)) := (Below.refl _ _).alloc (Nat.le_refl _) _
  have hv' := hv.below b0
  have hcell : (w.alloc (.cells #[v] 25)).cell? ⟨w.heap.size, 0, none⟩ = some v := by rw [Fk.cellTop _ _ _ _ _ rfl]; rfl
  have hsz : w.heap.size < (w.alloc (.cells #[v] 25)).heap.size := by simp
  obtain ⟨W, hW⟩ : ∃ W, W = w.alloc (.cells #[v] 25) := ⟨_, rfl⟩
  rw [← hW] at b0 hv' hcell hsz
  have HW : Hid (W = w.alloc (.cells #[v] 25)) := hW
  clear hW hv
  obtain ⟨a, cap, rfl, hs⟩ := hv'
  by_cases h12 : 12 < L.length
  · have HF : Hid (Fk.right L = false) := Fk.right_long L h12
    go_enter Tryz.func51, Tryz.ntmps51
    go_wp2_with fail
    go_ret
    exact ⟨by rw [HF.out]; rfl, by rw [← HW.out]; exact b0⟩
  go_enter Tryz.func51, Tryz.ntmps51
  go_wp2_with fail
  rw [← HW.out]
  go_loopw [12] (fun i wr => ∃ k : Nat, k ≤ L.length ∧ i = .int .i64 k ∧ Hid (∀ j, j < k → Fk.step L j = true) ∧ Below W.heap.size W wr) (fun i _ => L.length - (intOf i).toNat)
  case atStart => exact ⟨0, Nat.zero_le _, rfl, fun j hj => absurd hj (by omega), Below.refl _ _⟩
  case round =>
    obtain ⟨k, hk, rfl, HK, bel⟩ := hrel
    by_cases hlt : k < L.length
    · obtain ⟨b, o, rfl, hb, hs1⟩ := hs (by omega)
      have hs' := hs1.below hb bel
      have q0 := hs'.c0 k hlt
      have q1 := hs'.c1 k hlt
      have q2 := hs'.c2 k hlt
      go_wp2_with fail
      have hg : wr.heap.size = wr.heap.size := rfl
      obtain ⟨W2, hW2⟩ : ∃ W2, W2 = wr.alloc (.cells #[.string (Fk.nm L k), .string (Fk.dt L k), .int .i64 (Fk.sy L k)] 75) := ⟨_, rfl⟩
      rw [← hW2]
      have b2 : Below wr.heap.size wr W2 := by rw [hW2]; exact (Below.refl _ _).alloc (Nat.le_refl _) _
      have b3 : Below W.heap.size W W2 := bel.trans (b2.mono bel.size)
      have c0 : W2.cell? ⟨wr.heap.size, 0, none⟩ = some (.string (Fk.nm L k)) := by rw [hW2, Fk.cellTop _ _ _ _ _ rfl]; rfl
      have c1 : W2.cell? ⟨wr.heap.size, 1, none⟩ = some (.string (Fk.dt L k)) := by rw [hW2, Fk.cellTop _ _ _ _ _ rfl]; rfl
      have c2 : W2.cell? ⟨wr.heap.size, 2, none⟩ = some (.int .i64 (Fk.sy L k)) := by rw [hW2, Fk.cellTop _ _ _ _ _ rfl]; rfl
      have c3 : W2.cell? ⟨w.heap.size, 0, none⟩ = some (.slice (some ⟨b, o, none⟩) L.length cap) := (b3.cell (by exact hsz)).trans hcell
      have hlt2 : wr.heap.size < W2.heap.size := by rw [hW2]; simp
      have hs2 := hs1.below hb b3
      obtain ⟨z0, z1, z2⟩ := Fk.fits_get hL k
      clear hW2 q0 q1 q2 hs' hcell
      have r0 := cell_regrown c0
      have r1 := cell_regrown c1
      have r2 := cell_regrown c2
      have r3 := cell_regrown c3
      cases hf : Fk.fok (Fk.nm L k) (Fk.dt L k) (Fk.sy L k) with
      | false =>
        have HF : Hid (Fk.right L = false) := Fk.right_at L k hlt (Fk.step_ill L k hf)
        have fr : ∀ w', Calls Tryz.prog 77 #[.agg #[.string (Fk.nm L k), .string (Fk.dt L k), .int .i64 (Fk.sy L k)]] w' fun e w'' => e = .returned (.bool false) ∧ Below w'.heap.size w' w'' := fun w' => by
          have := fileRight_any (Fk.nm L k) (Fk.dt L k) (Fk.sy L k) w' z0 z1
          rw [hf] at this
          exact this
        refine wp_region_quiet_below (by kernel_rfl) (by kernel_rfl) ?_
        repeat (go_big_quiet_step (exact Calls.regrown_of (fr _)))
        refine wpQuiet_nil ?_
        intro w4 hw'
        obtain ⟨⟨dq, osq⟩, hw''⟩ := hw'
        have b4 : Below w.heap.size w w4 := by rw [hw'']; exact b0.trans (b3.trans ((below_regrown W2 dq osq).mono b3.size) |>.mono b0.size)
        clear hw'' r0 r1 r2 r3 fr
        go_wp2_with fail
        go_ret
        exact ⟨by rw [HF.out]; rfl, b4⟩
      | true =>
        have fr : ∀ w', Calls Tryz.prog 77 #[.agg #[.string (Fk.nm L k), .string (Fk.dt L k), .int .i64 (Fk.sy L k)]] w' fun e w'' => e = .returned (.bool true) ∧ Below w'.heap.size w' w'' := fun w' => by
          have := fileRight_any (Fk.nm L k) (Fk.dt L k) (Fk.sy L k) w' z0 z1
          rw [hf] at this
          exact this
        by_cases hk0 : k = 0
        · subst hk0
          have HS : Hid (Fk.step L 0 = true) := Fk.step_first L hf
          have hd0 : decide ((0 : Int) < ((0 : Nat) : Int)) = false := by decide
          refine wp_region_quiet_below (by kernel_rfl) (by kernel_rfl) ?_
          repeat (go_big_quiet_step (exact Calls.regrown_of (fr _)))
          refine wpQuiet_nil ?_
          intro w4 hw'
          obtain ⟨⟨dq, osq⟩, hw''⟩ := hw'
          have b4 : Below W.heap.size W w4 := by rw [hw'']; exact b3.trans ((below_regrown W2 dq osq).mono b3.size)
          clear hw'' r0 r1 r2 r3 fr
          go_wp2_with fail
          go_roundw
          case rel => exact ⟨1, by omega, by go_num, (fun j hj => by have e : j = 0 := Nat.lt_one_iff.1 hj; rw [e]; exact HS.out), b4⟩
          case measure => simp [intOf]; omega
        · have r4 := cell_regrown (hs2.c0 (k - 1) (by omega))
          have hk1 : (0 : Int) < (k : Int) := by omega
          have hk5 : 0 < k := by omega
          have hk6 : decide (0 < k) = true := decide_eq_true hk5
          have hk2 : ((k : Int) - 1).toNat = k - 1 := by omega
          have hk3 : (0 : Int) ≤ (k : Int) - 1 := by omega
          have hk4 : (k : Int) - 1 < (L.length : Int) := by omega
          cases hb2 : Op.bytesLess (Fk.nm L (k - 1)).toList (Fk.nm L k).toList with
          | false =>
            have HF : Hid (Fk.right L = false) := Fk.right_at L k hlt (Fk.step_down L k hk0 hb2)
            refine wp_region_quiet_below (by kernel_rfl) (by kernel_rfl) ?_
            repeat (go_big_quiet_step (exact Calls.regrown_of (fr _)))
            refine wpQuiet_nil ?_
            intro w4 hw'
            obtain ⟨⟨dq, osq⟩, hw''⟩ := hw'
            have b4 : Below W.heap.size W w4 := by rw [hw'']; exact b3.trans ((below_regrown W2 dq osq).mono b3.size)
            clear hw'' r0 r1 r2 r3 r4 fr
            go_wp2_with fail
            go_ret
            exact ⟨by rw [HF.out]; rfl, b0.trans (b4.mono b0.size)⟩
          | true =>
            have HS : Hid (Fk.step L k = true) := Fk.step_later L k hf hb2
            refine wp_region_quiet_below (by kernel_rfl) (by kernel_rfl) ?_
            repeat (go_big_quiet_step (exact Calls.regrown_of (fr _)))
            refine wpQuiet_nil ?_
            intro w4 hw'
            obtain ⟨⟨dq, osq⟩, hw''⟩ := hw'
            have b4 : Below W.heap.size W w4 := by rw [hw'']; exact b3.trans ((below_regrown W2 dq osq).mono b3.size)
            clear hw'' r0 r1 r2 r3 r4 fr
            go_wp2_with fail
            go_roundw
            case rel =>
              refine ⟨k + 1, by omega, by go_num, (fun j hj => ?_), b4⟩
              by_cases e : j = k
              · rw [e]; exact HS.out
              · exact HK.out j (by omega)
            case measure => simp [intOf]; omega
    · have e : k = L.length := by omega
      subst e
      have HF : Hid (Fk.right L = true) := Fk.right_yes L (by omega) HK.out
      go_wp2_with fail
      go_ret
      exact ⟨by rw [HF.out]; rfl, b0.trans (bel.mono b0.size)⟩
end Go.Proofs.YtojdfdlbdpdlkaaGreatDoor

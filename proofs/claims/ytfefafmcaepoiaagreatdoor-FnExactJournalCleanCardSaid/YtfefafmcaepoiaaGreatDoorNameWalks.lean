/- The walks of the two functions that tell names: each answers 'nameB'. -/
import Derived.Test.YtfefafmcaepoiaaGreatDoorProg
import Derived.Test.YtfefafmcaepoiaaGreatDoorJoined5
import Derived.WalkKit
import Derived.WalkSpells
import Derived.WalkLawsBesides
import Derived.BigQuiet
import Derived.Deep.QuietTactic
namespace Go.Proofs.YtfefafmcaepoiaaGreatDoor
open Go.RowKit
set_option linter.unusedVariables false

set_option maxHeartbeats 400000 in
theorem small_any (c : Int) (w : World) :
    Calls Tryz.prog 68 #[.int .u8 c] w fun e w' => e = .returned (.bool (Nm.low c)) ∧ w' = w := by
  by_cases ha : 97 ≤ c <;> by_cases hb : c ≤ 122
  all_goals
    go_enter Tryz.func68, Tryz.ntmps68
    go_wp2
    go_ret
    refine ⟨?_, rfl⟩
    simp [Nm.low, ha, hb]

set_option maxHeartbeats 400000 in
theorem nameByte_any (c : Int) (w : World) :
    Calls Tryz.prog 69 #[.int .u8 c] w fun e w' => e = .returned (.bool (Nm.nb c)) ∧ w' = w := by
  by_cases ha : 97 ≤ c <;> by_cases hb : c ≤ 122 <;> by_cases hc : 48 ≤ c <;> by_cases hd : c ≤ 57 <;> by_cases he : (c == 95) = true
  all_goals
    try have he' : (c == 95) = false := by simpa using he
    go_enter Tryz.func69, Tryz.ntmps69
    go_wp2
    go_ret
    refine ⟨?_, rfl⟩
    simp [Nm.nb]
    simp at he
    omega

set_option maxHeartbeats 1000000 in
theorem implName_any (s : ByteArray) (w : World) (hs : s.size ≤ maxLen) :
    Calls Tryz.prog 50 #[.string s] w fun e w' => e = .returned (.bool (Nm.nameB s)) ∧ w' = w := by
  unfold maxLen at hs
  by_cases h1 : s.size < 1
  · have H : Hid (Nm.nameB s = false) := Nm.name_short s (.inl h1)
    go_enter Tryz.func50, Tryz.ntmps50
    go_wp2
    go_ret
    exact ⟨by rw [H.out]; rfl, rfl⟩
  by_cases h2 : 20 < s.size
  · have H : Hid (Nm.nameB s = false) := Nm.name_short s (.inr h2)
    go_enter Tryz.func50, Tryz.ntmps50
    go_wp2
    go_ret
    exact ⟨by rw [H.out]; rfl, rfl⟩
  have h0 : 0 < s.size := by omega
  have e0 := Nm.at_get s 0 h0
  cases hl : Nm.low (s[0].toNat : Int) with
  | false =>
    have H : Hid (Nm.nameB s = false) := Nm.name_first s (by rw [e0]; exact hl)
    clear e0
    go_enter Tryz.func50, Tryz.ntmps50
    go_wp2_with (go_at_call 68; refine (small_any _ _).mono ?_; rintro e w' ⟨rfl, rfl⟩)
    go_ret
    exact ⟨by rw [H.out]; rfl, rfl⟩
  | true =>
    have HL : Hid (Nm.low (Nm.at_ s 0) = true) := by rw [e0]; exact hl
    clear e0
    go_enter Tryz.func50, Tryz.ntmps50
    go_wp2_with (go_at_call 68; refine (small_any _ _).mono ?_; rintro e w' ⟨rfl, rfl⟩)
    go_loop [3] (fun i => ∃ k : Nat, 1 ≤ k ∧ k ≤ s.size ∧ i = .int .i64 k ∧ Hid (∀ j, j < k → j ≠ 0 → Nm.nb (Nm.at_ s j) = true)) (fun i => s.size - (intOf i).toNat)
    case atStart => exact ⟨1, Nat.le_refl _, by omega, rfl, fun j hj h => absurd hj (by omega)⟩
    case round =>
      obtain ⟨k, hk1, hk, rfl, HK⟩ := hrel
      by_cases hlt : k < s.size
      · have ek := Nm.at_get s k hlt
        cases hn : Nm.nb (s[k].toNat : Int) with
        | false =>
          have H : Hid (Nm.nameB s = false) := Nm.name_later s k hlt (by omega) (by rw [ek]; exact hn)
          clear ek
          go_wp2_with (go_at_call 69; refine (nameByte_any _ _).mono ?_; rintro e w' ⟨rfl, rfl⟩)
          go_ret
          exact ⟨by rw [H.out]; rfl, rfl⟩
        | true =>
          have HN : Hid (Nm.nb (Nm.at_ s k) = true) := by rw [ek]; exact hn
          clear ek
          go_wp2_with (go_at_call 69; refine (nameByte_any _ _).mono ?_; rintro e w' ⟨rfl, rfl⟩)
          go_round
          case rel =>
            refine ⟨k + 1, by omega, by omega, by go_num, fun j hj h => ?_⟩
            by_cases e : j = k
            · subst e; exact HN.out
            · exact HK.out j (by omega) h
          case measure => simp [intOf]; omega
      · have H : Hid (Nm.nameB s = true) := Nm.name_yes s (by omega) (by omega) HL.out (fun j hj h => HK.out j (by omega) h)
        go_wp2
        go_ret
        exact ⟨by rw [H.out]; rfl, rfl⟩

set_option maxHeartbeats 2000000 in
theorem specName_any (s : ByteArray) (w : World) (hs : s.size ≤ maxLen) :
    Calls Tryz.prog 40 #[.string s] w fun e w' => e = .returned (.bool (Nm.nameB s)) ∧ w' = w := by
  unfold maxLen at hs
  by_cases h1 : s.size < 1
  · have H : Hid (Nm.nameB s = false) := Nm.name_short s (.inl h1)
    go_enter Tryz.func40, Tryz.ntmps40
    go_wp2
    go_ret
    exact ⟨by rw [H.out]; rfl, rfl⟩
  by_cases h2 : 20 < s.size
  · have H : Hid (Nm.nameB s = false) := Nm.name_short s (.inr h2)
    go_enter Tryz.func40, Tryz.ntmps40
    go_wp2
    go_ret
    exact ⟨by rw [H.out]; rfl, rfl⟩
  go_enter Tryz.func40, Tryz.ntmps40
  go_wp2
  go_loop [3] (fun i => ∃ k : Nat, k ≤ s.size ∧ i = .int .i64 k ∧ Hid ((0 < k → Nm.low (Nm.at_ s 0) = true) ∧ ∀ j, j < k → j ≠ 0 → Nm.nb (Nm.at_ s j) = true)) (fun i => s.size - (intOf i).toNat)
  case atStart => exact ⟨0, Nat.zero_le _, rfl, fun h => absurd h (by omega), fun j hj h => absurd hj (by omega)⟩
  case round =>
    obtain ⟨k, hk, rfl, HK⟩ := hrel
    by_cases hlt : k < s.size
    · have ek := Nm.at_get s k hlt
      have HE : Hid (Nm.at_ s k = (s[k].toNat : Int)) := ek
      clear ek
      by_cases ha : 97 ≤ (s[k].toNat : Int) ∧ (s[k].toNat : Int) ≤ 122
      · obtain ⟨ha1, ha2⟩ := ha
        go_wp2
        go_round
        case rel =>
          refine ⟨k + 1, by omega, by go_num, ?_, ?_⟩
          · intro _
            by_cases e : k = 0
            · subst e; rw [HE.out]; simp [Nm.low]; omega
            · exact HK.out.1 (by omega)
          · intro j hj h
            by_cases e : j = k
            · subst e; rw [HE.out]; simp [Nm.nb]; omega
            · exact HK.out.2 j (by omega) h
        case measure => simp [intOf]; omega
      · by_cases h0 : k = 0
        · subst h0
          have H : Hid (Nm.nameB s = false) := Nm.name_first s (by rw [HE.out]; simp only [Nm.low, decide_eq_false_iff_not]; exact ha)
          by_cases ha1 : 97 ≤ (s[0].toNat : Int)
          · have ha2 : ¬ (s[0].toNat : Int) ≤ 122 := fun h => ha ⟨ha1, h⟩
            clear ha
            go_wp2
            go_ret
            exact ⟨by rw [H.out]; rfl, rfl⟩
          · clear ha
            go_wp2
            go_ret
            exact ⟨by rw [H.out]; rfl, rfl⟩
        · have h0' : ((k : Int) == 0) = false := by simp; omega
          by_cases hb : 48 ≤ (s[k].toNat : Int) ∧ (s[k].toNat : Int) ≤ 57 ∨ (s[k].toNat : Int) = 95
          · have HB : Hid (Nm.nb (Nm.at_ s k) = true) := by show Nm.nb (Nm.at_ s k) = true; rw [HE.out]; simp only [Nm.nb, decide_eq_true_eq]; omega
            have HR : Hid ((0 < k + 1 → Nm.low (Nm.at_ s 0) = true) ∧ ∀ j, j < k + 1 → j ≠ 0 → Nm.nb (Nm.at_ s j) = true) := by
              refine ⟨fun _ => HK.out.1 (by omega), fun j hj h => ?_⟩
              by_cases e : j = k
              · subst e; exact HB.out
              · exact HK.out.2 j (by omega) h
            by_cases ha1 : 97 ≤ (s[k].toNat : Int) <;> by_cases ha2 : (s[k].toNat : Int) ≤ 122 <;> by_cases hb1 : 48 ≤ (s[k].toNat : Int) <;> by_cases hb2 : (s[k].toNat : Int) ≤ 57 <;> by_cases hb3 : (s[k].toNat : Int) = 95
            all_goals first | (exfalso; omega) | skip
            all_goals
              first | have hb4 : ((s[k].toNat : Int) != 95) = false := by simp [hb3] | have hb4 : ((s[k].toNat : Int) != 95) = true := bne_iff_ne.2 (by omega)
              clear ha hb hb3
              go_wp2
              go_round
              case rel => exact ⟨k + 1, by omega, by go_num, HR⟩
              case measure => simp [intOf]; omega
          · have H : Hid (Nm.nameB s = false) := Nm.name_later s k hlt h0 (by rw [HE.out]; simp only [Nm.nb, decide_eq_false_iff_not]; omega)
            by_cases ha1 : 97 ≤ (s[k].toNat : Int) <;> by_cases ha2 : (s[k].toNat : Int) ≤ 122 <;> by_cases hb1 : 48 ≤ (s[k].toNat : Int) <;> by_cases hb2 : (s[k].toNat : Int) ≤ 57
            all_goals first | (exfalso; omega) | skip
            all_goals
              have hb4 : ((s[k].toNat : Int) != 95) = true := bne_iff_ne.2 (by omega)
              clear ha hb
              go_wp2
              go_ret
              exact ⟨by rw [H.out]; rfl, rfl⟩
    · have H : Hid (Nm.nameB s = true) := Nm.name_yes s (by omega) (by omega) (HK.out.1 (by omega)) (fun j hj h => HK.out.2 j (by omega) h)
      go_wp2
      go_ret
      exact ⟨by rw [H.out]; rfl, rfl⟩
end Go.Proofs.YtfefafmcaepoiaaGreatDoor

/- The walk of the program's GetNum. The walk of the specification's GetNum. -/
import Derived.Test.YtojdfdlbdpdlkaaGreatDoorReadNumWalks
namespace Go.Proofs.YtojdfdlbdpdlkaaGreatDoor
open Go.RowKit
set_option linter.unusedVariables false

/-- an answer with a number -/
def numOut (r : Int × Int × Int) : Value := .agg #[.int .i64 r.1, .int .i64 r.2.1, .int .i64 r.2.2]

end Go.Proofs.YtojdfdlbdpdlkaaGreatDoor

namespace Go.Proofs.YtojdfdlbdpdlkaaGreatDoor
open Go.RowKit
set_option linter.unusedVariables false

theorem agg3 {a b c a' b' c' : Int} (h1 : a = a') (h2 : b = b') (h3 : c = c') : Value.agg #[.int .i64 a, .int .i64 b, .int .i64 c] = .agg #[.int .i64 a', .int .i64 b', .int .i64 c'] := by rw [h1, h2, h3]

set_option maxHeartbeats 4000000 in
set_option maxRecDepth 100000 in
theorem specGetNum_in (s : ByteArray) (k : Nat) (w : World) (hs : s.size ≤ 8000) (h1 : (k : Int) ≤ 9223372036854775807) :
    Calls Tryz.prog 88 #[.string s, .int .i64 k] w fun e w' => e = .returned (numOut (Dc.getNum s k)) ∧ Below w.heap.size w w' := by
  have HB : Hid (∀ o, Below w.heap.size w (w.alloc o)) := fun o => ((Below.refl w.heap.size w).alloc (Nat.le_refl _) o)
  have h0 : (0 : Int) ≤ (k : Int) := by omega
  have HT : Hid ((k : Int).toNat = k) := Int.toNat_natCast k
  go_enter Tryz.func88, Tryz.ntmps88
  go_wp2_with fail
  go_loop [5, 6] (fun x y => ∃ i u : Nat, i ≤ 9 ∧ y = .int .i64 i ∧ x = .int .u64 u ∧ (u : Int) ≤ 18446744073709551615 ∧ Hid (u < 2 ^ (7 * i) ∧ Dc.dec 10 0 0 (s.data.toList.drop (k : Int).toNat) = Dc.dec (10 - i) i u (s.data.toList.drop ((k : Int).toNat + i)))) (fun _ y => 10 - (intOf y).toNat)
  case atStart => exact ⟨0, 0, by omega, rfl, rfl, by omega, by omega, rfl⟩
  case round =>
    obtain ⟨i, u, hi, rfl, rfl, hu, HD⟩ := hrel
    by_cases hlen : (s.size : Int) - (i : Int) ≤ (k : Int)
    · have HE : Hid (Dc.getNum s k = (0, 0, 4)) := (Dc.get_err s k 4 hs h0 (by decide) (Dc.at_end s k i u hi h0 (by omega) HD.out.2)).1
      go_wp2
      refine bodyPost_ret (v := numOut (0, 0, 4)) (by simp [results, Tryz.results88, go_sem, numOut]) rfl ⟨by rw [HE.out], HB.out _⟩
    · have hq1 : k + i < s.size := by omega
      have hb : (s[k + i].toNat : Int) ≤ 255 := by have := s[k + i].toNat_lt; omega
      have HY := hide (Dc.at_byte s k i u (k + i) hi h0 (by omega) hq1 HD.out.2)
      by_cases h9 : i = 9 ∧ 1 < s[k + i].toNat
      · have HE : Hid (Dc.getNum s k = (0, 0, 3)) := (Dc.get_err s k 3 hs h0 (by decide) (by rw [HY.out]; have h8 := h9.2; have h7 := h9.1; clear HY HD h9; revert h8; generalize s[k + i] = c; intro h8; subst h7; exact Dc.dec_ten _ _ _ _ h8)).1
        have h9' : ((i : Int) == 9) = true := by simp; omega
        have h8 : 1 < (s[k + i].toNat : Int) := by omega
        clear h9
        go_wp2
        refine bodyPost_ret (v := numOut (0, 0, 3)) (by simp [results, Tryz.results88, go_sem, numOut]) rfl ⟨by rw [HE.out], HB.out _⟩
      · have hsh := Dc.shl_val i u s[k + i].toNat hi HD.out.1 h9
        have hbd := Dc.add_bd i u s[k + i].toNat hi HD.out.1 h9
        have HL := hide (Dc.dec_last (9 - i) i u s[k + i] (s.data.toList.drop (k + i + 1)) h9)
        have HM := hide (Dc.dec_more (9 - i) i u s[k + i] (s.data.toList.drop (k + i + 1)) h9)
        have HA := hide (Dc.add_lt i u s[k + i].toNat HD.out.1)
        obtain ⟨z, hz⟩ : ∃ z, z = s[k + i].toNat % 128 * 2 ^ (7 * i) := ⟨_, rfl⟩
        rw [← hz] at hsh hbd
        have HV : Hid (z = s[k + i].toNat % 128 * 2 ^ (7 * i)) := hz
        clear hz
        have hbd' : (u : Int) + (z : Int) ≤ 18446744073709551615 := by omega
        clear hbd
        have H9 : Hid (¬ (i = 9 ∧ 1 < s[k + i].toNat)) := h9
        clear h9
        by_cases hlt : (s[k + i].toNat : Int) < 128
        · by_cases h9i : i = 9
          · have h9' : ((i : Int) == 9) = true := by simp; omega
            have h8 : ¬ 1 < (s[k + i].toNat : Int) := by have := H9.out; omega
            have HI : Hid (i = 9) := h9i
            have hi1 : 0 < i := by omega
            clear h9i
            by_cases hz0 : s[k + i].toNat = 0
            · by_cases hi0 : 0 < i
              · have HE : Hid (Dc.getNum s k = (0, 0, 3)) := (Dc.get_err s k 3 hs h0 (by decide) (by rw [HY.out, HL.out (by omega), if_pos ⟨hz0, hi0⟩])).1
                have hz0' : ((s[k + i].toNat : Int) == 0) = true := by rw [beq_iff_eq]; omega
                clear hz0
                go_wp2
                refine bodyPost_ret (v := numOut (0, 0, 3)) (by simp [results, Tryz.results88, go_sem, numOut]) rfl ⟨by rw [HE.out], HB.out _⟩
              · exact absurd hi1 hi0
            · have hz0' : ((s[k + i].toNat : Int) == 0) = false := by rw [beq_eq_false_iff_ne]; omega
              have HE : Hid (Dc.getNum s k = (Dc.unfold (u + z), (k : Int) + ((i + 1 : Nat) : Int), 0)) := Dc.get_ok s k (u + z) (i + 1) hs h0 (by rw [HY.out, HL.out (by omega), if_neg (by omega), ← HV.out])
              clear hz0
              by_cases hodd : ((u : Int) + (z : Int)) % 2 = 1
              · have ho : (((u : Int) + (z : Int)) % 2 == 1) = true := by simp; omega
                have HU : Hid (numOut (Dc.getNum s k) = .agg #[.int .i64 (-(((u : Int) + (z : Int)) / 2) - 1), .int .i64 ((k : Int) + (i : Int) + 1), .int .i64 0]) := by
                  show numOut (Dc.getNum s k) = _
                  rw [HE.out]
                  exact agg3 (by show Dc.unfold (u + z) = _; rw [Dc.unfold, if_neg (by omega)]; omega) (by show (k : Int) + ((i + 1 : Nat) : Int) = _; omega) rfl
                clear hodd
                go_wp2
                refine bodyPost_ret (v := .agg #[.int .i64 (-(((u : Int) + (z : Int)) / 2) - 1), .int .i64 ((k : Int) + (i : Int) + 1), .int .i64 0]) (by simp [results, Tryz.results88, go_sem]) rfl ⟨by rw [HU.out], HB.out _⟩
              · have ho : (((u : Int) + (z : Int)) % 2 == 1) = false := by simp; omega
                have HU : Hid (numOut (Dc.getNum s k) = .agg #[.int .i64 (((u : Int) + (z : Int)) / 2), .int .i64 ((k : Int) + (i : Int) + 1), .int .i64 0]) := by
                  show numOut (Dc.getNum s k) = _
                  rw [HE.out]
                  exact agg3 (by show Dc.unfold (u + z) = _; rw [Dc.unfold, if_pos (by omega)]; omega) (by show (k : Int) + ((i + 1 : Nat) : Int) = _; omega) rfl
                clear hodd
                go_wp2
                refine bodyPost_ret (v := .agg #[.int .i64 (((u : Int) + (z : Int)) / 2), .int .i64 ((k : Int) + (i : Int) + 1), .int .i64 0]) (by simp [results, Tryz.results88, go_sem]) rfl ⟨by rw [HU.out], HB.out _⟩
          · have h9' : ((i : Int) == 9) = false := by simp; omega
            by_cases hz0 : s[k + i].toNat = 0
            · by_cases hi0 : 0 < i
              · have HE : Hid (Dc.getNum s k = (0, 0, 3)) := (Dc.get_err s k 3 hs h0 (by decide) (by rw [HY.out, HL.out (by omega), if_pos ⟨hz0, hi0⟩])).1
                have hz0' : ((s[k + i].toNat : Int) == 0) = true := by rw [beq_iff_eq]; omega
                clear hz0
                go_wp2
                refine bodyPost_ret (v := numOut (0, 0, 3)) (by simp [results, Tryz.results88, go_sem, numOut]) rfl ⟨by rw [HE.out], HB.out _⟩
              · have hz0' : ((s[k + i].toNat : Int) == 0) = true := by rw [beq_iff_eq]; omega
                have HE : Hid (Dc.getNum s k = (Dc.unfold (u + z), (k : Int) + ((i + 1 : Nat) : Int), 0)) := Dc.get_ok s k (u + z) (i + 1) hs h0 (by rw [HY.out, HL.out (by omega), if_neg (by omega), ← HV.out])
                clear hz0
                by_cases hodd : ((u : Int) + (z : Int)) % 2 = 1
                · have ho : (((u : Int) + (z : Int)) % 2 == 1) = true := by simp; omega
                  have HU : Hid (numOut (Dc.getNum s k) = .agg #[.int .i64 (-(((u : Int) + (z : Int)) / 2) - 1), .int .i64 ((k : Int) + (i : Int) + 1), .int .i64 0]) := by
                    show numOut (Dc.getNum s k) = _
                    rw [HE.out]
                    exact agg3 (by show Dc.unfold (u + z) = _; rw [Dc.unfold, if_neg (by omega)]; omega) (by show (k : Int) + ((i + 1 : Nat) : Int) = _; omega) rfl
                  clear hodd
                  go_wp2
                  refine bodyPost_ret (v := .agg #[.int .i64 (-(((u : Int) + (z : Int)) / 2) - 1), .int .i64 ((k : Int) + (i : Int) + 1), .int .i64 0]) (by simp [results, Tryz.results88, go_sem]) rfl ⟨by rw [HU.out], HB.out _⟩
                · have ho : (((u : Int) + (z : Int)) % 2 == 1) = false := by simp; omega
                  have HU : Hid (numOut (Dc.getNum s k) = .agg #[.int .i64 (((u : Int) + (z : Int)) / 2), .int .i64 ((k : Int) + (i : Int) + 1), .int .i64 0]) := by
                    show numOut (Dc.getNum s k) = _
                    rw [HE.out]
                    exact agg3 (by show Dc.unfold (u + z) = _; rw [Dc.unfold, if_pos (by omega)]; omega) (by show (k : Int) + ((i + 1 : Nat) : Int) = _; omega) rfl
                  clear hodd
                  go_wp2
                  refine bodyPost_ret (v := .agg #[.int .i64 (((u : Int) + (z : Int)) / 2), .int .i64 ((k : Int) + (i : Int) + 1), .int .i64 0]) (by simp [results, Tryz.results88, go_sem]) rfl ⟨by rw [HU.out], HB.out _⟩
            · have hz0' : ((s[k + i].toNat : Int) == 0) = false := by rw [beq_eq_false_iff_ne]; omega
              have HE : Hid (Dc.getNum s k = (Dc.unfold (u + z), (k : Int) + ((i + 1 : Nat) : Int), 0)) := Dc.get_ok s k (u + z) (i + 1) hs h0 (by rw [HY.out, HL.out (by omega), if_neg (by omega), ← HV.out])
              clear hz0
              by_cases hodd : ((u : Int) + (z : Int)) % 2 = 1
              · have ho : (((u : Int) + (z : Int)) % 2 == 1) = true := by simp; omega
                have HU : Hid (numOut (Dc.getNum s k) = .agg #[.int .i64 (-(((u : Int) + (z : Int)) / 2) - 1), .int .i64 ((k : Int) + (i : Int) + 1), .int .i64 0]) := by
                  show numOut (Dc.getNum s k) = _
                  rw [HE.out]
                  exact agg3 (by show Dc.unfold (u + z) = _; rw [Dc.unfold, if_neg (by omega)]; omega) (by show (k : Int) + ((i + 1 : Nat) : Int) = _; omega) rfl
                clear hodd
                go_wp2
                refine bodyPost_ret (v := .agg #[.int .i64 (-(((u : Int) + (z : Int)) / 2) - 1), .int .i64 ((k : Int) + (i : Int) + 1), .int .i64 0]) (by simp [results, Tryz.results88, go_sem]) rfl ⟨by rw [HU.out], HB.out _⟩
              · have ho : (((u : Int) + (z : Int)) % 2 == 1) = false := by simp; omega
                have HU : Hid (numOut (Dc.getNum s k) = .agg #[.int .i64 (((u : Int) + (z : Int)) / 2), .int .i64 ((k : Int) + (i : Int) + 1), .int .i64 0]) := by
                  show numOut (Dc.getNum s k) = _
                  rw [HE.out]
                  exact agg3 (by show Dc.unfold (u + z) = _; rw [Dc.unfold, if_pos (by omega)]; omega) (by show (k : Int) + ((i + 1 : Nat) : Int) = _; omega) rfl
                clear hodd
                go_wp2
                refine bodyPost_ret (v := .agg #[.int .i64 (((u : Int) + (z : Int)) / 2), .int .i64 ((k : Int) + (i : Int) + 1), .int .i64 0]) (by simp [results, Tryz.results88, go_sem]) rfl ⟨by rw [HU.out], HB.out _⟩
        · have h9i : ¬ i = 9 := by have := H9.out; omega
          have h9' : ((i : Int) == 9) = false := by simp; omega
          have HR : Hid (u + z < 2 ^ (7 * (i + 1)) ∧ Dc.dec 10 0 0 (s.data.toList.drop (k : Int).toNat) = Dc.dec (10 - (i + 1)) (i + 1) (u + z) (s.data.toList.drop ((k : Int).toNat + (i + 1)))) := by
            refine ⟨by rw [HV.out]; exact HA.out, ?_⟩
            rw [HY.out, HM.out (by omega), ← HV.out, show 10 - (i + 1) = 9 - i by omega, show (k : Int).toNat + (i + 1) = k + i + 1 by omega]
          go_wp2
          go_round
          case rel => exact ⟨i + 1, u + z, by omega, by go_num, by go_num, by omega, HR⟩
          case measure => simp [intOf]; omega

set_option maxHeartbeats 1000000 in
theorem specGetNum_out (s : ByteArray) (p : Int) (w : World) (hs : s.size ≤ maxLen) (h : 8000 < s.size ∨ p < 0) :
    Calls Tryz.prog 88 #[.string s, .int .i64 p] w fun e w' => e = .returned (numOut (Dc.getNum s p)) ∧ Below w.heap.size w w' := by
  unfold maxLen at hs
  have HB : Hid (∀ o, Below w.heap.size w (w.alloc o)) := fun o => ((Below.refl w.heap.size w).alloc (Nat.le_refl _) o)
  by_cases hb : 8000 < s.size
  · have HE : Hid (Dc.getNum s p = (0, 0, 2)) := Dc.get_big s p hb
    clear h
    go_enter Tryz.func88, Tryz.ntmps88
    go_wp2
    refine bodyPost_ret (v := numOut (0, 0, 2)) (by simp [results, Tryz.results88, go_sem, numOut]) rfl ⟨by rw [HE.out], HB.out _⟩
  · have hn : p < 0 := by omega
    have HE : Hid (Dc.getNum s p = (0, 0, 1)) := Dc.get_neg s p (by omega) hn
    clear h
    go_enter Tryz.func88, Tryz.ntmps88
    go_wp2
    refine bodyPost_ret (v := numOut (0, 0, 1)) (by simp [results, Tryz.results88, go_sem, numOut]) rfl ⟨by rw [HE.out], HB.out _⟩

theorem specGetNum_any (s : ByteArray) (p : Int) (w : World) (hs : s.size ≤ maxLen) (h1 : p ≤ 9223372036854775807) :
    Calls Tryz.prog 88 #[.string s, .int .i64 p] w fun e w' => e = .returned (numOut (Dc.getNum s p)) ∧ Below w.heap.size w w' := by
  by_cases h : 8000 < s.size ∨ p < 0
  · exact specGetNum_out s p w hs h
  · obtain ⟨k, rfl⟩ := Int.eq_ofNat_of_zero_le (a := p) (by omega)
    exact specGetNum_in s k w (by omega) h1

end Go.Proofs.YtojdfdlbdpdlkaaGreatDoor

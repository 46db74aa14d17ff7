/- The walk of readNum: a loop of goto from label to label. -/
import Derived.Test.YtojdfdlbdpdlkaaGreatDoorProg
import Derived.WalkKit
import Derived.Test.YtojdfdlbdpdlkaaGreatDoorJoined21
import Derived.WalkSpells
import Derived.WalkLawsBesides
namespace Go.Proofs.YtojdfdlbdpdlkaaGreatDoor
open Go.RowKit
set_option linter.unusedVariables false

theorem ret_i64r {a b : Int} (h : a = b) : Ending.returned (.int .i64 a) = .returned (.int .i64 b) := by rw [h]

set_option maxHeartbeats 400000 in
theorem unfoldSign_any (u : Nat) (w : World) (hu : (u : Int) ≤ 18446744073709551615) :
    Calls Tryz.prog 103 #[.int .u64 u] w fun e w' => e = .returned (.int .i64 (Dc.unfold u)) ∧ w' = w := by
  by_cases h : u % 2 = 0
  · have hb : ((u : Int) % 2 == 0) = true := by simp; omega
    go_enter Tryz.func103, Tryz.ntmps103
    go_wp2
    go_ret
    exact ⟨ret_i64r (by rw [Dc.unfold, if_pos h]), rfl⟩
  · have hb : ((u : Int) % 2 == 0) = false := by simp; omega
    go_enter Tryz.func103, Tryz.ntmps103
    go_wp2
    go_ret
    exact ⟨ret_i64r (by rw [Dc.unfold, if_neg h]), rfl⟩

/-- what readNum hands back -/
def readRes (r : Int × Int × Int) : Value := .tuple #[.int .i64 r.1, .int .i64 r.2.1, if r.2.2 = 0 then .nilIface else .iface 147 (.agg #[.int .i64 r.2.2])]

set_option maxHeartbeats 2000000 in
set_option maxRecDepth 100000 in
theorem readNum_in (s : ByteArray) (p : Int) (w : World) (hs : s.size ≤ 8000) (h0 : 0 ≤ p) (h1 : p ≤ 9223372036854775807) :
    Calls Tryz.prog 97 #[.string s, .int .i64 p] w fun e w' => e = .returned (readRes (Dc.getNum s p)) ∧ w' = w := by
  go_enter Tryz.func97, Tryz.ntmps97
  go_wp2
  refine wp_scope_three (fun a' w' => w' = w ∧ ∃ c : Int, Hid (Dc.getNum s p = (0, 0, c) ∧ c ≠ 0) ∧ ∃ (u0 u1 u2 u3 u4 u5 u6 u7 u8 u10 u11 u12 u13 u14 u15 u16 u17 u18 u19 u20 u21 u22 u23 u24 u25 u26 u27 u28 u29 u30 u31 u32 u33 u34 u35 u36 u37 u38 u39 u40 u41 u42 u43 u44 u45 u46 u47 u48 u49 u50 u51 u52 u53 u54 u55 : Value), a' = { tmps := #[u0, u1, u2, u3, u4, u5, u6, u7, u8, .int .i64 c, u10, u11, u12, u13, u14, u15, u16, u17, u18, u19, u20, u21, u22, u23, u24, u25, u26, u27, u28, u29, u30, u31, u32, u33, u34, u35, u36, u37, u38, u39, u40, u41, u42, u43, u44, u45, u46, u47, u48, u49, u50, u51, u52, u53, u54, u55], defers := [] }) (fun a' w' => w' = w ∧ ∃ i u : Nat, i ≤ 9 ∧ (u : Int) ≤ 18446744073709551615 ∧ (i = 0 ∨ p + (i : Int) ≤ 8000) ∧ Hid (u < 2 ^ (7 * i) ∧ Dc.dec 10 0 0 (s.data.toList.drop p.toNat) = Dc.dec (10 - i) i u (s.data.toList.drop (p.toNat + i))) ∧ ∃ (u1 u2 u3 u4 u5 u6 u8 u9 u12 u13 u14 u15 u16 u17 u18 u19 u20 u21 u22 u23 u24 u25 u26 u27 u28 u29 u30 u31 u32 u33 u34 u35 u36 u37 u38 u39 u40 u41 u42 u43 u44 u45 u46 u47 u48 u49 u50 u51 u52 u53 u54 u55 : Value), a' = { tmps := #[.string s, u1, u2, u3, u4, u5, u6, .int .u64 u, u8, u9, .int .i64 (7 * (i : Int)), .int .i64 (p + (i : Int)), u12, u13, u14, u15, u16, u17, u18, u19, u20, u21, u22, u23, u24, u25, u26, u27, u28, u29, u30, u31, u32, u33, u34, u35, u36, u37, u38, u39, u40, u41, u42, u43, u44, u45, u46, u47, u48, u49, u50, u51, u52, u53, u54, u55], defers := [] }) (fun a' w' => w' = w ∧ ∃ (i u b : Nat) (x : Int), i ≤ 9 ∧ (u : Int) ≤ 18446744073709551615 ∧ (b : Int) ≤ 127 ∧ Hid (Dc.dec 10 0 0 (s.data.toList.drop p.toNat) = (if b = 0 ∧ 0 < i then (3, 0, 0) else (0, u, i + 1)) ∧ x = p + (i : Int) + 1) ∧ ∃ (u0 u1 u2 u3 u4 u5 u6 u9 u12 u13 u14 u15 u16 u17 u18 u19 u20 u21 u22 u23 u24 u25 u26 u27 u28 u29 u30 u31 u32 u33 u34 u35 u36 u37 u38 u39 u40 u41 u42 u43 u44 u45 u46 u47 u48 u49 u50 u51 u52 u53 u54 u55 : Value), a' = { tmps := #[u0, u1, u2, u3, u4, u5, u6, .int .u64 u, .int .u8 b, u9, .int .i64 (7 * (i : Int)), .int .i64 x, u12, u13, u14, u15, u16, u17, u18, u19, u20, u21, u22, u23, u24, u25, u26, u27, u28, u29, u30, u31, u32, u33, u34, u35, u36, u37, u38, u39, u40, u41, u42, u43, u44, u45, u46, u47, u48, u49, u50, u51, u52, u53, u54, u55], defers := [] }) (fun a' _ => (63 - intOf (a'.tmps.getD 10 undef)).toNat) rfl rfl rfl ?_ ?_ ?_ ?_
  · by_cases hlen : (s.size : Int) ≤ p
    · have HE : Hid (Dc.getNum s p = (0, 0, 4) ∧ (4 : Int) ≠ 0) := Dc.get_err s p 4 hs h0 (by decide) (Dc.at_end s p 0 0 (by omega) h0 (by omega) rfl)
      go_wp2
      go_step3
      go_wp2
      go_step3
      exact ⟨rfl, 4, HE, _, _, _, _, _, _, _, _, _, _, _, _, _, _, _, _, _, _, _, _, _, _, _, _, _, _, _, _, _, _, _, _, _, _, _, _, _, _, _, _, _, _, _, _, _, _, _, _, _, _, _, _, _, _, _, rfl⟩
    · obtain ⟨q, rfl⟩ := Int.eq_ofNat_of_zero_le h0
      have hq1 : q < s.size := by omega
      have hb : (s[q].toNat : Int) ≤ 255 := by have := s[q].toNat_lt; omega
      have HB := hide (Dc.at_byte s q 0 0 q (by omega) h0 (by omega) hq1 rfl)
      by_cases hlt : (s[q].toNat : Int) < 128
      · have hov := Dc.or_zero s[q].toNat
        obtain ⟨v, hv⟩ : ∃ v, v = s[q].toNat % 128 := ⟨_, rfl⟩
        have HR : Hid (Dc.dec 10 0 0 (s.data.toList.drop (q : Int).toNat) = (if s[q].toNat = 0 ∧ 0 < 0 then (3, 0, 0) else (0, v, 0 + 1)) ∧ (q : Int) + 1 = (q : Int) + ((0 : Nat) : Int) + 1) := by
          refine ⟨?_, by omega⟩
          rw [HB.out, Dc.dec_last 9 0 0 s[q] (s.data.toList.drop (q + 1)) (by omega) (by omega), hv]
          simp
        have hvl : v ≤ 127 := by omega
        rw [← hv] at hov
        clear hv
        go_wp2
        go_step3
        go_wp2
        go_step3
        exact ⟨rfl, 0, v, s[q].toNat, (q : Int) + 1, by omega, by omega, by omega, HR, _, _, _, _, _, _, _, _, _, _, _, _, _, _, _, _, _, _, _, _, _, _, _, _, _, _, _, _, _, _, _, _, _, _, _, _, _, _, _, _, _, _, _, _, _, _, _, _, _, _, _, _, rfl⟩
      · have hov := Dc.or_zero s[q].toNat
        obtain ⟨v, hv⟩ : ∃ v, v = s[q].toNat % 128 := ⟨_, rfl⟩
        have HR : Hid (v < 2 ^ (7 * 1) ∧ Dc.dec 10 0 0 (s.data.toList.drop (q : Int).toNat) = Dc.dec (10 - 1) 1 v (s.data.toList.drop ((q : Int).toNat + 1))) := by
          refine ⟨by rw [hv]; omega, ?_⟩
          rw [HB.out, Dc.dec_more 9 0 0 s[q] (s.data.toList.drop (q + 1)) (by omega) (by omega), hv]
          simp
        have hvl : v ≤ 127 := by omega
        rw [← hv] at hov
        clear hv
        go_wp2
        go_step3
        go_wp2
        go_step3
        rw [show (q : Int) + 1 = (q : Int) + ((1 : Nat) : Int) from rfl]
        exact ⟨rfl, 1, v, by omega, by omega, .inr (by omega), HR, _, _, _, _, _, _, _, _, _, _, _, _, _, _, _, _, _, _, _, _, _, _, _, _, _, _, _, _, _, _, _, _, _, _, _, _, _, _, _, _, _, _, _, _, _, _, _, _, _, _, _, _, rfl⟩
  · rintro a' w' ⟨rfl, i, u, hi, hu, hp, HD, u1, u2, u3, u4, u5, u6, u8, u9, u12, u13, u14, u15, u16, u17, u18, u19, u20, u21, u22, u23, u24, u25, u26, u27, u28, u29, u30, u31, u32, u33, u34, u35, u36, u37, u38, u39, u40, u41, u42, u43, u44, u45, u46, u47, u48, u49, u50, u51, u52, u53, u54, u55, rfl⟩
    by_cases hlen : (s.size : Int) ≤ p + (i : Int)
    · have HE : Hid (Dc.getNum s p = (0, 0, 4) ∧ (4 : Int) ≠ 0) := Dc.get_err s p 4 hs h0 (by decide) (Dc.at_end s p i u hi h0 hlen HD.out.2)
      go_wp2
      go_step3
      exact ⟨rfl, 4, HE, _, _, _, _, _, _, _, _, _, _, _, _, _, _, _, _, _, _, _, _, _, _, _, _, _, _, _, _, _, _, _, _, _, _, _, _, _, _, _, _, _, _, _, _, _, _, _, _, _, _, _, _, _, _, _, rfl⟩
    · obtain ⟨q, hq⟩ : ∃ q : Nat, p + (i : Int) = q := ⟨(p + (i : Int)).toNat, by omega⟩
      have hq1 : q < s.size := by omega
      have HQ : Hid (p + (i : Int) = q) := hq
      rw [hq] at hlen ⊢
      have hb : (s[q].toNat : Int) ≤ 255 := by have := s[q].toNat_lt; omega
      have HB := hide (Dc.at_byte s p i u q hi h0 hq hq1 HD.out.2)
      clear hq hp
      by_cases h9 : i = 9 ∧ 1 < s[q].toNat
      · have h9' : (7 * (i : Int) == 63) = true := by simp; omega
        have h8 : 1 < (s[q].toNat : Int) := by omega
        have HE : Hid (Dc.getNum s p = (0, 0, 3) ∧ (3 : Int) ≠ 0) := Dc.get_err s p 3 hs h0 (by decide) (by rw [HB.out]; obtain ⟨rfl, h⟩ := h9; exact Dc.dec_ten _ _ _ _ h)
        clear h9
        go_wp2
        go_step3
        exact ⟨rfl, 3, HE, _, _, _, _, _, _, _, _, _, _, _, _, _, _, _, _, _, _, _, _, _, _, _, _, _, _, _, _, _, _, _, _, _, _, _, _, _, _, _, _, _, _, _, _, _, _, _, _, _, _, _, _, _, _, _, rfl⟩
      · have hov := Dc.or_val i u s[q].toNat hi HD.out.1 h9
        have hbd := Dc.add_bd i u s[q].toNat hi HD.out.1 h9
        have HL := hide (Dc.dec_last (9 - i) i u s[q] (s.data.toList.drop (q + 1)) h9)
        have HM := hide (Dc.dec_more (9 - i) i u s[q] (s.data.toList.drop (q + 1)) h9)
        have HA := hide (Dc.add_lt i u s[q].toNat HD.out.1)
        obtain ⟨v, hv⟩ : ∃ v, v = u + s[q].toNat % 128 * 2 ^ (7 * i) := ⟨_, rfl⟩
        rw [← hv] at hov hbd
        have HV : Hid (v = u + s[q].toNat % 128 * 2 ^ (7 * i)) := hv
        clear hv
        have H9 : Hid (¬ (i = 9 ∧ 1 < s[q].toNat)) := h9
        clear h9
        by_cases hlt : (s[q].toNat : Int) < 128
        · have HR : Hid (Dc.dec 10 0 0 (s.data.toList.drop p.toNat) = (if s[q].toNat = 0 ∧ 0 < i then (3, 0, 0) else (0, v, i + 1)) ∧ (q : Int) + 1 = p + (i : Int) + 1) := by
            refine ⟨?_, by have := HQ.out; omega⟩
            rw [HB.out, HL.out (by omega), ← HV.out]
          by_cases h9i : i = 9
          · have h9' : (7 * (i : Int) == 63) = true := by simp; omega
            have h8 : ¬ 1 < (s[q].toNat : Int) := by have := H9.out; omega
            have HI : Hid (i = 9) := h9i
            clear h9i
            go_wp2
            go_step3
            exact ⟨rfl, i, v, s[q].toNat, (q : Int) + 1, hi, by omega, by omega, HR, _, _, _, _, _, _, _, _, _, _, _, _, _, _, _, _, _, _, _, _, _, _, _, _, _, _, _, _, _, _, _, _, _, _, _, _, _, _, _, _, _, _, _, _, _, _, _, _, _, _, _, _, rfl⟩
          · have h9' : (7 * (i : Int) == 63) = false := by simp; omega
            go_wp2
            go_step3
            exact ⟨rfl, i, v, s[q].toNat, (q : Int) + 1, hi, by omega, by omega, HR, _, _, _, _, _, _, _, _, _, _, _, _, _, _, _, _, _, _, _, _, _, _, _, _, _, _, _, _, _, _, _, _, _, _, _, _, _, _, _, _, _, _, _, _, _, _, _, _, _, _, _, _, rfl⟩
        · have h9i : ¬ i = 9 := by have := H9.out; omega
          have h9' : (7 * (i : Int) == 63) = false := by simp; omega
          have HR : Hid (v < 2 ^ (7 * (i + 1)) ∧ Dc.dec 10 0 0 (s.data.toList.drop p.toNat) = Dc.dec (10 - (i + 1)) (i + 1) v (s.data.toList.drop (p.toNat + (i + 1)))) := by
            refine ⟨by rw [HV.out]; exact HA.out, ?_⟩
            rw [HB.out, HM.out (by omega), ← HV.out, show 10 - (i + 1) = 9 - i by omega, show p.toNat + (i + 1) = q + 1 by have := HQ.out; omega]
          go_wp2
          go_step3
          rw [show 7 * (i : Int) + 7 = 7 * ((i + 1 : Nat) : Int) from by omega, show (q : Int) + 1 = p + ((i + 1 : Nat) : Int) from by have := HQ.out; omega]
          refine ⟨⟨rfl, i + 1, v, by omega, by omega, .inr (by have := HQ.out; omega), HR, _, _, _, _, _, _, _, _, _, _, _, _, _, _, _, _, _, _, _, _, _, _, _, _, _, _, _, _, _, _, _, _, _, _, _, _, _, _, _, _, _, _, _, _, _, _, _, _, _, _, _, _, rfl⟩, ?_⟩
          simp [intOf]
          omega
  · rintro a' w' ⟨rfl, i, u, b, x, hi, hu, hb, HD, u0, u1, u2, u3, u4, u5, u6, u9, u12, u13, u14, u15, u16, u17, u18, u19, u20, u21, u22, u23, u24, u25, u26, u27, u28, u29, u30, u31, u32, u33, u34, u35, u36, u37, u38, u39, u40, u41, u42, u43, u44, u45, u46, u47, u48, u49, u50, u51, u52, u53, u54, u55, rfl⟩
    by_cases hz : b = 0
    · by_cases hi0 : 0 < i
      · have HE : Hid (Dc.getNum s p = (0, 0, 3) ∧ (3 : Int) ≠ 0) := Dc.get_err s p 3 hs h0 (by decide) (by rw [HD.out.1, if_pos ⟨hz, hi0⟩])
        have hz' : ((b : Int) == 0) = true := by simp; omega
        clear hz
        go_wp2
        go_step3
        exact ⟨rfl, 3, HE, _, _, _, _, _, _, _, _, _, _, _, _, _, _, _, _, _, _, _, _, _, _, _, _, _, _, _, _, _, _, _, _, _, _, _, _, _, _, _, _, _, _, _, _, _, _, _, _, _, _, _, _, _, _, _, rfl⟩
      · have HE : Hid (Dc.getNum s p = (Dc.unfold u, x, 0)) := by
          have := Dc.get_ok s p u (i + 1) hs h0 (by rw [HD.out.1, if_neg (by omega)])
          show Dc.getNum s p = _
          rw [this, HD.out.2]
          simp; omega
        have hz' : ((b : Int) == 0) = true := by simp; omega
        clear hz
        go_wp2_with (go_at_call 103; refine (unfoldSign_any u _ hu).mono ?_; rintro e w' ⟨rfl, rfl⟩)
        simp only [jumps]
        go_ret3
        exact ⟨by rw [HE.out]; rfl, rfl⟩
    · have HE : Hid (Dc.getNum s p = (Dc.unfold u, x, 0)) := by
        have := Dc.get_ok s p u (i + 1) hs h0 (by rw [HD.out.1, if_neg (by omega)])
        show Dc.getNum s p = _
        rw [this, HD.out.2]
        simp; omega
      have hz' : ((b : Int) == 0) = false := by simp; omega
      clear hz
      go_wp2_with (go_at_call 103; refine (unfoldSign_any u _ hu).mono ?_; rintro e w' ⟨rfl, rfl⟩)
      simp only [jumps]
      go_ret3
      exact ⟨by rw [HE.out]; rfl, rfl⟩
  · rintro a' w' ⟨rfl, c, HC, u0, u1, u2, u3, u4, u5, u6, u7, u8, u10, u11, u12, u13, u14, u15, u16, u17, u18, u19, u20, u21, u22, u23, u24, u25, u26, u27, u28, u29, u30, u31, u32, u33, u34, u35, u36, u37, u38, u39, u40, u41, u42, u43, u44, u45, u46, u47, u48, u49, u50, u51, u52, u53, u54, u55, rfl⟩
    go_wp2
    simp only [jumps]
    go_ret3
    exact ⟨by rw [HC.out.1]; simp only [readRes, if_neg HC.out.2]; rfl, rfl⟩

set_option maxHeartbeats 1000000 in
theorem readNum_out (s : ByteArray) (p : Int) (w : World) (hs : s.size ≤ maxLen) (h : 8000 < s.size ∨ p < 0) :
    Calls Tryz.prog 97 #[.string s, .int .i64 p] w fun e w' => e = .returned (readRes (Dc.getNum s p)) ∧ w' = w := by
  unfold maxLen at hs
  go_enter Tryz.func97, Tryz.ntmps97
  go_wp2
  refine wp_scope_three (fun a' w' => w' = w ∧ ∃ c : Int, Hid (Dc.getNum s p = (0, 0, c) ∧ c ≠ 0) ∧ ∃ (u0 u1 u2 u3 u4 u5 u6 u7 u8 u10 u11 u12 u13 u14 u15 u16 u17 u18 u19 u20 u21 u22 u23 u24 u25 u26 u27 u28 u29 u30 u31 u32 u33 u34 u35 u36 u37 u38 u39 u40 u41 u42 u43 u44 u45 u46 u47 u48 u49 u50 u51 u52 u53 u54 u55 : Value), a' = { tmps := #[u0, u1, u2, u3, u4, u5, u6, u7, u8, .int .i64 c, u10, u11, u12, u13, u14, u15, u16, u17, u18, u19, u20, u21, u22, u23, u24, u25, u26, u27, u28, u29, u30, u31, u32, u33, u34, u35, u36, u37, u38, u39, u40, u41, u42, u43, u44, u45, u46, u47, u48, u49, u50, u51, u52, u53, u54, u55], defers := [] }) (fun _ _ => False) (fun _ _ => False) (fun _ _ => 0) rfl rfl rfl ?_ (fun _ _ h => h.elim) (fun _ _ h => h.elim) ?_
  · by_cases hb : 8000 < s.size
    · have HE : Hid (Dc.getNum s p = (0, 0, 2) ∧ (2 : Int) ≠ 0) := ⟨Dc.get_big s p hb, by decide⟩
      clear h
      go_wp2
      go_step3
      exact ⟨rfl, 2, HE, _, _, _, _, _, _, _, _, _, _, _, _, _, _, _, _, _, _, _, _, _, _, _, _, _, _, _, _, _, _, _, _, _, _, _, _, _, _, _, _, _, _, _, _, _, _, _, _, _, _, _, _, _, _, _, rfl⟩
    · have hn : p < 0 := by omega
      have HE : Hid (Dc.getNum s p = (0, 0, 1) ∧ (1 : Int) ≠ 0) := ⟨Dc.get_neg s p (by omega) hn, by decide⟩
      clear h
      go_wp2
      go_step3
      exact ⟨rfl, 1, HE, _, _, _, _, _, _, _, _, _, _, _, _, _, _, _, _, _, _, _, _, _, _, _, _, _, _, _, _, _, _, _, _, _, _, _, _, _, _, _, _, _, _, _, _, _, _, _, _, _, _, _, _, _, _, _, rfl⟩
  · rintro a' w' ⟨rfl, c, HC, u0, u1, u2, u3, u4, u5, u6, u7, u8, u10, u11, u12, u13, u14, u15, u16, u17, u18, u19, u20, u21, u22, u23, u24, u25, u26, u27, u28, u29, u30, u31, u32, u33, u34, u35, u36, u37, u38, u39, u40, u41, u42, u43, u44, u45, u46, u47, u48, u49, u50, u51, u52, u53, u54, u55, rfl⟩
    go_wp2
    simp only [jumps]
    go_ret3
    exact ⟨by rw [HC.out.1]; simp only [readRes, if_neg HC.out.2]; rfl, rfl⟩

theorem readNum_any (s : ByteArray) (p : Int) (w : World) (hs : s.size ≤ maxLen) (h1 : p ≤ 9223372036854775807) :
    Calls Tryz.prog 97 #[.string s, .int .i64 p] w fun e w' => e = .returned (readRes (Dc.getNum s p)) ∧ w' = w := by
  by_cases h : 8000 < s.size ∨ p < 0
  · exact readNum_out s p w hs h
  · exact readNum_in s p w (by omega) (by omega) h1
end Go.Proofs.YtojdfdlbdpdlkaaGreatDoor

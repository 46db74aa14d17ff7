/- The walks of the faces of the tape that answer a number, on both sides. -/
import Derived.Test.YtficlppngnnpoaaTapeBarSpec
import Derived.Test.YtficlppngnnpoaaTapeBarImpl2
namespace Go.Proofs.Ytficlppngnnpoaa
open Go.RowKit
set_option linter.unusedVariables false
set_option linter.unusedSimpArgs false
theorem Tp.barAll_len {L : List Td.E} (h : L.length = 0) : Tp.barAll L = (0, 0, 0, 0, 0) := by
  obtain rfl := List.eq_nil_of_length_eq_zero h
  unfold Tp.barAll
  split <;> rfl
set_option maxHeartbeats 1000000 in
theorem volumeOf_spec (v : Value) (L : List Td.E) (w : World) (hv : Rk.View Td.S w v L) (hl : L.length ≤ 1048576) :
    Calls Try.prog 22 #[v] w fun e w' => e = .returned (.int .i64 (Tp.barAll L).2.2.2.2) ∧ Below w.heap.size w w' := by
  have HV := Fk.hide hv
  obtain ⟨a, cap, rfl, _⟩ := hv
  by_cases h0 : L.length = 0
  · have HA := Fk.hide (Tp.barAll_len h0)
    have d0 : decide ((L.length : Int) = 0) = true := decide_eq_true (by omega)
    have d1 : ((L.length : Int) == 0) = true := by simpa using h0
    go_enter Try.func22, Try.ntmps22
    go_wp2_with fail
    go_ret
    exact ⟨by rw [HA.out]; rfl, Below.refl _ _⟩
  have d0 : decide ((L.length : Int) = 0) = false := decide_eq_false (by omega)
  have d1 : ((L.length : Int) == 0) = false := by simpa using h0
  obtain ⟨c, hc⟩ : ∃ c, c = Tp.right L := ⟨_, rfl⟩
  have HC := Fk.hide hc
  have HT := l12Right_any _ L w HV.out hl
  rw [← hc] at HT
  have HTT := Fk.hide HT
  clear hc HT
  cases c with
  | false =>
    have HA : Hid (Tp.barAll L = (0, 0, 0, 0, 0)) := Tp.barAll_no HC.out.symm
    go_enter Try.func22, Try.ntmps22
    go_wp2_with (go_at_call 48; refine HTT.out.mono ?_; rintro e W1 ⟨rfl, k1⟩)
    go_ret
    exact ⟨by rw [HA.out]; rfl, k1⟩
  | true =>
    have HA : Hid (Tp.barAll L = Tp.bar L) := Tp.barAll_yes HC.out.symm
    go_enter Try.func22, Try.ntmps22
    go_wp2_with (go_at_call 48; refine HTT.out.mono ?_; rintro e W1 ⟨rfl, k1⟩)
    refine (l12Bar_any _ L W1 (HV.out.below k1) HC.out.symm (by omega)).mono ?_
    rintro e W2 ⟨rfl, k2⟩
    have HB : Hid (Below w.heap.size w W2) := k1.trans (k2.mono k1.size)
    obtain ⟨⟨b0, b1, b2, b3, b4⟩, hb⟩ : ∃ b, b = Tp.bar L := ⟨_, rfl⟩
    have HBB : Hid (Tp.barAll L = (b0, b1, b2, b3, b4)) := by show _ = _; rw [HA.out, hb]
    rw [← hb]
    clear hb k1 k2
    have hfd := Tp.field_amount b0 b1 b2 b3 b4
    go_wp2_with fail
    go_ret
    exact ⟨by rw [HBB.out]; rfl, HB.out⟩
set_option maxHeartbeats 1000000 in
theorem highOf_spec (v : Value) (L : List Td.E) (w : World) (hv : Rk.View Td.S w v L) (hl : L.length ≤ 1048576) :
    Calls Try.prog 24 #[v] w fun e w' => e = .returned (.int .i64 (Tp.barAll L).2.1) ∧ Below w.heap.size w w' := by
  have HV := Fk.hide hv
  obtain ⟨a, cap, rfl, _⟩ := hv
  by_cases h0 : L.length = 0
  · have HA := Fk.hide (Tp.barAll_len h0)
    have d0 : decide ((L.length : Int) = 0) = true := decide_eq_true (by omega)
    have d1 : ((L.length : Int) == 0) = true := by simpa using h0
    go_enter Try.func24, Try.ntmps24
    go_wp2_with fail
    go_ret
    exact ⟨by rw [HA.out]; rfl, Below.refl _ _⟩
  have d0 : decide ((L.length : Int) = 0) = false := decide_eq_false (by omega)
  have d1 : ((L.length : Int) == 0) = false := by simpa using h0
  obtain ⟨c, hc⟩ : ∃ c, c = Tp.right L := ⟨_, rfl⟩
  have HC := Fk.hide hc
  have HT := l12Right_any _ L w HV.out hl
  rw [← hc] at HT
  have HTT := Fk.hide HT
  clear hc HT
  cases c with
  | false =>
    have HA : Hid (Tp.barAll L = (0, 0, 0, 0, 0)) := Tp.barAll_no HC.out.symm
    go_enter Try.func24, Try.ntmps24
    go_wp2_with (go_at_call 48; refine HTT.out.mono ?_; rintro e W1 ⟨rfl, k1⟩)
    go_ret
    exact ⟨by rw [HA.out]; rfl, k1⟩
  | true =>
    have HA : Hid (Tp.barAll L = Tp.bar L) := Tp.barAll_yes HC.out.symm
    go_enter Try.func24, Try.ntmps24
    go_wp2_with (go_at_call 48; refine HTT.out.mono ?_; rintro e W1 ⟨rfl, k1⟩)
    refine (l12Bar_any _ L W1 (HV.out.below k1) HC.out.symm (by omega)).mono ?_
    rintro e W2 ⟨rfl, k2⟩
    have HB : Hid (Below w.heap.size w W2) := k1.trans (k2.mono k1.size)
    obtain ⟨⟨b0, b1, b2, b3, b4⟩, hb⟩ : ∃ b, b = Tp.bar L := ⟨_, rfl⟩
    have HBB : Hid (Tp.barAll L = (b0, b1, b2, b3, b4)) := by show _ = _; rw [HA.out, hb]
    rw [← hb]
    clear hb k1 k2
    have hfd := Tp.field_high b0 b1 b2 b3 b4
    go_wp2_with fail
    go_ret
    exact ⟨by rw [HBB.out]; rfl, HB.out⟩
set_option maxHeartbeats 1000000 in
theorem lowOf_spec (v : Value) (L : List Td.E) (w : World) (hv : Rk.View Td.S w v L) (hl : L.length ≤ 1048576) :
    Calls Try.prog 25 #[v] w fun e w' => e = .returned (.int .i64 (Tp.barAll L).2.2.1) ∧ Below w.heap.size w w' := by
  have HV := Fk.hide hv
  obtain ⟨a, cap, rfl, _⟩ := hv
  by_cases h0 : L.length = 0
  · have HA := Fk.hide (Tp.barAll_len h0)
    have d0 : decide ((L.length : Int) = 0) = true := decide_eq_true (by omega)
    have d1 : ((L.length : Int) == 0) = true := by simpa using h0
    go_enter Try.func25, Try.ntmps25
    go_wp2_with fail
    go_ret
    exact ⟨by rw [HA.out]; rfl, Below.refl _ _⟩
  have d0 : decide ((L.length : Int) = 0) = false := decide_eq_false (by omega)
  have d1 : ((L.length : Int) == 0) = false := by simpa using h0
  obtain ⟨c, hc⟩ : ∃ c, c = Tp.right L := ⟨_, rfl⟩
  have HC := Fk.hide hc
  have HT := l12Right_any _ L w HV.out hl
  rw [← hc] at HT
  have HTT := Fk.hide HT
  clear hc HT
  cases c with
  | false =>
    have HA : Hid (Tp.barAll L = (0, 0, 0, 0, 0)) := Tp.barAll_no HC.out.symm
    go_enter Try.func25, Try.ntmps25
    go_wp2_with (go_at_call 48; refine HTT.out.mono ?_; rintro e W1 ⟨rfl, k1⟩)
    go_ret
    exact ⟨by rw [HA.out]; rfl, k1⟩
  | true =>
    have HA : Hid (Tp.barAll L = Tp.bar L) := Tp.barAll_yes HC.out.symm
    go_enter Try.func25, Try.ntmps25
    go_wp2_with (go_at_call 48; refine HTT.out.mono ?_; rintro e W1 ⟨rfl, k1⟩)
    refine (l12Bar_any _ L W1 (HV.out.below k1) HC.out.symm (by omega)).mono ?_
    rintro e W2 ⟨rfl, k2⟩
    have HB : Hid (Below w.heap.size w W2) := k1.trans (k2.mono k1.size)
    obtain ⟨⟨b0, b1, b2, b3, b4⟩, hb⟩ : ∃ b, b = Tp.bar L := ⟨_, rfl⟩
    have HBB : Hid (Tp.barAll L = (b0, b1, b2, b3, b4)) := by show _ = _; rw [HA.out, hb]
    rw [← hb]
    clear hb k1 k2
    have hfd := Tp.field_low b0 b1 b2 b3 b4
    go_wp2_with fail
    go_ret
    exact ⟨by rw [HBB.out]; rfl, HB.out⟩
set_option maxHeartbeats 4000000 in
theorem turnoverOf_spec (v : Value) (L : List Td.E) (w : World) (hv : Rk.View Td.S w v L) (hl : L.length ≤ 1048576) :
    Calls Try.prog 23 #[v] w fun e w' => e = .returned (.int .i64 (Tp.turnAll L)) ∧ Below w.heap.size w w' := by
  have HV := Fk.hide hv
  obtain ⟨a, cap, rfl, hs⟩ := hv
  obtain ⟨c, hc⟩ : ∃ c, c = Tp.right L := ⟨_, rfl⟩
  have HC := Fk.hide hc
  have HT := l12Right_any _ L w HV.out hl
  rw [← hc] at HT
  have HTT := Fk.hide HT
  clear hc HT
  cases c with
  | false =>
    have HA : Hid (Tp.turnAll L = 0) := Tp.turnAll_no HC.out.symm
    go_enter Try.func23, Try.ntmps23
    go_wp2_with (go_at_call 48; refine HTT.out.mono ?_; rintro e W1 ⟨rfl, k1⟩)
    go_ret
    exact ⟨by rw [HA.out]; rfl, k1⟩
  | true =>
  have HA : Hid (Tp.turnAll L = Tp.turn L) := Tp.turnAll_yes HC.out.symm
  have hl4 : L.length ≤ 400 := (Tp.right_inv HC.out.symm).1
  have HOK := Fk.hide (Tp.right_inv HC.out.symm).2
  have HTB := Fk.hide (Tp.turn_bound HC.out.symm)
  go_enter Try.func23, Try.ntmps23
  go_wp2_with (go_at_call 48; refine HTT.out.mono ?_; rintro e W1 ⟨rfl, k1⟩; have HK1 := Fk.hide k1; clear k1)
  go_loopw [3, 4] (fun n0 i wr => ∃ (k : Nat) (n : Int), k ≤ L.length ∧ n0 = .int .i64 n ∧ i = .int .i64 k ∧ 0 ≤ n ∧ n ≤ 10000000 * (k : Int) ∧ Hid (n = Tp.turn (L.take k)) ∧ Hid (Below w.heap.size w wr)) (fun _ i _ => L.length - (intOf i).toNat)
  case atStart => exact ⟨0, 0, Nat.zero_le _, rfl, rfl, by omega, by omega, rfl, HK1.out⟩
  case round =>
    obtain ⟨k, n, hk, rfl, rfl, hn0, hn1, HN, BEL⟩ := hrel
    by_cases hlt : k < L.length
    · obtain ⟨b, o, rfl, hb, hs1⟩ := hs (by omega)
      have hs' := hs1.below hb BEL.out
      have q0 := Td.c0 hs' hlt
      have q1 := Td.c1 hs' hlt
      have hok := Tp.ok_inv (HOK.out k hlt)
      have hst := Tp.turn_take L k hlt
      rw [← HN.out] at hst
      have hmb := Tp.mul_bound hok.1.1 hok.1.2 hok.2.1 hok.2.2
      unfold Tp.at' at hok hst hmb
      obtain ⟨g, hg⟩ : ∃ g, g = Rk.at_ Td.S L k := ⟨_, rfl⟩
      rw [← hg] at q0 q1 hok hst hmb
      clear hg hs' HN
      have HST := Fk.hide hst
      clear hst
      obtain ⟨g0, g1⟩ := g
      simp only at q0 q1 hok hmb
      obtain ⟨⟨o0, o1⟩, o2, o3⟩ := hok
      obtain ⟨pq, hpq⟩ : ∃ x, x = g0 * g1 := ⟨_, rfl⟩
      have HPQ := Fk.hide hpq
      rw [← hpq] at hmb
      clear hpq
      have hwr : IntKind.i64.wrap (g0 * g1) = pq := by rw [← HPQ.out]; simp [IntKind.wrap, go_sem]; omega
      have hwr2 : IntKind.i64.wrap (n + pq) = n + pq := by simp [IntKind.wrap, go_sem]; omega
      have HN2 : Hid (n + pq = Tp.turn (L.take (k + 1))) := by show _ = _; rw [HST.out, HPQ.out]
      go_wp2_with fail
      go_region
      all_goals
        go_wp2_with fail
        go_roundw
        case rel => exact ⟨k + 1, n + pq, by omega, rfl, by go_num, by omega, by push_cast; omega, HN2.out, BEL.out.drew⟩
        case measure => simp [intOf]; omega
    · have e : k = L.length := by omega
      have HG : Hid (n = Tp.turn L) := by show _ = _; rw [HN.out, e, List.take_length]
      go_wp2_with fail
      go_ret
      exact ⟨by rw [HA.out, ← HG.out]; rfl, BEL.out⟩
set_option maxHeartbeats 4000000 in
theorem turnoverOf_impl (v : Value) (L : List Td.E) (w : World) (hv : Rk.View Td.S w v L) (hl : L.length ≤ 1048576) :
    Calls Try.prog 14 #[v] w fun e w' => e = .returned (.int .i64 (Tp.turnAll L)) ∧ Below w.heap.size w w' := by
  have HV := Fk.hide hv
  obtain ⟨a, cap, rfl, hs⟩ := hv
  obtain ⟨c, hc⟩ : ∃ c, c = Tp.right L := ⟨_, rfl⟩
  have HC := Fk.hide hc
  have HT := tradesRight_any _ L w HV.out hl
  rw [← hc] at HT
  have HTT := Fk.hide HT
  clear hc HT
  cases c with
  | false =>
    have HA : Hid (Tp.turnAll L = 0) := Tp.turnAll_no HC.out.symm
    go_enter Try.func14, Try.ntmps14
    go_wp2_with (go_at_call 42; refine HTT.out.mono ?_; rintro e W1 ⟨rfl, k1⟩)
    go_ret
    exact ⟨by rw [HA.out]; rfl, k1⟩
  | true =>
  have HA : Hid (Tp.turnAll L = Tp.turn L) := Tp.turnAll_yes HC.out.symm
  have hl4 : L.length ≤ 400 := (Tp.right_inv HC.out.symm).1
  have HOK := Fk.hide (Tp.right_inv HC.out.symm).2
  have HTB := Fk.hide (Tp.turn_bound HC.out.symm)
  go_enter Try.func14, Try.ntmps14
  go_wp2_with (go_at_call 42; refine HTT.out.mono ?_; rintro e W1 ⟨rfl, k1⟩; have HK1 := Fk.hide k1; clear k1)
  go_loopw [3, 11] (fun n0 i wr => ∃ (k : Nat) (n : Int), k ≤ L.length ∧ n0 = .int .i64 n ∧ i = .int .i64 k ∧ 0 ≤ n ∧ n ≤ 10000000 * (k : Int) ∧ Hid (n = Tp.turn (L.take k)) ∧ Hid (Below w.heap.size w wr)) (fun _ i _ => L.length - (intOf i).toNat)
  case atStart => exact ⟨0, 0, Nat.zero_le _, rfl, rfl, by omega, by omega, rfl, HK1.out⟩
  case round =>
    obtain ⟨k, n, hk, rfl, rfl, hn0, hn1, HN, BEL⟩ := hrel
    by_cases hlt : k < L.length
    · obtain ⟨b, o, rfl, hb, hs1⟩ := hs (by omega)
      have hs' := hs1.below hb BEL.out
      have q0 := Td.c0 hs' hlt
      have q1 := Td.c1 hs' hlt
      have hok := Tp.ok_inv (HOK.out k hlt)
      have hst := Tp.turn_take L k hlt
      rw [← HN.out] at hst
      have hmb := Tp.mul_bound hok.1.1 hok.1.2 hok.2.1 hok.2.2
      unfold Tp.at' at hok hst hmb
      obtain ⟨g, hg⟩ : ∃ g, g = Rk.at_ Td.S L k := ⟨_, rfl⟩
      rw [← hg] at q0 q1 hok hst hmb
      clear hg hs' HN
      have HST := Fk.hide hst
      clear hst
      obtain ⟨g0, g1⟩ := g
      simp only at q0 q1 hok hmb
      obtain ⟨⟨o0, o1⟩, o2, o3⟩ := hok
      obtain ⟨pq, hpq⟩ : ∃ x, x = g0 * g1 := ⟨_, rfl⟩
      have HPQ := Fk.hide hpq
      rw [← hpq] at hmb
      clear hpq
      have hwr : IntKind.i64.wrap (g0 * g1) = pq := by rw [← HPQ.out]; simp [IntKind.wrap, go_sem]; omega
      have hwr2 : IntKind.i64.wrap (n + pq) = n + pq := by simp [IntKind.wrap, go_sem]; omega
      have HN2 : Hid (n + pq = Tp.turn (L.take (k + 1))) := by show _ = _; rw [HST.out, HPQ.out]
      go_wp2_with fail
      go_roundw
      case rel => exact ⟨k + 1, n + pq, by omega, rfl, by go_num, by omega, by push_cast; omega, HN2.out, BEL.out.alloc BEL.out.size _⟩
      case measure => simp [intOf]; omega
    · have e : k = L.length := by omega
      have HG : Hid (n = Tp.turn L) := by show _ = _; rw [HN.out, e, List.take_length]
      go_wp2_with fail
      go_ret
      exact ⟨by rw [HA.out, ← HG.out]; rfl, BEL.out⟩
end Go.Proofs.Ytficlppngnnpoaa

/- The trades of what was told: which events are right, and their trades, on both sides. -/
import Derived.Test.YtficlppngnnpoaaEventRightImpl
import Derived.Test.YtficlppngnnpoaaEventRightSpec
import Derived.Test.YtficlppngnnpoaaEventsKit
import Derived.Test.YtficlppngnnpoaaTradesKit
import Derived.Test.YtficlppngnnpoaaRowsMore
import Derived.Deep.RegionHeld3
namespace Go.Proofs.Ytficlppngnnpoaa
open Go.RowKit
set_option linter.unusedVariables false
set_option linter.unusedSimpArgs false
theorem Td.info : (Try.prog.info? 37).map (fun i => (i.zero, i.size, i.bytes)) = some (some (.agg #[.int .i64 0, .int .i64 0]), 2, 16) := by kernel_rfl
namespace Tt
abbrev at' (L : List Vt.E) (i : Nat) : Vt.E := Rk.at_ Vt.S L i
def ev (f : Vt.E) : Ev.E := ⟨f.1, f.2.1, f.2.2.1, f.2.2.2.1, f.2.2.2.2⟩
def ok (f : Vt.E) : Bool := Ev.right (ev f)
/-- the events are right -/
def okAll (L : List Vt.E) : Bool := L.all ok
theorem okAll_no {L : List Vt.E} {i : Nat} (hi : i < L.length) (h : ok (at' L i) = false) : okAll L = false := by
  unfold okAll
  rw [List.all_eq_false]
  exact ⟨_, Rk.at_mem (S := Vt.S) L i hi, by simp [h]⟩
theorem okAll_yes {L : List Vt.E} (h : ∀ i, i < L.length → ok (at' L i) = true) : okAll L = true := by
  unfold okAll
  rw [List.all_eq_true]
  intro t ht
  obtain ⟨i, hi, rfl⟩ := List.getElem_of_mem ht
  have := h i hi
  unfold at' at this
  rwa [Rk.at_get L i hi] at this
def right (L : List Vt.E) : Bool := decide ((L.length : Int) ≤ 400) && okAll L
theorem right_long {L : List Vt.E} (h : (400 : Int) < (L.length : Int)) : right L = false := by
  have : decide ((L.length : Int) ≤ 400) = false := decide_eq_false (by omega)
  simp only [right, this, Bool.false_and]
/-- one event's trade -/
def one (f : Vt.E) : List Td.E := if f.1 = 2 then [(f.2.2.2.1, f.2.2.2.2)] else []
def trades (L : List Vt.E) : List Td.E := L.flatMap one
theorem trades_take (L : List Vt.E) (k : Nat) (h : k < L.length) : trades (L.take (k + 1)) = trades (L.take k) ++ one (at' L k) := by
  rw [Rk.take_at (S := Vt.S) L k h, trades, List.flatMap_append]
  simp [trades]
theorem trades_len (L : List Vt.E) : (trades L).length ≤ L.length := by
  induction L with
  | nil => simp [trades]
  | cons f r ih =>
    have : (one f).length ≤ 1 := by unfold one; split <;> simp
    simp only [trades, List.flatMap_cons, List.length_append, List.length_cons] at ih ⊢
    omega
def tradesOf (L : List Vt.E) : List Td.E := if right L = true then trades L else []
theorem tradesOf_no {L : List Vt.E} (h : right L = false) : tradesOf L = [] := by simp [tradesOf, h]
theorem tradesOf_ill {L : List Vt.E} (h : okAll L = false) : tradesOf L = [] := by simp [tradesOf, right, h]
theorem tradesOf_yes {L : List Vt.E} (h0 : (L.length : Int) ≤ 400) (h : okAll L = true) : tradesOf L = trades L := by
  have : right L = true := by simp [right, h]; omega
  simp [tradesOf, this]
theorem tradesOf_len (L : List Vt.E) : (tradesOf L).length ≤ 400 := by
  unfold tradesOf
  split
  · rename_i h
    have h1 := trades_len L
    simp only [right, Bool.and_eq_true, decide_eq_true_eq] at h
    have := h.1
    omega
  · simp
end Tt

set_option maxHeartbeats 1000000 in
theorem eventsRight_any (v : Value) (L : List Vt.E) (w : World) (hv : Rk.View Vt.S w v L) (hl : L.length ≤ 1048576) :
    Calls Try.prog 52 #[v] w fun e w' => e = .returned (.bool (Tt.okAll L)) ∧ Below w.heap.size w w' := by
  obtain ⟨a, cap, rfl, hs⟩ := hv
  go_enter Try.func52, Try.ntmps52
  go_wp2_with fail
  go_loopw [7] (fun i wr => ∃ k : Nat, k ≤ L.length ∧ i = .int .i64 k ∧ Hid (∀ j, j < k → Tt.ok (Tt.at' L j) = true) ∧ Below w.heap.size w wr) (fun i _ => L.length - (intOf i).toNat)
  case atStart => exact ⟨0, Nat.zero_le _, rfl, fun j hj => absurd hj (by omega), Below.refl _ _⟩
  case round =>
    obtain ⟨k, hk, rfl, HK, bel⟩ := hrel
    by_cases hlt : k < L.length
    · obtain ⟨b, o, rfl, hb, hs1⟩ := hs (by omega)
      have hs' := hs1.below hb bel
      have q0 := Vt.c0 hs' hlt
      have q1 := Vt.c1 hs' hlt
      have q2 := Vt.c2 hs' hlt
      have q3 := Vt.c3 hs' hlt
      have q4 := Vt.c4 hs' hlt
      obtain ⟨f, hf⟩ : ∃ f, f = Rk.at_ Vt.S L k := ⟨_, rfl⟩
      have HF := Fk.hide hf
      rw [← hf] at q0 q1 q2 q3 q4
      clear hf hs'
      obtain ⟨c0, hc0⟩ : ∃ c, c = Tt.ok f := ⟨_, rfl⟩
      have fb0 : ∀ w', Calls Try.prog 65 #[.agg #[.int .i64 f.1, .int .i64 f.2.1, .int .i64 f.2.2.1, .int .i64 f.2.2.2.1, .int .i64 f.2.2.2.2]] w' fun e w'' => e = .returned (.bool c0) ∧ Below w'.heap.size w' w'' := fun w' => by rw [hc0]; exact eventRight_impl (Tt.ev f) w'
      have HO : Hid (Tt.ok (Tt.at' L k) = c0) := by show _ = _; unfold Tt.at'; rw [← HF.out, hc0]
      have BA : Hid (∀ o, Below wr.heap.size wr (wr.alloc o)) := fun o => (Below.refl wr.heap.size wr).alloc (Nat.le_refl _) o
      clear hc0
      cases c0 with
      | false =>
        have HA : Hid (Tt.okAll L = false) := Tt.okAll_no hlt HO.out
        go_wp2_with (go_at_call 65; refine (fb0 _).mono ?_; rintro e w2 ⟨rfl, b2⟩; have HB2 : Hid (Below w.heap.size w w2) := bel.trans (((BA.out _).trans (b2.mono (BA.out _).size)).mono bel.size); clear b2)
        go_ret
        exact ⟨by rw [HA.out]; rfl, HB2.out⟩
      | true =>
        go_wp2_with (go_at_call 65; refine (fb0 _).mono ?_; rintro e w2 ⟨rfl, b2⟩; have HB2 : Hid (Below w.heap.size w w2) := bel.trans (((BA.out _).trans (b2.mono (BA.out _).size)).mono bel.size); clear b2)
        go_roundw
        case rel =>
          refine ⟨k + 1, by omega, by go_num, (fun j hj => ?_), HB2.out⟩
          rcases Nat.lt_succ_iff_lt_or_eq.1 hj with h | rfl
          · exact HK.out j h
          · exact HO.out
        case measure => simp [intOf]; omega
    · have e : k = L.length := by omega
      have HA : Hid (Tt.okAll L = true) := Tt.okAll_yes fun i hi => HK.out i (by omega)
      go_wp2_with fail
      go_ret
      exact ⟨by rw [HA.out]; rfl, bel⟩

set_option maxRecDepth 100000 in
set_option maxHeartbeats 4000000 in
theorem tradesOf_impl (v : Value) (L : List Vt.E) (w : World) (hv : Rk.View Vt.S w v L) (hl : L.length ≤ 1048576) :
    Calls Try.prog 20 #[v] w fun e w' => (∃ u, e = .returned u ∧ Rk.Own Td.S w' w.heap.size 37 u (Tt.tradesOf L)) ∧ Below w.heap.size w w' := by
  have HV := Fk.hide hv
  obtain ⟨a, cap, rfl, hs⟩ := hv
  obtain ⟨i0, hi, hz0, hz1, hz2⟩ := info_parts Td.info
  have HNIL : Hid (∀ W, Rk.Own Td.S W w.heap.size 37 (.slice none 0 0) []) := fun W => Rk.own_nil W _ _
  by_cases hbig : (400 : Int) < (L.length : Int)
  · have HA := Fk.hide (Tt.tradesOf_no (Tt.right_long hbig))
    go_enter Try.func20, Try.ntmps20
    go_wp2_with fail
    go_ret
    exact ⟨⟨_, rfl, by rw [HA.out]; exact HNIL.out _⟩, Below.refl _ _⟩
  have h4 : (L.length : Int) ≤ 400 := by omega
  obtain ⟨c, hc⟩ : ∃ c, c = Tt.okAll L := ⟨_, rfl⟩
  have HT := eventsRight_any _ L w HV.out hl
  rw [← hc] at HT
  have HTT := Fk.hide HT
  have HC := Fk.hide hc
  clear hc HT
  cases c with
  | false =>
    have HA : Hid (Tt.tradesOf L = []) := Tt.tradesOf_ill HC.out.symm
    go_enter Try.func20, Try.ntmps20
    go_wp2_with (go_at_call 52; refine HTT.out.mono ?_; rintro e W1 ⟨rfl, k1⟩)
    go_ret
    exact ⟨⟨_, rfl, by rw [HA.out]; exact HNIL.out _⟩, k1⟩
  | true =>
  have HA : Hid (Tt.tradesOf L = Tt.trades L) := Tt.tradesOf_yes h4 HC.out.symm
  go_enter Try.func20, Try.ntmps20
  go_wp2_with (go_at_call 52; refine HTT.out.mono ?_; rintro e W1 ⟨rfl, k1⟩; have HK1 := Fk.hide k1; clear k1)
  go_loopw [3, 16] (fun out i wr => ∃ (k : Nat) (ua : Option Addr) (un uc : Nat), k ≤ L.length ∧ out = .slice ua un uc ∧ i = .int .i64 k ∧ Hid (Rk.Own Td.S wr w.heap.size 37 (.slice ua un uc) (Tt.trades (L.take k))) ∧ Hid (Below w.heap.size w wr)) (fun _ i _ => L.length - (intOf i).toNat)
  case atStart => exact ⟨0, _, _, _, Nat.zero_le _, rfl, rfl, HNIL.out _, HK1.out⟩
  case round =>
    obtain ⟨k, ua, un, uc, hk, rfl, rfl, HO, BEL⟩ := hrel
    by_cases hlt : k < L.length
    · obtain ⟨b, o, rfl, hb, hs1⟩ := hs (by omega)
      have hs' := hs1.below hb BEL.out
      have q0 := Vt.c0 hs' hlt
      have q1 := Vt.c1 hs' hlt
      have q2 := Vt.c2 hs' hlt
      have q3 := Vt.c3 hs' hlt
      have q4 := Vt.c4 hs' hlt
      have hst := Tt.trades_take L k hlt
      unfold Tt.at' at hst
      have hRl : (Tt.trades (L.take k)).length ≤ 400 := by have := Tt.trades_len (L.take k); have := List.length_take_le k L; omega
      obtain ⟨R, hR⟩ : ∃ R, R = Tt.trades (L.take k) := ⟨_, rfl⟩
      rw [← hR] at HO hst hRl
      obtain rfl : un = R.length := by obtain ⟨x1, x2, hx⟩ := HO.out.slice; simp only [Value.slice.injEq] at hx; exact hx.2.1
      obtain ⟨f, hf⟩ : ∃ f, f = Rk.at_ Vt.S L k := ⟨_, rfl⟩
      rw [← hf] at q0 q1 q2 q3 q4 hst
      have HST := Fk.hide hst
      clear hf hs' hR hst
      obtain ⟨f0, f1, f2, f3, f4⟩ := f
      simp only at q0 q1 q2 q3 q4
      have B1 : Hid (∀ o, Below w.heap.size w (wr.alloc o)) := fun o => BEL.out.alloc BEL.out.size _
      have HO1 : Hid (∀ o, Rk.Own Td.S (wr.alloc o) w.heap.size 37 (.slice ua R.length uc) R) := fun o => HO.out.below ((Below.refl _ _).alloc (Nat.le_refl _) _)
      by_cases h2 : f0 = 2
      · have HS2 : Hid (Tt.trades (L.take (k + 1)) = R ++ [(f3, f4)]) := by show _ = _; rw [HST.out]; simp [Tt.one, h2]
        have d2 : decide (f0 = 2) = true := decide_eq_true h2
        have HEX : Hid (∃ W4, W4 = wr.alloc (.cells #[.int .i64 f0, .int .i64 f1, .int .i64 f2, .int .i64 f3, .int .i64 f4] 68)) := ⟨_, rfl⟩
        obtain ⟨W4, hW4⟩ := HEX.out
        have BX : Hid (Below w.heap.size w W4) := by show Below _ _ _; rw [hW4]; exact B1.out _
        have HO4 : Hid (Rk.Own Td.S W4 w.heap.size 37 (.slice ua R.length uc) R) := by show Rk.Own _ _ _ _ _ _; rw [hW4]; exact HO1.out _
        have b5 : Below W4.heap.size W4 (W4.alloc (.cells #[.int .i64 f3, .int .i64 f4] 37)) := (Below.refl _ _).alloc (Nat.le_refl _) _
        have HB5 : Hid (Below w.heap.size w (W4.alloc (.cells #[.int .i64 f3, .int .i64 f4] 37))) := BX.out.trans (b5.mono BX.out.size)
        have HO5 := Fk.hide (HO4.out.below b5)
        have hsz4 : W4.heap.size = wr.heap.size + 1 := by rw [hW4]; simp
        have HV5 : Hid (Rk.View Td.S (W4.alloc (.cells #[.int .i64 f3, .int .i64 f4] 37)) (.slice (some ⟨wr.heap.size + 1, 0, none⟩) 1 1) [(f3, f4)]) := by show Rk.View _ _ _ _; rw [← hsz4]; exact Rk.view_lit1 (S := Td.S) W4 37 #[.int .i64 f3, .int .i64 f4] (f3, f4) rfl
        rw [hW4] at HB5 HO5 HV5
        clear b5 HEX HO4 BX hW4 HST hsz4
        subst h2
        go_wp2_with (at_builtin; refine Rk.wpList_append_view _ rfl _ _ 23 rfl w.heap.size 37 i0 _ 2 16 rfl Try.underlying23 hi hz0 hz1 hz2 rfl (by decide) (.slice ua R.length uc) _ R [(f3, f4)] rfl rfl HO5.out HV5.out (Rk.shut_some _ _ _) (by simp <;> omega) HB5.out.size ?_; intro u6 w6 o6 g6; have HB6 : Hid (Below w.heap.size w w6) := HB5.out.grown g6 HB5.out.size (fun j hj => (HO5.out.lt j hj).1); obtain ⟨x6, n6, c6, rfl⟩ := o6.slice'; have HO6 : Hid (Rk.Own Td.S w6 w.heap.size 37 (.slice x6 n6 c6) (Tt.trades (L.take (k + 1)))) := (by show Rk.Own _ _ _ _ _ _; rw [HS2.out]; exact o6); clear o6 g6)
        go_roundw
        case rel => exact ⟨k + 1, _, _, _, by omega, rfl, by go_num, HO6.out, HB6.out⟩
        case measure => simp [intOf]; omega
      · have HS2 : Hid (Tt.trades (L.take (k + 1)) = R) := by show _ = _; rw [HST.out]; simp [Tt.one, h2]
        have d2 : decide (f0 = 2) = false := decide_eq_false h2
        have d3 : (f0 == 2) = false := by simpa using h2
        go_wp2_with fail
        go_roundw
        case rel => exact ⟨k + 1, _, _, _, by omega, rfl, by go_num, by rw [HS2.out]; exact HO1.out _, B1.out _⟩
        case measure => simp [intOf]; omega
    · have e : k = L.length := by omega
      have HG : Hid (Rk.Own Td.S wr w.heap.size 37 (.slice ua un uc) (Tt.tradesOf L)) := by show Rk.Own _ _ _ _ _ _; rw [HA.out]; have := HO.out; rwa [e, List.take_length] at this
      clear HO
      go_wp2_with fail
      go_ret
      exact ⟨⟨_, rfl, HG.out⟩, BEL.out⟩
end Go.Proofs.Ytficlppngnnpoaa

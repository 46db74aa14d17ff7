/- The walks of the specification's beginnings: the place of a file, or why there is none. -/
import Derived.Test.YtfefafmcaepoiaaGreatDoorFsOpen
import Derived.Test.YtfefafmcaepoiaaGreatDoorFsRightSpec
namespace Go.Proofs.YtfefafmcaepoiaaGreatDoor
open Go.RowKit
set_option linter.unusedVariables false
namespace Fk
theorem get_at (L : List Fl) (name : ByteArray) (k : Nat) (hk : k < L.length) (h : nm L k = name) (hn : ∀ j, j < k → nm L j ≠ name) : get L name = some (nm L k, dt L k, sy L k) := by
  have e1 : (nm L k, dt L k, sy L k) = L[k] := by simp [nm, dt, sy, List.getD, List.getElem?_eq_getElem hk]
  rw [e1]
  unfold get
  rw [List.find?_eq_some_iff_getElem]
  have e2 : ∀ j (hj : j < L.length), (L[j]).1 = nm L j := fun j hj => by simp [nm, List.getD, List.getElem?_eq_getElem hj]
  refine ⟨by rw [e2 k hk]; simp [h], k, hk, rfl, fun j hj => ?_⟩
  rw [e2 j (by omega)]
  simp [hn j hj]
theorem get_no (L : List Fl) (name : ByteArray) (hn : ∀ j, j < L.length → nm L j ≠ name) : get L name = none := by
  unfold get
  rw [List.find?_eq_none]
  intro f hf
  obtain ⟨j, hj, e⟩ := List.getElem_of_mem hf
  have := hn j hj
  simp only [nm, List.getD, List.getElem?_eq_getElem hj, Option.getD_some, e] at this
  simpa using this
end Fk

set_option maxHeartbeats 2000000 in
theorem l02File_any (v : Value) (L : List Fk.Fl) (name : ByteArray) (w : World) (hv : Fk.View w v L) (hl : L.length ≤ maxLen) :
    Calls Tryz.prog 32 #[.agg #[v], .string name] w fun e w' =>
      ((∃ k : Nat, e = .returned (.int .i64 k) ∧ k < L.length ∧ Fk.nm L k = name ∧ ∀ j, j < k → Fk.nm L j ≠ name) ∨ (e = .returned (.int .i64 (-1)) ∧ ∀ j, j < L.length → Fk.nm L j ≠ name)) ∧ Below w.heap.size w w' := by
  unfold maxLen at hl
  have b0 : Below w.heap.size w (w.alloc (.cells #[v] 28)) := (Below.refl _ _).alloc (Nat.le_refl _) _
  have hv' := hv.below b0
  have hcell : (w.alloc (.cells #[v] 28)).cell? ⟨w.heap.size, 0, none⟩ = some v := by rw [Fk.cellTop _ _ _ _ _ rfl]; rfl
  obtain ⟨W, hW⟩ : ∃ W, W = w.alloc (.cells #[v] 28) := ⟨_, rfl⟩
  rw [← hW] at b0 hv' hcell
  have HW := Fk.hide hW
  clear hW hv
  obtain ⟨a, cap, rfl, hs⟩ := hv'
  go_enter Tryz.func32, Tryz.ntmps32
  go_wp2_with fail
  rw [← HW.out]
  go_loop [5] (fun i => ∃ k : Nat, k ≤ L.length ∧ i = .int .i64 k ∧ Hid (∀ j, j < k → Fk.nm L j ≠ name)) (fun i => L.length - (intOf i).toNat)
  case atStart => exact ⟨0, Nat.zero_le _, rfl, fun j hj => absurd hj (by omega)⟩
  case round =>
    obtain ⟨k, hk, rfl, HK⟩ := hrel
    by_cases hlt : k < L.length
    · obtain ⟨b, o, rfl, hb, hs1⟩ := hs (by omega)
      have q0 := hs1.c0 k hlt
      have he := Fk.list_eq (Fk.nm L k) name
      by_cases hn : Fk.nm L k = name
      · rw [decide_eq_true hn] at he
        have HN := Fk.hide hn
        clear hn
        go_wp2_with fail
        go_ret
        exact ⟨.inl ⟨k, rfl, hlt, HN.out, HK.out⟩, b0⟩
      · rw [decide_eq_false hn] at he
        have HN := Fk.hide hn
        clear hn
        go_wp2_with fail
        go_round
        case rel =>
          refine ⟨k + 1, by omega, by go_num, fun j hj => ?_⟩
          by_cases e : j = k
          · rw [e]; exact HN.out
          · exact HK.out j (by omega)
        case measure => simp [intOf]; omega
    · have e : k = L.length := by omega
      subst e
      go_wp2_with fail
      go_ret
      exact ⟨.inr ⟨rfl, HK.out⟩, b0⟩

set_option maxHeartbeats 2000000 in
theorem l02Begin_any (v : Value) (L : List Fk.Fl) (name : ByteArray) (w : World) (hv : Fk.View w v L) (hL : Fk.Fits L) (hl : L.length ≤ maxLen) (hn : name.size ≤ maxLen) :
    Calls Tryz.prog 42 #[.agg #[v], .string name] w fun e w' =>
      ((Fk.opn L [name] = 1 ∧ e = .returned (.tuple #[.int .i64 (-1), .int .i64 2])) ∨ (Fk.opn L [name] = 2 ∧ e = .returned (.tuple #[.int .i64 (-1), .int .i64 1])) ∨
       (Fk.opn L [name] = 0 ∧ Fk.get L name = none ∧ e = .returned (.tuple #[.int .i64 (-1), .int .i64 6])) ∨
       (Fk.opn L [name] = 0 ∧ ∃ k : Nat, k < L.length ∧ Fk.nm L k = name ∧ Fk.get L name = some (Fk.nm L k, Fk.dt L k, Fk.sy L k) ∧ e = .returned (.tuple #[.int .i64 k, .int .i64 0]))) ∧ Below w.heap.size w w' := by
  have hnl := hn
  unfold maxLen at hnl
  have b0 : Below w.heap.size w (w.alloc (.cells #[v] 28)) := (Below.refl _ _).alloc (Nat.le_refl _) _
  have hv' := hv.below b0
  have hcell : (w.alloc (.cells #[v] 28)).cell? ⟨w.heap.size, 0, none⟩ = some v := by rw [Fk.cellTop _ _ _ _ _ rfl]; rfl
  have hsz : w.heap.size < (w.alloc (.cells #[v] 28)).heap.size := by simp
  obtain ⟨W, hW⟩ : ∃ W, W = w.alloc (.cells #[v] 28) := ⟨_, rfl⟩
  rw [← hW] at b0 hv' hcell hsz
  have HW := Fk.hide hW
  clear hW hv
  have hvW := hv'
  obtain ⟨a, cap, rfl, hs⟩ := hv'
  clear hs
  by_cases h8 : (8000 : Int) < (name.size : Int)
  · have HF := Fk.hide (Fk.opn_long L [name] 0 (by simp) (by show 8000 < name.size; omega))
    go_enter Tryz.func42, Tryz.ntmps42
    go_wp2_with fail
    go_ret2
    exact ⟨.inl ⟨HF.out, rfl⟩, by rw [← HW.out]; exact b0⟩
  have H8 : Hid (∀ k, k < [name].length → ([name].getD k ByteArray.empty).size ≤ 8000) := fun k hk => by
    have e : k = 0 := by simpa using hk
    subst e
    show name.size ≤ 8000
    omega
  go_enter Tryz.func42, Tryz.ntmps42
  go_wp2_with fail
  rw [← HW.out]
  refine (fsRight_spec _ L _ hvW hL hl).mono ?_
  rintro e w1 ⟨rfl, b1⟩
  have B1 := Fk.hide (b0.trans (b1.mono b0.size))
  have hcell1 : w1.cell? ⟨w.heap.size, 0, none⟩ = some (.slice a L.length cap) := (b1.cell (by exact hsz)).trans hcell
  have hv1 := hvW.below b1
  clear b1 hcell
  cases hr : Fk.right L with
  | false =>
    have HF := Fk.hide (Fk.opn_ill L [name] H8.out hr)
    go_wp2_with fail
    go_ret2
    exact ⟨.inr (.inl ⟨HF.out, rfl⟩), B1.out⟩
  | true =>
    cases hnb : Nm.nameB name with
    | false =>
      have HF := Fk.hide (Fk.opn_name L [name] H8.out hr 0 (by simp) hnb)
      go_wp2_with (go_at_call 40; refine (specName_any _ _ hn).mono ?_; rintro e w' ⟨rfl, rfl⟩)
      go_ret2
      exact ⟨.inr (.inl ⟨HF.out, rfl⟩), B1.out⟩
    | true =>
      have HF := Fk.hide (Fk.opn_ok L [name] H8.out hr (fun k hk => by have e : k = 0 := by simpa using hk
                                                                       subst e
                                                                       exact hnb))
      go_wp2_with (go_at_call 40; refine (specName_any _ _ hn).mono ?_; rintro e w' ⟨rfl, rfl⟩)
      refine (l02File_any _ L name _ hv1 hl).mono ?_
      rintro e w2 ⟨h2, b2⟩
      have B2 := Fk.hide (B1.out.trans (b2.mono B1.out.size))
      clear b2 hv1 hcell1
      rcases h2 with ⟨k, rfl, hk, h3, h4⟩ | ⟨rfl, h3⟩
      · have HG := Fk.hide (Fk.get_at L name k hk h3 h4)
        have H3 := Fk.hide h3
        clear h3 h4
        go_wp2_with fail
        go_ret2
        exact ⟨.inr (.inr (.inr ⟨HF.out, k, hk, H3.out, HG.out, rfl⟩)), B2.out⟩
      · have HG := Fk.hide (Fk.get_no L name h3)
        clear h3
        go_wp2_with fail
        go_ret2
        exact ⟨.inr (.inr (.inl ⟨HF.out, HG.out, rfl⟩)), B2.out⟩
end Go.Proofs.YtfefafmcaepoiaaGreatDoor

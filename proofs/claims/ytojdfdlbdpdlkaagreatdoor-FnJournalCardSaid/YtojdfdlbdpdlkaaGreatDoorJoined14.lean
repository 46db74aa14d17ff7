/- The walks of the four bytes of a CRC, and of both Seal. Plain mathematics of the journal: what is answered when a record is added to it, synced or not. -/
import Derived.Test.YtojdfdlbdpdlkaaGreatDoorJoined13
import Derived.Test.YtojdfdlbdpdlkaaGreatDoorJoined1
import Derived.Test.YtojdfdlbdpdlkaaGreatDoorJoined11
import Derived.Test.YtojdfdlbdpdlkaaGreatDoorJoined12
namespace Go.Proofs.YtojdfdlbdpdlkaaGreatDoor
open Go.RowKit
set_option linter.unusedVariables false

theorem un4 : Tryz.prog.underlying 135 = some (.array (Tryz.prog.arrayLen 135) (Tryz.prog.elem 135)) := by kernel_rfl
theorem len4 : Tryz.prog.arrayLen 135 = 4 := by kernel_rfl
theorem size4 (w : World) : (sizeOf (Tryz.prog.elem 135)).run Tryz.prog w = .ok 1 w := by kernel_rfl

theorem slice4 (b : Nat) (w : World) :
    (Instr.sliceAt 135 (.pointer (some ⟨b, 0, none⟩)) none none none).run Tryz.prog w = .ok (.slice (some ⟨b, 0, none⟩) 4 4) w := by
  rw [run_sliceAt_array_all w _ _ un4, size4]
  simp [Result.andThen, slicedAt, len4, Addr.add]

/-- four bytes, the lowest first -/
def four (c : Int) : List Int := [c % 256, c / 256 % 256, c / 65536 % 256, c / 16777216 % 256]

theorem four_text {P : Program} (w : World) (t : TypeId) (c : Int) (src dst e : TypeId) (hs : P.underlying src = some (.slice e)) (he : P.underlying e = some (.int .u8)) (hd : P.underlying dst = some .string) (x0 x1 x2 x3 : Int)
    (h0 : x0 = c % 256) (h1 : x1 = c / 256 % 256) (h2 : x2 = c / 65536 % 256) (h3 : x3 = c / 16777216 % 256) :
    (convert src dst (.slice (some ⟨w.heap.size, 0, none⟩) 4 4)).run P (w.alloc (.cells #[.int .u8 x0, .int .u8 x1, .int .u8 x2, .int .u8 x3] t)) = .ok (.string (strOfNums (four c))) (w.alloc (.cells #[.int .u8 x0, .int .u8 x1, .int .u8 x2, .int .u8 x3] t)) := by
  subst h0 h1 h2 h3
  have h := row8_new w t (four c)
  exact row8_text h src dst e hs he hd 4 4 (by simp [four])

set_option maxHeartbeats 1000000 in
theorem sumText_any (c : Int) (w : World) (h0 : 0 ≤ c) (h1 : c ≤ 4294967295) :
    Calls Tryz.prog 82 #[.int .i64 c] w fun e w' => e = .returned (.string (strOfNums (four c))) ∧ Below w.heap.size w w' := by
  have hsl := fun W => slice4 w.heap.size W
  have ht := four_text (P := Tryz.prog) w 135 c 22 9 5 Tryz.underlying22 Tryz.underlying5 Tryz.underlying9 (c % 256) (c / 256 % 256) (c / 256 / 256 % 256) (c / 256 / 256 / 256 % 256) rfl rfl (by omega) (by omega)
  have HB := fun cs => ((Below.refl w.heap.size w).alloc (Nat.le_refl _) (.cells cs 135))
  go_enter Tryz.func82, Tryz.ntmps82
  go_wp2_with fail
  refine wp_loop_rounds 5 ?_
  rw [rounds_succ]
  go_wp2
  rw [rounds_succ]
  go_wp2
  rw [rounds_succ]
  go_wp2
  rw [rounds_succ]
  go_wp2
  rw [rounds_succ]
  go_wp2
  go_ret
  exact ⟨rfl, HB _⟩

set_option maxHeartbeats 1000000 in
theorem l01Four_any (c : Int) (w : World) (h0 : 0 ≤ c) (h1 : c ≤ 4294967295) :
    Calls Tryz.prog 64 #[.int .i64 c] w fun e w' => e = .returned (.string (strOfNums (four c))) ∧ Below w.heap.size w w' := by
  have HB := fun cs => ((Below.refl w.heap.size w).alloc (Nat.le_refl _) (.cells cs 5))
  have ht := four_text (P := Tryz.prog) w 5 c 22 9 5 Tryz.underlying22 Tryz.underlying5 Tryz.underlying9 (c % 256) (c / 256 % 256) (c / 65536 % 256) (c / 16777216) rfl rfl rfl (by omega)
  go_enter Tryz.func64, Tryz.ntmps64
  go_wp2
  go_ret
  exact ⟨rfl, HB _⟩

theorem more_bd (s : ByteArray) : 0 ≤ crcMore 0 s ∧ crcMore 0 s ≤ 4294967295 := by
  unfold crcMore
  split
  · omega
  · have := Cr.more_lt s (c := Int.toNat 0) (by decide)
    omega

theorem more_small (s : ByteArray) (h : s.size ≤ 8000) : crcMore 0 s = (Cr.more 0 s : Int) := if_neg (by omega)

/-- a text with the four bytes of its CRC behind it; the empty text, where it is too long -/
def sealed (s : ByteArray) : ByteArray := if s.size ≤ 7996 then s ++ strOfNums (four (crcMore 0 s)) else ByteArray.empty

theorem four_size (c : Int) : (strOfNums (four c)).size = 4 := by simp [strOfNums_size, four]

set_option maxHeartbeats 1000000 in
theorem implSeal_any (s : ByteArray) (w : World) (hs : s.size ≤ maxLen) :
    Calls Tryz.prog 55 #[.string s] w fun e w' => e = .returned (.string (sealed s)) ∧ Below w.heap.size w w' := by
  have hs0 := hs
  unfold maxLen at hs
  by_cases h : 7996 < s.size
  · have H : Hid (sealed s = ByteArray.empty) := if_neg (by omega)
    go_enter Tryz.func55, Tryz.ntmps55
    go_wp2_with fail
    go_ret
    exact ⟨by rw [H.out]; rfl, Below.refl _ _⟩
  · have H : Hid (sealed s = s ++ strOfNums (four (crcMore 0 s))) := if_pos (by omega)
    have hb := more_bd s
    go_enter Tryz.func55, Tryz.ntmps55
    go_wp2_with fail
    refine (implCrc_any s _ hs0).mono ?_
    rintro e w1 ⟨rfl, hw⟩
    obtain rfl := hw.symm
    go_wp2_with fail
    refine (sumText_any _ _ hb.1 hb.2).mono ?_
    rintro e w2 ⟨rfl, hb2⟩
    go_wp2_with fail
    refine (join_two _ _ _ _ (by omega) (by rw [four_size]; omega)).mono ?_
    rintro e w3 ⟨rfl, hb3⟩
    go_wp2_with fail
    go_ret
    exact ⟨by rw [H.out]; rfl, hb2.trans (hb3.mono hb2.size)⟩

set_option maxHeartbeats 1000000 in
theorem specSeal_any (s : ByteArray) (w : World) (hs : s.size ≤ maxLen) :
    Calls Tryz.prog 37 #[.string s] w fun e w' => e = .returned (.string (sealed s)) ∧ Below w.heap.size w w' := by
  unfold maxLen at hs
  by_cases h : 7996 < s.size
  · have H : Hid (sealed s = ByteArray.empty) := if_neg (by omega)
    go_enter Tryz.func37, Tryz.ntmps37
    go_wp2_with fail
    go_ret
    exact ⟨by rw [H.out]; rfl, Below.refl _ _⟩
  · have hb := more_bd s
    rw [more_small s (by omega)] at hb
    have H : Hid (sealed s = s ++ strOfNums (four (Cr.more 0 s : Int))) := by show sealed s = _; rw [sealed, if_pos (by omega), more_small s (by omega)]
    have h4 := four_size (Cr.more 0 s : Int)
    go_enter Tryz.func37, Tryz.ntmps37
    go_wp2_with fail
    refine (l01Crc_any 0 s _ (by omega) (by omega)).mono ?_
    rintro e w1 ⟨rfl, hw⟩
    obtain rfl := hw.symm
    go_wp2_with fail
    refine (l01Four_any _ _ hb.1 hb.2).mono ?_
    rintro e w2 ⟨rfl, hb2⟩
    go_wp2_with fail
    go_ret
    exact ⟨by rw [H.out]; rfl, hb2⟩

end Go.Proofs.YtojdfdlbdpdlkaaGreatDoor

namespace Go.Proofs.YtojdfdlbdpdlkaaGreatDoor
set_option linter.unusedSimpArgs false
namespace Jn
/-- a text as a record -/
def record (t : ByteArray) : ByteArray := putText (sealed t)
theorem sealed_size (t : ByteArray) (h : t.size ≤ 300) : (sealed t).size ≤ 304 := by
  unfold sealed
  rw [if_pos (by omega), ByteArray.size_append, four_size]; omega
theorem record_size (t : ByteArray) (h : t.size ≤ 300) : (record t).size ≤ 400 := by
  have h1 := sealed_size t h
  have h2 := Pn.put_size ((sealed t).size : Int)
  unfold record putText
  rw [if_pos (by omega), ByteArray.size_append]
  omega
/-- why nothing is added: 1 the text is too long by far, 2 the files or the text are not right -/
def oAdd (L : List Fk.Fl) (t : ByteArray) : Nat := if 8000 < t.size then 1 else if Fk.right L = false then 2 else if 300 < t.size then 2 else 0
theorem oAdd_big {L : List Fk.Fl} {t : ByteArray} (h : 8000 < t.size) : oAdd L t = 1 := if_pos h
theorem oAdd_ill {L : List Fk.Fl} {t : ByteArray} (h : ¬ 8000 < t.size) (hr : Fk.right L = false) : oAdd L t = 2 := by unfold oAdd; rw [if_neg h, if_pos hr]
theorem oAdd_long {L : List Fk.Fl} {t : ByteArray} (h : ¬ 8000 < t.size) (hr : Fk.right L = true) (h3 : 300 < t.size) : oAdd L t = 2 := by unfold oAdd; rw [if_neg h, if_neg (by simp [hr]), if_pos h3]
theorem oAdd_ok {L : List Fk.Fl} {t : ByteArray} (hr : Fk.right L = true) (h3 : ¬ 300 < t.size) : oAdd L t = 0 := by unfold oAdd; rw [if_neg (by omega), if_neg (by simp [hr]), if_neg h3]
/-- what is answered, where a record can be thought of -/
def resAdd (L : List Fk.Fl) (t : ByteArray) (s : Bool) : Int ⊕ List Fk.Fl :=
  match Fk.resAppend L name (record t) with
  | .inl k => .inl k
  | .inr M => if s = true then Fk.resSync M name else .inr M
theorem opnA_ok {L : List Fk.Fl} {t : ByteArray} (hr : Fk.right L = true) (h3 : ¬ 300 < t.size) : Fk.opnA L name (record t) = 0 := by
  have h := record_size t (by omega)
  unfold Fk.opnA
  rw [if_neg (by omega), opn_name, opn_yes hr]
/-- what has been appended lies there just once -/
theorem append_mem {L M : List Fk.Fl} {t : ByteArray} (h : Fk.resAppend L name t = .inr M) : ∃ d s, M = Fk.without L name ++ [(name, d, s)] := by
  unfold Fk.resAppend at h
  split at h
  · split at h
    · cases h
    · split at h
      · cases h
      · exact ⟨_, _, (Sum.inr.inj h).symm⟩
  · rename_i f hf
    split at h
    · cases h
    · refine ⟨f.2.1 ++ t, f.2.2, ?_⟩
      rw [← Sum.inr.inj h, (Fk.get_some hf).2]
/-- an appended file, synced as it was answered, is what is asked -/
theorem add_sync {L R R' : List Fk.Fl} {t : ByteArray} {c' : Int} (hr : Fk.right L = true) (h3 : ¬ 300 < t.size) (h : Fk.Ans (Fk.opnA L name (record t)) (Fk.resAppend L name (record t)) R 0) (h' : Fk.Ans (Fk.opn R [name]) (Fk.resSync R name) R' c') :
    Fk.Ans (oAdd L t) (resAdd L t true) R' c' := by
  have hR := (Fk.append_right h).1 rfl
  rw [opn_name, opn_yes hR] at h'
  rw [opnA_ok hr h3] at h
  rw [oAdd_ok hr h3]
  rcases h with ⟨h0, _⟩ | ⟨h0, _⟩ | ⟨_, ⟨k, hk, _, hc⟩ | ⟨M, hM, _, h1, h2⟩⟩
  · cases h0
  · cases h0
  · exfalso
    unfold Fk.resAppend at hk
    subst hc
    split at hk
    · split at hk
      · cases hk
      · split at hk <;> cases hk
    · split at hk <;> cases hk
  · obtain ⟨d, s, rfl⟩ := append_mem hM
    obtain ⟨N, hN, hmN⟩ := sync_one R h2
    obtain ⟨N', hN', hmN'⟩ := sync_one (Fk.without L name ++ [(name, d, s)]) (fun _ => Iff.rfl)
    have e : resAdd L t true = .inr N' := by unfold resAdd; rw [hM]; simpa using hN'
    rcases h' with ⟨h0, _⟩ | ⟨h0, _⟩ | ⟨_, ⟨k, hk, _, hc⟩ | ⟨X, hX, hc, g1, g2⟩⟩
    · cases h0
    · cases h0
    · rw [hN] at hk; cases hk
    · rw [hN] at hX
      obtain rfl := Sum.inr.inj hX
      exact .inr (.inr ⟨rfl, .inr ⟨N', e, hc, g1, fun g => (g2 g).trans ((hmN g).trans (hmN' g).symm)⟩⟩)
/-- as it was appended, not synced -/
theorem add_plain {L R : List Fk.Fl} {t : ByteArray} {s : Bool} {c : Int} (hr : Fk.right L = true) (h3 : ¬ 300 < t.size) (hs : s = false ∨ c ≠ 0) (h : Fk.Ans (Fk.opnA L name (record t)) (Fk.resAppend L name (record t)) R c) :
    Fk.Ans (oAdd L t) (resAdd L t s) R c := by
  rw [opnA_ok hr h3] at h
  rw [oAdd_ok hr h3]
  rcases h with ⟨h0, _⟩ | ⟨h0, _⟩ | ⟨_, ⟨k, hk, hR, hc⟩ | ⟨M, hM, hc, h1, h2⟩⟩
  · cases h0
  · cases h0
  · exact .inr (.inr ⟨rfl, .inl ⟨k, by unfold resAdd; rw [hk], hR, hc⟩⟩)
  · rcases hs with rfl | hs
    · exact .inr (.inr ⟨rfl, .inr ⟨M, by unfold resAdd; rw [hM]; simp, hc, h1, h2⟩⟩)
    · exact absurd hc hs
theorem add_short (L : List Fk.Fl) (t : ByteArray) (s : Bool) : oAdd L t = 0 → ∀ M, resAdd L t s = .inr M → M.length ≤ 1000 := by
  intro h0 M hM
  have hr : Fk.right L = true := by
    cases hr : Fk.right L with
    | true => rfl
    | false =>
      unfold oAdd at h0
      rw [hr] at h0
      split at h0
      · cases h0
      · simp at h0
  have h12 := (Fk.right_inv L hr).1
  have hw := Fk.without_len L name
  unfold resAdd at hM
  split at hM
  · cases hM
  · rename_i N hN
    obtain ⟨d, x, rfl⟩ := append_mem hN
    cases s with
    | false =>
      simp at hM
      rw [← hM]; simp; omega
    | true =>
      simp only [if_true] at hM
      unfold Fk.resSync at hM
      rw [get_one _ (fun _ => Iff.rfl)] at hM
      have hw2 := Fk.without_len (Fk.without L name ++ [(name, d, x)]) name
      obtain rfl := Sum.inr.inj hM
      simp at hw2 ⊢
      omega
end Jn
end Go.Proofs.YtojdfdlbdpdlkaaGreatDoor

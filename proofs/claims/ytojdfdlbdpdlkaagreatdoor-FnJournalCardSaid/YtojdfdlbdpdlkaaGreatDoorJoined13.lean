/- Plain mathematics of the journal's file: its name, and what is left without it. The walks of both PutText. Plain mathematics of the CRC: a register of 32 bits, byte by byte, the lowest bit first. No Go here. The walks of the CRC, the program's and the specification's. -/
import Derived.Test.YtojdfdlbdpdlkaaGreatDoorJoined9
import Derived.Test.YtojdfdlbdpdlkaaGreatDoorJoined4
import Derived.Test.YtojdfdlbdpdlkaaGreatDoorJoined11
import Derived.WalkKit
import Derived.Laws.BitsAllLaws
import Derived.Test.YtojdfdlbdpdlkaaGreatDoorProg
import Derived.WalkSpells
import Derived.WalkLawsBesides
namespace Go.Proofs.YtojdfdlbdpdlkaaGreatDoor
set_option linter.unusedSimpArgs false
namespace Jn
/-- "journal" -/
def name : ByteArray := ⟨#[106, 111, 117, 114, 110, 97, 108]⟩
theorem name_right : Nm.nameB name = true := by decide
theorem name_size : name.size = 7 := rfl
theorem opn_nil (L : List Fk.Fl) : Fk.opn L [] = if Fk.right L = false then 2 else 0 := by
  unfold Fk.opn; simp
theorem opn_name (L : List Fk.Fl) : Fk.opn L [name] = Fk.opn L [] := by
  rw [opn_nil]; unfold Fk.opn; simp [name_right, name_size]
theorem opn_ill {L : List Fk.Fl} (h : Fk.right L = false) : Fk.opn L [] = 2 := by rw [opn_nil, if_pos h]
theorem opn_yes {L : List Fk.Fl} (h : Fk.right L = true) : Fk.opn L [] = 0 := by rw [opn_nil, if_neg (by simp [h])]
theorem opn_two {L : List Fk.Fl} (h : Fk.opn L [] ≠ 0) : Fk.opn L [] = 2 ∧ Fk.right L = false := by
  rw [opn_nil] at h ⊢
  cases hr : Fk.right L with
  | false => simp
  | true => simp [hr] at h
theorem without_none {L : List Fk.Fl} {n : ByteArray} (h : Fk.get L n = none) : Fk.without L n = L := by
  unfold Fk.without
  rw [List.filter_eq_self]
  intro f hf
  simpa using Fk.get_none h f hf
/-- what is left when the journal is dropped -/
def resDrop (L : List Fk.Fl) : Int ⊕ List Fk.Fl := .inr (Fk.without L name)
theorem drop_short (L : List Fk.Fl) : Fk.opn L [] = 0 → ∀ M, resDrop L = .inr M → M.length ≤ 1000 := by
  intro h M hM
  have h12 := (Fk.right_inv L (Fk.opn_right L [] h)).1
  have hw := Fk.without_len L name
  simp only [resDrop, Sum.inr.injEq] at hM
  rw [← hM]; omega
theorem drop_of_remove {L R : List Fk.Fl} {c : Int} {f : Fk.Fl} (hf : Fk.get L name = some f) (h : Fk.Ans (Fk.opn L [name]) (Fk.resRemove L name) R c) : Fk.Ans (Fk.opn L []) (resDrop L) R c := by
  rw [opn_name] at h
  have e : Fk.resRemove L name = resDrop L := by simp only [Fk.resRemove, hf, resDrop]
  rwa [e] at h
theorem drop_same {L : List Fk.Fl} (hr : Fk.right L = true) (hf : Fk.get L name = none) : Fk.Ans (Fk.opn L []) (resDrop L) L 0 :=
  .inr (.inr ⟨opn_yes hr, .inr ⟨L, by simp only [resDrop, without_none hf], rfl, Fk.right_rises L hr, fun _ => Iff.rfl⟩⟩)
theorem get_at {L : List Fk.Fl} {k : Nat} (hk : k < L.length) (h : Fk.nm L k = name) (hn : ∀ j, j < k → Fk.nm L j ≠ name) : Fk.get L name = some (Fk.nm L k, Fk.dt L k, Fk.sy L k) := Fk.get_at L name k hk h hn
theorem without_not {L : List Fk.Fl} {n : ByteArray} {g : Fk.Fl} (h : g ∈ Fk.without L n) : g.1 ≠ n := by
  have := (List.mem_filter.1 h).2
  simpa using this
theorem get_one {L : List Fk.Fl} {d : ByteArray} {s : Int} (R : List Fk.Fl) (hm : ∀ g, g ∈ R ↔ g ∈ Fk.without L name ++ [(name, d, s)]) : Fk.get R name = some (name, d, s) := by
  cases h : Fk.get R name with
  | none => exact absurd rfl (Fk.get_none h (name, d, s) ((hm _).2 (by simp)))
  | some f =>
    have hf := Fk.get_some h
    rcases List.mem_append.1 ((hm f).1 hf.1) with h1 | h1
    · exact absurd hf.2 (without_not h1)
    · simpa using h1
theorem sync_one {L : List Fk.Fl} {d : ByteArray} {s : Int} (R : List Fk.Fl) (hm : ∀ g, g ∈ R ↔ g ∈ Fk.without L name ++ [(name, d, s)]) :
    ∃ M, Fk.resSync R name = .inr M ∧ ∀ g, g ∈ M ↔ g ∈ Fk.without L name ++ [(name, d, (d.size : Int))] := by
  have hg := get_one R hm
  refine ⟨_, by unfold Fk.resSync; rw [hg], fun g => ?_⟩
  simp only [List.mem_append, List.mem_singleton]
  constructor
  · rintro (h | h)
    · rcases List.mem_append.1 ((hm g).1 (Fk.without_sub g h)) with h1 | h1
      · exact .inl h1
      · have : g.1 = name := by have := List.mem_singleton.1 h1; rw [this]
        exact absurd this (without_not h)
    · exact .inr h
  · rintro (h | h)
    · left
      exact List.mem_filter.2 ⟨(hm g).2 (List.mem_append_left _ h), by simpa using without_not h⟩
    · exact .inr h
end Jn
end Go.Proofs.YtojdfdlbdpdlkaaGreatDoor

namespace Go.Proofs.YtojdfdlbdpdlkaaGreatDoor
open Go.RowKit
set_option linter.unusedVariables false

/-- a text with its length ahead of it; the empty text, where it is too long -/
def putText (s : ByteArray) : ByteArray := if s.size ≤ 8000 then Pn.putNum s.size ++ s else ByteArray.empty

set_option maxHeartbeats 1000000 in
theorem implPutText_any (s : ByteArray) (w : World) (hs : s.size ≤ maxLen) :
    Calls Tryz.prog 54 #[.string s] w fun e w' => e = .returned (.string (putText s)) ∧ Below w.heap.size w w' := by
  unfold maxLen at hs
  by_cases h : 8000 < s.size
  · have H : Hid (putText s = ByteArray.empty) := if_neg (by omega)
    go_enter Tryz.func54, Tryz.ntmps54
    go_wp2_with fail
    go_ret
    exact ⟨by rw [H.out]; rfl, Below.refl _ _⟩
  · have H : Hid (putText s = Pn.putNum s.size ++ s) := if_pos (by omega)
    go_enter Tryz.func54, Tryz.ntmps54
    go_wp2_with fail
    refine (implPut_any _ _ (by omega) (by omega)).mono ?_
    rintro e w1 ⟨rfl, hb1⟩
    go_wp2_with fail
    refine (join_two _ _ _ _ (by have := Pn.put_size s.size; omega) (by omega)).mono ?_
    rintro e w2 ⟨rfl, hb2⟩
    go_wp2_with fail
    go_ret
    exact ⟨by rw [H.out]; rfl, hb1.trans (hb2.mono hb1.size)⟩

set_option maxHeartbeats 1000000 in
theorem specPutText_any (s : ByteArray) (w : World) (hs : s.size ≤ maxLen) :
    Calls Tryz.prog 36 #[.string s] w fun e w' => e = .returned (.string (putText s)) ∧ Below w.heap.size w w' := by
  unfold maxLen at hs
  by_cases h : 8000 < s.size
  · have H : Hid (putText s = ByteArray.empty) := if_neg (by omega)
    go_enter Tryz.func36, Tryz.ntmps36
    go_wp2_with fail
    go_ret
    exact ⟨by rw [H.out]; rfl, Below.refl _ _⟩
  · have H : Hid (putText s = Pn.putNum s.size ++ s) := if_pos (by omega)
    go_enter Tryz.func36, Tryz.ntmps36
    go_wp2_with fail
    refine (specPut_any _ _ (by omega) (by omega)).mono ?_
    rintro e w1 ⟨rfl, hb1⟩
    have hp := Pn.put_size s.size
    go_wp2_with fail
    go_ret
    exact ⟨by rw [H.out]; rfl, hb1⟩
end Go.Proofs.YtojdfdlbdpdlkaaGreatDoor

namespace Go.Proofs.YtojdfdlbdpdlkaaGreatDoor
namespace Cr
/-- one bit -/
def stp (r : Nat) : Nat := if r % 2 = 1 then (r / 2) ^^^ 3988292384 else r / 2
/-- k bits -/
def stpN : Nat → Nat → Nat
  | 0, r => r
  | k + 1, r => stp (stpN k r)
/-- one byte -/
def byteStep (r b : Nat) : Nat := stpN 8 (r ^^^ b)
/-- a text's bytes -/
def run (r : Nat) (l : List UInt8) : Nat := l.foldl (fun r b => byteStep r b.toNat) r
/-- the CRC goes on from c over a text -/
def more (c : Nat) (s : ByteArray) : Nat := run (c ^^^ 4294967295) s.data.toList ^^^ 4294967295

theorem xor_lt {a b : Nat} (ha : a < 4294967296) (hb : b < 4294967296) : a ^^^ b < 4294967296 := Nat.xor_lt_two_pow (n := 32) ha hb
theorem stp_lt {r : Nat} (h : r < 4294967296) : stp r < 4294967296 := by
  unfold stp; split
  · exact xor_lt (by omega) (by omega)
  · omega
theorem stpN_lt {r : Nat} (h : r < 4294967296) : ∀ k, stpN k r < 4294967296
  | 0 => h
  | k + 1 => stp_lt (stpN_lt h k)
theorem byte_lt {r b : Nat} (h : r < 4294967296) (hb : b < 256) : byteStep r b < 4294967296 := stpN_lt (xor_lt h (by omega)) 8
theorem run_lt : ∀ (l : List UInt8) {r : Nat}, r < 4294967296 → run r l < 4294967296
  | [], _, h => h
  | b :: l, r, h => by
    have hb : b.toNat < 256 := b.toNat_lt
    exact run_lt l (byte_lt h hb)
theorem more_lt {c : Nat} (s : ByteArray) (h : c < 4294967296) : more c s < 4294967296 := xor_lt (run_lt _ (xor_lt h (by omega))) (by omega)

theorem run_take_succ (r : Nat) (s : ByteArray) (k : Nat) (h : k < s.size) : run r (s.data.toList.take (k + 1)) = byteStep (run r (s.data.toList.take k)) s[k].toNat := by
  have e : s.data.toList.take (k + 1) = s.data.toList.take k ++ [s[k]] := by
    rw [List.take_succ_eq_append_getElem (by simpa using h)]; rfl
  rw [e]; simp [run, List.foldl_append]
theorem run_take_all (r : Nat) (s : ByteArray) (k : Nat) (h : s.size ≤ k) : run r (s.data.toList.take k) = run r s.data.toList := by
  rw [List.take_of_length_le (by simpa using h)]

theorem xi (a b : Nat) (ha : a < 4294967296) (hb : b < 4294967296) : bits .xor .u32 (a : Int) (b : Int) = ((a ^^^ b : Nat) : Int) := u32_xor_nat a b ha hb
theorem xmask (a : Nat) (ha : a < 4294967296) : bits .xor .u32 (a : Int) 3988292384 = ((a ^^^ 3988292384 : Nat) : Int) := u32_xor_nat a 3988292384 ha (by omega)
theorem xmax (a : Nat) (ha : a < 4294967296) : bits .xor .u32 (a : Int) 4294967295 = ((a ^^^ 4294967295 : Nat) : Int) := u32_xor_nat a 4294967295 ha (by omega)
theorem xmax' (a : Nat) (ha : a < 4294967296) : bits .xor .u32 IntKind.u32.max (a : Int) = ((a ^^^ 4294967295 : Nat) : Int) := by
  rw [show IntKind.u32.max = ((4294967295 : Nat) : Int) from by decide, u32_xor_nat 4294967295 a (by omega) ha, Nat.xor_comm]
theorem and1 (a : Nat) (ha : a < 4294967296) : bits .and .u32 (a : Int) 1 = ((a % 2 : Nat) : Int) := by
  rw [show (1 : Int) = ((1 : Nat) : Int) from rfl, u32_and_nat a 1 ha (by omega), nat_mask1]
end Cr
end Go.Proofs.YtojdfdlbdpdlkaaGreatDoor

namespace Go.Proofs.YtojdfdlbdpdlkaaGreatDoor
open Go.RowKit
set_option linter.unusedVariables false

theorem ret_u32 {a b : Int} (h : a = b) : Ending.returned (.int .u32 a) = .returned (.int .u32 b) := by rw [h]
theorem ret_i64 {a b : Int} (h : a = b) : Ending.returned (.int .i64 a) = .returned (.int .i64 b) := by rw [h]
theorem val_u32 {a b : Int} (h : a = b) : Value.int .u32 a = .int .u32 b := by rw [h]

set_option maxHeartbeats 400000 in
theorem crcByte_any (r b : Nat) (w : World) (hr : r < 4294967296) (hb : b < 256) :
    Calls Tryz.prog 99 #[.int .u32 r, .int .u8 b] w fun e w' => e = .returned (.int .u32 (Cr.byteStep r b)) ∧ w' = w := by
  have hr' : (r : Int) ≤ 4294967295 := by omega
  have hb' : (b : Int) ≤ 255 := by omega
  go_enter Tryz.func99, Tryz.ntmps99
  go_wp2_with fail
  rw [Cr.xi r b hr (by omega)]
  go_loop [0, 10] (fun x i => ∃ k : Nat, k ≤ 8 ∧ i = .int .i64 k ∧ Hid (x = .int .u32 ((Cr.stpN k (r ^^^ b) : Nat) : Int))) (fun _ i => 8 - (intOf i).toNat)
  case atStart => exact ⟨0, by omega, rfl, rfl⟩
  case round =>
    obtain ⟨k, hk, rfl, HX⟩ := hrel
    obtain ⟨m, hm⟩ : ∃ m, m = Cr.stpN k (r ^^^ b) := ⟨_, rfl⟩
    have hx := HX.out
    rw [← hm] at hx
    subst hx
    have hml : m < 4294967296 := by rw [hm]; exact Cr.stpN_lt (Cr.xor_lt hr (by omega)) k
    have hm' : (m : Int) ≤ 4294967295 := by omega
    by_cases hlt : k < 8
    · by_cases hodd : m % 2 = 1
      · have HS : Hid (Cr.stpN (k + 1) (r ^^^ b) = (m / 2) ^^^ 3988292384) := by show Cr.stp (Cr.stpN k (r ^^^ b)) = _; rw [← hm]; simp [Cr.stp, hodd]
        have ho : ((m : Int) % 2 == 1) = true := by simp; omega
        clear hm hodd
        go_wp2
        go_round
        case rel => exact ⟨k + 1, by omega, by go_num, by show Value.int .u32 _ = _; rw [HS.out]; exact val_u32 (by rw [show (m : Int) / 2 = ((m / 2 : Nat) : Int) from by omega]; exact Cr.xmask (m / 2) (by omega))⟩
        case measure => simp [intOf]; omega
      · have HS : Hid (Cr.stpN (k + 1) (r ^^^ b) = m / 2) := by show Cr.stp (Cr.stpN k (r ^^^ b)) = _; rw [← hm]; simp [Cr.stp, hodd]
        have ho : ((m : Int) % 2 == 1) = false := by simp; omega
        clear hm hodd
        go_wp2
        go_round
        case rel => exact ⟨k + 1, by omega, by go_num, by show Value.int .u32 _ = _; rw [HS.out]; exact val_u32 (by omega)⟩
        case measure => simp [intOf]; omega
    · have HF : Hid (Cr.byteStep r b = m) := by show Cr.stpN 8 (r ^^^ b) = m; rw [hm, show k = 8 by omega]
      clear hm
      go_wp2
      go_ret
      exact ⟨by rw [HF.out]; rfl, rfl⟩

set_option maxHeartbeats 1000000 in
theorem implMore_in (c : Nat) (s : ByteArray) (w : World) (hc : c < 4294967296) (hs : s.size ≤ 8000) :
    Calls Tryz.prog 92 #[.int .i64 c, .string s] w fun e w' => e = .returned (.int .i64 (Cr.more c s)) ∧ w' = w := by
  have hc' : (c : Int) ≤ 4294967295 := by omega
  go_enter Tryz.func92, Tryz.ntmps92
  go_wp2_with fail
  rw [Cr.xmax' c hc]
  go_loop [5, 6] (fun x i => ∃ k : Nat, k ≤ s.size ∧ i = .int .i64 k ∧ Hid (x = .int .u32 ((Cr.run (c ^^^ 4294967295) (s.data.toList.take k) : Nat) : Int))) (fun _ i => s.size - (intOf i).toNat)
  case atStart => exact ⟨0, by omega, rfl, rfl⟩
  case round =>
    obtain ⟨k, hk, rfl, HX⟩ := hrel
    obtain ⟨m, hm⟩ : ∃ m, m = Cr.run (c ^^^ 4294967295) (s.data.toList.take k) := ⟨_, rfl⟩
    have hx := HX.out
    rw [← hm] at hx
    subst hx
    have hml : m < 4294967296 := by rw [hm]; exact Cr.run_lt _ (Cr.xor_lt hc (by omega))
    have hm' : (m : Int) ≤ 4294967295 := by omega
    by_cases hlt : k < s.size
    · have HS : Hid (Cr.run (c ^^^ 4294967295) (s.data.toList.take (k + 1)) = Cr.byteStep m s[k].toNat) := by show Cr.run _ _ = _; rw [Cr.run_take_succ _ _ _ hlt, ← hm]
      have HB : Hid (s[k].toNat < 256) := s[k].toNat_lt
      clear hm
      go_wp2_with (go_at_call 99; refine (crcByte_any m s[k].toNat _ hml HB.out).mono ?_; rintro e w' ⟨rfl, rfl⟩)
      go_round
      case rel => exact ⟨k + 1, by omega, by go_num, by show Value.int .u32 _ = _; rw [HS.out]⟩
      case measure => simp [intOf]; omega
    · have HF : Hid (Cr.more c s = m ^^^ 4294967295) := by show Cr.more c s = _; rw [Cr.more, hm, Cr.run_take_all _ _ _ (by omega)]
      have hxm := Cr.xmax' m hml
      have hlt2 : m ^^^ 4294967295 < 4294967296 := Cr.xor_lt hml (by omega)
      clear hm
      go_wp2
      go_ret
      exact ⟨by rw [HF.out]; rfl, rfl⟩

set_option maxHeartbeats 1000000 in
theorem implMore_out (c : Int) (s : ByteArray) (w : World) (hs0 : s.size ≤ maxLen) (h : 8000 < s.size ∨ c < 0 ∨ 4294967295 < c) :
    Calls Tryz.prog 92 #[.int .i64 c, .string s] w fun e w' => e = .returned (.int .i64 0) ∧ w' = w := by
  unfold maxLen at hs0
  by_cases h1 : 8000 < s.size <;> by_cases h2 : c < 0 <;> by_cases h3 : 4294967295 < c
  all_goals first | (exfalso; omega) | skip
  all_goals
    clear h
    go_enter Tryz.func92, Tryz.ntmps92
    go_wp2
    go_ret
    exact ⟨rfl, rfl⟩

set_option maxHeartbeats 1000000 in
theorem l01Crc_any (c : Nat) (s : ByteArray) (w : World) (hc : c < 4294967296) (hs : s.size ≤ 8000) :
    Calls Tryz.prog 65 #[.int .i64 c, .string s] w fun e w' => e = .returned (.int .i64 (Cr.more c s)) ∧ w' = w := by
  have hc' : (c : Int) ≤ 4294967295 := by omega
  go_enter Tryz.func65, Tryz.ntmps65
  go_wp2_with fail
  rw [Cr.xmax c hc]
  go_loop [5, 6] (fun x i => ∃ k : Nat, k ≤ s.size ∧ i = .int .i64 k ∧ Hid (x = .int .u32 ((Cr.run (c ^^^ 4294967295) (s.data.toList.take k) : Nat) : Int))) (fun _ i => s.size - (intOf i).toNat)
  case atStart => exact ⟨0, by omega, rfl, rfl⟩
  case round =>
    obtain ⟨k, hk, rfl, HX⟩ := hrel
    obtain ⟨m, hm⟩ : ∃ m, m = Cr.run (c ^^^ 4294967295) (s.data.toList.take k) := ⟨_, rfl⟩
    have hx := HX.out
    rw [← hm] at hx
    subst hx
    have hml : m < 4294967296 := by rw [hm]; exact Cr.run_lt _ (Cr.xor_lt hc (by omega))
    have hm' : (m : Int) ≤ 4294967295 := by omega
    by_cases hlt : k < s.size
    · have HS : Hid (Cr.run (c ^^^ 4294967295) (s.data.toList.take (k + 1)) = Cr.byteStep m s[k].toNat) := by show Cr.run _ _ = _; rw [Cr.run_take_succ _ _ _ hlt, ← hm]
      have hb : s[k].toNat < 256 := s[k].toNat_lt
      clear hm
      go_wp2_with fail
      rw [Cr.xi m s[k].toNat hml (by omega)]
      go_loop [5, 7] (fun x i => ∃ j : Nat, j ≤ 8 ∧ i = .int .i64 j ∧ Hid (x = .int .u32 ((Cr.stpN j (m ^^^ s[k].toNat) : Nat) : Int))) (fun _ i => 8 - (intOf i).toNat)
      case atStart => exact ⟨0, by omega, rfl, rfl⟩
      case round =>
        obtain ⟨j, hj, rfl, HY⟩ := hrel
        obtain ⟨q, hq⟩ : ∃ q, q = Cr.stpN j (m ^^^ s[k].toNat) := ⟨_, rfl⟩
        have hy := HY.out
        rw [← hq] at hy
        subst hy
        have hql : q < 4294967296 := by rw [hq]; exact Cr.stpN_lt (Cr.xor_lt hml (by omega)) j
        have hq' : (q : Int) ≤ 4294967295 := by omega
        by_cases hlj : j < 8
        · have ha := Cr.and1 q hql
          by_cases hodd : q % 2 = 1
          · have HT : Hid (Cr.stpN (j + 1) (m ^^^ s[k].toNat) = (q / 2) ^^^ 3988292384) := by show Cr.stp (Cr.stpN j (m ^^^ s[k].toNat)) = _; rw [← hq]; simp [Cr.stp, hodd]
            rw [hodd] at ha
            clear hq hodd
            go_wp2
            go_round
            case rel => exact ⟨j + 1, by omega, by go_num, by show Value.int .u32 _ = _; rw [HT.out]; exact val_u32 (by rw [show (q : Int) / 2 = ((q / 2 : Nat) : Int) from by omega]; exact Cr.xmask (q / 2) (by omega))⟩
            case measure => simp [intOf]; omega
          · have HT : Hid (Cr.stpN (j + 1) (m ^^^ s[k].toNat) = q / 2) := by show Cr.stp (Cr.stpN j (m ^^^ s[k].toNat)) = _; rw [← hq]; simp [Cr.stp, hodd]
            rw [show q % 2 = 0 by omega] at ha
            clear hq hodd
            go_wp2
            go_round
            case rel => exact ⟨j + 1, by omega, by go_num, by show Value.int .u32 _ = _; rw [HT.out]; exact val_u32 (by omega)⟩
            case measure => simp [intOf]; omega
        · have HE : Hid (Cr.run (c ^^^ 4294967295) (s.data.toList.take (k + 1)) = q) := by show Cr.run _ _ = q; rw [HS.out, Cr.byteStep, hq, show j = 8 by omega]
          clear hq
          go_wp2
          go_round
          case rel => exact ⟨k + 1, by omega, by go_num, by show Value.int .u32 _ = _; rw [HE.out]⟩
          case measure => simp [intOf]; omega
    · have HF : Hid (Cr.more c s = m ^^^ 4294967295) := by show Cr.more c s = _; rw [Cr.more, hm, Cr.run_take_all _ _ _ (by omega)]
      have hxm := Cr.xmax m hml
      have hlt2 : m ^^^ 4294967295 < 4294967296 := Cr.xor_lt hml (by omega)
      clear hm
      go_wp2
      go_ret
      exact ⟨by rw [HF.out]; rfl, rfl⟩

/-- what both CrcMore answer -/
def crcMore (c : Int) (s : ByteArray) : Int := if 8000 < s.size ∨ c < 0 ∨ 4294967295 < c then 0 else (Cr.more c.toNat s : Int)

theorem implMore_any (c : Int) (s : ByteArray) (w : World) (hs0 : s.size ≤ maxLen) :
    Calls Tryz.prog 92 #[.int .i64 c, .string s] w fun e w' => e = .returned (.int .i64 (crcMore c s)) ∧ w' = w := by
  by_cases h : 8000 < s.size ∨ c < 0 ∨ 4294967295 < c
  · rw [crcMore, if_pos h]; exact implMore_out c s w hs0 h
  · obtain ⟨n, rfl⟩ := Int.eq_ofNat_of_zero_le (a := c) (by omega)
    rw [crcMore, if_neg h]
    exact implMore_in n s w (by omega) (by omega)

set_option maxHeartbeats 400000 in
theorem implCrc_any (s : ByteArray) (w : World) (hs0 : s.size ≤ maxLen) :
    Calls Tryz.prog 83 #[.string s] w fun e w' => e = .returned (.int .i64 (crcMore 0 s)) ∧ w' = w := by
  go_enter Tryz.func83, Tryz.ntmps83
  go_wp2_with fail
  refine (implMore_any 0 s _ hs0).mono ?_
  rintro e w' ⟨rfl, rfl⟩
  go_wp2_with fail
  go_ret
  exact ⟨rfl, rfl⟩

end Go.Proofs.YtojdfdlbdpdlkaaGreatDoor

/- The walk of the specification's spoilt text: a byte more, a byte less, or another one. The walk of the specification's digits of a number that is not below nought. The walk of the program's FsRename. The walk of the program's FsRemove. The walk of the specification's FsRemove. -/
import Derived.Test.YtojdfdlbdpdlkaaGreatDoorJoined4
import Derived.Test.YtojdfdlbdpdlkaaGreatDoorFsKit
import Derived.Test.YtojdfdlbdpdlkaaGreatDoorJoined10
import Derived.Test.YtojdfdlbdpdlkaaGreatDoorJoined15
namespace Go.Proofs.YtojdfdlbdpdlkaaGreatDoor
open Go.RowKit
set_option linter.unusedVariables false
set_option linter.unusedSimpArgs false

set_option maxRecDepth 20000 in
set_option maxHeartbeats 4000000 in
theorem spoil_any (B S : Nat) (t : ByteArray) (w : World) (hs : Dk.Src B w S) (ht : t.size ≤ 100000) :
    Calls Tryz.prog 49 #[.pointer (some ⟨S, 0, none⟩), .string t] w fun e w' => (∃ r : ByteArray, e = .returned (.string r) ∧ r.size ≤ t.size + 1) ∧ Dk.Src B w' S ∧ w.grownBy w' (some S) := by
  go_enter Tryz.func49, Tryz.ntmps49
  go_wp2_with fail
  refine (drawN_any B S ((t.size : Int) + 1) w hs (by omega)).mono ?_
  rintro e w1 ⟨⟨k, rfl, hk0, hk1, hk2⟩, s1, g1⟩
  have hkt : k ≤ t.size := by
    by_cases hh : 1 < ((t.size : Int) + 1)
    · have := hk1 hh; omega
    · have := hk2 (by omega); omega
  have S1 := Fk.hide s1
  have G1 := Fk.hide g1
  clear s1 g1 hk1 hk2 hs
  go_wp2_with fail
  refine (drawN_any B S 17 _ S1.out (by omega)).mono ?_
  rintro e w2 ⟨⟨q, rfl, hq0, hq1, _⟩, s2, g2⟩
  have hq := hq1 (by omega)
  have S2 := Fk.hide s2
  have G2 := Fk.hide (Fk.grownBy_trans G1.out g2)
  clear s2 g2 hq1 S1 G1
  obtain ⟨cf, hcf, hsz⟩ : ∃ cf : Int → ByteArray, (∀ x : Int, (convert 22 9 (.slice (some ⟨w2.heap.size, 0, none⟩) 1 1)).run Tryz.prog (w2.alloc (.cells #[.int .u8 x] 5)) = .ok (.string (cf x)) (w2.alloc (.cells #[.int .u8 x] 5))) ∧ ∀ x, (cf x).size = 1 := by
    refine ⟨fun x => strOfNums [x], fun x => ?_, fun x => by simp [strOfNums_size]⟩
    have := row8_text (P := Tryz.prog) (row8_new w2 5 [x]) 22 9 5 Tryz.underlying22 Tryz.underlying5 Tryz.underlying9 1 1 (by simp)
    simpa using this
  have HSZ := Fk.hide hsz
  have HB3 : Hid (∀ o, w.grownBy (w2.alloc o) (some S)) := fun o => Fk.grownBy_trans G2.out (World.grownBy_alloc _ _ _)
  have HS3 : Hid (∀ o, Dk.Src B (w2.alloc o) S) := fun o => S2.out.below ((Below.refl _ _).alloc (Nat.le_refl _) _)
  clear hsz S2 G2
  obtain ⟨m, rfl⟩ : ∃ m : Nat, k = (m : Int) := ⟨k.toNat, by omega⟩
  have hml : m ≤ t.size := by omega
  obtain ⟨a, ha⟩ : ∃ a, a = t.extract 0 m := ⟨_, rfl⟩
  obtain ⟨b, hb⟩ : ∃ b, b = t.extract m t.size := ⟨_, rfl⟩
  have ha1 : a.size = m := by rw [ha, ByteArray.size_extract]; omega
  have hb1 : b.size = t.size - m := by rw [hb, ByteArray.size_extract]; omega
  have slA : ∀ W, (Instr.slice 9 (.string t) none (some (.int .i64 (m : Int))) none).run Tryz.prog W = .ok (.string a) W := fun W => by
    rw [run_slice_string_h _ _ _ Tryz.underlying9 _ _ (by omega) (by omega), ha]; rfl
  have slB : ∀ W, (Instr.slice 9 (.string t) (some (.int .i64 (m : Int))) none none).run Tryz.prog W = .ok (.string b) W := fun W => by
    rw [run_slice_string_l _ _ _ Tryz.underlying9 _ _ (by omega) (by omega), hb]; rfl
  have HA := Fk.hide ha1
  have HB := Fk.hide hb1
  have HM := Fk.hide hml
  have HT := Fk.hide ht
  have n0 : ¬ 9223372036854775807 < a.size + b.size := by omega
  clear ha hb ha1 hb1 ht hkt hk0
  by_cases hk : m = t.size
  · clear hml
    go_wp2_with fail
    generalize hd : cf _ = d
    have hd1 : d.size = 1 := by rw [← hd]; exact HSZ.out _
    have HD := Fk.hide hd1
    have n1 : ¬ 9223372036854775807 < a.size + d.size := by have := HA.out; have := HB.out; have := HT.out; omega
    have n2 : ¬ 9223372036854775807 < a.size + d.size + b.size := by have := HA.out; have := HB.out; have := HT.out; omega
    have n3 : ¬ 9223372036854775807 < t.size + d.size := by have := HT.out; omega
    have n4 : ¬ 9223372036854775807 < t.size + d.size + b.size := by have := HA.out; have := HB.out; have := HT.out; have := HM.out; omega
    clear hd hd1
    go_region
    go_wp2_with fail
    go_ret
    exact ⟨⟨_, rfl, by rw [ByteArray.size_append, HD.out]; exact Nat.le_refl _⟩, (HS3.out _).below (Below.drew (Below.refl _ _)), Fk.grownBy_trans (HB3.out _) (Fk.grownBy_below (some S) (Below.drew (Below.refl _ _)))⟩
  · have hkl : m < t.size := by omega
    obtain ⟨z, hz⟩ : ∃ z, z = t.extract (m + 1) t.size := ⟨_, rfl⟩
    have hz1 : z.size = t.size - m - 1 := by rw [hz, ByteArray.size_extract]; omega
    have slC : ∀ W, (Instr.slice 9 (.string t) (some (.int .i64 ((m : Int) + 1))) none none).run Tryz.prog W = .ok (.string z) W := fun W => by
      rw [run_slice_string_l _ _ _ Tryz.underlying9 _ _ (by omega) (by omega), hz]; rfl
    have w1' : IntKind.i64.wrap ((m : Int) + 1) = (m : Int) + 1 := by have := HT.out; rw [IntKind.wrap_i64]; omega
    have w2' : wrap64 ((m : Int) + 1) = (m : Int) + 1 := by have := HT.out; unfold wrap64; omega
    have HZ := Fk.hide hz1
    have HK := Fk.hide hkl
    clear hz hz1 hml
    go_wp2_with fail
    refine (drawOne_any B S 3 _ (HS3.out _) (by omega)).mono ?_
    rintro e w3 ⟨⟨r, rfl⟩, s3, g3⟩
    have S3 := Fk.hide s3
    have G3 := Fk.hide (Fk.grownBy_trans (HB3.out _) g3)
    clear s3 g3
    generalize hd : cf _ = d
    have hd1 : d.size = 1 := by rw [← hd]; exact HSZ.out _
    have HD := Fk.hide hd1
    have n1 : ¬ 9223372036854775807 < a.size + d.size := by have := HA.out; have := HB.out; have := HT.out; omega
    have n2 : ¬ 9223372036854775807 < a.size + d.size + b.size := by have := HA.out; have := HB.out; have := HT.out; omega
    have n3 : ¬ 9223372036854775807 < a.size + d.size + z.size := by have := HA.out; have := HZ.out; have := HT.out; omega
    have n4 : ¬ 9223372036854775807 < a.size + z.size := by have := HA.out; have := HZ.out; have := HT.out; omega
    clear hd hd1
    have hk' : ¬ ((m : Int) = (t.size : Int)) := by omega
    cases r
    · go_wp2_with fail
      refine (drawOne_any B S 2 _ S3.out (by omega)).mono ?_
      rintro e w4 ⟨⟨r, rfl⟩, s4, g4⟩
      have S4 := Fk.hide s4
      have G4 := Fk.hide (Fk.grownBy_trans G3.out g4)
      clear s4 g4
      cases r
      · go_wp2_with fail
        go_region
        go_wp2_with fail
        go_ret
        exact ⟨⟨_, rfl, by rw [ByteArray.size_append, ByteArray.size_append, HD.out, HA.out, HZ.out]; have := HK.out; omega⟩, S4.out.below (Below.drew (Below.refl _ _)), Fk.grownBy_trans G4.out (Fk.grownBy_below (some S) (Below.drew (Below.refl _ _)))⟩
      · go_wp2_with fail
        go_region
        go_wp2_with fail
        go_ret
        exact ⟨⟨_, rfl, by rw [ByteArray.size_append, HA.out, HZ.out]; have := HK.out; omega⟩, S4.out.below (Below.drew (Below.refl _ _)), Fk.grownBy_trans G4.out (Fk.grownBy_below (some S) (Below.drew (Below.refl _ _)))⟩
    · go_wp2_with fail
      go_region
      go_wp2_with fail
      go_ret
      exact ⟨⟨_, rfl, by rw [ByteArray.size_append, ByteArray.size_append, HD.out, HA.out, HB.out]; have := HK.out; omega⟩, S3.out.below (Below.drew (Below.refl _ _)), Fk.grownBy_trans G3.out (Fk.grownBy_below (some S) (Below.drew (Below.refl _ _)))⟩
end Go.Proofs.YtojdfdlbdpdlkaaGreatDoor

namespace Go.Proofs.YtojdfdlbdpdlkaaGreatDoor
open Go.RowKit
set_option linter.unusedVariables false
set_option linter.unusedSimpArgs false
namespace Dk
/-- the digits of a number above nought, as bytes -/
def dec10 (n : Nat) : List Int := if h : n = 0 then [] else dec10 (n / 10) ++ [48 + ((n % 10 : Nat) : Int)]
termination_by n
decreasing_by omega
theorem dec10_zero : dec10 0 = [] := by rw [dec10]; simp
theorem dec10_pos {n : Nat} (h : n ≠ 0) : dec10 n = dec10 (n / 10) ++ [48 + ((n % 10 : Nat) : Int)] := by rw [dec10]; simp [h]
theorem dec10_len : ∀ (k n : Nat), n < 10 ^ k → (dec10 n).length ≤ k
  | 0, n, h => by
    obtain rfl : n = 0 := by simpa using h
    simp [dec10_zero]
  | k + 1, n, h => by
    by_cases hn : n = 0
    · subst hn; simp [dec10_zero]
    · rw [dec10_pos hn, List.length_append]
      have := dec10_len k (n / 10) (by rw [Nat.pow_succ] at h; omega)
      simp only [List.length_cons, List.length_nil]
      omega
/-- a number's text -/
def decS (n : Nat) : ByteArray := if n = 0 then ⟨#[48]⟩ else strOfNums (dec10 n)
theorem decS_len {k n : Nat} (hk : 1 ≤ k) (h : n < 10 ^ k) : (decS n).size ≤ k := by
  unfold decS
  split
  · exact hk
  · have := dec10_len k n h
    show (strOfNums _).data.size ≤ k
    simpa [strOfNums] using this
end Dk

theorem conv_one (W : World) (x : Int) : (convert 22 9 (.slice (some ⟨W.heap.size, 0, none⟩) 1 1)).run Tryz.prog (W.alloc (.cells #[.int .u8 x] 5)) = .ok (.string (strOfNums [x])) (W.alloc (.cells #[.int .u8 x] 5)) :=
  run_convert_bytes_arg _ 22 5 Tryz.underlying22 Tryz.underlying5 _ 0 1 1 [x] rfl (fun i hi => by
    obtain rfl : i = 0 := by omega
    rw [Fk.cellTop _ _ _ _ _ rfl]; rfl) 9 Tryz.underlying9

set_option maxHeartbeats 2000000 in
theorem l01Dec_any (n : Nat) (w : World) (hn : n < 1000000000000000000) :
    Calls Tryz.prog 74 #[.int .i64 n] w fun e w' => e = .returned (.string (Dk.decS n)) ∧ Below w.heap.size w w' := by
  by_cases h0 : n = 0
  · subst h0
    go_enter Tryz.func74, Tryz.ntmps74
    go_wp2_with fail
    go_ret
    exact ⟨rfl, Below.refl _ _⟩
  · have z0 : ((n : Int) == 0) = false := by simpa using h0
    have z1 : ¬ (n : Int) < 0 := by omega
    have HB0 := Fk.hide (Below.refl w.heap.size w)
    have HD : Hid (Dk.decS n = strOfNums (Dk.dec10 n)) := by show _ = _; simp [Dk.decS, h0]
    go_enter Tryz.func74, Tryz.ntmps74
    go_wp2_with fail
    clear z0
    go_loopw [0, 4] (fun i o wr => ∃ (v : Nat) (xs : List Int), i = .int .i64 v ∧ o = .string (strOfNums xs) ∧ v < 1000000000000000000 ∧ Hid (Dk.dec10 n = Dk.dec10 v ++ xs) ∧ Hid (Below w.heap.size w wr ∧ w.heap.size ≤ wr.heap.size)) (fun i _ _ => (intOf i).toNat)
    case atStart => exact ⟨n, [], rfl, rfl, hn, by show _ = _; simp, HB0.out, Nat.le_refl _⟩
    case round =>
      obtain ⟨v, xs, rfl, rfl, hv, HX, HB⟩ := hrel
      by_cases hv0 : v = 0
      · subst hv0
        have HE : Hid (Dk.dec10 n = xs) := by show _ = _; rw [HX.out, Dk.dec10_zero]; rfl
        go_wp2_with fail
        go_ret
        exact ⟨by rw [HD.out, HE.out]; rfl, HB.out.1⟩
      · have y0 : ((v : Int) == 0) = false := by simpa using hv0
        have y1 : ¬ (v : Int) % 10 < 0 := by omega
        have y2 : (v : Int) % 10 < 10 := by omega
        have hc := fun x => conv_one wr x
        have hx : (strOfNums xs).size ≤ 18 := by
          have h1 := Dk.dec10_len 18 n (by simpa using hn)
          rw [HX.out, List.length_append] at h1
          show (strOfNums _).data.size ≤ 18
          simp [strOfNums]
          omega
        have hx1 : ∀ x, (strOfNums [x]).size = 1 := fun _ => rfl
        have HJ : Hid (strOfNums [48 + (v : Int) % 10] ++ strOfNums xs = strOfNums ((48 + ((v % 10 : Nat) : Int)) :: xs)) := by show _ = _; rw [← str_append]; simp
        have HN : Hid (Dk.dec10 n = Dk.dec10 (v / 10) ++ ((48 + ((v % 10 : Nat) : Int)) :: xs)) := by show _ = _; rw [HX.out, Dk.dec10_pos hv0]; simp
        have HC : Hid (∀ o, Below w.heap.size w (wr.alloc o)) := fun o => HB.out.1.alloc HB.out.2 o
        go_wp2_with fail
        go_roundw
        case rel => exact ⟨v / 10, (48 + ((v % 10 : Nat) : Int)) :: xs, by go_num, by rw [HJ.out], by omega, HN.out, HC.out _, by have := HB.out.2; simp; omega⟩
        case measure => simp [intOf]; omega

theorem l01Dec_int (n : Int) (w : World) (h0 : 0 ≤ n) (h1 : n < 1000000000000000000) :
    Calls Tryz.prog 74 #[.int .i64 n] w fun e w' => e = .returned (.string (Dk.decS n.toNat)) ∧ Below w.heap.size w w' := by
  obtain ⟨m, rfl⟩ := Int.eq_ofNat_of_zero_le h0
  exact l01Dec_any m w (by omega)
end Go.Proofs.YtojdfdlbdpdlkaaGreatDoor

namespace Go.Proofs.YtojdfdlbdpdlkaaGreatDoor
open Go.RowKit Go.Maps
set_option linter.unusedVariables false

end Go.Proofs.YtojdfdlbdpdlkaaGreatDoor

namespace Go.Proofs.YtojdfdlbdpdlkaaGreatDoor
open Go.RowKit Go.Maps
set_option linter.unusedVariables false

end Go.Proofs.YtojdfdlbdpdlkaaGreatDoor

namespace Go.Proofs.YtojdfdlbdpdlkaaGreatDoor
open Go.RowKit Go.Maps
set_option linter.unusedVariables false

namespace Fk
theorem out_rises {L : List Fl} (h : Rises L) {k : Nat} (hk : k < L.length) {n : ByteArray} (hnk : nm L k = n) : Rises (L.take k ++ L.drop (k + 1)) ∧ ∀ g, g ∈ L.take k ++ L.drop (k + 1) ↔ g ∈ without L n := by
  rw [← List.eraseIdx_eq_take_drop_succ]
  have hk1 : L[k].1 = n := by rw [← hnk]; simp [nm, List.getD, List.getElem?_eq_getElem hk]
  have hlt := List.pairwise_iff_getElem.1 h
  refine ⟨h.sublist (List.eraseIdx_sublist ..), fun g => ?_⟩
  rw [List.mem_eraseIdx_iff_getElem]
  constructor
  · rintro ⟨i, hi, hki, rfl⟩
    refine List.mem_filter.2 ⟨List.getElem_mem _, ?_⟩
    simp only [Bool.not_eq_true', decide_eq_false_iff_not]
    intro e'
    rcases Nat.lt_or_gt_of_ne hki with hc | hc
    · exact less_ne (hlt i k (by omega) hk hc) (e'.trans hk1.symm)
    · exact less_ne (hlt k i hk (by omega) hc) (hk1.trans e'.symm)
  · intro hg
    obtain ⟨hm, hne⟩ := List.mem_filter.1 hg
    obtain ⟨i, hi, e⟩ := List.getElem_of_mem hm
    have hki : i ≠ k := by
      intro e'
      subst e'
      rw [← e, hk1] at hne
      simp at hne
    exact ⟨i, hi, hki, e⟩
theorem remove_short (L : List Fl) (name : ByteArray) : opn L [name] = 0 → ∀ M, resRemove L name = .inr M → M.length ≤ 1000 := by
  intro h0 M hM
  have h12 := (right_inv L (opn_right L _ h0)).1
  have hw : (without L name).length ≤ L.length := List.length_filter_le _ _
  unfold resRemove at hM
  split at hM
  · cases hM
  · obtain rfl := Sum.inr.inj hM
    omega
end Fk

set_option maxHeartbeats 2000000 in
theorem fsRemove_spec (v : Value) (L : List Fk.Fl) (name : ByteArray) (w : World) (base : Nat) (ho : Fk.Own w base 75 v L) (hL : Fk.Fits L) (hl : L.length ≤ maxLen) (hn : name.size ≤ maxLen) :
    Calls Tryz.prog 45 #[.agg #[v], .string name] w fun e w' => (∃ u R c, e = .returned (.agg #[u, .int .i64 c]) ∧ Fk.Own w' w.heap.size 75 u R ∧ Fk.Ans (Fk.opn L [name]) (Fk.resRemove L name) R c) ∧ Below w.heap.size w w' := by
  obtain ⟨W, hW⟩ : ∃ W, W = (w.alloc (.cells #[v] 25)).alloc (.cells #[.slice none 0 0, .int .i64 0] 29) := ⟨_, rfl⟩
  have b0 : Below w.heap.size w W := by
    rw [hW]
    repeat (first | exact Below.refl _ _ | refine Below.alloc ?_ (by simp <;> omega) _)
  have hsz : W.heap.size = w.heap.size + 2 := by rw [hW]; simp
  have hcell : W.cell? ⟨w.heap.size, 0, none⟩ = some v := by rw [hW, Fk.cellOld _ _ _ _ (by simp), Fk.cellTop _ _ _ _ _ rfl]; rfl
  have q0 : W.cell? ⟨w.heap.size + 1, 0, none⟩ = some (.slice none 0 0) := by rw [hW, Fk.cellTop _ _ _ _ _ (by simp)]; rfl
  have q1 : W.cell? ⟨w.heap.size + 1, 1, none⟩ = some (.int .i64 0) := by rw [hW, Fk.cellTop _ _ _ _ _ (by simp)]; rfl
  have f0 : ∀ j, W.frozen? ⟨w.heap.size + 1, j, none⟩ = false := fun j => by rw [hW, Fk.frozTop _ _ _ _ _ (by simp)]
  have hv' := ho.view.below b0
  have HO0 := Fk.hide (ho.below b0)
  have HW := Fk.hide hW
  clear hW ho
  have hvW := hv'
  obtain ⟨a, cap, rfl, hs⟩ := hv'
  clear hs
  go_enter Tryz.func45, Tryz.ntmps45
  go_wp2_with fail
  rw [← HW.out]
  refine (l02Begin_any _ L name _ hvW hL hl hn).mono ?_
  rintro e w1 ⟨h1, b1⟩
  have B1 := Fk.hide (b0.trans (b1.mono b0.size))
  have hcell1 : w1.cell? ⟨w.heap.size, 0, none⟩ = some (.slice a L.length cap) := (b1.cell (by show w.heap.size < _; omega)).trans hcell
  have p0 : w1.cell? ⟨w.heap.size + 1, 0, none⟩ = some (.slice none 0 0) := (b1.cell (by show w.heap.size + 1 < _; omega)).trans q0
  have p1 : w1.cell? ⟨w.heap.size + 1, 1, none⟩ = some (.int .i64 0) := (b1.cell (by show w.heap.size + 1 < _; omega)).trans q1
  have pf : ∀ j, w1.frozen? ⟨w.heap.size + 1, j, none⟩ = false := fun j => (b1.frozen (by show w.heap.size + 1 < _; omega)).trans (f0 j)
  have HO1 := Fk.hide (HO0.out.below b1)
  have hsz1 : w.heap.size + 2 ≤ w1.heap.size := by have := b1.size; omega
  clear b1 hcell q0 q1 f0 hvW
  have FIN : Hid (∀ (w5 : World) (u : Value) (R : List Fk.Fl) (c : Int), Below w.heap.size w w5 → Fk.Own w5 (w.heap.size + 2) 75 u R → Fk.Own ((w5.setCell ⟨w.heap.size + 1, 0, none⟩ u).setCell ⟨w.heap.size + 1, 1, none⟩ (.int .i64 c)) w.heap.size 75 u R ∧ Below w.heap.size w ((w5.setCell ⟨w.heap.size + 1, 0, none⟩ u).setCell ⟨w.heap.size + 1, 1, none⟩ (.int .i64 c))) :=
    fun w5 u R c hb ho => ⟨Fk.Own.mono (ownsRow_setCell_below (ownsRow_setCell_below ho (by show w.heap.size + 1 < _; omega) _) (by show w.heap.size + 1 < _; omega) _) (by omega), (hb.setCell (by simp) _).setCell (by simp) _⟩
  rcases h1 with ⟨h, rfl⟩ | ⟨h, rfl⟩ | ⟨h, hg, rfl⟩ | ⟨h, k, hk, hk1, hg, rfl⟩
  · have HA : Hid (Fk.Ans (Fk.opn L [name]) (Fk.resRemove L name) [] 2) := .inl ⟨h, rfl, rfl⟩
    clear h
    go_wp2_with fail
    refine (l02Ill_any 2 _).mono ?_
    rintro e w3 ⟨rfl, b3⟩
    have t0 : w3.cell? ⟨w.heap.size + 1, 0, none⟩ = some (.slice none 0 0) := (b3.cell (by show w.heap.size + 1 < _; omega)).trans p0
    have t1 : w3.cell? ⟨w.heap.size + 1, 1, none⟩ = some (.int .i64 0) := (b3.cell (by show w.heap.size + 1 < _; omega)).trans p1
    have tf : ∀ j, w3.frozen? ⟨w.heap.size + 1, j, none⟩ = false := fun j => (b3.frozen (by show w.heap.size + 1 < _; omega)).trans (pf j)
    have E3 := Fk.hide (FIN.out w3 (.slice none 0 0) [] 2 (B1.out.trans (b3.mono B1.out.size)) (Fk.own_nil _ _ _))
    clear b3 p0 p1 pf
    go_wp2_with fail
    exact bodyPost_ret (v := .agg #[.slice none 0 0, .int .i64 2]) (by simp [results, Tryz.results45, go_sem, t0, t1] <;> rfl) rfl ⟨⟨_, _, _, rfl, E3.out.1, HA.out⟩, E3.out.2⟩
  · have HA : Hid (Fk.Ans (Fk.opn L [name]) (Fk.resRemove L name) [] 1) := .inr (.inl ⟨h, rfl, rfl⟩)
    clear h
    go_wp2_with fail
    refine (l02Ill_any 1 _).mono ?_
    rintro e w3 ⟨rfl, b3⟩
    have t0 : w3.cell? ⟨w.heap.size + 1, 0, none⟩ = some (.slice none 0 0) := (b3.cell (by show w.heap.size + 1 < _; omega)).trans p0
    have t1 : w3.cell? ⟨w.heap.size + 1, 1, none⟩ = some (.int .i64 0) := (b3.cell (by show w.heap.size + 1 < _; omega)).trans p1
    have tf : ∀ j, w3.frozen? ⟨w.heap.size + 1, j, none⟩ = false := fun j => (b3.frozen (by show w.heap.size + 1 < _; omega)).trans (pf j)
    have E3 := Fk.hide (FIN.out w3 (.slice none 0 0) [] 1 (B1.out.trans (b3.mono B1.out.size)) (Fk.own_nil _ _ _))
    clear b3 p0 p1 pf
    go_wp2_with fail
    exact bodyPost_ret (v := .agg #[.slice none 0 0, .int .i64 1]) (by simp [results, Tryz.results45, go_sem, t0, t1] <;> rfl) rfl ⟨⟨_, _, _, rfl, E3.out.1, HA.out⟩, E3.out.2⟩
  · have HA : Hid (Fk.Ans (Fk.opn L [name]) (Fk.resRemove L name) [] 6) := .inr (.inr ⟨h, .inl ⟨6, by simp [Fk.resRemove, hg], rfl, rfl⟩⟩)
    clear h hg
    go_wp2_with fail
    refine (l02Ill_any 6 _).mono ?_
    rintro e w3 ⟨rfl, b3⟩
    have t0 : w3.cell? ⟨w.heap.size + 1, 0, none⟩ = some (.slice none 0 0) := (b3.cell (by show w.heap.size + 1 < _; omega)).trans p0
    have t1 : w3.cell? ⟨w.heap.size + 1, 1, none⟩ = some (.int .i64 0) := (b3.cell (by show w.heap.size + 1 < _; omega)).trans p1
    have tf : ∀ j, w3.frozen? ⟨w.heap.size + 1, j, none⟩ = false := fun j => (b3.frozen (by show w.heap.size + 1 < _; omega)).trans (pf j)
    have E3 := Fk.hide (FIN.out w3 (.slice none 0 0) [] 6 (B1.out.trans (b3.mono B1.out.size)) (Fk.own_nil _ _ _))
    clear b3 p0 p1 pf
    go_wp2_with fail
    exact bodyPost_ret (v := .agg #[.slice none 0 0, .int .i64 6]) (by simp [results, Tryz.results45, go_sem, t0, t1] <;> rfl) rfl ⟨⟨_, _, _, rfl, E3.out.1, HA.out⟩, E3.out.2⟩
  · have hR := Fk.opn_right L [name] h
    have h12 := (Fk.right_inv L hR).1
    have HA : Hid (Fk.Ans (Fk.opn L [name]) (Fk.resRemove L name) (L.take k ++ L.drop (k + 1)) 0) := by
      have hsr := Fk.out_rises (Fk.right_rises L hR) hk hk1
      exact .inr (.inr ⟨h, .inr ⟨_, by simp only [Fk.resRemove, hg], rfl, hsr.1, hsr.2⟩⟩)
    clear h hg hk1
    go_wp2_with fail
    refine (l02Out_any _ L k base _ HO1.out hk (by omega)).mono ?_
    rintro e w3 ⟨⟨u, rfl, ho⟩, b3⟩
    have HO3 := Fk.hide ho
    obtain ⟨ua, uc, rfl⟩ := ho.slice
    have t0 : w3.cell? ⟨w.heap.size + 1, 0, none⟩ = some (.slice none 0 0) := (b3.cell (by show w.heap.size + 1 < _; omega)).trans p0
    have t1 : w3.cell? ⟨w.heap.size + 1, 1, none⟩ = some (.int .i64 0) := (b3.cell (by show w.heap.size + 1 < _; omega)).trans p1
    have tf : ∀ j, w3.frozen? ⟨w.heap.size + 1, j, none⟩ = false := fun j => (b3.frozen (by show w.heap.size + 1 < _; omega)).trans (pf j)
    have E3 := Fk.hide (FIN.out w3 _ _ 0 (B1.out.trans (b3.mono B1.out.size)) (HO3.out.mono (by omega)))
    clear b3 p0 p1 pf ho
    obtain ⟨rl, hrl⟩ : ∃ rl, rl = (L.take k ++ L.drop (k + 1)).length := ⟨_, rfl⟩
    rw [← hrl] at E3
    rw [← hrl]
    clear hrl HO3
    go_wp2_with fail
    exact bodyPost_ret (v := .agg #[.slice ua rl uc, .int .i64 0]) (by simp [results, Tryz.results45, go_sem, t0, t1] <;> rfl) rfl ⟨⟨_, _, _, rfl, E3.out.1, HA.out⟩, E3.out.2⟩
end Go.Proofs.YtojdfdlbdpdlkaaGreatDoor

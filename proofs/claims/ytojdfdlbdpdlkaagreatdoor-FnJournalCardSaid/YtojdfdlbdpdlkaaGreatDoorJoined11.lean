/- The walk of joinTexts: texts put together with copy. The walk of what the program does to a map of files: append. -/
import Derived.Test.YtojdfdlbdpdlkaaGreatDoorProg
import Derived.Test.YtojdfdlbdpdlkaaGreatDoorJoined3
import Derived.Test.YtojdfdlbdpdlkaaGreatDoorJoined1
import Derived.WalkSpells
import Derived.WalkLawsBesides
import Derived.Test.YtojdfdlbdpdlkaaGreatDoorJoined10
namespace Go.Proofs.YtojdfdlbdpdlkaaGreatDoor
open Go.RowKit
set_option linter.unusedVariables false
set_option linter.unusedSimpArgs false

set_option maxHeartbeats 2000000 in
theorem join_list (v : Value) (T : List ByteArray) (w : World) (hv : Sk.View w v T) (hl : T.length ≤ 1048576) (hn : Sk.tot T T.length ≤ 1073741824) :
    Calls Tryz.prog 80 #[v] w fun e w' => e = .returned (.string (Sk.cat T T.length)) ∧ Below w.heap.size w w' := by
  obtain ⟨a, cap, rfl, hs⟩ := hv
  obtain ⟨i0, hi, hz0, hz1, hz2⟩ := info_parts Tryz.infoU8
  go_enter Tryz.func80, Tryz.ntmps80
  go_wp2_with fail
  go_loopw [3, 12] (fun s i wr => ∃ (k : Nat) (x : Int), k ≤ T.length ∧ s = .int .i64 x ∧ i = .int .i64 k ∧ 0 ≤ x ∧ x ≤ 1073741824 ∧ Hid (x = (Sk.tot T k : Int)) ∧ w = wr) (fun _ i _ => T.length - (intOf i).toNat)
  case atStart => exact ⟨0, 0, Nat.zero_le _, rfl, rfl, by decide, by decide, rfl, rfl⟩
  case round =>
    obtain ⟨k, x, hk, rfl, rfl, hx0, hx1, HX, rfl⟩ := hrel
    by_cases hlt : k < T.length
    · obtain ⟨b, rfl, hb, hs1⟩ := hs (by omega)
      have q0 := hs1 k hlt
      have hm := Sk.tot_more T k hlt
      obtain ⟨t, ht⟩ : ∃ t, t = Sk.at_ T k := ⟨_, rfl⟩
      rw [← ht] at q0 hm
      have HT := Fk.hide ht
      have hxt : x + (t.size : Int) ≤ 1073741824 := by have := HX.out; omega
      clear ht hs hs1
      go_wp2_with fail
      go_roundw
      case rel =>
        refine ⟨k + 1, x + (t.size : Int), by omega, by go_num, by go_num, by omega, hxt, ?_, by first | rfl | trivial⟩
        show _ = _
        rw [Sk.tot, ← HT.out, HX.out]
        omega
      case measure => simp [intOf]; omega
    · have e : k = T.length := by omega
      subst e
      obtain ⟨n, hnn⟩ : ∃ n : Nat, n = Sk.tot T T.length := ⟨_, rfl⟩
      have hxn : x = (n : Int) := by rw [HX.out, hnn]
      subst hxn
      rw [← hnn] at hn
      have HN := Fk.hide hnn
      clear hnn HX
      go_wp2_with (at_make; refine wpList_make8 _ rfl _ _ 22 rfl 5 i0 Tryz.underlying22 hi hz0 hz1 hz2 n rfl rfl ?c1 ?_)
      case c1 => omega
      intro w1 hr1 hb1 hs1
      have HB1 := Fk.hide hb1
      have HR1 := Fk.hide hr1
      clear hb1 hr1
      go_wp2_with fail
      go_loopw [7, 25] (fun s i wr => ∃ k m : Nat, k ≤ T.length ∧ s = .int .i64 (m : Int) ∧ i = .int .i64 k ∧ m ≤ n ∧ Hid (m = Sk.tot T k) ∧ Hid (Row8 wr w.heap.size (nums (Sk.cat T k) ++ List.replicate (n - m) 0)) ∧ Hid (Below w.heap.size w wr)) (fun _ i _ => T.length - (intOf i).toNat)
      case atStart => exact ⟨0, 0, Nat.zero_le _, rfl, rfl, Nat.zero_le _, rfl, (by show Row8 _ _ _; have := HR1.out; simpa [Sk.cat, nums] using this), HB1.out⟩
      case round =>
        obtain ⟨k, m, hk, rfl, rfl, hm, HM, HR, HB⟩ := hrel
        by_cases hlt : k < T.length
        · obtain ⟨b, rfl, hb, hs2⟩ := hs (by omega)
          have q0 : wr.cell? ⟨b, k, none⟩ = some (.string (Sk.at_ T k)) := (HB.out.cell (by exact hb)).trans (hs2 k hlt)
          have hmt : m + (Sk.at_ T k).size ≤ n := by have := Sk.tot_more T k hlt; have := HM.out; have := HN.out; omega
          obtain ⟨t, ht⟩ : ∃ t, t = Sk.at_ T k := ⟨_, rfl⟩
          rw [← ht] at q0 hmt
          have HT := Fk.hide ht
          clear ht hs hs2
          have hcl : (nums (Sk.cat T k) ++ List.replicate (n - m) (0 : Int)).length = n := by
            rw [List.length_append, nums_length, Sk.cat_size, List.length_replicate, ← HM.out]; omega
          have hnl : (nums (Sk.cat T k)).length = m := by rw [nums_length, Sk.cat_size, HM.out]
          have NEXT : Hid (∀ w4, Row8 w4 w.heap.size ((nums (Sk.cat T k) ++ List.replicate (n - m) (0 : Int)).take m ++ nums t ++ (nums (Sk.cat T k) ++ List.replicate (n - m) (0 : Int)).drop (m + t.size)) → Row8 w4 w.heap.size (nums (Sk.cat T (k + 1)) ++ List.replicate (n - (m + t.size)) 0)) := by
            intro w4 h4
            have e1 : (nums (Sk.cat T k) ++ List.replicate (n - m) (0 : Int)).take m = nums (Sk.cat T k) := by
              rw [List.take_append_of_le_length (by omega), List.take_of_length_le (by omega)]
            have e2 : (nums (Sk.cat T k) ++ List.replicate (n - m) (0 : Int)).drop (m + t.size) = List.replicate (n - (m + t.size)) 0 := by
              rw [List.drop_append, List.drop_of_length_le (by omega), List.nil_append, hnl, Nat.add_sub_cancel_left, List.drop_replicate, Nat.sub_sub]
            have e3 : nums (Sk.cat T (k + 1)) = nums (Sk.cat T k) ++ nums t := by
              rw [Sk.cat, ← HT.out]
              simp [nums, ByteArray.data_append]
            rw [e1, e2] at h4
            rw [e3]
            exact h4
          have LAST : Hid (m + t.size = Sk.tot T (k + 1)) := by show _ = _; rw [Sk.tot, ← HT.out, HM.out]
          by_cases hme : m = n
          · have ht0 : t.size = 0 := by omega
            obtain ⟨w2, hc2, hr2, hb2, hs2'⟩ := copy8_run (P := Tryz.prog) 22 9 3 5 Tryz.underlying22 size8 w.heap.size 0 0 0 t _ HR.out (by omega) (by omega)
            have R2 : Hid (Row8 w2 w.heap.size (nums (Sk.cat T (k + 1)) ++ List.replicate (n - (m + t.size)) 0)) := by
              apply NEXT.out
              have e0 : nums t = [] := List.length_eq_zero_iff.1 (by rw [nums_length]; exact ht0)
              rw [e0] at hr2 ⊢
              rw [ht0] at hr2 ⊢
              simpa [List.take_append_drop] using hr2
            have B2 := Fk.hide (HB.out.trans hb2)
            clear hr2 hb2 NEXT hcl hnl
            subst hme
            go_wp2
            go_roundw
            case rel => exact ⟨k + 1, m + t.size, by omega, by rw [ht0]; rfl, by go_num, by omega, LAST.out, R2.out, B2.out⟩
            case measure => simp [intOf]; omega
          · have hmn : m < n := by omega
            obtain ⟨w2, hc2, hr2, hb2, hs2'⟩ := copy8_run (P := Tryz.prog) 22 9 3 5 Tryz.underlying22 size8 w.heap.size m (n - m) (n - m) t _ HR.out (by omega) (by omega)
            have R2 := Fk.hide (NEXT.out _ hr2)
            have B2 := Fk.hide (HB.out.trans hb2)
            clear hr2 hb2 NEXT hcl hnl
            go_wp2
            go_roundw
            case rel => exact ⟨k + 1, m + t.size, by omega, by go_num, by go_num, hmt, LAST.out, R2.out, B2.out⟩
            case measure => simp [intOf]; omega
        · have e : k = T.length := by omega
          subst e
          have hmn : m = n := by rw [HM.out, HN.out]
          subst hmn
          have hr3 : Row8 wr w.heap.size (nums (Sk.cat T T.length)) := by have := HR.out; rwa [Nat.sub_self, List.replicate_zero, List.append_nil] at this
          have HC : Hid (strOfNums ((nums (Sk.cat T T.length)).take m) = Sk.cat T T.length) := by
            show _ = _
            rw [List.take_of_length_le (by rw [nums_length, Sk.cat_size]; exact Nat.le_of_eq HM.out.symm), str_nums]
          have ht := row8_text (P := Tryz.prog) hr3 22 9 5 Tryz.underlying22 Tryz.underlying5 Tryz.underlying9 m m (by rw [nums_length, Sk.cat_size, ← HM.out]; exact Nat.le_refl _)
          clear hr3
          go_wp2
          go_ret
          exact ⟨congrArg (fun x => Ending.returned (.string x)) HC.out, HB.out⟩

theorem join_two (a b : ByteArray) (w : World) (e : TypeId) (ha : a.size ≤ 536870912) (hb : b.size ≤ 536870912) :
    Calls Tryz.prog 80 #[.slice (some ⟨w.heap.size, 0, none⟩) 2 2] (w.alloc (.cells #[.string a, .string b] e)) fun e w' => e = .returned (.string (a ++ b)) ∧ Below w.heap.size w w' := by
  have h := join_list _ [a, b] _ (Sk.view_two w a b e) (by simp) (by simp [Sk.tot, Sk.at_]; omega)
  refine h.mono ?_
  rintro e' w' ⟨rfl, hB⟩
  refine ⟨by rw [← Sk.cat_two]; rfl, ?_⟩
  exact ((Below.refl _ _).alloc (Nat.le_refl _) _).trans (hB.mono (by simp))
end Go.Proofs.YtojdfdlbdpdlkaaGreatDoor

namespace Go.Proofs.YtojdfdlbdpdlkaaGreatDoor
open Go.RowKit Go.Maps
open Go.WideMaps (keyOf_string_mk)
set_option linter.unusedVariables false
set_option linter.unusedSimpArgs false
namespace Fk
def resAppend (L : List Fl) (name text : ByteArray) : Int ⊕ List Fl :=
  match get L name with
  | none => if 12 ≤ L.length then .inl 9 else if 3000 < text.size then .inl 9 else .inr (without L name ++ [(name, ByteArray.empty ++ text, 0)])
  | some f => if 3000 < f.2.1.size + text.size then .inl 9 else .inr (without L name ++ [(f.1, f.2.1 ++ text, f.2.2)])
/-- why a text can't be appended ahead of all that its file says -/
def opnA (L : List Fl) (name text : ByteArray) : Nat := if 8000 < text.size then 1 else opn L [name]
theorem opn_one (L : List Fl) (a : ByteArray) (h : opn L [a] = 0) : a.size ≤ 8000 := by
  unfold opn at h
  split at h
  · cases h
  · rename_i hl
    simp at hl
    omega
theorem append_fit {L : List Fl} (h : right L = true) {name text : ByteArray} {M : List Fl} (hM : resAppend L name text = .inr M) (ho : opn L [name] = 0) : M.length ≤ 1000 ∧ ∀ f ∈ M, f.1.size ≤ 1073741824 ∧ f.2.1.size ≤ 1073741824 := by
  have h12 := (right_inv L h).1
  have hfit := right_fit h
  have h2 := opn_one L name ho
  have hw : (without L name).length ≤ L.length := List.length_filter_le _ _
  unfold resAppend at hM
  split at hM
  · split at hM
    · cases hM
    · split at hM
      · cases hM
      · obtain rfl := Sum.inr.inj hM
        refine ⟨by simp; omega, fun x hx => ?_⟩
        rcases List.mem_append.1 hx with hx | hx
        · have := hfit x (without_sub x hx); omega
        · have e : x = (name, ByteArray.empty ++ text, 0) := by simpa using hx
          subst e
          exact ⟨by show name.size ≤ _; omega, by show (ByteArray.empty ++ text).size ≤ _; simp [ByteArray.size_append]; omega⟩
  · rename_i f hg
    split at hM
    · cases hM
    · obtain rfl := Sum.inr.inj hM
      refine ⟨by simp; omega, fun x hx => ?_⟩
      rcases List.mem_append.1 hx with hx | hx
      · have := hfit x (without_sub x hx); omega
      · have e : x = (f.1, f.2.1 ++ text, f.2.2) := by simpa using hx
        subst e
        have hf := hfit f (get_some hg).1
        exact ⟨by show f.1.size ≤ _; omega, by show (f.2.1 ++ text).size ≤ _; simp [ByteArray.size_append]; omega⟩
theorem append_short (L : List Fl) (name text : ByteArray) : opnA L name text = 0 → ∀ M, resAppend L name text = .inr M → M.length ≤ 1000 := fun h0 _ hM => by
  have h1 : opn L [name] = 0 := by
    unfold opnA at h0
    split at h0
    · cases h0
    · exact h0
  exact (append_fit (opn_right L _ h1) hM h1).1
end Fk

set_option maxRecDepth 20000 in
set_option maxHeartbeats 4000000 in
theorem append_done (b n : Nat) (D : DataW Unit) (M : List Fk.Fl) (name text : ByteArray) (a0 a1 a2 a3 a4 : Addr) (w : World) (hm : w.ownsMap Tryz.prog 9 Fk.rdFile b n D) (hM : Fk.Mp D M) (hR : Fk.right M = true) (hnn : n ≤ 1000) (hn : name.size ≤ maxLen) (ht : text.size ≤ 8000) (hE : Is.Errs w a0 a1 a2 a3 a4) :
    Calls Tryz.prog 53 #[.map (some b), .string name, .string text] w fun e w' => Fk.Done b n a0 a1 a2 a3 a4 (Fk.resAppend M name text) e w' ∧ w.grownBy w' (some b) := by
  have hkey := keyOf_string_mk Tryz.underlying9 hn
  have hfit := Fk.hide (Fk.right_fit hR)
  have h12 := (Fk.right_inv M hR).1
  go_enter Tryz.func53, Tryz.ntmps53
  go_wp2_with fail
  refine (find_any b n D M name a0 a1 a2 a3 a4 _ hm hM hn hE).mono ?_
  rintro e w1 ⟨h1, b1⟩
  have G1 := Fk.hide (Fk.grownBy_below (some b) b1)
  have E1 := hE.below b1
  have g2 := E1.c2
  have g4 := E1.c4
  unfold Is.ev at g2 g4
  have m1 := Fk.map_below hm b1
  have hb : b < w1.heap.size := m1.lt
  clear b1 hm E1
  rcases h1 with ⟨⟨fa, fb, fc⟩, hg, rfl⟩ | ⟨hg, rfl⟩
  · have hfa : fa = name := (Fk.get_some hg).2
    subst hfa
    have hfb := (hfit.out _ (Fk.get_some hg).1).2
    simp only at hfb
    obtain ⟨W2, hW2⟩ : ∃ W2, W2 = w1.alloc (.cells #[.string fa, .string fb, .int .i64 fc] 75) := ⟨_, rfl⟩
    have b2 : Below w1.heap.size w1 W2 := by rw [hW2]; exact (Below.refl _ _).alloc (Nat.le_refl _) _
    have hz2 : w1.heap.size < W2.heap.size := by rw [hW2]; simp
    have y0 : W2.cell? ⟨w1.heap.size, 0, none⟩ = some (.string fa) := by rw [hW2, Fk.cellTop _ _ _ _ _ rfl]; rfl
    have y1 : W2.cell? ⟨w1.heap.size, 1, none⟩ = some (.string fb) := by rw [hW2, Fk.cellTop _ _ _ _ _ rfl]; rfl
    have y2 : W2.cell? ⟨w1.heap.size, 2, none⟩ = some (.int .i64 fc) := by rw [hW2, Fk.cellTop _ _ _ _ _ rfl]; rfl
    have yf : ∀ j, W2.frozen? ⟨w1.heap.size, j, none⟩ = false := fun j => by rw [hW2, Fk.frozTop _ _ _ _ _ rfl]
    have x2 : W2.cell? ⟨2, 0, none⟩ = some (.iface 168 (.pointer (some a2))) := (b2.cell (World.block_lt_of_cell? w1 _ g2)).trans g2
    have x4 : W2.cell? ⟨4, 0, none⟩ = some (.iface 168 (.pointer (some a4))) := (b2.cell (World.block_lt_of_cell? w1 _ g4)).trans g4
    have G2 : Hid (w.grownBy W2 (some b)) := by rw [hW2]; exact Fk.grownBy_trans G1.out (World.grownBy_alloc _ _ _)
    have m2 := Fk.map_below m1 b2
    have HW2 := Fk.hide hW2
    clear hW2 b2
    have xx2 : (w1.alloc (.cells #[.string fa, .string fb, .int .i64 fc] 75)).cell? ⟨2, 0, none⟩ = some (.iface 168 (.pointer (some a2))) := by rw [← HW2.out]; exact x2
    go_wp2_with fail
    rw [← HW2.out]
    clear xx2
    refine (Is.is_nil a2 _).mono ?_
    rintro e w2' ⟨rfl, e2'⟩
    rw [e2']
    clear e2' w2'
    have hwr : IntKind.i64.wrap ((fb.size : Int) + (text.size : Int)) = (fb.size : Int) + (text.size : Int) := by rw [IntKind.wrap_i64]; omega
    by_cases hbig : (3000 : Int) < (fb.size : Int) + (text.size : Int)
    · have HG : Hid (Fk.resAppend M fa text = .inl 9) := by show _ = _; simp only [Fk.resAppend, hg]; rw [if_pos (by omega)]
      clear hg
      go_wp2_with fail
      go_ret
      exact ⟨.inl ⟨5, by decide, by decide, HG.out, rfl⟩, G2.out⟩
    · have HG : Hid (Fk.resAppend M fa text = .inr (Fk.without M fa ++ [(fa, fb ++ text, fc)])) := by show _ = _; simp only [Fk.resAppend, hg]; rw [if_neg (by omega)]
      clear hg
      have M2 := Fk.hide (hM.set (fa, fb ++ text, fc))
      go_wp2_with fail
      refine (join_two fb text _ _ (by omega) (by omega)).mono ?_
      rintro e w3 ⟨rfl, b3⟩
      obtain ⟨t, ht⟩ : ∃ t, t = fb ++ text := ⟨_, rfl⟩
      rw [← ht] at M2 HG
      rw [← ht]
      clear ht
      have G3 := Fk.hide (Fk.grownBy_trans G2.out (Fk.grownBy_below (some b) b3))
      have m3 := Fk.map_below m2 b3
      have z0 : w3.cell? ⟨w1.heap.size, 0, none⟩ = some (.string fa) := (b3.cell hz2).trans y0
      have z1 : w3.cell? ⟨w1.heap.size, 1, none⟩ = some (.string fb) := (b3.cell hz2).trans y1
      have z2 : w3.cell? ⟨w1.heap.size, 2, none⟩ = some (.int .i64 fc) := (b3.cell hz2).trans y2
      have zf : ∀ j, w3.frozen? ⟨w1.heap.size, j, none⟩ = false := fun j => (b3.frozen hz2).trans (yf j)
      have hw1 : w.heap.size ≤ w1.heap.size := G1.out.size
      clear b3 y0 y1 y2 yf x2 x4 G2 m2
      go_wp2_with (at_mapUpdate; refine wpList_mapUpdate_own _ rfl _ _ _ 52 rfl 9 75 (string_keyed Tryz.underlying9) Tryz.underlying52 Fk.rdFile b n D rfl (m3.setCell (a := ⟨w1.heap.size, 1, none⟩) (by show b ≠ w1.heap.size; omega) _) (by unfold maxLen; omega) _ _ _ rfl rfl hkey _ [] (Fk.rdFile_mk (fa, t, fc)) ?_; intro w4 m4 g4')
      have G4 := Fk.hide (Fk.grownBy_trans (Fk.grownBy_setNew G3.out w1.heap.size 1 hw1 (.string t)) g4')
      clear g4'
      go_ret
      exact ⟨.inr ⟨_, _, HG.out, rfl, m4.mono (by omega), M2.out⟩, G4.out⟩
  · unfold Is.er
    obtain ⟨W2, hW2⟩ : ∃ W2, W2 = w1.alloc (.cells #[.string ByteArray.empty, .string ByteArray.empty, .int .i64 0] 75) := ⟨_, rfl⟩
    have b2 : Below w1.heap.size w1 W2 := by rw [hW2]; exact (Below.refl _ _).alloc (Nat.le_refl _) _
    have hz2 : w1.heap.size < W2.heap.size := by rw [hW2]; simp
    have y0 : W2.cell? ⟨w1.heap.size, 0, none⟩ = some (.string ByteArray.empty) := by rw [hW2, Fk.cellTop _ _ _ _ _ rfl]; rfl
    have y1 : W2.cell? ⟨w1.heap.size, 1, none⟩ = some (.string ByteArray.empty) := by rw [hW2, Fk.cellTop _ _ _ _ _ rfl]; rfl
    have y2 : W2.cell? ⟨w1.heap.size, 2, none⟩ = some (.int .i64 0) := by rw [hW2, Fk.cellTop _ _ _ _ _ rfl]; rfl
    have yf : ∀ j, W2.frozen? ⟨w1.heap.size, j, none⟩ = false := fun j => by rw [hW2, Fk.frozTop _ _ _ _ _ rfl]
    have x2 : W2.cell? ⟨2, 0, none⟩ = some (.iface 168 (.pointer (some a2))) := (b2.cell (World.block_lt_of_cell? w1 _ g2)).trans g2
    have x4 : W2.cell? ⟨4, 0, none⟩ = some (.iface 168 (.pointer (some a4))) := (b2.cell (World.block_lt_of_cell? w1 _ g4)).trans g4
    have G2 : Hid (w.grownBy W2 (some b)) := by rw [hW2]; exact Fk.grownBy_trans G1.out (World.grownBy_alloc _ _ _)
    have m2 := Fk.map_below m1 b2
    have HW2 := Fk.hide hW2
    clear hW2 b2
    have xx2 : (w1.alloc (.cells #[.string ByteArray.empty, .string ByteArray.empty, .int .i64 0] 75)).cell? ⟨2, 0, none⟩ = some (.iface 168 (.pointer (some a2))) := by rw [← HW2.out]; exact x2
    go_wp2_with fail
    rw [← HW2.out]
    clear xx2
    refine (Is.is_same a2 _).mono ?_
    rintro e w2' ⟨rfl, e2'⟩
    rw [e2']
    clear e2' w2'
    by_cases hfull : (12 : Int) ≤ (M.length : Int)
    · have HG : Hid (Fk.resAppend M name text = .inl 9) := by show _ = _; simp only [Fk.resAppend, hg]; rw [if_pos (by omega)]
      clear hg
      go_wp2_with (at_len; refine wpList_len_own _ rfl _ 52 rfl 9 75 Tryz.underlying52 Fk.rdFile b n D rfl m2 ?_; rw [hM.size])
      go_ret
      exact ⟨.inl ⟨5, by decide, by decide, HG.out, rfl⟩, G2.out⟩
    · have hW3 : ∀ W, W = W2 → W = W2 := fun _ h => h
      by_cases hbig : (3000 : Int) < (text.size : Int)
      · have HG : Hid (Fk.resAppend M name text = .inl 9) := by show _ = _; simp only [Fk.resAppend, hg]; rw [if_neg (by omega), if_pos (by omega)]
        clear hg
        rw [HW2.out]
        have m2x := m2
        rw [HW2.out] at m2x
        have xx4 : (w1.alloc (.cells #[.string name, .string { data := #[] }, .int .i64 0] 75)).cell? ⟨4, 0, none⟩ = some (.iface 168 (.pointer (some a4))) := (Fk.cellOld _ _ _ _ (World.block_lt_of_cell? w1 _ g4)).trans g4
        clear y0 y1 y2 yf x2 x4
        go_wp2_with (at_len; refine wpList_len_own _ rfl _ 52 rfl 9 75 Tryz.underlying52 Fk.rdFile b n D rfl m2x ?_; rw [hM.size])
        go_ret
        exact ⟨.inl ⟨5, by decide, by decide, HG.out, rfl⟩, Fk.grownBy_trans G1.out (World.grownBy_alloc _ _ _)⟩
      · have HG : Hid (Fk.resAppend M name text = .inr (Fk.without M name ++ [(name, ByteArray.empty ++ text, 0)])) := by show _ = _; simp only [Fk.resAppend, hg]; rw [if_neg (by omega), if_neg (by omega)]
        clear hg
        have M2 := Fk.hide (hM.set (name, ByteArray.empty ++ text, 0))
        rw [HW2.out]
        have m2x := m2
        rw [HW2.out] at m2x
        clear y0 y1 y2 yf x2 x4 G2 m2 HW2 hz2 hW3
        clear W2
        obtain ⟨W2, hW2⟩ : ∃ W2, W2 = w1.alloc (.cells #[.string name, .string { data := #[] }, .int .i64 0] 75) := ⟨_, rfl⟩
        have b2 : Below w1.heap.size w1 W2 := by rw [hW2]; exact (Below.refl _ _).alloc (Nat.le_refl _) _
        have hz2 : w1.heap.size < W2.heap.size := by rw [hW2]; simp
        have y0 : W2.cell? ⟨w1.heap.size, 0, none⟩ = some (.string name) := by rw [hW2, Fk.cellTop _ _ _ _ _ rfl]; rfl
        have y1 : W2.cell? ⟨w1.heap.size, 1, none⟩ = some (.string { data := #[] }) := by rw [hW2, Fk.cellTop _ _ _ _ _ rfl]; rfl
        have y2 : W2.cell? ⟨w1.heap.size, 2, none⟩ = some (.int .i64 0) := by rw [hW2, Fk.cellTop _ _ _ _ _ rfl]; rfl
        have yf : ∀ j, W2.frozen? ⟨w1.heap.size, j, none⟩ = false := fun j => by rw [hW2, Fk.frozTop _ _ _ _ _ rfl]
        have x2 : W2.cell? ⟨2, 0, none⟩ = some (.iface 168 (.pointer (some a2))) := (b2.cell (World.block_lt_of_cell? w1 _ g2)).trans g2
        have x4 : W2.cell? ⟨4, 0, none⟩ = some (.iface 168 (.pointer (some a4))) := (b2.cell (World.block_lt_of_cell? w1 _ g4)).trans g4
        have G2 : Hid (w.grownBy W2 (some b)) := by rw [hW2]; exact Fk.grownBy_trans G1.out (World.grownBy_alloc _ _ _)
        have m2 := Fk.map_below m1 b2
        have HW2 := Fk.hide hW2
        clear hW2 b2
        have HZZ : Hid (w1.heap.size + 1 = W2.heap.size) := by show _ = _; rw [HW2.out]; simp
        go_wp2_with (at_len; refine wpList_len_own _ rfl _ 52 rfl 9 75 Tryz.underlying52 Fk.rdFile b n D rfl m2x ?_; rw [hM.size])
        rw [← HW2.out, HZZ.out]
        refine (join_two ByteArray.empty text _ _ (by decide) (by omega)).mono ?_
        rintro e w3 ⟨rfl, b3⟩
        obtain ⟨t, ht⟩ : ∃ t, t = ByteArray.empty ++ text := ⟨_, rfl⟩
        rw [← ht] at M2 HG
        rw [← ht]
        clear ht
        have G3 := Fk.hide (Fk.grownBy_trans G2.out (Fk.grownBy_below (some b) b3))
        have m3 := Fk.map_below m2 b3
        have z0 : w3.cell? ⟨w1.heap.size, 0, none⟩ = some (.string name) := (b3.cell hz2).trans y0
        have z1 : w3.cell? ⟨w1.heap.size, 1, none⟩ = some (.string { data := #[] }) := (b3.cell hz2).trans y1
        have z2 : w3.cell? ⟨w1.heap.size, 2, none⟩ = some (.int .i64 0) := (b3.cell hz2).trans y2
        have zf : ∀ j, w3.frozen? ⟨w1.heap.size, j, none⟩ = false := fun j => (b3.frozen hz2).trans (yf j)
        have hw1 : w.heap.size ≤ w1.heap.size := G1.out.size
        clear b3 y0 y1 y2 yf x2 x4 G2 m2
        go_wp2_with (at_mapUpdate; refine wpList_mapUpdate_own _ rfl _ _ _ 52 rfl 9 75 (string_keyed Tryz.underlying9) Tryz.underlying52 Fk.rdFile b n D rfl (m3.setCell (a := ⟨w1.heap.size, 1, none⟩) (by show b ≠ w1.heap.size; omega) _) (by unfold maxLen; omega) _ _ _ rfl rfl hkey _ [] (Fk.rdFile_mk (name, t, 0)) ?_; intro w4 m4 g4')
        have G4 := Fk.hide (Fk.grownBy_trans (Fk.grownBy_setNew G3.out w1.heap.size 1 hw1 (.string t)) g4')
        clear g4'
        go_ret
        exact ⟨.inr ⟨_, _, HG.out, rfl, m4.mono (by omega), M2.out⟩, G4.out⟩
end Go.Proofs.YtojdfdlbdpdlkaaGreatDoor

/- Lists of texts in memory. No function of the program here. The walk of joinTexts: texts put together with copy. -/
import Derived.Test.YtfefafmcaepoiaaGreatDoorFsKit
import Derived.Test.YtfefafmcaepoiaaGreatDoorProg
import Derived.Test.YtfefafmcaepoiaaGreatDoorJoined3
import Derived.WalkSpells
import Derived.WalkLawsBesides
namespace Go.Proofs.YtfefafmcaepoiaaGreatDoor
open Go.RowKit
set_option linter.unusedVariables false
namespace Sk
def tc (T : List ByteArray) : List Value := T.map .string
def at_ (T : List ByteArray) (i : Nat) : ByteArray := T.getD i ByteArray.empty
def Own (w : World) (base : Nat) (e : TypeId) (v : Value) (T : List ByteArray) : Prop := w.ownsRow base e 1 v T.length (tc T)
def View (w : World) (v : Value) (T : List ByteArray) : Prop :=
  ∃ a cap, v = .slice a T.length cap ∧ (0 < T.length → ∃ b, a = some ⟨b, 0, none⟩ ∧ b < w.heap.size ∧ ∀ i, i < T.length → w.cell? ⟨b, i, none⟩ = some (.string (at_ T i)))
theorem tc_get (T : List ByteArray) (i : Nat) (h : i < T.length) : (tc T)[i]? = some (.string (at_ T i)) := by simp [tc, at_, List.getD, h]
theorem Own.form {w : World} {base : Nat} {e : TypeId} {v : Value} {T : List ByteArray} (h : Own w base e v T) : (v = .slice none 0 0 ∧ T = []) ∨ ∃ g c, v = .slice (some ⟨g, 0, none⟩) T.length c ∧ base ≤ g ∧ g < w.heap.size := by
  obtain ⟨_, hn | ⟨g, cap, cur, rfl, hb, hg, _⟩⟩ := h
  · exact .inl ⟨hn.1, List.length_eq_zero_iff.1 hn.2⟩
  · exact .inr ⟨g, cap, rfl, hb, (Array.getElem?_eq_some_iff.1 hg).1⟩
theorem Own.slice {w : World} {base : Nat} {e : TypeId} {v : Value} {T : List ByteArray} (h : Own w base e v T) : ∃ a c, v = .slice a T.length c := by
  rcases h.form with ⟨rfl, rfl⟩ | ⟨g, c, rfl, _⟩
  · exact ⟨_, _, rfl⟩
  · exact ⟨_, _, rfl⟩
theorem Own.at {w : World} {base g cap n : Nat} {e : TypeId} {T : List ByteArray} (h : Own w base e (.slice (some ⟨g, 0, none⟩) n cap) T) (hn : n = T.length) {k : Nat} (hk : k < T.length) :
    w.cell? ⟨g, k, none⟩ = some (.string (at_ T k)) ∧ w.frozen? ⟨g, k, none⟩ = false := by
  subst hn
  exact ⟨(World.ownsRow.cellAt h k (by omega)).trans (tc_get T k hk), World.ownsRow.frozenAt h k⟩
theorem Own.put {w : World} {base g cap n : Nat} {e : TypeId} {T : List ByteArray} (h : Own w base e (.slice (some ⟨g, 0, none⟩) n cap) T) (hn : n = T.length) (k : Nat) (s : ByteArray) :
    Own (w.setCell ⟨g, k, none⟩ (.string s)) base e (.slice (some ⟨g, 0, none⟩) n cap) (T.set k s) := by
  subst hn
  have := (World.ownsRow.stored h k (.string s)).1
  unfold Own
  rw [List.length_set]
  have e : tc (T.set k s) = (tc T).set k (.string s) := by simp [tc, List.map_set]
  rw [e]
  exact this
theorem Own.below {w w' : World} {base : Nat} {e : TypeId} {v : Value} {T : List ByteArray} (h : Own w base e v T) (hB : Below w.heap.size w w') : Own w' base e v T := Fk.owns_below h hB
theorem Own.kept {w w' : World} {base : Nat} {e : TypeId} {v : Value} {T : List ByteArray} {row : Option Nat} (h : Own w base e v T) (hg : w.grownBy w' row) (hne : ∀ k, v.ownBlock = some k → some k ≠ row) : Own w' base e v T := by
  refine World.ownsRow.kept h hg ?_
  cases hv : v.ownBlock with
  | none => exact .inl rfl
  | some k => exact .inr (hne k hv)
theorem Own.view {w : World} {base : Nat} {e : TypeId} {v : Value} {T : List ByteArray} (h : Own w base e v T) : View w v T := by
  rcases h.form with ⟨rfl, rfl⟩ | ⟨g, c, rfl, _, hg⟩
  · exact ⟨_, _, rfl, fun h0 => absurd h0 (Nat.lt_irrefl _)⟩
  · exact ⟨_, _, rfl, fun _ => ⟨g, rfl, hg, fun i hi => (h.at rfl hi).1⟩⟩
theorem View.below {w w' : World} {v : Value} {T : List ByteArray} (h : View w v T) (hB : Below w.heap.size w w') : View w' v T := by
  obtain ⟨a, cap, e, hs⟩ := h
  refine ⟨a, cap, e, fun h0 => ?_⟩
  obtain ⟨b, e', hb, hc⟩ := hs h0
  exact ⟨b, e', Nat.lt_of_lt_of_le hb hB.size, fun i hi => (hB.cell (by exact hb)).trans (hc i hi)⟩
theorem own_nil (w : World) (base : Nat) (e : TypeId) : Own w base e (.slice none 0 0) [] := World.ownsRow_nil w base e 1
theorem own_empty (w : World) (e : TypeId) (base : Nat) (hb : base ≤ w.heap.size) : Own (w.alloc (.cells #[] e)) base e (.slice (some ⟨w.heap.size, 0, none⟩) 0 0) [] :=
  World.ownsRow_lit w #[] 0 hb (by unfold maxLen; omega) rfl
/-- how many bytes the first texts have -/
def tot (T : List ByteArray) : Nat → Nat
  | 0 => 0
  | k + 1 => tot T k + (at_ T k).size
/-- the first texts, one behind the other -/
def cat (T : List ByteArray) : Nat → ByteArray
  | 0 => ByteArray.empty
  | k + 1 => cat T k ++ at_ T k
theorem cat_size (T : List ByteArray) : ∀ k, (cat T k).size = tot T k
  | 0 => rfl
  | k + 1 => by rw [cat, tot, ByteArray.size_append, cat_size T k]
theorem tot_mono (T : List ByteArray) {i j : Nat} (h : i ≤ j) : tot T i ≤ tot T j := by
  induction h with
  | refl => exact Nat.le_refl _
  | step _ ih => exact Nat.le_trans ih (Nat.le_add_right _ _)
theorem tot_more (T : List ByteArray) (k : Nat) (h : k < T.length) : tot T k + (at_ T k).size ≤ tot T T.length := tot_mono T (Nat.succ_le_of_lt h)
theorem view_two (w : World) (a b : ByteArray) (e : TypeId) : View (w.alloc (.cells #[.string a, .string b] e)) (.slice (some ⟨w.heap.size, 0, none⟩) 2 2) [a, b] := by
  refine ⟨_, 2, rfl, fun _ => ⟨w.heap.size, rfl, by simp, fun i hi => ?_⟩⟩
  rw [Fk.cellTop _ _ _ _ _ rfl]
  match i, hi with
  | 0, _ => rfl
  | 1, _ => rfl
theorem cat_two (a b : ByteArray) : cat [a, b] 2 = a ++ b := by
  apply ByteArray.ext
  simp [cat, at_, ByteArray.data_append]
end Sk
end Go.Proofs.YtfefafmcaepoiaaGreatDoor

namespace Go.Proofs.YtfefafmcaepoiaaGreatDoor
open Go.RowKit
set_option linter.unusedVariables false
set_option linter.unusedSimpArgs false

set_option maxHeartbeats 2000000 in
theorem join_list (v : Value) (T : List ByteArray) (w : World) (hv : Sk.View w v T) (hl : T.length ≤ 1048576) (hn : Sk.tot T T.length ≤ 1073741824) :
    Calls Tryz.prog 70 #[v] w fun e w' => e = .returned (.string (Sk.cat T T.length)) ∧ Below w.heap.size w w' := by
  obtain ⟨a, cap, rfl, hs⟩ := hv
  obtain ⟨i0, hi, hz0, hz1, hz2⟩ := info_parts Tryz.infoU8
  go_enter Tryz.func70, Tryz.ntmps70
  go_wp2_with fail
  go_loopw [3, 12] (fun s i wr => ∃ (k : Nat) (x : Int), k ≤ T.length ∧ s = .int .i64 x ∧ i = .int .i64 k ∧ 0 ≤ x ∧ x ≤ 1073741824 ∧ Hid (x = (Sk.tot T k : Int)) ∧ w = wr) (fun _ i _ => T.length - (intOf i).toNat)
  case atStart => exact ⟨0, 0, Nat.zero_le _, rfl, rfl, by decide, by decide, rfl, rfl⟩
  case round =>
    obtain ⟨k, x, hk, rfl, rfl, hx0, hx1, HX, rfl⟩ := hrel
    by_cases hlt : k < T.length
    · obtain ⟨b, rfl, hb, hs1⟩ := hs (by omega)
      have q0 := hs1 k hlt
      have hm := Sk.tot_more T k hlt
      obtain ⟨t, ht⟩ : ∃ t, t = Sk.at_ T k := ⟨_, rfl⟩
      rw [← ht] at q0 hm
      have HT := Fk.hide ht
      have hxt : x + (t.size : Int) ≤ 1073741824 := by have := HX.out; omega
      clear ht hs hs1
      go_wp2_with fail
      go_roundw
      case rel =>
        refine ⟨k + 1, x + (t.size : Int), by omega, by go_num, by go_num, by omega, hxt, ?_, by first | rfl | trivial⟩
        show _ = _
        rw [Sk.tot, ← HT.out, HX.out]
        omega
      case measure => simp [intOf]; omega
    · have e : k = T.length := by omega
      subst e
      obtain ⟨n, hnn⟩ : ∃ n : Nat, n = Sk.tot T T.length := ⟨_, rfl⟩
      have hxn : x = (n : Int) := by rw [HX.out, hnn]
      subst hxn
      rw [← hnn] at hn
      have HN := Fk.hide hnn
      clear hnn HX
      go_wp2_with (at_make; refine wpList_make8 _ rfl _ _ 95 rfl 5 i0 Tryz.underlying95 hi hz0 hz1 hz2 n rfl rfl ?c1 ?_)
      case c1 => omega
      intro w1 hr1 hb1 hs1
      have HB1 := Fk.hide hb1
      have HR1 := Fk.hide hr1
      clear hb1 hr1
      go_wp2_with fail
      go_loopw [7, 25] (fun s i wr => ∃ k m : Nat, k ≤ T.length ∧ s = .int .i64 (m : Int) ∧ i = .int .i64 k ∧ m ≤ n ∧ Hid (m = Sk.tot T k) ∧ Hid (Row8 wr w.heap.size (nums (Sk.cat T k) ++ List.replicate (n - m) 0)) ∧ Hid (Below w.heap.size w wr)) (fun _ i _ => T.length - (intOf i).toNat)
      case atStart => exact ⟨0, 0, Nat.zero_le _, rfl, rfl, Nat.zero_le _, rfl, (by show Row8 _ _ _; have := HR1.out; simpa [Sk.cat, nums] using this), HB1.out⟩
      case round =>
        obtain ⟨k, m, hk, rfl, rfl, hm, HM, HR, HB⟩ := hrel
        by_cases hlt : k < T.length
        · obtain ⟨b, rfl, hb, hs2⟩ := hs (by omega)
          have q0 : wr.cell? ⟨b, k, none⟩ = some (.string (Sk.at_ T k)) := (HB.out.cell (by exact hb)).trans (hs2 k hlt)
          have hmt : m + (Sk.at_ T k).size ≤ n := by have := Sk.tot_more T k hlt; have := HM.out; have := HN.out; omega
          obtain ⟨t, ht⟩ : ∃ t, t = Sk.at_ T k := ⟨_, rfl⟩
          rw [← ht] at q0 hmt
          have HT := Fk.hide ht
          clear ht hs hs2
          have hcl : (nums (Sk.cat T k) ++ List.replicate (n - m) (0 : Int)).length = n := by
            rw [List.length_append, nums_length, Sk.cat_size, List.length_replicate, ← HM.out]; omega
          have hnl : (nums (Sk.cat T k)).length = m := by rw [nums_length, Sk.cat_size, HM.out]
          have NEXT : Hid (∀ w4, Row8 w4 w.heap.size ((nums (Sk.cat T k) ++ List.replicate (n - m) (0 : Int)).take m ++ nums t ++ (nums (Sk.cat T k) ++ List.replicate (n - m) (0 : Int)).drop (m + t.size)) → Row8 w4 w.heap.size (nums (Sk.cat T (k + 1)) ++ List.replicate (n - (m + t.size)) 0)) := by
            intro w4 h4
            have e1 : (nums (Sk.cat T k) ++ List.replicate (n - m) (0 : Int)).take m = nums (Sk.cat T k) := by
              rw [List.take_append_of_le_length (by omega), List.take_of_length_le (by omega)]
            have e2 : (nums (Sk.cat T k) ++ List.replicate (n - m) (0 : Int)).drop (m + t.size) = List.replicate (n - (m + t.size)) 0 := by
              rw [List.drop_append, List.drop_of_length_le (by omega), List.nil_append, hnl, Nat.add_sub_cancel_left, List.drop_replicate, Nat.sub_sub]
            have e3 : nums (Sk.cat T (k + 1)) = nums (Sk.cat T k) ++ nums t := by
              rw [Sk.cat, ← HT.out]
              simp [nums, ByteArray.data_append]
            rw [e1, e2] at h4
            rw [e3]
            exact h4
          have LAST : Hid (m + t.size = Sk.tot T (k + 1)) := by show _ = _; rw [Sk.tot, ← HT.out, HM.out]
          by_cases hme : m = n
          · have ht0 : t.size = 0 := by omega
            obtain ⟨w2, hc2, hr2, hb2, hs2'⟩ := copy8_run (P := Tryz.prog) 95 9 3 5 Tryz.underlying95 size8 w.heap.size 0 0 0 t _ HR.out (by omega) (by omega)
            have R2 : Hid (Row8 w2 w.heap.size (nums (Sk.cat T (k + 1)) ++ List.replicate (n - (m + t.size)) 0)) := by
              apply NEXT.out
              have e0 : nums t = [] := List.length_eq_zero_iff.1 (by rw [nums_length]; exact ht0)
              rw [e0] at hr2 ⊢
              rw [ht0] at hr2 ⊢
              simpa [List.take_append_drop] using hr2
            have B2 := Fk.hide (HB.out.trans hb2)
            clear hr2 hb2 NEXT hcl hnl
            subst hme
            go_wp2
            go_roundw
            case rel => exact ⟨k + 1, m + t.size, by omega, by rw [ht0]; rfl, by go_num, by omega, LAST.out, R2.out, B2.out⟩
            case measure => simp [intOf]; omega
          · have hmn : m < n := by omega
            obtain ⟨w2, hc2, hr2, hb2, hs2'⟩ := copy8_run (P := Tryz.prog) 95 9 3 5 Tryz.underlying95 size8 w.heap.size m (n - m) (n - m) t _ HR.out (by omega) (by omega)
            have R2 := Fk.hide (NEXT.out _ hr2)
            have B2 := Fk.hide (HB.out.trans hb2)
            clear hr2 hb2 NEXT hcl hnl
            go_wp2
            go_roundw
            case rel => exact ⟨k + 1, m + t.size, by omega, by go_num, by go_num, hmt, LAST.out, R2.out, B2.out⟩
            case measure => simp [intOf]; omega
        · have e : k = T.length := by omega
          subst e
          have hmn : m = n := by rw [HM.out, HN.out]
          subst hmn
          have hr3 : Row8 wr w.heap.size (nums (Sk.cat T T.length)) := by have := HR.out; rwa [Nat.sub_self, List.replicate_zero, List.append_nil] at this
          have HC : Hid (strOfNums ((nums (Sk.cat T T.length)).take m) = Sk.cat T T.length) := by
            show _ = _
            rw [List.take_of_length_le (by rw [nums_length, Sk.cat_size]; exact Nat.le_of_eq HM.out.symm), str_nums]
          have ht := row8_text (P := Tryz.prog) hr3 95 9 5 Tryz.underlying95 Tryz.underlying5 Tryz.underlying9 m m (by rw [nums_length, Sk.cat_size, ← HM.out]; exact Nat.le_refl _)
          clear hr3
          go_wp2
          go_ret
          exact ⟨congrArg (fun x => Ending.returned (.string x)) HC.out, HB.out⟩

theorem join_two (a b : ByteArray) (w : World) (e : TypeId) (ha : a.size ≤ 536870912) (hb : b.size ≤ 536870912) :
    Calls Tryz.prog 70 #[.slice (some ⟨w.heap.size, 0, none⟩) 2 2] (w.alloc (.cells #[.string a, .string b] e)) fun e w' => e = .returned (.string (a ++ b)) ∧ Below w.heap.size w w' := by
  have h := join_list _ [a, b] _ (Sk.view_two w a b e) (by simp) (by simp [Sk.tot, Sk.at_]; omega)
  refine h.mono ?_
  rintro e' w' ⟨rfl, hB⟩
  refine ⟨by rw [← Sk.cat_two]; rfl, ?_⟩
  exact ((Below.refl _ _).alloc (Nat.le_refl _) _).trans (hB.mono (by simp))
end Go.Proofs.YtfefafmcaepoiaaGreatDoor

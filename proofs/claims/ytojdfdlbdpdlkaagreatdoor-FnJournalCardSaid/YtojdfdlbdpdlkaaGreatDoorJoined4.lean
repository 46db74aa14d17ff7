/- The walk of the specification's PutNum: a slice that it appends to. The walks of the specification's drawn texts. The walk of the specification's drawn file name: one of four texts. A statement that leaves its order open, whose first operations only read or call what makes new memory, and whose last ones, which wait for all of these, write: one walk in the order of the text serves every order. On the library's own notions of such walks; no function of the program here. -/
import Derived.Test.YtojdfdlbdpdlkaaGreatDoorJoined3
import Derived.Test.YtojdfdlbdpdlkaaGreatDoorDraws
import Derived.Test.YtojdfdlbdpdlkaaGreatDoorJoined1
import Derived.StillTail
import Derived.Lib.QuietBelow
import Derived.BigQuiet
namespace Go.Proofs.YtojdfdlbdpdlkaaGreatDoor
open Go.RowKit
set_option linter.unusedVariables false

theorem own8_new (w : World) (e : TypeId) : (w.alloc (.cells #[] e)).ownsRow w.heap.size e 1 (.slice (some ⟨w.heap.size, 0, none⟩) 0 0) 0 [] := by
  refine ⟨rfl, .inr ⟨w.heap.size, 0, #[], rfl, Nat.le_refl _, ?_, Nat.le_refl _, Nat.zero_le _, rfl, rfl⟩⟩
  exact (MapKept.heap_alloc w _).1

/-- behind an append the row is still the call's own, and what was there is as it was -/
theorem own8_step {w wr w1 : World} {B : Nat} {e : TypeId} {v : Value} {k : Nat} {xs : List Value} {o : Obj} (hB : B ≤ wr.heap.size) (hb : Below B w wr) (hown : wr.ownsRow B e 1 v k xs) (hg : (wr.alloc o).grownBy w1 v.ownBlock) : Below B w w1 ∧ B ≤ w1.heap.size := by
  have h1 : Below B w (wr.alloc o) := hb.alloc hB o
  have h2 : Below B w w1 := h1.grown hg (by simp; omega) (fun j hj => by
    obtain ⟨_, h⟩ := hown
    rcases h with ⟨rfl, _⟩ | ⟨g, cap, cur, rfl, hg, _⟩
    · simp [Value.ownBlock] at hj
    · simp [Value.ownBlock] at hj; omega)
  exact ⟨h2, Nat.le_trans (by simp; omega) hg.size⟩

set_option maxHeartbeats 1000000 in
theorem specPut_any (n : Int) (w : World) (h1 : -9223372036854775808 ≤ n) (h2 : n ≤ 9223372036854775807) :
    Calls Tryz.prog 63 #[.int .i64 n] w fun e w' => e = .returned (.string (Pn.putNum n)) ∧ Below w.heap.size w w' := by
  have hb := Pn.fold_bd n h1 h2
  obtain ⟨u0, hu0⟩ := Int.eq_ofNat_of_zero_le hb.1
  have HU : Hid (Pn.putNum n = strOfNums (Pn.encU 10 u0)) := by show Pn.putNum n = _; rw [Pn.putNum, hu0]; rfl
  have hu1 : u0 ≤ 18446744073709551615 := by omega
  have HF : Hid (Pn.fold n = (u0 : Int)) := hu0
  clear hu0 hb
  obtain ⟨i0, hi, hz0, hz1, hz2⟩ := info_parts Tryz.infoU8
  go_enter Tryz.func63, Tryz.ntmps63
  go_wp2_with fail
  refine (specFold_any n _ h1 h2).mono ?_
  rintro e w' ⟨rfl, hw⟩
  obtain rfl := hw.symm
  rw [HF.out]
  go_wp2_with fail
  go_loopw [3, 4] (fun u l wr => ∃ (v f : Nat) (xs : List Int), u = .int .u64 v ∧ (v : Int) ≤ 18446744073709551615 ∧ xs.length ≤ 9 ∧ Hid (1 ≤ f ∧ Pn.Left u0 v f xs) ∧
      Hid (wr.ownsRow w.heap.size 5 1 l xs.length (xs.map (Value.int .u8))) ∧ Hid (Below w.heap.size w wr ∧ w.heap.size ≤ wr.heap.size)) (fun u _ _ => (intOf u).toNat)
  case atStart =>
    refine ⟨u0, 10, [], rfl, by omega, by simp, ⟨by omega, Pn.left_start u0 hu1⟩, own8_new _ _, (Below.refl _ _).alloc (Nat.le_refl _) _, by simp⟩
  case round =>
    obtain ⟨v, f, xs, rfl, hv, hx, HL, HR, HB⟩ := hrel
    have hown := HR.out
    by_cases h128 : (128 : Int) ≤ v
    · go_wp2_with (at_builtin; refine wpList_append_own _ rfl _ _ 22 rfl w.heap.size 5 i0 (.int .u8 0) 1 1 Tryz.underlying22 hi hz0 hz1 hz2 rfl (by decide) _ _ _ rfl (hown.alloc _) ⟨wr.heap.size, 0, none⟩ 1 1 [.int .u8 ((v : Int) % 128 + 128)] rfl rfl ?c1 ?c2 ?c3 ?c4 ?c5 ?_)
      try (case c1 => exact cell_one_new _ _ _)
      case c2 => first | rfl | (intro u hu; simp at hu; subst hu; rfl)
      case c3 => unfold maxLen; omega
      case c4 => omega
      case c5 => have := HB.out.2; simp; omega
      · intro v' w1 hown' hgrow _
        have HO : Hid (w1.ownsRow w.heap.size 5 1 v' (xs ++ [(v : Int) % 128 + 128]).length ((xs ++ [(v : Int) % 128 + 128]).map (Value.int .u8))) := by show w1.ownsRow _ _ _ _ _ _; simpa using hown'
        have HE : Hid (Below w.heap.size w w1 ∧ w.heap.size ≤ w1.heap.size) := own8_step HB.out.2 HB.out.1 hown hgrow
        clear hown' hgrow hown
        go_wp2
        go_roundw
        case rel =>
          obtain ⟨g, hg, hL⟩ := Pn.left_step HL.out.2 (by omega)
          exact ⟨v / 128, g, xs ++ [(v : Int) % 128 + 128], by go_num, by omega, Pn.left_pos hL hg, ⟨hg, hL⟩, HO, HE⟩
        case measure => simp [intOf]; omega
    · go_wp2_with (at_builtin; refine wpList_append_own _ rfl _ _ 22 rfl w.heap.size 5 i0 (.int .u8 0) 1 1 Tryz.underlying22 hi hz0 hz1 hz2 rfl (by decide) _ _ _ rfl (hown.alloc _) ⟨wr.heap.size, 0, none⟩ 1 1 [.int .u8 (v : Int)] rfl rfl ?d1 ?d2 ?d3 ?d4 ?d5 ?_)
      try (case d1 => exact cell_one_new _ _ _)
      case d2 => first | rfl | (intro u hu; simp at hu; subst hu; rfl)
      case d3 => unfold maxLen; omega
      case d4 => omega
      case d5 => have := HB.out.2; simp; omega
      · intro v' w1 hown' hgrow _
        have ho : w1.ownsRow w.heap.size 5 1 v' (xs.length + 1) ((xs ++ [(v : Int)]).map (Value.int .u8)) := by simpa using hown'
        have ht := own8_text (P := Tryz.prog) ho 22 9 Tryz.underlying22 Tryz.underlying5 Tryz.underlying9
        have HE : Hid (Below w.heap.size w w1 ∧ w.heap.size ≤ w1.heap.size) := own8_step HB.out.2 HB.out.1 hown hgrow
        have HT : Hid (Pn.putNum n = strOfNums (xs ++ [(v : Int)])) := by
          show Pn.putNum n = _
          rw [HU.out, Pn.left_last HL.out.2 (by omega)]
        clear hown' hgrow hown ho
        go_wp2
        go_ret
        exact ⟨by rw [HT.out]; rfl, HE.out.1⟩
end Go.Proofs.YtojdfdlbdpdlkaaGreatDoor

namespace Go.Proofs.YtojdfdlbdpdlkaaGreatDoor
open Go.RowKit
set_option linter.unusedVariables false
set_option linter.unusedSimpArgs false
theorem Dk.gtrans {w a b : World} {S : Nat} {r : Option Nat} (h : w.grownBy a (some S)) (k : a.grownBy b r) (hr : ∀ i, r = some i → w.heap.size ≤ i ∨ i = S) : w.grownBy b (some S) := by
  refine ⟨k.os.trans h.os, k.tape.trans h.tape, k.output.trans h.output, Nat.le_trans h.size k.size, fun i hi hne => ?_⟩
  refine (k.block i (Nat.lt_of_lt_of_le hi h.size) (fun e => ?_)).trans (h.block i hi hne)
  rcases hr i e.symm with h1 | h1
  · omega
  · exact hne (by rw [h1])

set_option maxHeartbeats 4000000 in
theorem drawBytes_any (B S : Nat) (n : Int) (w : World) (hs : Dk.Src B w S) (hn : n ≤ 100000) :
    Calls Tryz.prog 24 #[.pointer (some ⟨S, 0, none⟩), .int .i64 n] w fun e w' => (∃ t : ByteArray, e = .returned (.string t) ∧ (t.size : Int) ≤ max n 0) ∧ Dk.Src B w' S ∧ w.grownBy w' (some S) := by
  obtain ⟨i0, hi, hz0, hz1, hz2⟩ := info_parts Tryz.infoU8
  obtain ⟨hBS, hSw⟩ := hs.lt
  have HS := Fk.hide hs
  clear hs
  have H0 : Hid (Dk.Src B (w.alloc (.cells #[] 5)) S) := HS.out.below ((Below.refl _ _).alloc (Nat.le_refl _) _)
  have G0 : Hid (w.grownBy (w.alloc (.cells #[] 5)) (some S)) := Fk.grownBy_below (some S) ((Below.refl _ _).alloc (Nat.le_refl _) _)
  go_enter Tryz.func24, Tryz.ntmps24
  go_wp2_with fail
  go_loopw [5, 6] (fun l i wr => ∃ xs : List Int, i = .int .i64 (xs.length : Int) ∧ (xs.length : Int) ≤ max n 0 ∧ Hid (wr.ownsRow w.heap.size 5 1 l xs.length (xs.map (Value.int .u8))) ∧ Hid (Dk.Src B wr S) ∧ Hid (w.grownBy wr (some S))) (fun _ i _ => (n - intOf i).toNat)
  case atStart => exact ⟨[], rfl, by simp; omega, own8_new _ _, H0.out, G0.out⟩
  case round =>
    obtain ⟨xs, rfl, hx, HR, HS1, HG⟩ := hrel
    obtain ⟨m, hm⟩ : ∃ m, m = xs.length := ⟨_, rfl⟩
    rw [← hm] at hx HR ⊢
    have HM := Fk.hide hm
    clear hm
    by_cases hlt : (m : Int) < n
    · go_wp2_with fail
      refine (drawN_any B S 256 _ HS1.out (by decide)).mono ?_
      rintro e w1 ⟨⟨r, rfl, hr0, hr1, _⟩, s1, g1⟩
      have hr2 := hr1 (by decide)
      have hown := World.ownsRow.kept HR.out g1 (by
        cases hv : Value.ownBlock u5 with
        | none => exact .inl rfl
        | some j => exact .inr (fun e => by have h1 := (World.ownsRow.lt HR.out j hv).1; have h2 : j = S := Option.some.inj e; omega))
      have hz1 : w.heap.size ≤ w1.heap.size := Nat.le_trans HG.out.size g1.size
      have GW1 := Fk.hide (Fk.grownBy_trans HG.out g1)
      have S1 := Fk.hide s1
      clear s1 g1 hr1
      go_wp2_with (at_builtin; refine wpList_append_own _ rfl _ _ 22 rfl w.heap.size 5 i0 (.int .u8 0) 1 1 Tryz.underlying22 hi hz0 (by assumption) hz2 rfl (by decide) _ _ _ rfl (hown.alloc _) ⟨w1.heap.size, 0, none⟩ 1 1 [.int .u8 r] rfl rfl ?c1 ?c2 ?c3 ?c4 ?c5 ?_)
      try (case c1 => exact cell_one_new _ _ _)
      case c2 => first | rfl | (intro u hu; simp at hu; subst hu; rfl)
      case c3 => unfold maxLen; omega
      case c4 => omega
      case c5 => simp; omega
      · intro v' w2 hown' hgrow _
        have HO : Hid (w2.ownsRow w.heap.size 5 1 v' (xs ++ [r]).length ((xs ++ [r]).map (Value.int .u8))) := by
          show w2.ownsRow _ _ _ _ _ _
          have e : (xs ++ [r]).length = m + 1 := by rw [List.length_append, ← HM.out]; rfl
          rw [e]
          simpa using hown'
        have bA : Below w1.heap.size w1 (w1.alloc (.cells #[.int .u8 r] 5)) := (Below.refl _ _).alloc (Nat.le_refl _) _
        have hrow : ∀ i, u5.ownBlock = some i → w.heap.size ≤ i := fun i h => (World.ownsRow.lt HR.out i h).1
        have S2 := Fk.hide ((S1.out.below bA).far hgrow (fun h => by have := hrow S h.symm; omega) (fun b hb h => by have := hrow b h.symm; omega))
        have G2 := Fk.hide (Dk.gtrans (Fk.grownBy_trans GW1.out (Fk.grownBy_below (some S) bA)) hgrow (fun i h => .inl (hrow i h)))
        have HL : Hid ((xs ++ [r]).length = m + 1) := by show _ = _; rw [List.length_append, ← HM.out]; rfl
        clear hown' hgrow hown bA hrow
        go_wp2
        go_roundw
        case rel => exact ⟨xs ++ [r], by rw [HL.out]; go_num, by rw [HL.out]; omega, HO, S2.out, G2.out⟩
        case measure => simp [intOf]; omega
    · have ho := HR.out
      have ht := own8_text (P := Tryz.prog) ho 22 9 Tryz.underlying22 Tryz.underlying5 Tryz.underlying9
      have HSZ : Hid (((strOfNums xs).size : Int) ≤ max n 0) := by
        show _ ≤ _
        have e : (strOfNums xs).size = m := by rw [HM.out]; show (strOfNums xs).data.size = _; simp [strOfNums]
        rw [e]; exact hx
      clear ho
      go_wp2
      go_ret
      exact ⟨⟨_, rfl, HSZ.out⟩, HS1.out, HG.out⟩
end Go.Proofs.YtojdfdlbdpdlkaaGreatDoor

namespace Go.Proofs.YtojdfdlbdpdlkaaGreatDoor
open Go.RowKit
set_option linter.unusedVariables false
set_option linter.unusedSimpArgs false
def Dk.names : List ByteArray := [⟨#[97]⟩, ⟨#[98]⟩, ⟨#[108, 111, 103]⟩, ⟨#[115, 48, 48, 48, 48, 48, 48]⟩]

set_option maxHeartbeats 4000000 in
theorem drawName_any (B S : Nat) (w : World) (hs : Dk.Src B w S) :
    Calls Tryz.prog 71 #[.pointer (some ⟨S, 0, none⟩)] w fun e w' => (∃ t, e = .returned (.string t) ∧ t ∈ Dk.names) ∧ Dk.Src B w' S ∧ w.grownBy w' (some S) := by
  obtain ⟨hBS, hSw⟩ := hs.lt
  have HS := Fk.hide hs
  clear hs
  go_enter Tryz.func71, Tryz.ntmps71
  go_wp2_with fail
  have bA : Below w.heap.size w (w.alloc (.cells #[.string ⟨#[97]⟩, .string ⟨#[98]⟩, .string ⟨#[108, 111, 103]⟩, .string ⟨#[115, 48, 48, 48, 48, 48, 48]⟩] 9)) := (Below.refl _ _).alloc (Nat.le_refl _) _
  have HG := Fk.hide (Fk.grownBy_below (some S) bA)
  have hT : ∀ i, i < 4 → (w.alloc (.cells #[.string ⟨#[97]⟩, .string ⟨#[98]⟩, .string ⟨#[108, 111, 103]⟩, .string ⟨#[115, 48, 48, 48, 48, 48, 48]⟩] 9)).cell? ⟨w.heap.size, i, none⟩ = some (.string (Dk.names.getD i ByteArray.empty)) := by
    intro i hi
    rw [Fk.cellTop _ _ _ _ _ rfl]
    match i, hi with
    | 0, _ => rfl
    | 1, _ => rfl
    | 2, _ => rfl
    | 3, _ => rfl
  refine (drawPick_any B S w.heap.size 4 4 Dk.names _ (HS.out.below bA) (by omega) rfl (by decide) (by decide) hT).mono ?_
  rintro e w1 ⟨⟨t, rfl, ht⟩, h1, h2⟩
  have HT := Fk.hide ht
  have H1 := Fk.hide h1
  have H2 := Fk.hide (Fk.grownBy_trans HG.out h2)
  clear ht h1 h2 hT bA
  go_wp2_with fail
  go_ret
  exact ⟨⟨t, rfl, HT.out⟩, H1.out, H2.out⟩
end Go.Proofs.YtojdfdlbdpdlkaaGreatDoor

namespace Go.Proofs.YtojdfdlbdpdlkaaGreatDoor
open Go Go.RowKit Go.Sort
namespace Qt
section
variable {P : Program} {ops : Array Oper} {md : Region.Mode} {C : World → Prop}

/-- whatever order the first operations come in, all of them ahead of place n -/
def Head (P : Program) (md : Region.Mode) (ops : Array Oper) (C : World → Prop) (n : Nat) (L : Array Bool → Act → Prop) : Nat → Array Bool → Act → Prop
  | 0, listed, a => L listed a
  | f + 1, listed, a => Region.ready md ops listed ≠ [] ∧ ∀ i ∈ Region.ready md ops listed, i < n ∧ qOp P ops C i (Head P md ops C n L f (listed.setIfInBounds i true)) a

theorem any_of_head {n g : Nat} {L : Array Bool → Act → Prop} {Q' : Exit → Act → World → Prop} (hL : ∀ listed a w, C w → L listed a → wpAny P md ops Q' g listed a w) :
    ∀ (f : Nat) (listed : Array Bool) (a : Act) (w : World), C w → Head P md ops C n L f listed a → wpAny P md ops Q' (f + g) listed a w
  | 0, listed, a, w, hw, h => by rw [Nat.zero_add]; exact hL _ _ _ hw h
  | f + 1, listed, a, w, hw, h => by
    rw [show f + 1 + g = (f + g) + 1 by omega]
    exact ⟨fun h0 => absurd h0 h.1, fun i hi => wpOp_of_qOp hw (fun a' w' hw' h' => any_of_head hL f _ a' w' hw' h') (h.2 i hi).2⟩

theorem head_first {n i : Nat} {oi : Oper} {v : Value} {L : Array Bool → Act → Prop} (hi : ops[i]? = some oi) (hsel : ∀ (j : Nat) (o : Oper) cs b, ops[j]? = some o → o.op ≠ .select cs b)
    (hs : Region.sinkB md ops n = true) (hc : Region.chainB md ops n = true) (hn : n < ops.size) (hin : i < n) (hdone : ∀ listed a, L listed a → ∀ j ∈ Region.ready md ops listed, n ≤ j) :
    ∀ (f : Nat) (listed : Array Bool) (a : Act), HeadInv md ops n listed →
      (∀ j oj, ops[j]? = some oj → j ≠ i → listed.getD j true = false → (∀ e ∈ oj.after, Region.binds md e = true → e.on ≠ i) → oi.apart ops oj = true) →
      i ∈ Region.ready md ops listed → YieldsIn P ops C oi v a → Head P md ops C n L f (listed.setIfInBounds i true) (a.put oi.dst v) → Head P md ops C n L (f + 1) listed a := by
  intro f
  induction f with
  | zero =>
    intro listed a inv _ hr hy H
    refine ⟨fun h => (by rw [h] at hr; cases hr), fun j hj => ?_⟩
    have hjn : j < n := (Nat.lt_or_ge j n).resolve_right fun h => tail_waits hs hc hn inv _ i rfl hin (mem_ready.1 hr).1 j h hj
    refine ⟨hjn, ?_⟩
    by_cases hji : j = i
    · subst hji; exact hy.qOp hi H
    · exact absurd (hdone _ _ H j (ready_mono hj hji)) (by omega)
  | succ f ih =>
    intro listed a inv hfree hr hy H
    have hun := (mem_ready.1 hr).1
    refine ⟨fun h => (by rw [h] at hr; cases hr), fun j hj => ?_⟩
    have hjn : j < n := (Nat.lt_or_ge j n).resolve_right fun h => tail_waits hs hc hn inv _ i rfl hin hun j h hj
    refine ⟨hjn, ?_⟩
    by_cases hji : j = i
    · subst hji; exact hy.qOp hi H
    · obtain ⟨hjun, oj, hoj, hall⟩ := mem_ready.1 hj
      have hnot : ∀ e ∈ oj.after, Region.binds md e = true → e.on ≠ i := fun e he hb heq => by
        have h1 := hall e he hb
        rw [heq, getD_both hun] at h1
        cases h1
      have h2 := qOp_put hoj (hfree j oj hoj hji hjun hnot) (fun cs b => hsel i oi cs b hi) (fun cs b => hsel j oj cs b hoj) hy (H.2 j (ready_mono hj hji)).2
      refine qOp_mono (fun a' h3 => ih (listed.setIfInBounds j true) a' (inv.set hj hjn) (fun k ok hk hki hun' hno => hfree k ok hk hki ?_ hno) (ready_mono hr (Ne.symm hji)) h3.1 ?_) h2
      · by_cases hjk : j = k
        · subst hjk; exact hjun
        · rw [getD_set_ne true hjk] at hun'; exact hun'
      · rw [Array.setIfInBounds_comm _ _ hji]
        exact h3.2

theorem head_lex {n g : Nat} {Lq : Act → Prop} (hsel : Region.noSelect ops = true) (hs : Region.sinkB md ops n = true) (hc : Region.chainB md ops n = true) (hn : n < ops.size) :
    ∀ (l : List Oper) (k : Nat) (listed : Array Bool) (a : Act), (∀ j, j < l.length → l[j]? = ops[k + j]?) → k + l.length = n → HeadInv md ops n listed →
      Region.lexHead md ops g l.length k listed = true → wpQuiet P ops C Lq l a → Head P md ops C n (fun listed' a' => Region.seqB md ops g n listed' = true ∧ Lq a') l.length listed a
  | [], k, listed, a, _, hk, _, hB, h => by
    have e : k = n := by simpa using hk
    subst e
    exact ⟨by simpa [Region.lexHead] using hB, h⟩
  | o :: l, k, listed, a, hl, hk, inv, hB, h => by
    have h0 : ops[k]? = some o := by simpa using (hl 0 (by simp)).symm
    simp only [List.length_cons, Region.lexHead, Bool.and_eq_true] at hB
    obtain ⟨⟨hr, hf⟩, hB'⟩ := hB
    have hkn : k < n := by simp only [List.length_cons] at hk; omega
    have hr' : k ∈ Region.ready md ops listed := by simpa using hr
    obtain ⟨v, hy, hK⟩ := yieldsIn_of_qOp h0 (show qOp P ops C k (wpQuiet P ops C Lq l) a by unfold qOp; simp only [h0]; exact h)
    exact head_first h0 (Region.noSelect_spec hsel) hs hc hn hkn (fun listed' a' hL => seqB_ready hL.1) l.length listed a inv (Region.free_spec h0 hf) hr' hy
      (head_lex hsel hs hc hn l (k + 1) _ _ (fun j hj => by have := hl (j + 1) (by simp; omega); simpa [Nat.add_assoc, Nat.add_comm 1 j] using this) (by simp only [List.length_cons] at hk; omega) (inv.set hr' hkn) hB' hK)

theorem region_tail {id : Nat} {Q : Exit → Act → World → Prop} {a : Act} {w : World} {l : List Oper} (n : Nat) (hm : P.follows .mixedOrders = true) (hB : Region.lexTailB .any l.toArray n = true) (hC : C { w with drawn := w.drawn + 1 })
    (h : wpQuiet P l.toArray C (fun a' => ∀ w', C w' → wpList P l.toArray Q (l.drop n) a' w') (l.take n) a) : (Code.region id l.toArray true).wp P Q a w := by
  simp only [Region.lexTailB, Bool.and_eq_true, decide_eq_true_eq] at hB
  obtain ⟨⟨⟨⟨hsel, hn⟩, hs⟩, hc⟩, hlex⟩ := hB
  have hn' : n < l.length := by simpa using hn
  have htl : (l.take n).length = n := by simp; omega
  have hdl : (l.drop n).length = l.toArray.size - n := by simp
  have inv0 : HeadInv .any l.toArray n (Array.replicate l.toArray.size false) :=
    ⟨by simp, fun j oj _ hl => (by rw [getD_replicate_false] at hl; cases hl), fun t _ ht => getD_in (by simpa using ht) (getD_replicate_false _ _)⟩
  have H := head_lex (md := .any) (g := l.toArray.size - n) hsel hs hc hn (l.take n) 0 _ a (fun j hj => by
    have hj' : j < n := by rw [htl] at hj; exact hj
    simp [hj']) (by simpa using htl) inv0 (by rw [htl]; exact hlex) h
  refine wp_region_any hm ?_
  have := any_of_head (Q' := Q) (g := l.toArray.size - n) (fun listed a' w' hw' hL => by
    have := wpAny_of_seq (md := .any) (Q' := Q) (l.drop n) n listed a' w' (fun j => by simp [List.getElem?_drop]) (by rw [hdl]; exact hL.1) (hL.2 w' hw')
    rwa [hdl] at this) _ _ _ _ hC H
  rw [htl, show n + (l.toArray.size - n) = l.toArray.size by omega] at this
  exact this

/-- .. at the worlds that have grown out of one -/
theorem region_below_tail {id : Nat} {Q : Exit → Act → World → Prop} {a : Act} {w : World} {l : List Oper} (n : Nat) (hm : P.follows .mixedOrders = true) (hB : Region.lexTailB .any l.toArray n = true)
    (h : wpQuiet P l.toArray (fun w' => ∃ p : Regrown, w' = grow (redrawn w p.d) p.os) (fun a' => ∀ w', (∃ p : Regrown, w' = grow (redrawn w p.d) p.os) → wpList P l.toArray Q (l.drop n) a' w') (l.take n) a) : (Code.region id l.toArray true).wp P Q a w :=
  region_tail (C := fun w' => ∃ p : Regrown, w' = grow (redrawn w p.d) p.os) n hm hB ⟨⟨w.drawn + 1, #[]⟩, by rw [grow_empty]; rfl⟩ (by simpa using h)
end
end Qt
end Go.Proofs.YtojdfdlbdpdlkaaGreatDoor

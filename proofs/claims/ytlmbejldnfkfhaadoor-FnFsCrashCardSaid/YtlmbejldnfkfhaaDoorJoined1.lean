/- The walks of the specification's drawn texts. The walk of the specification's drawn file name: one of four texts. The walk of the specification's drawn edge number: one of fourteen. -/
import Derived.Test.YtlmbejldnfkfhaaDoorDraws
import Derived.Test.YtlmbejldnfkfhaaDoorRows8
import Derived.Test.YtlmbejldnfkfhaaDoorCopy8
import Derived.Test.YtlmbejldnfkfhaaDoorJoined7
namespace Go.Proofs.YtlmbejldnfkfhaaDoor
open Go.RowKit
set_option linter.unusedVariables false
set_option linter.unusedSimpArgs false
theorem Dk.gtrans {w a b : World} {S : Nat} {r : Option Nat} (h : w.grownBy a (some S)) (k : a.grownBy b r) (hr : ∀ i, r = some i → w.heap.size ≤ i ∨ i = S) : w.grownBy b (some S) := by
  refine ⟨k.os.trans h.os, k.tape.trans h.tape, k.output.trans h.output, Nat.le_trans h.size k.size, fun i hi hne => ?_⟩
  refine (k.block i (Nat.lt_of_lt_of_le hi h.size) (fun e => ?_)).trans (h.block i hi hne)
  rcases hr i e.symm with h1 | h1
  · omega
  · exact hne (by rw [h1])

set_option maxHeartbeats 4000000 in
theorem drawBytes_any (B S : Nat) (n : Int) (w : World) (hs : Dk.Src B w S) (hn : n ≤ 100000) :
    Calls Tryd.prog 87 #[.pointer (some ⟨S, 0, none⟩), .int .i64 n] w fun e w' => (∃ t : ByteArray, e = .returned (.string t) ∧ (t.size : Int) ≤ max n 0) ∧ Dk.Src B w' S ∧ w.grownBy w' (some S) := by
  obtain ⟨i0, hi, hz0, hz1, hz2⟩ := info_parts Tryd.infoU8
  obtain ⟨hBS, hSw⟩ := hs.lt
  have HS := Fk.hide hs
  clear hs
  have H0 : Hid (Dk.Src B (w.alloc (.cells #[] 5)) S) := HS.out.below ((Below.refl _ _).alloc (Nat.le_refl _) _)
  have G0 : Hid (w.grownBy (w.alloc (.cells #[] 5)) (some S)) := Fk.grownBy_below (some S) ((Below.refl _ _).alloc (Nat.le_refl _) _)
  go_enter Tryd.func87, Tryd.ntmps87
  go_wp2_with fail
  go_loopw [5, 6] (fun l i wr => ∃ xs : List Int, i = .int .i64 (xs.length : Int) ∧ (xs.length : Int) ≤ max n 0 ∧ Hid (wr.ownsRow w.heap.size 5 1 l xs.length (xs.map (Value.int .u8))) ∧ Hid (Dk.Src B wr S) ∧ Hid (w.grownBy wr (some S))) (fun _ i _ => (n - intOf i).toNat)
  case atStart => exact ⟨[], rfl, by simp; omega, own8_new _ _, H0.out, G0.out⟩
  case round =>
    obtain ⟨xs, rfl, hx, HR, HS1, HG⟩ := hrel
    obtain ⟨m, hm⟩ : ∃ m, m = xs.length := ⟨_, rfl⟩
    rw [← hm] at hx HR ⊢
    have HM := Fk.hide hm
    clear hm
    by_cases hlt : (m : Int) < n
    · go_wp2_with fail
      refine (drawN_any B S 256 _ HS1.out (by decide)).mono ?_
      rintro e w1 ⟨⟨r, rfl, hr0, hr1, _⟩, s1, g1⟩
      have hr2 := hr1 (by decide)
      have hown := World.ownsRow.kept HR.out g1 (by
        cases hv : Value.ownBlock u5 with
        | none => exact .inl rfl
        | some j => exact .inr (fun e => by have h1 := (World.ownsRow.lt HR.out j hv).1; have h2 : j = S := Option.some.inj e; omega))
      have hz1 : w.heap.size ≤ w1.heap.size := Nat.le_trans HG.out.size g1.size
      have GW1 := Fk.hide (Fk.grownBy_trans HG.out g1)
      have S1 := Fk.hide s1
      clear s1 g1 hr1
      go_wp2_with (at_builtin; refine wpList_append_own _ rfl _ _ 22 rfl w.heap.size 5 i0 (.int .u8 0) 1 1 Tryd.underlying22 hi hz0 (by assumption) hz2 rfl (by decide) _ _ _ rfl (hown.alloc _) ⟨w1.heap.size, 0, none⟩ 1 1 [.int .u8 r] rfl rfl ?c1 ?c2 ?c3 ?c4 ?c5 ?_)
      try (case c1 => exact cell_one_new _ _ _)
      case c2 => first | rfl | (intro u hu; simp at hu; subst hu; rfl)
      case c3 => unfold maxLen; omega
      case c4 => omega
      case c5 => simp; omega
      · intro v' w2 hown' hgrow _
        have HO : Hid (w2.ownsRow w.heap.size 5 1 v' (xs ++ [r]).length ((xs ++ [r]).map (Value.int .u8))) := by
          show w2.ownsRow _ _ _ _ _ _
          have e : (xs ++ [r]).length = m + 1 := by rw [List.length_append, ← HM.out]; rfl
          rw [e]
          simpa using hown'
        have bA : Below w1.heap.size w1 (w1.alloc (.cells #[.int .u8 r] 5)) := (Below.refl _ _).alloc (Nat.le_refl _) _
        have hrow : ∀ i, u5.ownBlock = some i → w.heap.size ≤ i := fun i h => (World.ownsRow.lt HR.out i h).1
        have S2 := Fk.hide ((S1.out.below bA).far hgrow (fun h => by have := hrow S h.symm; omega) (fun b hb h => by have := hrow b h.symm; omega))
        have G2 := Fk.hide (Dk.gtrans (Fk.grownBy_trans GW1.out (Fk.grownBy_below (some S) bA)) hgrow (fun i h => .inl (hrow i h)))
        have HL : Hid ((xs ++ [r]).length = m + 1) := by show _ = _; rw [List.length_append, ← HM.out]; rfl
        clear hown' hgrow hown bA hrow
        go_wp2
        go_roundw
        case rel => exact ⟨xs ++ [r], by rw [HL.out]; go_num, by rw [HL.out]; omega, HO, S2.out, G2.out⟩
        case measure => simp [intOf]; omega
    · have ho := HR.out
      have ht := own8_text (P := Tryd.prog) ho 22 9 Tryd.underlying22 Tryd.underlying5 Tryd.underlying9
      have HSZ : Hid (((strOfNums xs).size : Int) ≤ max n 0) := by
        show _ ≤ _
        have e : (strOfNums xs).size = m := by rw [HM.out]; show (strOfNums xs).data.size = _; simp [strOfNums]
        rw [e]; exact hx
      clear ho
      go_wp2
      go_ret
      exact ⟨⟨_, rfl, HSZ.out⟩, HS1.out, HG.out⟩
end Go.Proofs.YtlmbejldnfkfhaaDoor

namespace Go.Proofs.YtlmbejldnfkfhaaDoor
open Go.RowKit
set_option linter.unusedVariables false
set_option linter.unusedSimpArgs false
def Dk.names : List ByteArray := [⟨#[97]⟩, ⟨#[98]⟩, ⟨#[108, 111, 103]⟩, ⟨#[115, 48, 48, 48, 48, 48, 48]⟩]

set_option maxHeartbeats 4000000 in
theorem drawName_any (B S : Nat) (w : World) (hs : Dk.Src B w S) :
    Calls Tryd.prog 123 #[.pointer (some ⟨S, 0, none⟩)] w fun e w' => (∃ t, e = .returned (.string t) ∧ t ∈ Dk.names) ∧ Dk.Src B w' S ∧ w.grownBy w' (some S) := by
  obtain ⟨hBS, hSw⟩ := hs.lt
  have HS := Fk.hide hs
  clear hs
  go_enter Tryd.func123, Tryd.ntmps123
  go_wp2_with fail
  have bA : Below w.heap.size w (w.alloc (.cells #[.string ⟨#[97]⟩, .string ⟨#[98]⟩, .string ⟨#[108, 111, 103]⟩, .string ⟨#[115, 48, 48, 48, 48, 48, 48]⟩] 9)) := (Below.refl _ _).alloc (Nat.le_refl _) _
  have HG := Fk.hide (Fk.grownBy_below (some S) bA)
  have hT : ∀ i, i < 4 → (w.alloc (.cells #[.string ⟨#[97]⟩, .string ⟨#[98]⟩, .string ⟨#[108, 111, 103]⟩, .string ⟨#[115, 48, 48, 48, 48, 48, 48]⟩] 9)).cell? ⟨w.heap.size, i, none⟩ = some (.string (Dk.names.getD i ByteArray.empty)) := by
    intro i hi
    rw [Fk.cellTop _ _ _ _ _ rfl]
    match i, hi with
    | 0, _ => rfl
    | 1, _ => rfl
    | 2, _ => rfl
    | 3, _ => rfl
  refine (drawPick_any B S w.heap.size 4 4 Dk.names _ (HS.out.below bA) (by omega) rfl (by decide) (by decide) hT).mono ?_
  rintro e w1 ⟨⟨t, rfl, ht⟩, h1, h2⟩
  have HT := Fk.hide ht
  have H1 := Fk.hide h1
  have H2 := Fk.hide (Fk.grownBy_trans HG.out h2)
  clear ht h1 h2 hT bA
  go_wp2_with fail
  go_ret
  exact ⟨⟨t, rfl, HT.out⟩, H1.out, H2.out⟩
end Go.Proofs.YtlmbejldnfkfhaaDoor

namespace Go.Proofs.YtlmbejldnfkfhaaDoor
open Go.RowKit
set_option linter.unusedVariables false
set_option linter.unusedSimpArgs false
def Dk.edges : List Int := [0, 1, -1, 2, 1000, 1001, 2147483648, 2147483647, -2147483648, 4611686018427387904, 9223372036854775807, -9223372036854775808, 1000000, 1000001]

set_option maxHeartbeats 4000000 in
theorem drawEdge_any (B S : Nat) (w : World) (hs : Dk.Src B w S) :
    Calls Tryd.prog 72 #[.pointer (some ⟨S, 0, none⟩)] w fun e w' => (∃ r : Int, e = .returned (.int .i64 r) ∧ r ∈ Dk.edges) ∧ Dk.Src B w' S ∧ w.grownBy w' (some S) := by
  obtain ⟨hBS, hSw⟩ := hs.lt
  have HS := Fk.hide hs
  clear hs
  go_enter Tryd.func72, Tryd.ntmps72
  go_wp2_with fail
  obtain ⟨W, hW⟩ : ∃ W, W = (w.alloc (.cells (Dk.edges.map (Value.int .i64)).toArray 2)) := ⟨_, rfl⟩
  have bA : Below w.heap.size w W := by rw [hW]; exact (Below.refl _ _).alloc (Nat.le_refl _) _
  have hsz : w.heap.size < W.heap.size := by rw [hW]; simp
  have hT : ∀ i, i < 14 → W.cell? ⟨w.heap.size, i, none⟩ = some (.int .i64 (Dk.edges.getD i 0)) := by
    intro i hi
    rw [hW, Fk.cellTop _ _ _ _ _ rfl]
    match i, hi with
    | 0, _ => rfl
    | 1, _ => rfl
    | 2, _ => rfl
    | 3, _ => rfl
    | 4, _ => rfl
    | 5, _ => rfl
    | 6, _ => rfl
    | 7, _ => rfl
    | 8, _ => rfl
    | 9, _ => rfl
    | 10, _ => rfl
    | 11, _ => rfl
    | 12, _ => rfl
    | 13, _ => rfl
  have hM : ∀ i, i < 14 → Dk.edges.getD i 0 ∈ Dk.edges := by
    intro i hi
    have hl : i < Dk.edges.length := hi
    rw [List.getD_eq_getElem?_getD, List.getElem?_eq_getElem hl]
    exact List.getElem_mem hl
  have HG := Fk.hide (Fk.grownBy_below (some S) bA)
  change Calls _ _ _ (w.alloc (.cells (Dk.edges.map (Value.int .i64)).toArray 2)) _
  rw [← hW]
  clear hW
  refine (drawN_any B S 14 W (HS.out.below bA) (by omega)).mono ?_
  rintro e w1 ⟨⟨r, rfl, hr0, hr1, _⟩, h1, h2⟩
  have hr := hr1 (by omega)
  obtain ⟨i, rfl⟩ : ∃ i : Nat, r = i := ⟨r.toNat, by omega⟩
  have hi : i < 14 := by omega
  have hc1 : w1.cell? ⟨w.heap.size, i, none⟩ = some (.int .i64 (Dk.edges.getD i 0)) := (h2.cell_far ⟨w.heap.size, i, none⟩ hsz (fun h => by have := Option.some.inj h; simp at this; omega)).trans (hT i hi)
  have HM := Fk.hide (hM i hi)
  obtain ⟨t, ht⟩ : ∃ t, t = Dk.edges.getD i 0 := ⟨_, rfl⟩
  rw [← ht] at hc1 HM
  have H1 := Fk.hide h1
  have H2 := Fk.hide (Fk.grownBy_trans HG.out h2)
  clear h1 h2 hT hM ht hr1 bA
  go_wp2_with fail
  go_ret
  exact ⟨⟨t, rfl, HM.out⟩, H1.out, H2.out⟩
end Go.Proofs.YtlmbejldnfkfhaaDoor

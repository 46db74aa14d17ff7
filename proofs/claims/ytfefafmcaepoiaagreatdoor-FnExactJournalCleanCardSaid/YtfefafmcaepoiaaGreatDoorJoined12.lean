/- Plain mathematics of a map's sorted names: the files of a map, taken in the order of its sorted names, rise by name and are just the map's. No function of the program here. The walks of the program's copyFile, toFs and outcome: the files of a map, in new memory, rising by name. -/
import Derived.Test.YtfefafmcaepoiaaGreatDoorFsSort
import Derived.Sort.KeysCollected
import Derived.Test.YtfefafmcaepoiaaGreatDoorQuietTail
import Derived.Test.YtfefafmcaepoiaaGreatDoorIter
import Derived.Test.YtfefafmcaepoiaaGreatDoorFsCopy
import Derived.Test.YtfefafmcaepoiaaGreatDoorCopyWalks
import Derived.Test.YtfefafmcaepoiaaGreatDoorFsBegin
import Derived.WalkKit
import Derived.WalkSpells
import Derived.WalkLawsBesides
namespace Go.Proofs.YtfefafmcaepoiaaGreatDoor
open Go.RowKit Go.Maps Go.Sort
namespace Fk
theorem lt_iff : ∀ a b : List UInt8, Op.bytesLess a b = true ↔ a < b
  | [], [] => by simp [Op.bytesLess]
  | [], _ :: _ => by simp [Op.bytesLess]
  | _ :: _, [] => by simp [Op.bytesLess]
  | x :: a, y :: b => by
    rw [List.cons_lt_cons_iff, ← lt_iff a b]
    simp [Op.bytesLess]
theorem le_iff (a b : List UInt8) : a ≤ b ↔ Op.bytesLess b a = false := by
  rw [← List.not_lt, ← lt_iff]
  simp
theorem sorted_rises (ss : List (List UInt8)) (hnd : ss.Nodup) : (ss.mergeSort (fun x y => decide (x ≤ y))).Pairwise (fun a b => Op.bytesLess a b = true) := by
  have hp := List.mergeSort_perm ss (fun x y => decide (x ≤ y))
  have h1 : (ss.mergeSort (fun x y => decide (x ≤ y))).Pairwise (fun a b => decide (a ≤ b) = true) := by
    refine List.pairwise_mergeSort (le := fun x y => decide (x ≤ y)) (fun a b c h1 h2 => ?_) (fun a b => ?_) ss
    · simp only [decide_eq_true_eq, le_iff] at h1 h2 ⊢
      cases h : Op.bytesLess c a with
      | false => rfl
      | true =>
        rcases lt_total a b with h3 | h3 | h3
        · rw [lt_trans c a b h h3] at h2; cases h2
        · subst h3; rw [h] at h2; cases h2
        · rw [h3] at h1; cases h1
    · simp only [Bool.or_eq_true, decide_eq_true_eq, le_iff]
      rcases lt_total a b with h3 | h3 | h3
      · left
        cases h : Op.bytesLess b a with
        | false => rfl
        | true => have := lt_trans a b a h3 h; rw [lt_irrefl] at this; cases this
      · subst h3; left; exact lt_irrefl a
      · right
        cases h : Op.bytesLess a b with
        | false => rfl
        | true => have := lt_trans a b a h h3; rw [lt_irrefl] at this; cases this
  refine (h1.and (hp.nodup_iff.2 hnd)).imp fun {a b} h => ?_
  have hle := (le_iff a b).1 (by simpa using h.1)
  rcases lt_total a b with h3 | h3 | h3
  · exact h3
  · exact absurd h3 h.2
  · rw [h3] at hle; cases hle

theorem Mp.key_of {D : DataW Unit} {M : List Fl} (h : Mp D M) {l : List UInt8} (hl : l ∈ strKeys D) : ∃ f ∈ M, f.1.data.toList = l := by
  obtain ⟨es, rfl⟩ := h.tidy.isMap
  obtain ⟨p, hp, rfl⟩ := List.mem_map.1 hl
  obtain ⟨n, hn⟩ := h.strs es rfl p hp
  have hh : Maps.has (.map es) (kl n) = true := by
    rw [has_eq, List.any_eq_true]
    exact ⟨p, hp, by rw [hn]; simp [kl, Lit.sameKey]⟩
  rw [h.has, List.any_eq_true] at hh
  obtain ⟨f, hf, e⟩ := hh
  refine ⟨f, hf, ?_⟩
  have e' : f.1 = n := by simpa using e
  rw [e', hn]
  rfl
theorem Mp.of_key {D : DataW Unit} {M : List Fl} (h : Mp D M) {f : Fl} (hf : f ∈ M) : f.1.data.toList ∈ strKeys D := by
  obtain ⟨es, rfl⟩ := h.tidy.isMap
  have hh : Maps.has (.map es) (kl f.1) = true := by
    rw [h.has, List.any_eq_true]
    exact ⟨f, hf, by simp⟩
  rw [has_eq, List.any_eq_true] at hh
  obtain ⟨p, hp, e⟩ := hh
  have e' := WideAt.sameKey_eq e
  exact List.mem_map.2 ⟨p, hp, by rw [e']; rfl⟩
theorem Mp.keys_nodup {D : DataW Unit} {M : List Fl} (h : Mp D M) : (strKeys D).Nodup := by
  obtain ⟨es, e, hp⟩ := h.tidy
  subst e
  show (es.map fun p => strOf p.1).Nodup
  rw [List.Nodup, List.pairwise_map]
  refine hp.imp_of_mem fun {p q} hpm hqm hne he => hne ?_
  obtain ⟨n, hn⟩ := h.strs es rfl p hpm
  obtain ⟨m, hm⟩ := h.strs es rfl q hqm
  rw [hn, hm] at he ⊢
  have : n.data.toList = m.data.toList := he
  rw [data_inj this]
theorem get_mem {M : List Fl} (h : M.Pairwise (fun f g => f.1 ≠ g.1)) {f : Fl} (hf : f ∈ M) : get M f.1 = some f := by
  induction M with
  | nil => cases hf
  | cons g r ih =>
    unfold get
    rcases List.mem_cons.1 hf with e | hf'
    · subst e; simp
    · have hne := (List.pairwise_cons.1 h).1 f hf'
      rw [List.find?_cons_of_neg (by simpa using hne)]
      exact ih (List.pairwise_cons.1 h).2 hf'
/-- the name of a list of bytes -/
def nameOf (l : List UInt8) : ByteArray := ⟨l.toArray⟩
theorem nameOf_data (l : List UInt8) : (nameOf l).data.toList = l := by simp [nameOf]
theorem nameOf_of {s : ByteArray} {l : List UInt8} (h : s.data.toList = l) : nameOf l = s := data_inj (by rw [nameOf_data, h])
/-- the files in the order of sorted names -/
def inOrder (M : List Fl) (T : List (List UInt8)) : List Fl := T.map (fun l => (get M (nameOf l)).getD none_)
theorem order_get {D : DataW Unit} {M : List Fl} (h : Mp D M) {l : List UInt8} (hl : l ∈ strKeys D) : ∃ f, get M (nameOf l) = some f ∧ f ∈ M ∧ f.1 = nameOf l := by
  obtain ⟨f, hf, e⟩ := h.key_of hl
  have e' := nameOf_of e
  exact ⟨f, by rw [e']; exact get_mem h.apart hf, hf, e'.symm⟩
theorem order_rises {D : DataW Unit} {M : List Fl} (h : Mp D M) {ss : List (List UInt8)} (hs : ss.Perm (strKeys D)) : Rises (inOrder M (ss.mergeSort (fun x y => decide (x ≤ y)))) := by
  have hp := (List.mergeSort_perm ss (fun x y => decide (x ≤ y))).trans hs
  have hsr := sorted_rises ss (hs.nodup_iff.2 h.keys_nodup)
  unfold Rises inOrder
  rw [List.pairwise_map]
  refine hsr.imp_of_mem fun {a b} ha hb hlt => ?_
  obtain ⟨f, hf, _, ef⟩ := order_get h (hp.mem_iff.1 ha)
  obtain ⟨g, hg, _, eg⟩ := order_get h (hp.mem_iff.1 hb)
  rw [hf, hg, Option.getD_some, Option.getD_some, ef, eg]
  unfold less
  rw [toList_data, toList_data, nameOf_data, nameOf_data]
  exact hlt
theorem order_mem {D : DataW Unit} {M : List Fl} (h : Mp D M) {ss : List (List UInt8)} (hs : ss.Perm (strKeys D)) (f : Fl) : f ∈ inOrder M (ss.mergeSort (fun x y => decide (x ≤ y))) ↔ f ∈ M := by
  have hp := (List.mergeSort_perm ss (fun x y => decide (x ≤ y))).trans hs
  unfold inOrder
  rw [List.mem_map]
  constructor
  · rintro ⟨l, hl, rfl⟩
    obtain ⟨g, hg, hm, _⟩ := order_get h (hp.mem_iff.1 hl)
    rw [hg, Option.getD_some]
    exact hm
  · intro hf
    refine ⟨f.1.data.toList, hp.mem_iff.2 (h.of_key hf), ?_⟩
    rw [nameOf_of rfl, get_mem h.apart hf, Option.getD_some]
end Fk
end Go.Proofs.YtfefafmcaepoiaaGreatDoor

namespace Go.Proofs.YtfefafmcaepoiaaGreatDoor
open Go.RowKit Go.Maps Go.Sort
open Go.WideMaps (keyOf_string_mk)
set_option linter.unusedVariables false

set_option maxHeartbeats 1000000 in
theorem copyFile_any (a b : ByteArray) (s : Int) (w : World) (ha : a.size ≤ 1073741824) (hb : b.size ≤ 1073741824) :
    Calls Tryz.prog 76 #[.agg #[.string a, .string b, .int .i64 s]] w fun e w' => e = .returned (.agg #[.string a, .string b, .int .i64 s]) ∧ Below w.heap.size w w' := by
  obtain ⟨W, hW⟩ : ∃ W, W = (w.alloc (.cells #[.string a, .string b, .int .i64 s] 73)).alloc (.cells #[.string { data := #[] }, .string { data := #[] }, .int .i64 0] 73) := ⟨_, rfl⟩
  have b0 : Below w.heap.size w W := by
    rw [hW]
    repeat (first | exact Below.refl _ _ | refine Below.alloc ?_ (by simp <;> omega) _)
  have hsz : W.heap.size = w.heap.size + 2 := by rw [hW]; simp
  have c0 : W.cell? ⟨w.heap.size, 0, none⟩ = some (.string a) := by rw [hW, Fk.cellOld _ _ _ _ (by simp), Fk.cellTop _ _ _ _ _ (by simp)]; rfl
  have c1 : W.cell? ⟨w.heap.size, 1, none⟩ = some (.string b) := by rw [hW, Fk.cellOld _ _ _ _ (by simp), Fk.cellTop _ _ _ _ _ (by simp)]; rfl
  have c2 : W.cell? ⟨w.heap.size, 2, none⟩ = some (.int .i64 s) := by rw [hW, Fk.cellOld _ _ _ _ (by simp), Fk.cellTop _ _ _ _ _ (by simp)]; rfl
  have d0 : W.cell? ⟨w.heap.size + 1, 0, none⟩ = some (.string { data := #[] }) := by rw [hW, Fk.cellTop _ _ _ _ _ (by simp)]; rfl
  have d1 : W.cell? ⟨w.heap.size + 1, 1, none⟩ = some (.string { data := #[] }) := by rw [hW, Fk.cellTop _ _ _ _ _ (by simp)]; rfl
  have d2 : W.cell? ⟨w.heap.size + 1, 2, none⟩ = some (.int .i64 0) := by rw [hW, Fk.cellTop _ _ _ _ _ (by simp)]; rfl
  have df : ∀ j, W.frozen? ⟨w.heap.size + 1, j, none⟩ = false := fun j => by rw [hW, Fk.frozTop _ _ _ _ _ (by simp)]
  have HW := Fk.hide hW
  clear hW
  have r0 := cell_regrown c0
  have r1 := cell_regrown c1
  have r2 := cell_regrown c2
  have fa : ∀ w', Calls Tryz.prog 84 #[.string a] w' fun e w'' => e = .returned (.string a) ∧ Below w'.heap.size w' w'' := fun w' => copyText_any a w' ha
  have fb : ∀ w', Calls Tryz.prog 84 #[.string b] w' fun e w'' => e = .returned (.string b) ∧ Below w'.heap.size w' w'' := fun w' => copyText_any b w' hb
  go_enter Tryz.func76, Tryz.ntmps76
  go_wp2_with fail
  rw [← HW.out]
  refine Qt.region_below_tail 9 (by kernel_rfl) (by kernel_rfl) ?_
  simp only [List.take_succ_cons, List.take_zero, List.drop_succ_cons, List.drop_zero]
  repeat (go_big_quiet_step (first | (go_at_call_of 84 a; exact Calls.regrown_of (fa _)) | (go_at_call_of 84 b; exact Calls.regrown_of (fb _))))
  refine wpQuiet_nil ?_
  intro w4 hw'
  obtain ⟨⟨dq, osq⟩, hw''⟩ := hw'
  have b4 : Below W.heap.size W w4 := by rw [hw'']; exact below_regrown W dq osq
  have b5 : Below w.heap.size w w4 := b0.trans (b4.mono b0.size)
  have e0 : w4.cell? ⟨w.heap.size + 1, 0, none⟩ = some (.string { data := #[] }) := (b4.cell (by show w.heap.size + 1 < _; omega)).trans d0
  have e1 : w4.cell? ⟨w.heap.size + 1, 1, none⟩ = some (.string { data := #[] }) := (b4.cell (by show w.heap.size + 1 < _; omega)).trans d1
  have e2 : w4.cell? ⟨w.heap.size + 1, 2, none⟩ = some (.int .i64 0) := (b4.cell (by show w.heap.size + 1 < _; omega)).trans d2
  have ef : ∀ j, w4.frozen? ⟨w.heap.size + 1, j, none⟩ = false := fun j => (b4.frozen (by show w.heap.size + 1 < _; omega)).trans (df j)
  clear hw'' b4 r0 r1 r2 fa fb c0 c1 c2 d0 d1 d2 df
  go_wp2_with fail
  refine bodyPost_ret (v := .agg #[.string a, .string b, .int .i64 s]) (by simp [results, Tryz.results76, go_sem, e0, e1, e2] <;> rfl) rfl ⟨rfl, ?_⟩
  exact ((b5.setCell (by simp) _).setCell (by simp) _).setCell (by simp) _

theorem Fk.view_one (w : World) (a b : ByteArray) (s : Int) (t : TypeId) : Fk.View (w.alloc (.cells #[.string a, .string b, .int .i64 s] t)) (.slice (some ⟨w.heap.size, 0, none⟩) 1 1) [(a, b, s)] := by
  refine ⟨_, 1, rfl, fun _ => ⟨w.heap.size, 0, rfl, by simp, ?_, ?_, ?_⟩⟩
  · intro i hi
    have e : i = 0 := by simpa using hi
    subst e
    rw [Fk.cellTop _ _ _ _ _ rfl]; rfl
  · intro i hi
    have e : i = 0 := by simpa using hi
    subst e
    rw [Fk.cellTop _ _ _ _ _ rfl]; rfl
  · intro i hi
    have e : i = 0 := by simpa using hi
    subst e
    rw [Fk.cellTop _ _ _ _ _ rfl]; rfl
theorem Fk.shut_some (a : Addr) (n c : Nat) : Fk.Shut (.slice (some a) n c) := fun x _ _ h hx => by
  simp only [Value.slice.injEq] at h
  rw [← h.1] at hx
  cases hx
theorem Fk.map_below {w w' : World} {P : Program} {k : TypeId} {b n : Nat} {D : DataW Unit} (h : w.ownsMap P k Fk.rdFile b n D) (hB : Below w.heap.size w w') : w'.ownsMap P k Fk.rdFile b n D := h.kept (Fk.grownBy_below none hB) (by simp)

set_option maxHeartbeats 2000000 in
theorem toFsMap_any (b n : Nat) (D : DataW Unit) (M : List Fk.Fl) (w : World) (hm : w.ownsMap Tryz.prog 9 Fk.rdFile b n D) (hM : Fk.Mp D M) (hl : M.length ≤ 1000) (hfit : ∀ f ∈ M, f.1.size ≤ 1073741824 ∧ f.2.1.size ≤ 1073741824) :
    Calls Tryz.prog 55 #[.map (some b)] w fun e w' => (∃ u R, e = .returned (.agg #[u]) ∧ Fk.Own w' w.heap.size 73 u R ∧ Fk.Rises R ∧ (∀ f, f ∈ R ↔ f ∈ M)) ∧ Below w.heap.size w w' := by
  obtain ⟨i0, hi, hz0, hz1, hz2⟩ := info_parts infoFile
  have hzs : (Value.agg #[.string ByteArray.empty, .string ByteArray.empty, .int .i64 0]).cells.size = 3 := by kernel_rfl
  obtain ⟨W0, hW0⟩ : ∃ W0, W0 = w.alloc (.cells #[.slice none 0 0] 28) := ⟨_, rfl⟩
  have b0 : Below w.heap.size w W0 := by rw [hW0]; exact (Below.refl _ _).alloc (Nat.le_refl _) _
  have hs0 : W0.heap.size = w.heap.size + 1 := by rw [hW0]; simp
  have c0 : W0.cell? ⟨w.heap.size, 0, none⟩ = some (.slice none 0 0) := by rw [hW0, Fk.cellTop _ _ _ _ _ rfl]; rfl
  have f0 : W0.frozen? ⟨w.heap.size, 0, none⟩ = false := by rw [hW0, Fk.frozTop _ _ _ _ _ rfl]
  have m0 := Fk.map_below hm b0
  have HW0 := Fk.hide hW0
  have HS0 := Fk.hide hs0
  clear hs0
  have hsz : Maps.size D ≤ maxLen := by rw [hM.size]; unfold maxLen; omega
  have hby : Maps.size D * 16 ≤ 140737488355328 := by rw [hM.size]; omega
  clear hW0
  go_enter Tryz.func55, Tryz.ntmps55
  go_wp2_with fail
  rw [← HW0.out]
  refine (callsIn_wide.1 (Tryz.maps_Keys_75 _ _)).mono ?_
  rintro e w1 ⟨rfl, rfl⟩
  go_wp2_with fail
  refine (callsIn_wide.1 (Tryz.slices_Sorted_keys_74_75 b n D Fk.rdFile W0 m0 hsz hby)).mono ?_
  rintro e w2 ⟨v, ss, rfl, hS, hrow, hnil, hb2⟩
  have hb1 : Below w.heap.size w (W0.alloc (.cells #[.map (some b)] 51)) := b0.alloc b0.size _
  have B2 := Fk.hide (hb1.trans (hb2.mono hb1.size))
  have c2 : w2.cell? ⟨w.heap.size, 0, none⟩ = some (.slice none 0 0) := (hb2.cell (by have := HS0.out; simp; omega)).trans (by rw [Fk.cellOld _ _ _ _ (by have := HS0.out; omega)]; exact c0)
  have f2 : w2.frozen? ⟨w.heap.size, 0, none⟩ = false := (hb2.frozen (by have := HS0.out; simp; omega)).trans (by rw [Fk.frozOld _ _ _ _ (by have := HS0.out; omega)]; exact f0)
  have hs2 : w.heap.size + 1 ≤ w2.heap.size := by have h1 := hb2.size; have h2 := HS0.out; simp at h1; omega
  have m2 := Fk.hide (Fk.map_below (m0.alloc _) hb2)
  obtain ⟨T, hT⟩ : ∃ T, T = ss.mergeSort (fun x y => decide (x ≤ y)) := ⟨_, rfl⟩
  have hTp : T.Perm (strKeys D) := by rw [hT]; exact (List.mergeSort_perm _ _).trans hS
  have hTl : T.length = ss.length := by rw [hT, List.length_mergeSort]
  rw [← hT, ← hTl] at hrow
  have HR1 := Fk.hide (Fk.order_rises hM hS)
  have HR2 := Fk.hide (Fk.order_mem hM hS)
  rw [← hT] at HR1 HR2
  have hT12 : T.length ≤ 1000 := by
    have h1 : T.length = (strKeys D).length := hTp.length_eq
    have h2 : (strKeys D).length = Maps.size D := by
      obtain ⟨es, rfl⟩ := hM.tidy.isMap
      simp [strKeys, Maps.size]
    rw [hM.size] at h2
    omega
  clear hT hnil hS hTl hb2 c0 f0 m0 hm
  obtain ⟨va, vc, rfl⟩ : ∃ va vc, v = .slice va T.length vc := by
    rcases hrow.2 with ⟨h1, h2⟩ | ⟨g, c, _, h1, _⟩
    · exact ⟨none, 0, by rw [h1, h2]⟩
    · exact ⟨_, _, h1⟩
  have HV : Hid (∀ k, k < T.length → ∃ g, va = some ⟨g, 0, none⟩ ∧ g < w2.heap.size ∧ w2.cell? ⟨g, k, none⟩ = some (.string (Fk.nameOf (T.getD k [])))) := by
    intro k hk
    rcases hrow.2 with ⟨h1, h2⟩ | ⟨g, c, cur, h1, _, hg, _⟩
    · omega
    · have h1' : va = some ⟨g, 0, none⟩ := by simp only [Value.slice.injEq] at h1; exact h1.1
      subst h1'
      refine ⟨g, rfl, (Array.getElem?_eq_some_iff.1 hg).1, ?_⟩
      rw [World.ownsRow.cellAt hrow k (by omega)]
      simp [List.getElem?_map, List.getElem?_eq_getElem hk, List.getD, Fk.nameOf]
  clear hrow
  go_wp2_with fail
  go_loopw [3, 10] (fun lv i wr => ∃ k : Nat, k ≤ T.length ∧ i = .int .i64 k ∧ Fk.Own wr w2.heap.size 73 lv (Fk.inOrder M (T.take k)) ∧ Below w2.heap.size w2 wr) (fun _ i _ => T.length - (intOf i).toNat)
  case atStart => exact ⟨0, Nat.zero_le _, rfl, Fk.own_nil _ _ _, Below.refl _ _⟩
  case round =>
    obtain ⟨k, hk, rfl, ho, bel⟩ := hrel
    by_cases hlt : k < T.length
    · obtain ⟨g, rfl, hg, hq⟩ := HV.out k hlt
      have q0 : wr.cell? ⟨g, k, none⟩ = some (.string (Fk.nameOf (T.getD k []))) := (bel.cell (by exact hg)).trans hq
      obtain ⟨f, hget, hfm, hfn⟩ := Fk.order_get hM (hTp.mem_iff.1 (show T.getD k [] ∈ T by simp [List.getD, List.getElem?_eq_getElem hlt]))
      have hf2 := hfit f hfm
      have HE : Hid (Fk.inOrder M (T.take (k + 1)) = Fk.inOrder M (T.take k) ++ [f]) := by
        show _ = _
        have e1 : (T.getD k []) = T[k] := by simp [List.getD, List.getElem?_eq_getElem hlt]
        rw [e1] at hget
        have e2 : T.take (k + 1) = T.take k ++ [T[k]] := by rw [List.take_add_one, List.getElem?_eq_getElem hlt]; rfl
        unfold Fk.inOrder
        rw [e2, List.map_append]
        simp [hget]
      obtain ⟨nmk, hnm⟩ : ∃ x, Hid (x = Fk.nameOf (T.getD k [])) := ⟨_, rfl⟩
      rw [← hnm.out] at q0 hget
      rw [← hnm.out] at hfn
      have hkey := keyOf_string_mk Tryz.underlying9 (s := nmk) (by rw [← hfn]; unfold maxLen; omega)
      have mr := Fk.map_below m2.out bel
      have HFN := Fk.hide hfn
      clear hfn hq hfm
      obtain ⟨fa, fb, fs⟩ := f
      go_wp2_with (at_lookup; refine Fk.wpList_look_bare _ rfl _ _ 51 rfl 9 73 (string_keyed Tryz.underlying9) Tryz.underlying51 (zeroFile _) b n D M nmk _ rfl mr hM hget _ rfl hkey ?_)
      refine (copyFile_any _ _ _ _ hf2.1 hf2.2).mono ?_
      rintro e w3 ⟨rfl, b3⟩
      have o3 := ho.below b3
      have bl3 : Below w2.heap.size w2 w3 := bel.trans (b3.mono bel.size)
      clear b3 ho q0 mr hkey bel
      have hvw := Fk.view_one w3 fa fb fs 73
      have o4 := o3.below ((Below.refl w3.heap.size w3).alloc (Nat.le_refl _) (.cells #[.string fa, .string fb, .int .i64 fs] 73))
      have hlen : (Fk.inOrder M (T.take k)).length + [(fa, fb, fs)].length ≤ 1000000000 := by simp [Fk.inOrder]; omega
      have hbb : w2.heap.size ≤ (w3.alloc (.cells #[.string fa, .string fb, .int .i64 fs] 73)).heap.size := by have := bl3.size; simp; omega
      go_wp2_with (at_builtin; refine Fk.wpList_append_view _ rfl _ _ 26 rfl w2.heap.size 73 i0 _ Tryz.underlying26 hi hz0 hz1 hz2 hzs _ _ (Fk.inOrder M (T.take k)) [(fa, fb, fs)] rfl rfl o4 hvw (Fk.shut_some _ _ _) hlen hbb ?_; intro u w5 o5 g5)
      have b5 : RowKit.Below w2.heap.size w2 w5 := (bl3.alloc bl3.size _).grown g5 hbb (fun j hj => (World.ownsRow.lt o4 j (by exact hj)).1)
      rw [← HE.out] at o5
      clear g5 hvw o4 o3 bl3
      go_wp2_with fail
      go_roundw
      case rel => exact ⟨k + 1, by omega, by go_num, o5, b5⟩
      case measure => simp [intOf]; omega
    · have e : k = T.length := by omega
      subst e
      rw [List.take_length] at ho
      have c3 : wr.cell? ⟨w.heap.size, 0, none⟩ = some (.slice none 0 0) := (bel.cell (by show w.heap.size < _; omega)).trans c2
      have f3 : wr.frozen? ⟨w.heap.size, 0, none⟩ = false := (bel.frozen (by show w.heap.size < _; omega)).trans f2
      have B3 := Fk.hide (B2.out.trans (bel.mono B2.out.size))
      obtain ⟨ua, uc, rfl⟩ := ho.slice
      have HO := Fk.hide ho
      clear ho bel
      go_wp2_with fail
      refine bodyPost_ret (v := .agg #[.slice ua (Fk.inOrder M T).length uc]) (by simp [results, Tryz.results55, go_sem, c3] <;> rfl) rfl ⟨⟨_, _, rfl, ?_, HR1.out, HR2.out⟩, ?_⟩
      · exact Fk.Own.mono (ownsRow_setCell_below HO.out (by show w.heap.size < _; omega) _) (by omega)
      · exact B3.out.setCell (by simp) _
end Go.Proofs.YtfefafmcaepoiaaGreatDoor

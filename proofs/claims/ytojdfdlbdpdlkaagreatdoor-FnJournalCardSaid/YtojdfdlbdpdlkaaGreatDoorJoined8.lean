/- The walks of the specification's beginnings: the place of a file, or why there is none. Plain mathematics of a map's sorted names: the files of a map, taken in the order of its sorted names, rise by name and are just the map's. No function of the program here. -/
import Derived.Test.YtojdfdlbdpdlkaaGreatDoorFsOpen
import Derived.Test.YtojdfdlbdpdlkaaGreatDoorFsRightSpec
import Derived.Test.YtojdfdlbdpdlkaaGreatDoorJoined7
import Derived.Sort.KeysCollected
namespace Go.Proofs.YtojdfdlbdpdlkaaGreatDoor
open Go.RowKit
set_option linter.unusedVariables false
namespace Fk
theorem get_at (L : List Fl) (name : ByteArray) (k : Nat) (hk : k < L.length) (h : nm L k = name) (hn : ∀ j, j < k → nm L j ≠ name) : get L name = some (nm L k, dt L k, sy L k) := by
  have e1 : (nm L k, dt L k, sy L k) = L[k] := by simp [nm, dt, sy, List.getD, List.getElem?_eq_getElem hk]
  rw [e1]
  unfold get
  rw [List.find?_eq_some_iff_getElem]
  have e2 : ∀ j (hj : j < L.length), (L[j]).1 = nm L j := fun j hj => by simp [nm, List.getD, List.getElem?_eq_getElem hj]
  refine ⟨by rw [e2 k hk]; simp [h], k, hk, rfl, fun j hj => ?_⟩
  rw [e2 j (by omega)]
  simp [hn j hj]
theorem get_no (L : List Fl) (name : ByteArray) (hn : ∀ j, j < L.length → nm L j ≠ name) : get L name = none := by
  unfold get
  rw [List.find?_eq_none]
  intro f hf
  obtain ⟨j, hj, e⟩ := List.getElem_of_mem hf
  have := hn j hj
  simp only [nm, List.getD, List.getElem?_eq_getElem hj, Option.getD_some, e] at this
  simpa using this
end Fk

set_option maxHeartbeats 2000000 in
theorem l02File_any (v : Value) (L : List Fk.Fl) (name : ByteArray) (w : World) (hv : Fk.View w v L) (hl : L.length ≤ maxLen) :
    Calls Tryz.prog 39 #[.agg #[v], .string name] w fun e w' =>
      ((∃ k : Nat, e = .returned (.int .i64 k) ∧ k < L.length ∧ Fk.nm L k = name ∧ ∀ j, j < k → Fk.nm L j ≠ name) ∨ (e = .returned (.int .i64 (-1)) ∧ ∀ j, j < L.length → Fk.nm L j ≠ name)) ∧ Below w.heap.size w w' := by
  unfold maxLen at hl
  have b0 : Below w.heap.size w (w.alloc (.cells #[v] 25)) := (Below.refl _ _).alloc (Nat.le_refl _) _
  have hv' := hv.below b0
  have hcell : (w.alloc (.cells #[v] 25)).cell? ⟨w.heap.size, 0, none⟩ = some v := by rw [Fk.cellTop _ _ _ _ _ rfl]; rfl
  obtain ⟨W, hW⟩ : ∃ W, W = w.alloc (.cells #[v] 25) := ⟨_, rfl⟩
  rw [← hW] at b0 hv' hcell
  have HW := Fk.hide hW
  clear hW hv
  obtain ⟨a, cap, rfl, hs⟩ := hv'
  go_enter Tryz.func39, Tryz.ntmps39
  go_wp2_with fail
  rw [← HW.out]
  go_loop [5] (fun i => ∃ k : Nat, k ≤ L.length ∧ i = .int .i64 k ∧ Hid (∀ j, j < k → Fk.nm L j ≠ name)) (fun i => L.length - (intOf i).toNat)
  case atStart => exact ⟨0, Nat.zero_le _, rfl, fun j hj => absurd hj (by omega)⟩
  case round =>
    obtain ⟨k, hk, rfl, HK⟩ := hrel
    by_cases hlt : k < L.length
    · obtain ⟨b, o, rfl, hb, hs1⟩ := hs (by omega)
      have q0 := hs1.c0 k hlt
      have he := Fk.list_eq (Fk.nm L k) name
      by_cases hn : Fk.nm L k = name
      · rw [decide_eq_true hn] at he
        have HN := Fk.hide hn
        clear hn
        go_wp2_with fail
        go_ret
        exact ⟨.inl ⟨k, rfl, hlt, HN.out, HK.out⟩, b0⟩
      · rw [decide_eq_false hn] at he
        have HN := Fk.hide hn
        clear hn
        go_wp2_with fail
        go_round
        case rel =>
          refine ⟨k + 1, by omega, by go_num, fun j hj => ?_⟩
          by_cases e : j = k
          · rw [e]; exact HN.out
          · exact HK.out j (by omega)
        case measure => simp [intOf]; omega
    · have e : k = L.length := by omega
      subst e
      go_wp2_with fail
      go_ret
      exact ⟨.inr ⟨rfl, HK.out⟩, b0⟩

set_option maxHeartbeats 2000000 in
theorem l02Begin_any (v : Value) (L : List Fk.Fl) (name : ByteArray) (w : World) (hv : Fk.View w v L) (hL : Fk.Fits L) (hl : L.length ≤ maxLen) (hn : name.size ≤ maxLen) :
    Calls Tryz.prog 61 #[.agg #[v], .string name] w fun e w' =>
      ((Fk.opn L [name] = 1 ∧ e = .returned (.tuple #[.int .i64 (-1), .int .i64 2])) ∨ (Fk.opn L [name] = 2 ∧ e = .returned (.tuple #[.int .i64 (-1), .int .i64 1])) ∨
       (Fk.opn L [name] = 0 ∧ Fk.get L name = none ∧ e = .returned (.tuple #[.int .i64 (-1), .int .i64 6])) ∨
       (Fk.opn L [name] = 0 ∧ ∃ k : Nat, k < L.length ∧ Fk.nm L k = name ∧ Fk.get L name = some (Fk.nm L k, Fk.dt L k, Fk.sy L k) ∧ e = .returned (.tuple #[.int .i64 k, .int .i64 0]))) ∧ Below w.heap.size w w' := by
  have hnl := hn
  unfold maxLen at hnl
  have b0 : Below w.heap.size w (w.alloc (.cells #[v] 25)) := (Below.refl _ _).alloc (Nat.le_refl _) _
  have hv' := hv.below b0
  have hcell : (w.alloc (.cells #[v] 25)).cell? ⟨w.heap.size, 0, none⟩ = some v := by rw [Fk.cellTop _ _ _ _ _ rfl]; rfl
  have hsz : w.heap.size < (w.alloc (.cells #[v] 25)).heap.size := by simp
  obtain ⟨W, hW⟩ : ∃ W, W = w.alloc (.cells #[v] 25) := ⟨_, rfl⟩
  rw [← hW] at b0 hv' hcell hsz
  have HW := Fk.hide hW
  clear hW hv
  have hvW := hv'
  obtain ⟨a, cap, rfl, hs⟩ := hv'
  clear hs
  by_cases h8 : (8000 : Int) < (name.size : Int)
  · have HF := Fk.hide (Fk.opn_long L [name] 0 (by simp) (by show 8000 < name.size; omega))
    go_enter Tryz.func61, Tryz.ntmps61
    go_wp2_with fail
    go_ret2
    exact ⟨.inl ⟨HF.out, rfl⟩, by rw [← HW.out]; exact b0⟩
  have H8 : Hid (∀ k, k < [name].length → ([name].getD k ByteArray.empty).size ≤ 8000) := fun k hk => by
    have e : k = 0 := by simpa using hk
    subst e
    show name.size ≤ 8000
    omega
  go_enter Tryz.func61, Tryz.ntmps61
  go_wp2_with fail
  rw [← HW.out]
  refine (fsRight_spec _ L _ hvW hL hl).mono ?_
  rintro e w1 ⟨rfl, b1⟩
  have B1 := Fk.hide (b0.trans (b1.mono b0.size))
  have hcell1 : w1.cell? ⟨w.heap.size, 0, none⟩ = some (.slice a L.length cap) := (b1.cell (by exact hsz)).trans hcell
  have hv1 := hvW.below b1
  clear b1 hcell
  cases hr : Fk.right L with
  | false =>
    have HF := Fk.hide (Fk.opn_ill L [name] H8.out hr)
    go_wp2_with fail
    go_ret2
    exact ⟨.inr (.inl ⟨HF.out, rfl⟩), B1.out⟩
  | true =>
    cases hnb : Nm.nameB name with
    | false =>
      have HF := Fk.hide (Fk.opn_name L [name] H8.out hr 0 (by simp) hnb)
      go_wp2_with (go_at_call 59; refine (specName_any _ _ hn).mono ?_; rintro e w' ⟨rfl, rfl⟩)
      go_ret2
      exact ⟨.inr (.inl ⟨HF.out, rfl⟩), B1.out⟩
    | true =>
      have HF := Fk.hide (Fk.opn_ok L [name] H8.out hr (fun k hk => by have e : k = 0 := by simpa using hk
                                                                       subst e
                                                                       exact hnb))
      go_wp2_with (go_at_call 59; refine (specName_any _ _ hn).mono ?_; rintro e w' ⟨rfl, rfl⟩)
      refine (l02File_any _ L name _ hv1 hl).mono ?_
      rintro e w2 ⟨h2, b2⟩
      have B2 := Fk.hide (B1.out.trans (b2.mono B1.out.size))
      clear b2 hv1 hcell1
      rcases h2 with ⟨k, rfl, hk, h3, h4⟩ | ⟨rfl, h3⟩
      · have HG := Fk.hide (Fk.get_at L name k hk h3 h4)
        have H3 := Fk.hide h3
        clear h3 h4
        go_wp2_with fail
        go_ret2
        exact ⟨.inr (.inr (.inr ⟨HF.out, k, hk, H3.out, HG.out, rfl⟩)), B2.out⟩
      · have HG := Fk.hide (Fk.get_no L name h3)
        clear h3
        go_wp2_with fail
        go_ret2
        exact ⟨.inr (.inr (.inl ⟨HF.out, HG.out, rfl⟩)), B2.out⟩
end Go.Proofs.YtojdfdlbdpdlkaaGreatDoor

namespace Go.Proofs.YtojdfdlbdpdlkaaGreatDoor
open Go.RowKit Go.Maps Go.Sort
namespace Fk
theorem lt_iff : ∀ a b : List UInt8, Op.bytesLess a b = true ↔ a < b
  | [], [] => by simp [Op.bytesLess]
  | [], _ :: _ => by simp [Op.bytesLess]
  | _ :: _, [] => by simp [Op.bytesLess]
  | x :: a, y :: b => by
    rw [List.cons_lt_cons_iff, ← lt_iff a b]
    simp [Op.bytesLess]
theorem le_iff (a b : List UInt8) : a ≤ b ↔ Op.bytesLess b a = false := by
  rw [← List.not_lt, ← lt_iff]
  simp
theorem sorted_rises (ss : List (List UInt8)) (hnd : ss.Nodup) : (ss.mergeSort (fun x y => decide (x ≤ y))).Pairwise (fun a b => Op.bytesLess a b = true) := by
  have hp := List.mergeSort_perm ss (fun x y => decide (x ≤ y))
  have h1 : (ss.mergeSort (fun x y => decide (x ≤ y))).Pairwise (fun a b => decide (a ≤ b) = true) := by
    refine List.pairwise_mergeSort (le := fun x y => decide (x ≤ y)) (fun a b c h1 h2 => ?_) (fun a b => ?_) ss
    · simp only [decide_eq_true_eq, le_iff] at h1 h2 ⊢
      cases h : Op.bytesLess c a with
      | false => rfl
      | true =>
        rcases lt_total a b with h3 | h3 | h3
        · rw [lt_trans c a b h h3] at h2; cases h2
        · subst h3; rw [h] at h2; cases h2
        · rw [h3] at h1; cases h1
    · simp only [Bool.or_eq_true, decide_eq_true_eq, le_iff]
      rcases lt_total a b with h3 | h3 | h3
      · left
        cases h : Op.bytesLess b a with
        | false => rfl
        | true => have := lt_trans a b a h3 h; rw [lt_irrefl] at this; cases this
      · subst h3; left; exact lt_irrefl a
      · right
        cases h : Op.bytesLess a b with
        | false => rfl
        | true => have := lt_trans a b a h h3; rw [lt_irrefl] at this; cases this
  refine (h1.and (hp.nodup_iff.2 hnd)).imp fun {a b} h => ?_
  have hle := (le_iff a b).1 (by simpa using h.1)
  rcases lt_total a b with h3 | h3 | h3
  · exact h3
  · exact absurd h3 h.2
  · rw [h3] at hle; cases hle

theorem Mp.key_of {D : DataW Unit} {M : List Fl} (h : Mp D M) {l : List UInt8} (hl : l ∈ strKeys D) : ∃ f ∈ M, f.1.data.toList = l := by
  obtain ⟨es, rfl⟩ := h.tidy.isMap
  obtain ⟨p, hp, rfl⟩ := List.mem_map.1 hl
  obtain ⟨n, hn⟩ := h.strs es rfl p hp
  have hh : Maps.has (.map es) (kl n) = true := by
    rw [has_eq, List.any_eq_true]
    exact ⟨p, hp, by rw [hn]; simp [kl, Lit.sameKey]⟩
  rw [h.has, List.any_eq_true] at hh
  obtain ⟨f, hf, e⟩ := hh
  refine ⟨f, hf, ?_⟩
  have e' : f.1 = n := by simpa using e
  rw [e', hn]
  rfl
theorem Mp.of_key {D : DataW Unit} {M : List Fl} (h : Mp D M) {f : Fl} (hf : f ∈ M) : f.1.data.toList ∈ strKeys D := by
  obtain ⟨es, rfl⟩ := h.tidy.isMap
  have hh : Maps.has (.map es) (kl f.1) = true := by
    rw [h.has, List.any_eq_true]
    exact ⟨f, hf, by simp⟩
  rw [has_eq, List.any_eq_true] at hh
  obtain ⟨p, hp, e⟩ := hh
  have e' := WideAt.sameKey_eq e
  exact List.mem_map.2 ⟨p, hp, by rw [e']; rfl⟩
theorem Mp.keys_nodup {D : DataW Unit} {M : List Fl} (h : Mp D M) : (strKeys D).Nodup := by
  obtain ⟨es, e, hp⟩ := h.tidy
  subst e
  show (es.map fun p => strOf p.1).Nodup
  rw [List.Nodup, List.pairwise_map]
  refine hp.imp_of_mem fun {p q} hpm hqm hne he => hne ?_
  obtain ⟨n, hn⟩ := h.strs es rfl p hpm
  obtain ⟨m, hm⟩ := h.strs es rfl q hqm
  rw [hn, hm] at he ⊢
  have : n.data.toList = m.data.toList := he
  rw [data_inj this]
theorem get_mem {M : List Fl} (h : M.Pairwise (fun f g => f.1 ≠ g.1)) {f : Fl} (hf : f ∈ M) : get M f.1 = some f := by
  induction M with
  | nil => cases hf
  | cons g r ih =>
    unfold get
    rcases List.mem_cons.1 hf with e | hf'
    · subst e; simp
    · have hne := (List.pairwise_cons.1 h).1 f hf'
      rw [List.find?_cons_of_neg (by simpa using hne)]
      exact ih (List.pairwise_cons.1 h).2 hf'
/-- the name of a list of bytes -/
def nameOf (l : List UInt8) : ByteArray := ⟨l.toArray⟩
theorem nameOf_data (l : List UInt8) : (nameOf l).data.toList = l := by simp [nameOf]
theorem nameOf_of {s : ByteArray} {l : List UInt8} (h : s.data.toList = l) : nameOf l = s := data_inj (by rw [nameOf_data, h])
/-- the files in the order of sorted names -/
def inOrder (M : List Fl) (T : List (List UInt8)) : List Fl := T.map (fun l => (get M (nameOf l)).getD none_)
theorem order_get {D : DataW Unit} {M : List Fl} (h : Mp D M) {l : List UInt8} (hl : l ∈ strKeys D) : ∃ f, get M (nameOf l) = some f ∧ f ∈ M ∧ f.1 = nameOf l := by
  obtain ⟨f, hf, e⟩ := h.key_of hl
  have e' := nameOf_of e
  exact ⟨f, by rw [e']; exact get_mem h.apart hf, hf, e'.symm⟩
theorem order_rises {D : DataW Unit} {M : List Fl} (h : Mp D M) {ss : List (List UInt8)} (hs : ss.Perm (strKeys D)) : Rises (inOrder M (ss.mergeSort (fun x y => decide (x ≤ y)))) := by
  have hp := (List.mergeSort_perm ss (fun x y => decide (x ≤ y))).trans hs
  have hsr := sorted_rises ss (hs.nodup_iff.2 h.keys_nodup)
  unfold Rises inOrder
  rw [List.pairwise_map]
  refine hsr.imp_of_mem fun {a b} ha hb hlt => ?_
  obtain ⟨f, hf, _, ef⟩ := order_get h (hp.mem_iff.1 ha)
  obtain ⟨g, hg, _, eg⟩ := order_get h (hp.mem_iff.1 hb)
  rw [hf, hg, Option.getD_some, Option.getD_some, ef, eg]
  unfold less
  rw [toList_data, toList_data, nameOf_data, nameOf_data]
  exact hlt
theorem order_mem {D : DataW Unit} {M : List Fl} (h : Mp D M) {ss : List (List UInt8)} (hs : ss.Perm (strKeys D)) (f : Fl) : f ∈ inOrder M (ss.mergeSort (fun x y => decide (x ≤ y))) ↔ f ∈ M := by
  have hp := (List.mergeSort_perm ss (fun x y => decide (x ≤ y))).trans hs
  unfold inOrder
  rw [List.mem_map]
  constructor
  · rintro ⟨l, hl, rfl⟩
    obtain ⟨g, hg, hm, _⟩ := order_get h (hp.mem_iff.1 hl)
    rw [hg, Option.getD_some]
    exact hm
  · intro hf
    refine ⟨f.1.data.toList, hp.mem_iff.2 (h.of_key hf), ?_⟩
    rw [nameOf_of rfl, get_mem h.apart hf, Option.getD_some]
end Fk
end Go.Proofs.YtojdfdlbdpdlkaaGreatDoor

/- Plain mathematics of a map's sorted names: the files of a map, taken in the order of its sorted names, rise by name and are just the map's. No function of the program here. -/
import Derived.Test.YtfefafmcaepoiaaDoorFsSort
import Derived.Sort.KeysCollected
namespace Go.Proofs.YtfefafmcaepoiaaDoor
open Go.RowKit Go.Maps Go.Sort
namespace Fk
theorem lt_iff : ∀ a b : List UInt8, Op.bytesLess a b = true ↔ a < b
  | [], [] => by simp [Op.bytesLess]
  | [], _ :: _ => by simp [Op.bytesLess]
  | _ :: _, [] => by simp [Op.bytesLess]
  | x :: a, y :: b => by
    rw [List.cons_lt_cons_iff, ← lt_iff a b]
    simp [Op.bytesLess]
theorem le_iff (a b : List UInt8) : a ≤ b ↔ Op.bytesLess b a = false := by
  rw [← List.not_lt, ← lt_iff]
  simp
theorem sorted_rises (ss : List (List UInt8)) (hnd : ss.Nodup) : (ss.mergeSort (fun x y => decide (x ≤ y))).Pairwise (fun a b => Op.bytesLess a b = true) := by
  have hp := List.mergeSort_perm ss (fun x y => decide (x ≤ y))
  have h1 : (ss.mergeSort (fun x y => decide (x ≤ y))).Pairwise (fun a b => decide (a ≤ b) = true) := by
    refine List.pairwise_mergeSort (le := fun x y => decide (x ≤ y)) (fun a b c h1 h2 => ?_) (fun a b => ?_) ss
    · simp only [decide_eq_true_eq, le_iff] at h1 h2 ⊢
      cases h : Op.bytesLess c a with
      | false => rfl
      | true =>
        rcases lt_total a b with h3 | h3 | h3
        · rw [lt_trans c a b h h3] at h2; cases h2
        · subst h3; rw [h] at h2; cases h2
        · rw [h3] at h1; cases h1
    · simp only [Bool.or_eq_true, decide_eq_true_eq, le_iff]
      rcases lt_total a b with h3 | h3 | h3
      · left
        cases h : Op.bytesLess b a with
        | false => rfl
        | true => have := lt_trans a b a h3 h; rw [lt_irrefl] at this; cases this
      · subst h3; left; exact lt_irrefl a
      · right
        cases h : Op.bytesLess a b with
        | false => rfl
        | true => have := lt_trans a b a h h3; rw [lt_irrefl] at this; cases this
  refine (h1.and (hp.nodup_iff.2 hnd)).imp fun {a b} h => ?_
  have hle := (le_iff a b).1 (by simpa using h.1)
  rcases lt_total a b with h3 | h3 | h3
  · exact h3
  · exact absurd h3 h.2
  · rw [h3] at hle; cases hle

theorem Mp.key_of {D : DataW Unit} {M : List Fl} (h : Mp D M) {l : List UInt8} (hl : l ∈ strKeys D) : ∃ f ∈ M, f.1.data.toList = l := by
  obtain ⟨es, rfl⟩ := h.tidy.isMap
  obtain ⟨p, hp, rfl⟩ := List.mem_map.1 hl
  obtain ⟨n, hn⟩ := h.strs es rfl p hp
  have hh : Maps.has (.map es) (kl n) = true := by
    rw [has_eq, List.any_eq_true]
    exact ⟨p, hp, by rw [hn]; simp [kl, Lit.sameKey]⟩
  rw [h.has, List.any_eq_true] at hh
  obtain ⟨f, hf, e⟩ := hh
  refine ⟨f, hf, ?_⟩
  have e' : f.1 = n := by simpa using e
  rw [e', hn]
  rfl
theorem Mp.of_key {D : DataW Unit} {M : List Fl} (h : Mp D M) {f : Fl} (hf : f ∈ M) : f.1.data.toList ∈ strKeys D := by
  obtain ⟨es, rfl⟩ := h.tidy.isMap
  have hh : Maps.has (.map es) (kl f.1) = true := by
    rw [h.has, List.any_eq_true]
    exact ⟨f, hf, by simp⟩
  rw [has_eq, List.any_eq_true] at hh
  obtain ⟨p, hp, e⟩ := hh
  have e' := WideAt.sameKey_eq e
  exact List.mem_map.2 ⟨p, hp, by rw [e']; rfl⟩
theorem Mp.keys_nodup {D : DataW Unit} {M : List Fl} (h : Mp D M) : (strKeys D).Nodup := by
  obtain ⟨es, e, hp⟩ := h.tidy
  subst e
  show (es.map fun p => strOf p.1).Nodup
  rw [List.Nodup, List.pairwise_map]
  refine hp.imp_of_mem fun {p q} hpm hqm hne he => hne ?_
  obtain ⟨n, hn⟩ := h.strs es rfl p hpm
  obtain ⟨m, hm⟩ := h.strs es rfl q hqm
  rw [hn, hm] at he ⊢
  have : n.data.toList = m.data.toList := he
  rw [data_inj this]
theorem get_mem {M : List Fl} (h : M.Pairwise (fun f g => f.1 ≠ g.1)) {f : Fl} (hf : f ∈ M) : get M f.1 = some f := by
  induction M with
  | nil => cases hf
  | cons g r ih =>
    unfold get
    rcases List.mem_cons.1 hf with e | hf'
    · subst e; simp
    · have hne := (List.pairwise_cons.1 h).1 f hf'
      rw [List.find?_cons_of_neg (by simpa using hne)]
      exact ih (List.pairwise_cons.1 h).2 hf'
/-- the name of a list of bytes -/
def nameOf (l : List UInt8) : ByteArray := ⟨l.toArray⟩
theorem nameOf_data (l : List UInt8) : (nameOf l).data.toList = l := by simp [nameOf]
theorem nameOf_of {s : ByteArray} {l : List UInt8} (h : s.data.toList = l) : nameOf l = s := data_inj (by rw [nameOf_data, h])
/-- the files in the order of sorted names -/
def inOrder (M : List Fl) (T : List (List UInt8)) : List Fl := T.map (fun l => (get M (nameOf l)).getD none_)
theorem order_get {D : DataW Unit} {M : List Fl} (h : Mp D M) {l : List UInt8} (hl : l ∈ strKeys D) : ∃ f, get M (nameOf l) = some f ∧ f ∈ M ∧ f.1 = nameOf l := by
  obtain ⟨f, hf, e⟩ := h.key_of hl
  have e' := nameOf_of e
  exact ⟨f, by rw [e']; exact get_mem h.apart hf, hf, e'.symm⟩
theorem order_rises {D : DataW Unit} {M : List Fl} (h : Mp D M) {ss : List (List UInt8)} (hs : ss.Perm (strKeys D)) : Rises (inOrder M (ss.mergeSort (fun x y => decide (x ≤ y)))) := by
  have hp := (List.mergeSort_perm ss (fun x y => decide (x ≤ y))).trans hs
  have hsr := sorted_rises ss (hs.nodup_iff.2 h.keys_nodup)
  unfold Rises inOrder
  rw [List.pairwise_map]
  refine hsr.imp_of_mem fun {a b} ha hb hlt => ?_
  obtain ⟨f, hf, _, ef⟩ := order_get h (hp.mem_iff.1 ha)
  obtain ⟨g, hg, _, eg⟩ := order_get h (hp.mem_iff.1 hb)
  rw [hf, hg, Option.getD_some, Option.getD_some, ef, eg]
  unfold less
  rw [toList_data, toList_data, nameOf_data, nameOf_data]
  exact hlt
theorem order_mem {D : DataW Unit} {M : List Fl} (h : Mp D M) {ss : List (List UInt8)} (hs : ss.Perm (strKeys D)) (f : Fl) : f ∈ inOrder M (ss.mergeSort (fun x y => decide (x ≤ y))) ↔ f ∈ M := by
  have hp := (List.mergeSort_perm ss (fun x y => decide (x ≤ y))).trans hs
  unfold inOrder
  rw [List.mem_map]
  constructor
  · rintro ⟨l, hl, rfl⟩
    obtain ⟨g, hg, hm, _⟩ := order_get h (hp.mem_iff.1 hl)
    rw [hg, Option.getD_some]
    exact hm
  · intro hf
    refine ⟨f.1.data.toList, hp.mem_iff.2 (h.of_key hf), ?_⟩
    rw [nameOf_of rfl, get_mem h.apart hf, Option.getD_some]
end Fk
end Go.Proofs.YtfefafmcaepoiaaDoor

/- Plain mathematics of the journal's file: its name, and what is left without it. Plain mathematics: what is read of a journal, in files or without any. -/
import Derived.Test.YtfefafmcaepoiaaGreatDoorFsOps
import Derived.Test.YtfefafmcaepoiaaGreatDoorJournalEnt
namespace Go.Proofs.YtfefafmcaepoiaaGreatDoor
set_option linter.unusedSimpArgs false
namespace Jn
/-- "journal" -/
def name : ByteArray := ⟨#[106, 111, 117, 114, 110, 97, 108]⟩
theorem name_right : Nm.nameB name = true := by decide
theorem name_size : name.size = 7 := rfl
theorem opn_nil (L : List Fk.Fl) : Fk.opn L [] = if Fk.right L = false then 2 else 0 := by
  unfold Fk.opn; simp
theorem opn_name (L : List Fk.Fl) : Fk.opn L [name] = Fk.opn L [] := by
  rw [opn_nil]; unfold Fk.opn; simp [name_right, name_size]
theorem opn_ill {L : List Fk.Fl} (h : Fk.right L = false) : Fk.opn L [] = 2 := by rw [opn_nil, if_pos h]
theorem opn_yes {L : List Fk.Fl} (h : Fk.right L = true) : Fk.opn L [] = 0 := by rw [opn_nil, if_neg (by simp [h])]
theorem opn_two {L : List Fk.Fl} (h : Fk.opn L [] ≠ 0) : Fk.opn L [] = 2 ∧ Fk.right L = false := by
  rw [opn_nil] at h ⊢
  cases hr : Fk.right L with
  | false => simp
  | true => simp [hr] at h
theorem without_none {L : List Fk.Fl} {n : ByteArray} (h : Fk.get L n = none) : Fk.without L n = L := by
  unfold Fk.without
  rw [List.filter_eq_self]
  intro f hf
  simpa using Fk.get_none h f hf
/-- what is left when the journal is dropped -/
def resDrop (L : List Fk.Fl) : Int ⊕ List Fk.Fl := .inr (Fk.without L name)
theorem drop_short (L : List Fk.Fl) : Fk.opn L [] = 0 → ∀ M, resDrop L = .inr M → M.length ≤ 1000 := by
  intro h M hM
  have h12 := (Fk.right_inv L (Fk.opn_right L [] h)).1
  have hw := Fk.without_len L name
  simp only [resDrop, Sum.inr.injEq] at hM
  rw [← hM]; omega
theorem drop_of_remove {L R : List Fk.Fl} {c : Int} {f : Fk.Fl} (hf : Fk.get L name = some f) (h : Fk.Ans (Fk.opn L [name]) (Fk.resRemove L name) R c) : Fk.Ans (Fk.opn L []) (resDrop L) R c := by
  rw [opn_name] at h
  have e : Fk.resRemove L name = resDrop L := by simp only [Fk.resRemove, hf, resDrop]
  rwa [e] at h
theorem drop_same {L : List Fk.Fl} (hr : Fk.right L = true) (hf : Fk.get L name = none) : Fk.Ans (Fk.opn L []) (resDrop L) L 0 :=
  .inr (.inr ⟨opn_yes hr, .inr ⟨L, by simp only [resDrop, without_none hf], rfl, Fk.right_rises L hr, fun _ => Iff.rfl⟩⟩)
theorem get_at {L : List Fk.Fl} {k : Nat} (hk : k < L.length) (h : Fk.nm L k = name) (hn : ∀ j, j < k → Fk.nm L j ≠ name) : Fk.get L name = some (Fk.nm L k, Fk.dt L k, Fk.sy L k) := Fk.get_at L name k hk h hn
theorem without_not {L : List Fk.Fl} {n : ByteArray} {g : Fk.Fl} (h : g ∈ Fk.without L n) : g.1 ≠ n := by
  have := (List.mem_filter.1 h).2
  simpa using this
theorem get_one {L : List Fk.Fl} {d : ByteArray} {s : Int} (R : List Fk.Fl) (hm : ∀ g, g ∈ R ↔ g ∈ Fk.without L name ++ [(name, d, s)]) : Fk.get R name = some (name, d, s) := by
  cases h : Fk.get R name with
  | none => exact absurd rfl (Fk.get_none h (name, d, s) ((hm _).2 (by simp)))
  | some f =>
    have hf := Fk.get_some h
    rcases List.mem_append.1 ((hm f).1 hf.1) with h1 | h1
    · exact absurd hf.2 (without_not h1)
    · simpa using h1
theorem sync_one {L : List Fk.Fl} {d : ByteArray} {s : Int} (R : List Fk.Fl) (hm : ∀ g, g ∈ R ↔ g ∈ Fk.without L name ++ [(name, d, s)]) :
    ∃ M, Fk.resSync R name = .inr M ∧ ∀ g, g ∈ M ↔ g ∈ Fk.without L name ++ [(name, d, (d.size : Int))] := by
  have hg := get_one R hm
  refine ⟨_, by unfold Fk.resSync; rw [hg], fun g => ?_⟩
  simp only [List.mem_append, List.mem_singleton]
  constructor
  · rintro (h | h)
    · rcases List.mem_append.1 ((hm g).1 (Fk.without_sub g h)) with h1 | h1
      · exact .inl h1
      · have : g.1 = name := by have := List.mem_singleton.1 h1; rw [this]
        exact absurd this (without_not h)
    · exact .inr h
  · rintro (h | h)
    · left
      exact List.mem_filter.2 ⟨(hm g).2 (List.mem_append_left _ h), by simpa using without_not h⟩
    · exact .inr h
end Jn
end Go.Proofs.YtfefafmcaepoiaaGreatDoor

namespace Go.Proofs.YtfefafmcaepoiaaGreatDoor
set_option linter.unusedSimpArgs false
namespace Jn
/-- the journal's bytes -/
def dat (L : List Fk.Fl) : ByteArray := match Fk.get L name with
  | none => ByteArray.empty
  | some f => f.2.1
def rdT (L : List Fk.Fl) : List ByteArray := if Fk.right L = true then (all (dat L)).map (·.1) else []
def rdA (L : List Fk.Fl) : Int := if Fk.right L = true then endOf (all (dat L)) else 0
def rdC (L : List Fk.Fl) : Int := if Fk.right L = true then 0 else 1
theorem dat_fit {L : List Fk.Fl} (h : Fk.right L = true) : (dat L).size ≤ 3000 := by
  unfold dat
  cases hg : Fk.get L name with
  | none => simp
  | some f => exact (Fk.right_fit h f (Fk.get_some hg).1).2
theorem rd_ill {L : List Fk.Fl} (h : Fk.right L = false) : rdT L = [] ∧ rdA L = 0 ∧ rdC L = 1 := by
  unfold rdT rdA rdC; simp [h]
theorem rd_ok {L : List Fk.Fl} (h : Fk.right L = true) : rdT L = (all (dat L)).map (·.1) ∧ rdA L = endOf (all (dat L)) ∧ rdC L = 0 := by
  unfold rdT rdA rdC; simp [h]
theorem rdT_len (L : List Fk.Fl) : (rdT L).length ≤ 1048576 := by
  unfold rdT
  split
  · rename_i h
    have h1 := dat_fit h
    have h2 := ents_len (s := dat L) ((dat L).size + 1) 0
    rw [List.length_map]
    show (ents (dat L) ((dat L).size + 1) 0).length ≤ _
    omega
  · simp
end Jn
end Go.Proofs.YtfefafmcaepoiaaGreatDoor

/- Plain mathematics of the journal: what is answered when a record is added to it, synced or not. -/
import Derived.Test.YtfefafmcaepoiaaGreatDoorJournalMath
import Derived.Test.YtfefafmcaepoiaaGreatDoorFsMore
import Derived.Test.YtfefafmcaepoiaaGreatDoorTextWalks
import Derived.Test.YtfefafmcaepoiaaGreatDoorSealWalks
namespace Go.Proofs.YtfefafmcaepoiaaGreatDoor
namespace Jn
/-- a text as a record -/
def record (t : ByteArray) : ByteArray := putText (sealed t)
theorem sealed_size (t : ByteArray) (h : t.size ≤ 300) : (sealed t).size ≤ 304 := by
  unfold sealed
  rw [if_pos (by omega), ByteArray.size_append, four_size]; omega
theorem record_size (t : ByteArray) (h : t.size ≤ 300) : (record t).size ≤ 400 := by
  have h1 := sealed_size t h
  have h2 := Pn.put_size ((sealed t).size : Int)
  unfold record putText
  rw [if_pos (by omega), ByteArray.size_append]
  omega
/-- why nothing is added: 1 the text is too long by far, 2 the files or the text are not right -/
def oAdd (L : List Fk.Fl) (t : ByteArray) : Nat := if 8000 < t.size then 1 else if Fk.right L = false then 2 else if 300 < t.size then 2 else 0
theorem oAdd_big {L : List Fk.Fl} {t : ByteArray} (h : 8000 < t.size) : oAdd L t = 1 := if_pos h
theorem oAdd_ill {L : List Fk.Fl} {t : ByteArray} (h : ¬ 8000 < t.size) (hr : Fk.right L = false) : oAdd L t = 2 := by unfold oAdd; rw [if_neg h, if_pos hr]
theorem oAdd_long {L : List Fk.Fl} {t : ByteArray} (h : ¬ 8000 < t.size) (hr : Fk.right L = true) (h3 : 300 < t.size) : oAdd L t = 2 := by unfold oAdd; rw [if_neg h, if_neg (by simp [hr]), if_pos h3]
theorem oAdd_ok {L : List Fk.Fl} {t : ByteArray} (hr : Fk.right L = true) (h3 : ¬ 300 < t.size) : oAdd L t = 0 := by unfold oAdd; rw [if_neg (by omega), if_neg (by simp [hr]), if_neg h3]
/-- what is answered, where a record can be thought of -/
def resAdd (L : List Fk.Fl) (t : ByteArray) (s : Bool) : Int ⊕ List Fk.Fl :=
  match Fk.resAppend L name (record t) with
  | .inl k => .inl k
  | .inr M => if s = true then Fk.resSync M name else .inr M
theorem opnA_ok {L : List Fk.Fl} {t : ByteArray} (hr : Fk.right L = true) (h3 : ¬ 300 < t.size) : Fk.opnA L name (record t) = 0 := by
  have h := record_size t (by omega)
  unfold Fk.opnA
  rw [if_neg (by omega), opn_name, opn_yes hr]
/-- what has been appended lies there just once -/
theorem append_mem {L M : List Fk.Fl} {t : ByteArray} (h : Fk.resAppend L name t = .inr M) : ∃ d s, M = Fk.without L name ++ [(name, d, s)] := by
  unfold Fk.resAppend at h
  split at h
  · split at h
    · cases h
    · split at h
      · cases h
      · exact ⟨_, _, (Sum.inr.inj h).symm⟩
  · rename_i f hf
    split at h
    · cases h
    · refine ⟨f.2.1 ++ t, f.2.2, ?_⟩
      rw [← Sum.inr.inj h, (Fk.get_some hf).2]
theorem without_not {L : List Fk.Fl} {n : ByteArray} {g : Fk.Fl} (h : g ∈ Fk.without L n) : g.1 ≠ n := by
  have := (List.mem_filter.1 h).2
  simpa using this
theorem get_one {L : List Fk.Fl} {d : ByteArray} {s : Int} (R : List Fk.Fl) (hm : ∀ g, g ∈ R ↔ g ∈ Fk.without L name ++ [(name, d, s)]) : Fk.get R name = some (name, d, s) := by
  cases h : Fk.get R name with
  | none => exact absurd rfl (Fk.get_none h (name, d, s) ((hm _).2 (by simp)))
  | some f =>
    have hf := Fk.get_some h
    rcases List.mem_append.1 ((hm f).1 hf.1) with h1 | h1
    · exact absurd hf.2 (without_not h1)
    · simpa using h1
theorem sync_one {L : List Fk.Fl} {d : ByteArray} {s : Int} (R : List Fk.Fl) (hm : ∀ g, g ∈ R ↔ g ∈ Fk.without L name ++ [(name, d, s)]) :
    ∃ M, Fk.resSync R name = .inr M ∧ ∀ g, g ∈ M ↔ g ∈ Fk.without L name ++ [(name, d, (d.size : Int))] := by
  have hg := get_one R hm
  refine ⟨_, by unfold Fk.resSync; rw [hg], fun g => ?_⟩
  simp only [List.mem_append, List.mem_singleton]
  constructor
  · rintro (h | h)
    · rcases List.mem_append.1 ((hm g).1 (Fk.without_sub g h)) with h1 | h1
      · exact .inl h1
      · have : g.1 = name := by have := List.mem_singleton.1 h1; rw [this]
        exact absurd this (without_not h)
    · exact .inr h
  · rintro (h | h)
    · left
      exact List.mem_filter.2 ⟨(hm g).2 (List.mem_append_left _ h), by simpa using without_not h⟩
    · exact .inr h
/-- an appended file, synced as it was answered, is what is asked -/
theorem add_sync {L R R' : List Fk.Fl} {t : ByteArray} {c' : Int} (hr : Fk.right L = true) (h3 : ¬ 300 < t.size) (h : Fk.Ans (Fk.opnA L name (record t)) (Fk.resAppend L name (record t)) R 0) (h' : Fk.Ans (Fk.opn R [name]) (Fk.resSync R name) R' c') :
    Fk.Ans (oAdd L t) (resAdd L t true) R' c' := by
  have hR := (Fk.append_right h).1 rfl
  rw [opn_name, opn_yes hR] at h'
  rw [opnA_ok hr h3] at h
  rw [oAdd_ok hr h3]
  rcases h with ⟨h0, _⟩ | ⟨h0, _⟩ | ⟨_, ⟨k, hk, _, hc⟩ | ⟨M, hM, _, h1, h2⟩⟩
  · cases h0
  · cases h0
  · exfalso
    unfold Fk.resAppend at hk
    subst hc
    split at hk
    · split at hk
      · cases hk
      · split at hk <;> cases hk
    · split at hk <;> cases hk
  · obtain ⟨d, s, rfl⟩ := append_mem hM
    obtain ⟨N, hN, hmN⟩ := sync_one R h2
    obtain ⟨N', hN', hmN'⟩ := sync_one (Fk.without L name ++ [(name, d, s)]) (fun _ => Iff.rfl)
    have e : resAdd L t true = .inr N' := by unfold resAdd; rw [hM]; simpa using hN'
    rcases h' with ⟨h0, _⟩ | ⟨h0, _⟩ | ⟨_, ⟨k, hk, _, hc⟩ | ⟨X, hX, hc, g1, g2⟩⟩
    · cases h0
    · cases h0
    · rw [hN] at hk; cases hk
    · rw [hN] at hX
      obtain rfl := Sum.inr.inj hX
      exact .inr (.inr ⟨rfl, .inr ⟨N', e, hc, g1, fun g => (g2 g).trans ((hmN g).trans (hmN' g).symm)⟩⟩)
/-- as it was appended, not synced -/
theorem add_plain {L R : List Fk.Fl} {t : ByteArray} {s : Bool} {c : Int} (hr : Fk.right L = true) (h3 : ¬ 300 < t.size) (hs : s = false ∨ c ≠ 0) (h : Fk.Ans (Fk.opnA L name (record t)) (Fk.resAppend L name (record t)) R c) :
    Fk.Ans (oAdd L t) (resAdd L t s) R c := by
  rw [opnA_ok hr h3] at h
  rw [oAdd_ok hr h3]
  rcases h with ⟨h0, _⟩ | ⟨h0, _⟩ | ⟨_, ⟨k, hk, hR, hc⟩ | ⟨M, hM, hc, h1, h2⟩⟩
  · cases h0
  · cases h0
  · exact .inr (.inr ⟨rfl, .inl ⟨k, by unfold resAdd; rw [hk], hR, hc⟩⟩)
  · rcases hs with rfl | hs
    · exact .inr (.inr ⟨rfl, .inr ⟨M, by unfold resAdd; rw [hM]; simp, hc, h1, h2⟩⟩)
    · exact absurd hc hs
theorem add_short (L : List Fk.Fl) (t : ByteArray) (s : Bool) : oAdd L t = 0 → ∀ M, resAdd L t s = .inr M → M.length ≤ 1000 := by
  intro h0 M hM
  have hr : Fk.right L = true := by
    cases hr : Fk.right L with
    | true => rfl
    | false =>
      unfold oAdd at h0
      rw [hr] at h0
      split at h0
      · cases h0
      · simp at h0
  have h12 := (Fk.right_inv L hr).1
  have hw := Fk.without_len L name
  unfold resAdd at hM
  split at hM
  · cases hM
  · rename_i N hN
    obtain ⟨d, x, rfl⟩ := append_mem hN
    cases s with
    | false =>
      simp at hM
      rw [← hM]; simp; omega
    | true =>
      simp only [if_true] at hM
      unfold Fk.resSync at hM
      rw [get_one _ (fun _ => Iff.rfl)] at hM
      have hw2 := Fk.without_len (Fk.without L name ++ [(name, d, x)]) name
      obtain rfl := Sum.inr.inj hM
      simp at hw2 ⊢
      omega
end Jn
end Go.Proofs.YtfefafmcaepoiaaGreatDoor

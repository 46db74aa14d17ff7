/- Plain mathematics of files: what the calls answer is right again. No function of the program here. Plain mathematics of the journal: what is left when it is cleaned. -/
import Derived.Test.YtfefafmcaepoiaaGreatDoorJoined7
import Derived.Test.YtfefafmcaepoiaaGreatDoorFsOps
import Derived.Test.YtfefafmcaepoiaaGreatDoorJoined6
namespace Go.Proofs.YtfefafmcaepoiaaGreatDoor
open Go.RowKit
namespace Fk
theorem mem_ok {L : List Fl} (h : right L = true) {f : Fl} (hf : f ∈ L) : fok f.1 f.2.1 f.2.2 = true := by
  obtain ⟨j, hj, e⟩ := List.getElem_of_mem hf
  have h2 := (right_inv L h).2 j hj
  simp only [step, Bool.and_eq_true] at h2
  have h4 : nm L j = f.1 ∧ dt L j = f.2.1 ∧ sy L j = f.2.2 := by simp [nm, dt, sy, List.getD, List.getElem?_eq_getElem hj, e]
  rw [h4.1, h4.2.1, h4.2.2] at h2
  exact h2.1
theorem right_of {R : List Fl} (h1 : Rises R) (h2 : R.length ≤ 12) (h3 : ∀ f ∈ R, fok f.1 f.2.1 f.2.2 = true) : right R = true := by
  refine right_yes R h2 (fun k hk => ?_)
  have e : ∀ j, (hj : j < R.length) → nm R j = R[j].1 ∧ dt R j = R[j].2.1 ∧ sy R j = R[j].2.2 := fun j hj => by simp [nm, dt, sy, List.getD, List.getElem?_eq_getElem hj]
  have hok := h3 R[k] (List.getElem_mem hk)
  rw [← (e k hk).1, ← (e k hk).2.1, ← (e k hk).2.2] at hok
  cases k with
  | zero => exact step_first R hok
  | succ k =>
    refine step_later R (k + 1) hok ?_
    have hp := List.pairwise_iff_getElem.1 h1 k (k + 1) (by omega) hk (by omega)
    rw [Nat.add_sub_cancel, (e k (by omega)).1, (e (k + 1) hk).1]
    exact hp
/-- files that a machine can hold, not too many -/
theorem right_fits {R : List Fl} (h : right R = true) : Fits R ∧ R.length ≤ 12 := by
  refine ⟨fun f hf => ?_, (right_inv R h).1⟩
  have h1 := right_fit h f hf
  have h2 := fok_inv (mem_ok h hf)
  unfold Fit1 maxLen
  refine ⟨by omega, by omega, by omega, by omega⟩
theorem ans_right {o : Nat} {res : Int ⊕ List Fl} {R : List Fl} {c : Int} (h : Ans o res R c) (hk : ∀ k, res = .inl k → k ≠ 0) (hM : o = 0 → ∀ M, res = .inr M → M.length ≤ 12 ∧ ∀ f ∈ M, fok f.1 f.2.1 f.2.2 = true) : (c = 0 → right R = true) ∧ (c ≠ 0 → R = []) := by
  rcases h with ⟨_, hR, hc⟩ | ⟨_, hR, hc⟩ | ⟨h0, ⟨k, e, hR, hc⟩ | ⟨M, e, hc, h1, h2⟩⟩
  · exact ⟨fun h => by omega, fun _ => hR⟩
  · exact ⟨fun h => by omega, fun _ => hR⟩
  · exact ⟨fun h => by have := hk k e; omega, fun _ => hR⟩
  · obtain ⟨h3, h4⟩ := hM h0 M e
    have h5 := len_of_subset h1 (fun g hg => (h2 g).1 hg)
    exact ⟨fun _ => right_of h1 (by omega) (fun f hf => h4 f ((h2 f).1 hf)), fun h => absurd hc h⟩
theorem ans_fits {R : List Fl} {c : Int} (h : (c = 0 → right R = true) ∧ (c ≠ 0 → R = [])) : Fits R ∧ R.length ≤ 12 := by
  by_cases hc : c = 0
  · exact right_fits (h.1 hc)
  · rw [h.2 hc]; exact ⟨fun f hf => absurd hf (by simp), by simp⟩
theorem without_lt {L : List Fl} {name : ByteArray} {f : Fl} (h : get L name = some f) : (without L name).length < L.length := by
  unfold without
  rw [List.length_filter_lt_length_iff_exists]
  exact ⟨f, (get_some h).1, by simp [(get_some h).2]⟩
theorem opn_name1 {L : List Fl} {a : ByteArray} (h : opn L [a] = 0) : Nm.nameB a = true := by
  unfold opn at h
  split at h
  · cases h
  · split at h
    · cases h
    · split at h
      · cases h
      · rename_i h3
        simpa using h3
theorem opn_name2 {L : List Fl} {a b : ByteArray} (h : opn L [a, b] = 0) : Nm.nameB a = true ∧ Nm.nameB b = true := by
  unfold opn at h
  split at h
  · cases h
  · split at h
    · cases h
    · split at h
      · cases h
      · rename_i h3
        simpa using h3
theorem append_right {L R : List Fl} {name text : ByteArray} {c : Int} (h : Ans (opnA L name text) (resAppend L name text) R c) : (c = 0 → right R = true) ∧ (c ≠ 0 → R = []) := by
  refine ans_right h (fun k e => ?_) (fun h0 M e => ?_)
  · unfold resAppend at e
    split at e
    · split at e
      · cases e; decide
      · split at e
        · cases e; decide
        · cases e
    · split at e
      · cases e; decide
      · cases e
  · have h1 : opn L [name] = 0 := by
      unfold opnA at h0
      split at h0
      · cases h0
      · exact h0
    have hr := opn_right L _ h1
    have h12 := (right_inv L hr).1
    have hw := without_len L name
    unfold resAppend at e
    split at e
    · split at e
      · cases e
      · split at e
        · cases e
        · rename_i g1 g2
          obtain rfl := Sum.inr.inj e
          refine ⟨by simp; omega, fun f hf => ?_⟩
          rcases List.mem_append.1 hf with hf | hf
          · exact mem_ok hr (without_sub f hf)
          · obtain rfl : f = (name, ByteArray.empty ++ text, 0) := by simpa using hf
            exact fok_yes (opn_name1 h1) (by simp; omega) ⟨Int.le_refl 0, by simp⟩
    · rename_i x hg
      have hlt := without_lt hg
      split at e
      · cases e
      · rename_i g1
        obtain rfl := Sum.inr.inj e
        refine ⟨by simp; omega, fun f hf => ?_⟩
        rcases List.mem_append.1 hf with hf | hf
        · exact mem_ok hr (without_sub f hf)
        · obtain rfl : f = (x.1, x.2.1 ++ text, x.2.2) := by simpa using hf
          have hx := fok_inv (mem_ok hr (get_some hg).1)
          refine fok_yes hx.1 (by simp [ByteArray.size_append]; omega) ⟨hx.2.2.1, ?_⟩
          have := hx.2.2.2
          simp [ByteArray.size_append]; omega
theorem sync_right {L R : List Fl} {name : ByteArray} {c : Int} (h : Ans (opn L [name]) (resSync L name) R c) : (c = 0 → right R = true) ∧ (c ≠ 0 → R = []) := by
  refine ans_right h (fun k e => ?_) (fun h1 M e => ?_)
  · unfold resSync at e
    split at e <;> cases e
    decide
  · have hr := opn_right L _ h1
    have h12 := (right_inv L hr).1
    unfold resSync at e
    split at e
    · cases e
    · rename_i x hg
      have hlt := without_lt hg
      obtain rfl := Sum.inr.inj e
      refine ⟨by simp; omega, fun f hf => ?_⟩
      rcases List.mem_append.1 hf with hf | hf
      · exact mem_ok hr (without_sub f hf)
      · obtain rfl : f = (x.1, x.2.1, (x.2.1.size : Int)) := by simpa using hf
        have hx := fok_inv (mem_ok hr (get_some hg).1)
        exact fok_yes hx.1 (by show ¬ (3000 : Int) < (x.2.1.size : Int); omega) ⟨by show (0 : Int) ≤ (x.2.1.size : Int); omega, Int.le_refl _⟩
theorem remove_right {L R : List Fl} {name : ByteArray} {c : Int} (h : Ans (opn L [name]) (resRemove L name) R c) : (c = 0 → right R = true) ∧ (c ≠ 0 → R = []) := by
  refine ans_right h (fun k e => ?_) (fun h1 M e => ?_)
  · unfold resRemove at e
    split at e <;> cases e
    decide
  · have hr := opn_right L _ h1
    have h12 := (right_inv L hr).1
    have hw := without_len L name
    unfold resRemove at e
    split at e
    · cases e
    · obtain rfl := Sum.inr.inj e
      exact ⟨by omega, fun f hf => mem_ok hr (without_sub f hf)⟩
theorem cut_right {L R : List Fl} {name : ByteArray} {sz c : Int} (h : Ans (opn L [name]) (resCut L name sz) R c) : (c = 0 → right R = true) ∧ (c ≠ 0 → R = []) := by
  refine ans_right h (fun k e => ?_) (fun h1 M e => ?_)
  · unfold resCut at e
    split at e
    · cases e; decide
    · split at e <;> cases e
      decide
  · have hr := opn_right L _ h1
    have h12 := (right_inv L hr).1
    unfold resCut at e
    split at e
    · cases e
    · rename_i x hg
      have hlt := without_lt hg
      split at e
      · rename_i hz
        obtain rfl := Sum.inr.inj e
        refine ⟨by simp; omega, fun f hf => ?_⟩
        rcases List.mem_append.1 hf with hf | hf
        · exact mem_ok hr (without_sub f hf)
        · obtain rfl : f = cutTo x sz := by simpa using hf
          have hx := fok_inv (mem_ok hr (get_some hg).1)
          have e1 : ((cutTo x sz).2.1.size : Int) = sz := by simp [cutTo, ByteArray.size_extract]; omega
          refine fok_yes hx.1 (by rw [e1]; omega) ?_
          rw [e1]
          simp only [cutTo]
          omega
      · cases e
theorem rename_right {L R : List Fl} {name to : ByteArray} {c : Int} (h : Ans (opn L [name, to]) (resRename L name to) R c) : (c = 0 → right R = true) ∧ (c ≠ 0 → R = []) := by
  refine ans_right h (fun k e => ?_) (fun h1 M e => ?_)
  · unfold resRename at e
    split at e <;> cases e
    decide
  · have hr := opn_right L _ h1
    have h12 := (right_inv L hr).1
    unfold resRename at e
    split at e
    · cases e
    · rename_i x hg
      have hlt := without_lt hg
      have hw := without_len (without L name) to
      obtain rfl := Sum.inr.inj e
      refine ⟨by simp; omega, fun f hf => ?_⟩
      rcases List.mem_append.1 hf with hf | hf
      · exact mem_ok hr (without_sub f (without_sub f hf))
      · obtain rfl : f = (to, x.2.1, x.2.2) := by simpa using hf
        have hx := fok_inv (mem_ok hr (get_some hg).1)
        exact fok_yes (opn_name2 h1).2 (by show ¬ (3000 : Int) < (x.2.1.size : Int); omega) hx.2.2
end Fk
end Go.Proofs.YtfefafmcaepoiaaGreatDoor

namespace Go.Proofs.YtfefafmcaepoiaaGreatDoor
set_option linter.unusedSimpArgs false
namespace Jn
theorem ends_bd (s : ByteArray) : 0 ≤ endOf (all s) ∧ endOf (all s) ≤ s.size := by
  unfold endOf
  cases h : (all s).getLast? with
  | none => simp
  | some x =>
    have hb := ents_bd (s := s) (s.size + 1) 0 x (List.mem_of_getLast? h)
    simp
    omega
/-- the journal's bytes up to the end of the last record -/
def kept (s : ByteArray) : ByteArray := s.extract 0 (endOf (all s)).toNat
def resClean (L : List Fk.Fl) : Int ⊕ List Fk.Fl :=
  match Fk.get L name with
  | none => .inr L
  | some f => .inr (Fk.without L name ++ [(name, kept f.2.1, ((kept f.2.1).size : Int))])
theorem clean_short (L : List Fk.Fl) : Fk.opn L [] = 0 → ∀ M, resClean L = .inr M → M.length ≤ 1000 := by
  intro h M hM
  have h12 := (Fk.right_inv L (Fk.opn_right L [] h)).1
  have hw := Fk.without_len L name
  unfold resClean at hM
  split at hM
  · obtain rfl := Sum.inr.inj hM; omega
  · obtain rfl := Sum.inr.inj hM
    simp; omega
theorem clean_same {L : List Fk.Fl} (hr : Fk.right L = true) (hf : Fk.get L name = none) : Fk.Ans (Fk.opn L []) (resClean L) L 0 :=
  .inr (.inr ⟨opn_yes hr, .inr ⟨L, by simp only [resClean, hf], rfl, Fk.right_rises L hr, fun _ => Iff.rfl⟩⟩)
theorem dat_some {L : List Fk.Fl} {f : Fk.Fl} (h : Fk.get L name = some f) : dat L = f.2.1 := by unfold dat; rw [h]
/-- what is cut off is cut off a file that is there -/
theorem cut_some {L : List Fk.Fl} {f : Fk.Fl} (h : Fk.get L name = some f) : Fk.resCut L name (endOf (all (dat L))) = .inr (Fk.without L name ++ [(name, kept f.2.1, min f.2.2 (endOf (all f.2.1)))]) := by
  have hb := ends_bd f.2.1
  have hn := (Fk.get_some h).2
  rw [dat_some h]
  simp only [Fk.resCut, h]
  rw [if_pos (by omega)]
  simp only [Fk.cutTo, kept, hn]
theorem clean_sync {L R R' : List Fk.Fl} {f : Fk.Fl} {c c' : Int} (hr : Fk.right L = true) (hf : Fk.get L name = some f) (h : Fk.Ans (Fk.opn L [name]) (Fk.resCut L name (endOf (all (dat L)))) R c) (h' : Fk.Ans (Fk.opn R [name]) (Fk.resSync R name) R' c') :
    Fk.Ans (Fk.opn L []) (resClean L) R' c' := by
  rw [cut_some hf, opn_name, opn_yes hr] at h
  rcases h with ⟨h0, _⟩ | ⟨h0, _⟩ | ⟨_, ⟨k, hk, _, _⟩ | ⟨M, hM, hc, h1, h2⟩⟩
  · cases h0
  · cases h0
  · cases hk
  · obtain rfl := Sum.inr.inj hM
    have hR : Fk.right R = true := by
      have h3 := Fk.cut_right (L := L) (R := R) (name := name) (sz := endOf (all (dat L))) (c := c) (by
        rw [cut_some hf, opn_name, opn_yes hr]; exact .inr (.inr ⟨rfl, .inr ⟨_, rfl, hc, h1, h2⟩⟩))
      exact h3.1 hc
    rw [opn_name, opn_yes hR] at h'
    obtain ⟨N, hN, hmN⟩ := sync_one R h2
    rcases h' with ⟨h0, _⟩ | ⟨h0, _⟩ | ⟨_, ⟨k, hk, _, _⟩ | ⟨X, hX, hc', g1, g2⟩⟩
    · cases h0
    · cases h0
    · rw [hN] at hk; cases hk
    · rw [hN] at hX
      obtain rfl := Sum.inr.inj hX
      exact .inr (.inr ⟨opn_yes hr, .inr ⟨_, by simp only [resClean, hf], hc', g1, fun g => (g2 g).trans (hmN g)⟩⟩)
end Jn
end Go.Proofs.YtfefafmcaepoiaaGreatDoor

/- Plain mathematics of files: what the calls answer is right again. No function of the program here. What the specification's drawn files keep from draw to draw: the files lie in a row of their own behind the variable's cell, the source stays a source. -/
import Derived.Test.YtojdfdlbdpdlkaaGreatDoorJoined10
import Derived.Test.YtojdfdlbdpdlkaaGreatDoorJoined11
import Derived.Test.YtojdfdlbdpdlkaaGreatDoorJoined9
import Derived.Test.YtojdfdlbdpdlkaaGreatDoorJoined4
namespace Go.Proofs.YtojdfdlbdpdlkaaGreatDoor
open Go.RowKit
namespace Fk
theorem mem_ok {L : List Fl} (h : right L = true) {f : Fl} (hf : f ∈ L) : fok f.1 f.2.1 f.2.2 = true := by
  obtain ⟨j, hj, e⟩ := List.getElem_of_mem hf
  have h2 := (right_inv L h).2 j hj
  simp only [step, Bool.and_eq_true] at h2
  have h4 : nm L j = f.1 ∧ dt L j = f.2.1 ∧ sy L j = f.2.2 := by simp [nm, dt, sy, List.getD, List.getElem?_eq_getElem hj, e]
  rw [h4.1, h4.2.1, h4.2.2] at h2
  exact h2.1
theorem right_of {R : List Fl} (h1 : Rises R) (h2 : R.length ≤ 12) (h3 : ∀ f ∈ R, fok f.1 f.2.1 f.2.2 = true) : right R = true := by
  refine right_yes R h2 (fun k hk => ?_)
  have e : ∀ j, (hj : j < R.length) → nm R j = R[j].1 ∧ dt R j = R[j].2.1 ∧ sy R j = R[j].2.2 := fun j hj => by simp [nm, dt, sy, List.getD, List.getElem?_eq_getElem hj]
  have hok := h3 R[k] (List.getElem_mem hk)
  rw [← (e k hk).1, ← (e k hk).2.1, ← (e k hk).2.2] at hok
  cases k with
  | zero => exact step_first R hok
  | succ k =>
    refine step_later R (k + 1) hok ?_
    have hp := List.pairwise_iff_getElem.1 h1 k (k + 1) (by omega) hk (by omega)
    rw [Nat.add_sub_cancel, (e k (by omega)).1, (e (k + 1) hk).1]
    exact hp
/-- files that a machine can hold, not too many -/
theorem right_fits {R : List Fl} (h : right R = true) : Fits R ∧ R.length ≤ 12 := by
  refine ⟨fun f hf => ?_, (right_inv R h).1⟩
  have h1 := right_fit h f hf
  have h2 := fok_inv (mem_ok h hf)
  unfold Fit1 maxLen
  refine ⟨by omega, by omega, by omega, by omega⟩
theorem ans_right {o : Nat} {res : Int ⊕ List Fl} {R : List Fl} {c : Int} (h : Ans o res R c) (hk : ∀ k, res = .inl k → k ≠ 0) (hM : o = 0 → ∀ M, res = .inr M → M.length ≤ 12 ∧ ∀ f ∈ M, fok f.1 f.2.1 f.2.2 = true) : (c = 0 → right R = true) ∧ (c ≠ 0 → R = []) := by
  rcases h with ⟨_, hR, hc⟩ | ⟨_, hR, hc⟩ | ⟨h0, ⟨k, e, hR, hc⟩ | ⟨M, e, hc, h1, h2⟩⟩
  · exact ⟨fun h => by omega, fun _ => hR⟩
  · exact ⟨fun h => by omega, fun _ => hR⟩
  · exact ⟨fun h => by have := hk k e; omega, fun _ => hR⟩
  · obtain ⟨h3, h4⟩ := hM h0 M e
    have h5 := len_of_subset h1 (fun g hg => (h2 g).1 hg)
    exact ⟨fun _ => right_of h1 (by omega) (fun f hf => h4 f ((h2 f).1 hf)), fun h => absurd hc h⟩
theorem ans_fits {R : List Fl} {c : Int} (h : (c = 0 → right R = true) ∧ (c ≠ 0 → R = [])) : Fits R ∧ R.length ≤ 12 := by
  by_cases hc : c = 0
  · exact right_fits (h.1 hc)
  · rw [h.2 hc]; exact ⟨fun f hf => absurd hf (by simp), by simp⟩
theorem without_lt {L : List Fl} {name : ByteArray} {f : Fl} (h : get L name = some f) : (without L name).length < L.length := by
  unfold without
  rw [List.length_filter_lt_length_iff_exists]
  exact ⟨f, (get_some h).1, by simp [(get_some h).2]⟩
theorem opn_name1 {L : List Fl} {a : ByteArray} (h : opn L [a] = 0) : Nm.nameB a = true := by
  unfold opn at h
  split at h
  · cases h
  · split at h
    · cases h
    · split at h
      · cases h
      · rename_i h3
        simpa using h3
theorem opn_name2 {L : List Fl} {a b : ByteArray} (h : opn L [a, b] = 0) : Nm.nameB a = true ∧ Nm.nameB b = true := by
  unfold opn at h
  split at h
  · cases h
  · split at h
    · cases h
    · split at h
      · cases h
      · rename_i h3
        simpa using h3
theorem append_right {L R : List Fl} {name text : ByteArray} {c : Int} (h : Ans (opnA L name text) (resAppend L name text) R c) : (c = 0 → right R = true) ∧ (c ≠ 0 → R = []) := by
  refine ans_right h (fun k e => ?_) (fun h0 M e => ?_)
  · unfold resAppend at e
    split at e
    · split at e
      · cases e; decide
      · split at e
        · cases e; decide
        · cases e
    · split at e
      · cases e; decide
      · cases e
  · have h1 : opn L [name] = 0 := by
      unfold opnA at h0
      split at h0
      · cases h0
      · exact h0
    have hr := opn_right L _ h1
    have h12 := (right_inv L hr).1
    have hw := without_len L name
    unfold resAppend at e
    split at e
    · split at e
      · cases e
      · split at e
        · cases e
        · rename_i g1 g2
          obtain rfl := Sum.inr.inj e
          refine ⟨by simp; omega, fun f hf => ?_⟩
          rcases List.mem_append.1 hf with hf | hf
          · exact mem_ok hr (without_sub f hf)
          · obtain rfl : f = (name, ByteArray.empty ++ text, 0) := by simpa using hf
            exact fok_yes (opn_name1 h1) (by simp; omega) ⟨Int.le_refl 0, by simp⟩
    · rename_i x hg
      have hlt := without_lt hg
      split at e
      · cases e
      · rename_i g1
        obtain rfl := Sum.inr.inj e
        refine ⟨by simp; omega, fun f hf => ?_⟩
        rcases List.mem_append.1 hf with hf | hf
        · exact mem_ok hr (without_sub f hf)
        · obtain rfl : f = (x.1, x.2.1 ++ text, x.2.2) := by simpa using hf
          have hx := fok_inv (mem_ok hr (get_some hg).1)
          refine fok_yes hx.1 (by simp [ByteArray.size_append]; omega) ⟨hx.2.2.1, ?_⟩
          have := hx.2.2.2
          simp [ByteArray.size_append]; omega
theorem sync_right {L R : List Fl} {name : ByteArray} {c : Int} (h : Ans (opn L [name]) (resSync L name) R c) : (c = 0 → right R = true) ∧ (c ≠ 0 → R = []) := by
  refine ans_right h (fun k e => ?_) (fun h1 M e => ?_)
  · unfold resSync at e
    split at e <;> cases e
    decide
  · have hr := opn_right L _ h1
    have h12 := (right_inv L hr).1
    unfold resSync at e
    split at e
    · cases e
    · rename_i x hg
      have hlt := without_lt hg
      obtain rfl := Sum.inr.inj e
      refine ⟨by simp; omega, fun f hf => ?_⟩
      rcases List.mem_append.1 hf with hf | hf
      · exact mem_ok hr (without_sub f hf)
      · obtain rfl : f = (x.1, x.2.1, (x.2.1.size : Int)) := by simpa using hf
        have hx := fok_inv (mem_ok hr (get_some hg).1)
        exact fok_yes hx.1 (by show ¬ (3000 : Int) < (x.2.1.size : Int); omega) ⟨by show (0 : Int) ≤ (x.2.1.size : Int); omega, Int.le_refl _⟩
theorem remove_right {L R : List Fl} {name : ByteArray} {c : Int} (h : Ans (opn L [name]) (resRemove L name) R c) : (c = 0 → right R = true) ∧ (c ≠ 0 → R = []) := by
  refine ans_right h (fun k e => ?_) (fun h1 M e => ?_)
  · unfold resRemove at e
    split at e <;> cases e
    decide
  · have hr := opn_right L _ h1
    have h12 := (right_inv L hr).1
    have hw := without_len L name
    unfold resRemove at e
    split at e
    · cases e
    · obtain rfl := Sum.inr.inj e
      exact ⟨by omega, fun f hf => mem_ok hr (without_sub f hf)⟩
theorem cut_right {L R : List Fl} {name : ByteArray} {sz c : Int} (h : Ans (opn L [name]) (resCut L name sz) R c) : (c = 0 → right R = true) ∧ (c ≠ 0 → R = []) := by
  refine ans_right h (fun k e => ?_) (fun h1 M e => ?_)
  · unfold resCut at e
    split at e
    · cases e; decide
    · split at e <;> cases e
      decide
  · have hr := opn_right L _ h1
    have h12 := (right_inv L hr).1
    unfold resCut at e
    split at e
    · cases e
    · rename_i x hg
      have hlt := without_lt hg
      split at e
      · rename_i hz
        obtain rfl := Sum.inr.inj e
        refine ⟨by simp; omega, fun f hf => ?_⟩
        rcases List.mem_append.1 hf with hf | hf
        · exact mem_ok hr (without_sub f hf)
        · obtain rfl : f = cutTo x sz := by simpa using hf
          have hx := fok_inv (mem_ok hr (get_some hg).1)
          have e1 : ((cutTo x sz).2.1.size : Int) = sz := by simp [cutTo, ByteArray.size_extract]; omega
          refine fok_yes hx.1 (by rw [e1]; omega) ?_
          rw [e1]
          simp only [cutTo]
          omega
      · cases e
theorem rename_right {L R : List Fl} {name to : ByteArray} {c : Int} (h : Ans (opn L [name, to]) (resRename L name to) R c) : (c = 0 → right R = true) ∧ (c ≠ 0 → R = []) := by
  refine ans_right h (fun k e => ?_) (fun h1 M e => ?_)
  · unfold resRename at e
    split at e <;> cases e
    decide
  · have hr := opn_right L _ h1
    have h12 := (right_inv L hr).1
    unfold resRename at e
    split at e
    · cases e
    · rename_i x hg
      have hlt := without_lt hg
      have hw := without_len (without L name) to
      obtain rfl := Sum.inr.inj e
      refine ⟨by simp; omega, fun f hf => ?_⟩
      rcases List.mem_append.1 hf with hf | hf
      · exact mem_ok hr (without_sub f (without_sub f hf))
      · obtain rfl : f = (to, x.2.1, x.2.2) := by simpa using hf
        have hx := fok_inv (mem_ok hr (get_some hg).1)
        exact fok_yes (opn_name2 h1).2 (by show ¬ (3000 : Int) < (x.2.1.size : Int); omega) hx.2.2
end Fk
end Go.Proofs.YtojdfdlbdpdlkaaGreatDoor

namespace Go.Proofs.YtojdfdlbdpdlkaaGreatDoor
open Go.RowKit
set_option linter.unusedVariables false
set_option linter.unusedSimpArgs false
namespace Dk
/-- files that a machine can hold, none of them great -/
def Fit (R : List Fk.Fl) : Prop := Fk.Fits R ∧ ∀ f ∈ R, f.1.size ≤ 100000 ∧ f.2.1.size ≤ 100000
theorem ans_fit {R : List Fk.Fl} {c : Int} (h : (c = 0 → Fk.right R = true) ∧ (c ≠ 0 → R = [])) : Fit R ∧ R.length ≤ 12 := by
  by_cases hc : c = 0
  · have h1 := Fk.right_fits (h.1 hc)
    refine ⟨⟨h1.1, fun f hf => ?_⟩, h1.2⟩
    have := Fk.right_fit (h.1 hc) f hf
    omega
  · rw [h.2 hc]; exact ⟨⟨fun f hf => absurd hf (by simp), fun f hf => absurd hf (by simp)⟩, by simp⟩
def Hold (B S : Nat) (w wr : World) (u : Value) (R : List Fk.Fl) : Prop :=
  wr.cell? ⟨w.heap.size + 1, 0, none⟩ = some u ∧ (∀ j, wr.frozen? ⟨w.heap.size + 1, j, none⟩ = false) ∧ Fk.Own wr (w.heap.size + 2) 75 u R ∧ Fit R ∧ R.length ≤ 1000 ∧ Src B wr S ∧ w.grownBy wr (some S) ∧ w.heap.size + 2 ≤ wr.heap.size ∧ (wr.cell? ⟨w.heap.size, 0, none⟩ = some (.slice none 0 0) ∧ ∀ j, wr.frozen? ⟨w.heap.size, j, none⟩ = false)
theorem Hold.draw {B S : Nat} {w wr w' : World} {u : Value} {R : List Fk.Fl} (h : Hold B S w wr u R) (hS : S < w.heap.size) (hs : Src B w' S) (hg : wr.grownBy w' (some S)) : Hold B S w w' u R := by
  obtain ⟨h1, h2, h3, h4, h5, h6, h7, h8, r1, r2⟩ := h
  refine ⟨(hg.cell_far ⟨w.heap.size + 1, 0, none⟩ (by show w.heap.size + 1 < _; omega) (fun h => by have h9 : w.heap.size + 1 = S := Option.some.inj h; omega)).trans h1, fun j => ?_, h3.kept hg (fun k hk => by have h9 := (World.ownsRow.lt h3 k hk).1; intro e; have h10 : k = S := Option.some.inj e; omega), h4, h5, hs, Fk.grownBy_trans h7 hg, Nat.le_trans h8 hg.size, (hg.cell_far ⟨w.heap.size, 0, none⟩ (by show w.heap.size < _; omega) (fun h => by have h9 : w.heap.size = S := Option.some.inj h; omega)).trans r1, fun j => (hg.frozen_far ⟨w.heap.size, j, none⟩ (by show w.heap.size < _; omega) (fun h => by have h9 : w.heap.size = S := Option.some.inj h; omega)).trans (r2 j)⟩
  rw [World.frozen?_of_block (w := wr) (hg.block (w.heap.size + 1) (by omega) (fun e => by have h9 : w.heap.size + 1 = S := Option.some.inj e; omega))]
  exact h2 j
theorem Hold.below {B S : Nat} {w wr w' : World} {u : Value} {R : List Fk.Fl} (h : Hold B S w wr u R) (hb : Below wr.heap.size wr w') : Hold B S w w' u R := by
  obtain ⟨h1, h2, h3, h4, h5, h6, h7, h8, r1, r2⟩ := h
  exact ⟨(hb.cell (by show w.heap.size + 1 < _; omega)).trans h1, fun j => (hb.frozen (by show w.heap.size + 1 < _; omega)).trans (h2 j), h3.below hb, h4, h5, h6.below hb, Fk.grownBy_trans h7 (Fk.grownBy_below (some S) hb), Nat.le_trans h8 hb.size, (hb.cell (by show w.heap.size < _; omega)).trans r1, fun j => (hb.frozen (by show w.heap.size < _; omega)).trans (r2 j)⟩
theorem Hold.set {B S : Nat} {w wr : World} {u : Value} {R : List Fk.Fl} (h : Hold B S w wr u R) (hS : S < w.heap.size) {v : Value} {M : List Fk.Fl} (ho : Fk.Own wr (w.heap.size + 2) 75 v M) (hf : Fit M) (hl : M.length ≤ 1000) : Hold B S w (wr.setCell ⟨w.heap.size + 1, 0, none⟩ v) v M := by
  obtain ⟨h1, h2, h3, h4, h5, h6, h7, h8, r1, r2⟩ := h
  have hg := Fk.grownBy_setCell wr (w.heap.size + 1) 0 v
  have hB := h6.lt
  refine ⟨World.cell?_setCell_same _ _ _ h1, fun j => ?_, ownsRow_setCell_below ho (by show w.heap.size + 1 < w.heap.size + 2; omega) _, hf, hl, h6.far hg (fun e => by have h9 : S = w.heap.size + 1 := Option.some.inj e; omega) (fun b hb e => by have h9 : b = w.heap.size + 1 := Option.some.inj e; omega), Dk.gtrans h7 hg (fun i e => .inl (by have h9 : w.heap.size + 1 = i := Option.some.inj e; omega)), by simpa [World.setCell] using h8, by rw [World.cell?_setCell_other _ _ _ _ (by simp)]; exact r1, fun j => by rw [World.frozen?_setCell]; exact r2 j⟩
  rw [World.frozen?_setCell]
  exact h2 j
/-- a store into a block that is neither the source's, nor the variable's, nor the files' own -/
theorem Hold.far {B S : Nat} {w wr : World} {u : Value} {R : List Fk.Fl} (h : Hold B S w wr u R) (hS : S < w.heap.size) {b j : Nat} {x : Value} (hb : w.heap.size + 2 ≤ b) (hu : u.ownBlock ≠ some b) : Hold B S w (wr.setCell ⟨b, j, none⟩ x) u R := by
  obtain ⟨h1, h2, h3, h4, h5, h6, h7, h8, r1, r2⟩ := h
  have hg := Fk.grownBy_setCell wr b j x
  have hB := h6.lt
  refine ⟨by rw [World.cell?_setCell_other _ _ _ _ (by intro e; have := congrArg Addr.block e; simp at this; omega)]; exact h1, fun i => by rw [World.frozen?_setCell]; exact h2 i, World.ownsRow.kept h3 hg ?_, h4, h5, h6.far hg (fun e => by have h9 : S = b := Option.some.inj e; omega) (fun c hc e => by have h9 : c = b := Option.some.inj e; omega), Dk.gtrans h7 hg (fun i e => .inl (by have h9 : b = i := Option.some.inj e; omega)), by simpa [World.setCell] using h8, by rw [World.cell?_setCell_other _ _ _ _ (by intro e; have := congrArg Addr.block e; simp at this; omega)]; exact r1, fun j => by rw [World.frozen?_setCell]; exact r2 j⟩
  cases hv : u.ownBlock with
  | none => exact .inl rfl
  | some g => exact .inr (fun e => hu (by rw [hv]; exact e))
/-- what holds all along a statement that draws: the files are held, memory from z on is new -/
def Reg (B S : Nat) (w : World) (z : Nat) (w' : World) (u : Value) (R : List Fk.Fl) : Prop := Hold B S w w' u R ∧ z ≤ w'.heap.size
theorem srcOf {B S : Nat} {w w' : World} {z : Nat} {u : Value} {R : List Fk.Fl} (h : w'.cell? ⟨w.heap.size + 1, 0, none⟩ = some u ∧ Hid (Reg B S w z w' u R)) : Src B w' S := h.2.out.1.2.2.2.2.2.1
theorem ownOf {B S : Nat} {w w' : World} {z : Nat} {u : Value} {R : List Fk.Fl} (h : w'.cell? ⟨w.heap.size + 1, 0, none⟩ = some u ∧ Hid (Reg B S w z w' u R)) : Fk.Own w' (w.heap.size + 2) 75 u R := h.2.out.1.2.2.1
theorem zOf {B S : Nat} {w w' : World} {z : Nat} {u : Value} {R : List Fk.Fl} (h : w'.cell? ⟨w.heap.size + 1, 0, none⟩ = some u ∧ Hid (Reg B S w z w' u R)) : z ≤ w'.heap.size := h.2.out.2
theorem regDraw {B S : Nat} {w w1 w2 : World} {z : Nat} {u : Value} {R : List Fk.Fl} (hS : S < w.heap.size) (hs : Src B w2 S) (hg : w1.grownBy w2 (some S)) (h : w1.cell? ⟨w.heap.size + 1, 0, none⟩ = some u ∧ Hid (Reg B S w z w1 u R)) : w2.cell? ⟨w.heap.size + 1, 0, none⟩ = some u ∧ Hid (Reg B S w z w2 u R) :=
  have h1 := h.2.out.1.draw hS hs hg
  ⟨h1.1, h1, Nat.le_trans h.2.out.2 hg.size⟩
theorem regBelow {B S : Nat} {w w1 w2 : World} {z : Nat} {u : Value} {R : List Fk.Fl} (hb : Below w1.heap.size w1 w2) (h : w1.cell? ⟨w.heap.size + 1, 0, none⟩ = some u ∧ Hid (Reg B S w z w1 u R)) : w2.cell? ⟨w.heap.size + 1, 0, none⟩ = some u ∧ Hid (Reg B S w z w2 u R) :=
  have h1 := h.2.out.1.below hb
  ⟨h1.1, h1, Nat.le_trans h.2.out.2 hb.size⟩
theorem regAlloc {B S : Nat} {w w1 : World} {z : Nat} {u : Value} {R : List Fk.Fl} {o : Obj} (h : w1.cell? ⟨w.heap.size + 1, 0, none⟩ = some u ∧ Hid (Reg B S w z w1 u R)) : (w1.alloc o).cell? ⟨w.heap.size + 1, 0, none⟩ = some u ∧ Hid (Reg B S w z (w1.alloc o) u R) :=
  regBelow ((Below.refl _ _).alloc (Nat.le_refl _) _) h
theorem regStore {B S : Nat} {w w1 : World} {z b j : Nat} {x u : Value} {R : List Fk.Fl} (hS : S < w.heap.size) (hb : w.heap.size + 2 ≤ b) (hu : u.ownBlock ≠ some b) (h : w1.cell? ⟨w.heap.size + 1, 0, none⟩ = some u ∧ Hid (Reg B S w z w1 u R)) : (w1.setCell ⟨b, j, none⟩ x).cell? ⟨w.heap.size + 1, 0, none⟩ = some u ∧ Hid (Reg B S w z (w1.setCell ⟨b, j, none⟩ x) u R) :=
  have h1 := h.2.out.1.far hS (x := x) (j := j) hb hu
  ⟨h1.1, h1, by simpa [World.setCell] using h.2.out.2⟩
/-- a variable's block of two cells, at or behind z -/
def Y (z : Nat) (w' : World) (b : Nat) (x y : Value) : Prop :=
  z ≤ b ∧ b < w'.heap.size ∧ w'.cell? ⟨b, 0, none⟩ = some x ∧ w'.cell? ⟨b, 1, none⟩ = some y ∧ ∀ j, w'.frozen? ⟨b, j, none⟩ = false
theorem Y.new {z : Nat} {w' : World} {x y : Value} {t : TypeId} (h : z ≤ w'.heap.size) : Hid (Y z (w'.alloc (.cells #[x, y] t)) w'.heap.size x y) :=
  ⟨h, by simp, by rw [Fk.cellTop _ _ _ _ _ rfl]; rfl, by rw [Fk.cellTop _ _ _ _ _ rfl]; rfl, fun j => by rw [Fk.frozTop _ _ _ _ _ rfl]⟩
theorem Y.draw {z b S : Nat} {w1 w2 : World} {x y : Value} (hS : S < z) (hg : w1.grownBy w2 (some S)) (h : Hid (Y z w1 b x y)) : Hid (Y z w2 b x y) := by
  obtain ⟨h1, h2, h3, h4, h5⟩ := h.out
  have hne : some b ≠ some S := fun e => by have h9 : b = S := Option.some.inj e; omega
  exact ⟨h1, Nat.lt_of_lt_of_le h2 hg.size, (hg.cell_far ⟨b, 0, none⟩ h2 hne).trans h3, (hg.cell_far ⟨b, 1, none⟩ h2 hne).trans h4, fun j => (hg.frozen_far ⟨b, j, none⟩ h2 hne).trans (h5 j)⟩
theorem Y.below {z b : Nat} {w1 w2 : World} {x y : Value} (hb : Below w1.heap.size w1 w2) (h : Hid (Y z w1 b x y)) : Hid (Y z w2 b x y) := by
  obtain ⟨h1, h2, h3, h4, h5⟩ := h.out
  exact ⟨h1, Nat.lt_of_lt_of_le h2 hb.size, (hb.cell h2).trans h3, (hb.cell h2).trans h4, fun j => (hb.frozen h2).trans (h5 j)⟩
/-- the files of the loop, and what a call has just answered in a variable of its own -/
def Hold2 (B S : Nat) (w wr : World) (u : Value) (R : List Fk.Fl) (b : Nat) (v : Value) (M : List Fk.Fl) (c : Int) : Prop :=
  Hold B S w wr u R ∧ Hid (Y (w.heap.size + 2) wr b v (.int .i64 c)) ∧ Fk.Own wr (w.heap.size + 2) 75 v M ∧ Fit M ∧ M.length ≤ 12 ∧ u.ownBlock ≠ some b ∧ v.ownBlock ≠ some b
/-- an answer is stored in the variable -/
theorem Hold2.store {B S : Nat} {w X : World} {z b : Nat} {x y u v : Value} {R M : List Fk.Fl} {c : Int} (hS : S < w.heap.size) (hz : w.heap.size + 2 ≤ z) (h : X.cell? ⟨w.heap.size + 1, 0, none⟩ = some u ∧ Hid (Reg B S w z X u R)) (hY : Hid (Y z X b x y)) (hu : u.ownBlock ≠ some b) (hv : v.ownBlock ≠ some b) (ho : Fk.Own X (w.heap.size + 2) 75 v M) (hf : Fit M ∧ M.length ≤ 12) :
    Hid (Hold2 B S w ((X.setCell ⟨b, 0, none⟩ v).setCell ⟨b, 1, none⟩ (.int .i64 c)) u R b v M c) := by
  obtain ⟨y1, y2, y3, y4, y5⟩ := hY.out
  have hb : w.heap.size + 2 ≤ b := Nat.le_trans hz y1
  have hk : ∀ {Z : World} {j : Nat} {q : Value}, Fk.Own Z (w.heap.size + 2) 75 v M → Fk.Own (Z.setCell ⟨b, j, none⟩ q) (w.heap.size + 2) 75 v M := fun {Z j q} hz => by
    refine World.ownsRow.kept hz (Fk.grownBy_setCell Z b j q) ?_
    cases hv' : v.ownBlock with
    | none => exact .inl rfl
    | some g => exact .inr (fun e => hv (by rw [hv']; exact e))
  refine ⟨(h.2.out.1.far hS hb hu).far hS hb hu, ⟨hb, by simpa [World.setCell] using y2, ?_, ?_, fun j => ?_⟩, hk (hk ho), hf.1, hf.2, hu, hv⟩
  · rw [World.cell?_setCell_other _ _ _ _ (by simp)]
    exact World.cell?_setCell_same _ _ _ y3
  · refine World.cell?_setCell_same _ _ _ (u := y) ?_
    rw [World.cell?_setCell_other _ _ _ _ (by simp)]
    exact y4
  · rw [World.frozen?_setCell, World.frozen?_setCell]
    exact y5 j
theorem Hold2.draw {B S : Nat} {w w1 w2 : World} {b : Nat} {u v : Value} {R M : List Fk.Fl} {c : Int} (hS : S < w.heap.size) (hs : Src B w2 S) (hg : w1.grownBy w2 (some S)) (h : Hold2 B S w w1 u R b v M c) : Hold2 B S w w2 u R b v M c := by
  obtain ⟨h1, h2, h3, h4, h5, h6, h7⟩ := h
  refine ⟨h1.draw hS hs hg, Y.draw (by omega) hg h2, World.ownsRow.kept h3 hg ?_, h4, h5, h6, h7⟩
  cases hv : v.ownBlock with
  | none => exact .inl rfl
  | some g => exact .inr (fun e => by have h8 := (World.ownsRow.lt h3 g hv).1; have h9 : g = S := Option.some.inj e; omega)
/-- an answer's variable is laid out with it -/
theorem Hold2.new {B S : Nat} {w X : World} {z : Nat} {u v : Value} {R M : List Fk.Fl} {c : Int} {t : TypeId} (hz : w.heap.size + 2 ≤ z) (h : X.cell? ⟨w.heap.size + 1, 0, none⟩ = some u ∧ Hid (Reg B S w z X u R)) (hu : u.ownBlock ≠ some X.heap.size) (hv : v.ownBlock ≠ some X.heap.size) (ho : Fk.Own X (w.heap.size + 2) 75 v M) (hf : Fit M ∧ M.length ≤ 12) :
    Hid (Hold2 B S w (X.alloc (.cells #[v, .int .i64 c] t)) u R X.heap.size v M c) :=
  ⟨h.2.out.1.below ((Below.refl _ _).alloc (Nat.le_refl _) _), Y.new (Nat.le_trans hz h.2.out.2), ho.below ((Below.refl _ _).alloc (Nat.le_refl _) _), hf.1, hf.2, hu, hv⟩
/-- the files are handed over: they lie in the call's own new memory -/
theorem hold_done {B S : Nat} {w wr : World} {u : Value} {R : List Fk.Fl} (hS : S < w.heap.size) (h : Hold B S w wr u R) :
    Fk.Own (wr.setCell ⟨w.heap.size, 0, none⟩ u) w.heap.size 75 u R ∧ Src B (wr.setCell ⟨w.heap.size, 0, none⟩ u) S ∧ w.grownBy (wr.setCell ⟨w.heap.size, 0, none⟩ u) (some S) := by
  obtain ⟨h1, h2, h3, h4, h5, h6, h7, h8, r1, r2⟩ := h
  have hg := Fk.grownBy_setCell wr w.heap.size 0 u
  have hB := h6.lt
  exact ⟨Fk.Own.mono (ownsRow_setCell_below h3 (by show w.heap.size < w.heap.size + 2; omega) _) (by omega), h6.far hg (fun e => by have h9 : S = w.heap.size := Option.some.inj e; omega) (fun b hb e => by have h9 : b = w.heap.size := Option.some.inj e; omega), Dk.gtrans h7 hg (fun i e => .inl (by have h9 : w.heap.size = i := Option.some.inj e; omega))⟩
/-- a file is put behind the files that are held -/
theorem appended {B S : Nat} {w X w' : World} {u v : Value} {R : List Fk.Fl} {o : Obj} {n : Nat} {f : Fk.Fl} (hS : S < w.heap.size) (h : Hold B S w X u R) (hg : (X.alloc o).grownBy w' u.ownBlock) (ho : w'.ownsRow (w.heap.size + 2) 75 3 v (n + 1) (Fk.flat R ++ Fk.flc f)) (hn : n = R.length) (hf : Fk.Fit1 f ∧ f.1.size ≤ 100000 ∧ f.2.1.size ≤ 100000) (hl : R.length ≤ 999) :
    (w'.cell? ⟨w.heap.size + 1, 0, none⟩ = some u ∧ ∀ j, w'.frozen? ⟨w.heap.size + 1, j, none⟩ = false) ∧ Hold B S w (w'.setCell ⟨w.heap.size + 1, 0, none⟩ v) v (R ++ [f]) := by
  obtain ⟨h1, h2, h3, h4, h5, h6, h7, h8, r1, r2⟩ := h.below ((Below.refl X.heap.size X).alloc (Nat.le_refl _) o)
  have hr : ∀ b, b < w.heap.size + 2 → some b ≠ u.ownBlock := fun b hb e => by have := (World.ownsRow.lt h3 b e.symm).1; omega
  have hB := h6.lt
  have e1 := (hg.cell_far ⟨w.heap.size + 1, 0, none⟩ (by show w.heap.size + 1 < _; omega) (hr _ (by show w.heap.size + 1 < _; omega))).trans h1
  have e2 : ∀ j, w'.frozen? ⟨w.heap.size + 1, j, none⟩ = false := fun j => (hg.frozen_far ⟨w.heap.size + 1, j, none⟩ (by show w.heap.size + 1 < _; omega) (hr _ (by show w.heap.size + 1 < _; omega))).trans (h2 j)
  have e3 := (hg.cell_far ⟨w.heap.size, 0, none⟩ (by show w.heap.size < _; omega) (hr _ (by show w.heap.size < _; omega))).trans r1
  have e4 : ∀ j, w'.frozen? ⟨w.heap.size, j, none⟩ = false := fun j => (hg.frozen_far ⟨w.heap.size, j, none⟩ (by show w.heap.size < _; omega) (hr _ (by show w.heap.size < _; omega))).trans (r2 j)
  have e5 : Fk.Own w' (w.heap.size + 2) 75 v (R ++ [f]) := by
    unfold Fk.Own
    rw [Fk.flat_append, List.length_append, ← hn]
    have e : Fk.flat [f] = Fk.flc f := by simp [Fk.flat]
    rw [e]
    exact ho
  have e6 := h6.far hg (hr _ (by omega)) (fun b hb => hr b (by omega))
  have e7 := Dk.gtrans h7 hg (fun i e => .inl (by have := (World.ownsRow.lt h3 i e).1; omega))
  refine ⟨⟨e1, e2⟩, ?_⟩
  have hg2 := Fk.grownBy_setCell w' (w.heap.size + 1) 0 v
  refine ⟨World.cell?_setCell_same _ _ _ e1, fun j => by rw [World.frozen?_setCell]; exact e2 j, ownsRow_setCell_below e5 (by show w.heap.size + 1 < w.heap.size + 2; omega) _, ⟨fun x hx => ?_, fun x hx => ?_⟩, by simp; omega, e6.far hg2 (fun e => by have h9 : S = w.heap.size + 1 := Option.some.inj e; omega) (fun b hb e => by have h9 : b = w.heap.size + 1 := Option.some.inj e; omega), Dk.gtrans e7 hg2 (fun i e => .inl (by have h9 : w.heap.size + 1 = i := Option.some.inj e; omega)), ?_, by rw [World.cell?_setCell_other _ _ _ _ (by simp)]; exact e3, fun j => by rw [World.frozen?_setCell]; exact e4 j⟩
  · rcases List.mem_append.1 hx with hx | hx
    · exact h4.1 x hx
    · have : x = f := by simpa using hx
      rw [this]; exact hf.1
  · rcases List.mem_append.1 hx with hx | hx
    · exact h4.2 x hx
    · have : x = f := by simpa using hx
      rw [this]; exact hf.2
  · have := hg.size
    simp [World.setCell]
    omega
/-- 'string(make([]byte, n))' -/
theorem zeros (X : World) (n : Int) (h0 : 0 ≤ n) (h1 : n ≤ 100000) : ∃ (O : Obj) (q : Nat) (t : ByteArray),
    (Instr.makeSlice 22 (.int .i64 n) (.int .i64 n)).run Tryz.prog X = .ok (.slice (some ⟨X.heap.size, 0, none⟩) q q) (X.alloc O) ∧ (convert 22 9 (.slice (some ⟨X.heap.size, 0, none⟩) q q)).run Tryz.prog (X.alloc O) = .ok (.string t) (X.alloc O) ∧ (t.size : Int) = n := by
  obtain ⟨i0, hi, hz0, hz1, hz2⟩ := info_parts Tryz.infoU8
  have hrun := run_make (P := Tryz.prog) X 22 5 i0 (.int .u8 0) Tryz.underlying22 hi hz0 .i64 .i64 n n h0 (Int.le_refl _) (by rw [hz2]; omega) (by omega)
  have e1 : madeCells (Value.int .u8 0).cells (n.toNat * i0.size) = ((List.replicate n.toNat (0 : Int)).map (Value.int .u8)).toArray := by
    rw [hz1]
    apply Array.ext
    · simp [size_madeCells]
    · intro j _ _
      simp [madeCells, Value.cells, Nat.mod_one]
  refine ⟨_, n.toNat, strOfNums (List.replicate n.toNat 0), hrun, run_convert_bytes_arg _ 22 5 Tryz.underlying22 Tryz.underlying5 _ 0 n.toNat n.toNat (List.replicate n.toNat 0) (by simp) (fun i hi => ?_) 9 Tryz.underlying9, ?_⟩
  · rw [e1, Fk.cellTop _ _ _ _ _ rfl]
    simp [hi, List.getD]
  · have e : (strOfNums (List.replicate n.toNat 0)).size = n.toNat := by show (strOfNums _).data.size = _; simp [strOfNums]
    rw [e]; omega
theorem ownN {X : World} {base : Nat} {a : Option Addr} {n c : Nat} {R : List Fk.Fl} (h : Fk.Own X base 75 (.slice a n c) R) (e : n = R.length) : X.ownsRow base 75 3 (.slice a n c) n (Fk.flat R) := by
  unfold Fk.Own at h
  rw [← e] at h
  exact h
theorem fit3 {a d : ByteArray} {s : Int} (ha : a.size ≤ 100000) (hd : d.size ≤ 100000) (h0 : 0 ≤ s) (h1 : s ≤ 100000) : Fk.Fit1 (a, d, s) ∧ (a, d, s).1.size ≤ 100000 ∧ (a, d, s).2.1.size ≤ 100000 := by
  unfold Fk.Fit1 maxLen
  exact ⟨⟨by show a.size ≤ _; omega, by show d.size ≤ _; omega, by show _ ≤ s; omega, by show s ≤ _; omega⟩, ha, hd⟩
/-- how long the slice in a cell is -/
def lenAt (w' : World) (b : Nat) : Nat := match w'.cell? ⟨b, 0, none⟩ with | some (.slice _ n _) => n | _ => 0
theorem lenAt_of {w' : World} {b n c : Nat} {a : Option Addr} (h : w'.cell? ⟨b, 0, none⟩ = some (.slice a n c)) : lenAt w' b = n := by unfold lenAt; rw [h]
theorem own_ne {X : World} {q b : Nat} {v : Value} {M : List Fk.Fl} (ho : Fk.Own X q 75 v M) (h : b < q) : v.ownBlock ≠ some b := fun e => by have := (World.ownsRow.lt ho b e).1; omega
theorem own_ne' {X : World} {q : Nat} {v : Value} {M : List Fk.Fl} (ho : Fk.Own X q 75 v M) : v.ownBlock ≠ some X.heap.size := fun e => by have := (World.ownsRow.lt ho _ e).2; omega
end Dk
end Go.Proofs.YtojdfdlbdpdlkaaGreatDoor

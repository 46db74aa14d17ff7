/- What the specification's drawn journals keep from draw to draw: the files lie in a row of their own, in a variable that lies behind them; the source stays a source. -/
import Derived.Test.YtojdfdlbdpdlkaaGreatDoorJoined12
namespace Go.Proofs.YtojdfdlbdpdlkaaGreatDoor
open Go.RowKit
set_option linter.unusedVariables false
set_option linter.unusedSimpArgs false
namespace Dj
/-- files that a machine can hold, none of them great, though one may be spoilt -/
def Fit (R : List Fk.Fl) : Prop := Fk.Fits R ∧ ∀ f ∈ R, f.1.size ≤ 100000 ∧ f.2.1.size ≤ 100001
theorem fit_of {R : List Fk.Fl} (h : Dk.Fit R) : Fit R := ⟨h.1, fun f hf => ⟨(h.2 f hf).1, Nat.le_trans (h.2 f hf).2 (by omega)⟩⟩
theorem Fit.set {R : List Fk.Fl} (h : Fit R) {f : Fk.Fl} (k : Nat) (hf : Fk.Fit1 f ∧ f.1.size ≤ 100000 ∧ f.2.1.size ≤ 100001) : Fit (R.set k f) :=
  ⟨fun x hx => (List.mem_or_eq_of_mem_set hx).elim (h.1 x) (fun e => e ▸ hf.1), fun x hx => (List.mem_or_eq_of_mem_set hx).elim (h.2 x) (fun e => e ▸ hf.2)⟩
def Hp (B S p : Nat) (w wr : World) (u : Value) (R : List Fk.Fl) : Prop :=
  wr.cell? ⟨p, 0, none⟩ = some u ∧ (∀ j, wr.frozen? ⟨p, j, none⟩ = false) ∧ Fk.Own wr (w.heap.size + 1) 75 u R ∧ Fit R ∧ R.length ≤ 2000 ∧ Dk.Src B wr S ∧ w.grownBy wr (some S) ∧ (w.heap.size + 1 ≤ p ∧ p < wr.heap.size ∧ u.ownBlock ≠ some p) ∧ (wr.cell? ⟨w.heap.size, 0, none⟩ = some (.slice none 0 0) ∧ ∀ j, wr.frozen? ⟨w.heap.size, j, none⟩ = false)
theorem Hp.draw {B S p : Nat} {w wr w' : World} {u : Value} {R : List Fk.Fl} (h : Hp B S p w wr u R) (hS : S < w.heap.size) (hs : Dk.Src B w' S) (hg : wr.grownBy w' (some S)) : Hp B S p w w' u R := by
  obtain ⟨h1, h2, h3, h4, h5, h6, h7, ⟨p1, p2, p3⟩, r1, r2⟩ := h
  have hp : some p ≠ some S := fun e => by have h9 : p = S := Option.some.inj e; omega
  have hr : some w.heap.size ≠ some S := fun e => by have h9 : w.heap.size = S := Option.some.inj e; omega
  have hr2 : w.heap.size < wr.heap.size := by omega
  exact ⟨(hg.cell_far ⟨p, 0, none⟩ p2 hp).trans h1, fun j => (hg.frozen_far ⟨p, j, none⟩ p2 hp).trans (h2 j), h3.kept hg (fun k hk => by have h9 := (World.ownsRow.lt h3 k hk).1; intro e; have h10 : k = S := Option.some.inj e; omega), h4, h5, hs, Fk.grownBy_trans h7 hg, ⟨p1, Nat.lt_of_lt_of_le p2 hg.size, p3⟩, (hg.cell_far ⟨w.heap.size, 0, none⟩ hr2 hr).trans r1, fun j => (hg.frozen_far ⟨w.heap.size, j, none⟩ hr2 hr).trans (r2 j)⟩
theorem Hp.below {B S p : Nat} {w wr w' : World} {u : Value} {R : List Fk.Fl} (h : Hp B S p w wr u R) (hb : Below wr.heap.size wr w') : Hp B S p w w' u R := by
  obtain ⟨h1, h2, h3, h4, h5, h6, h7, ⟨p1, p2, p3⟩, r1, r2⟩ := h
  have hr2 : w.heap.size < wr.heap.size := by omega
  exact ⟨(hb.cell p2).trans h1, fun j => (hb.frozen p2).trans (h2 j), h3.below hb, h4, h5, h6.below hb, Fk.grownBy_trans h7 (Fk.grownBy_below (some S) hb), ⟨p1, Nat.lt_of_lt_of_le p2 hb.size, p3⟩, (hb.cell hr2).trans r1, fun j => (hb.frozen hr2).trans (r2 j)⟩
/-- a store into a block that is neither the source's, nor the variable's, nor the files' own -/
theorem Hp.far {B S p : Nat} {w wr : World} {u : Value} {R : List Fk.Fl} (h : Hp B S p w wr u R) (hS : S < w.heap.size) {b j : Nat} {x : Value} (hb : p + 1 ≤ b) (hu : u.ownBlock ≠ some b) : Hp B S p w (wr.setCell ⟨b, j, none⟩ x) u R := by
  obtain ⟨h1, h2, h3, h4, h5, h6, h7, ⟨p1, p2, p3⟩, r1, r2⟩ := h
  have hg := Fk.grownBy_setCell wr b j x
  have hB := h6.lt
  refine ⟨by rw [World.cell?_setCell_other _ _ _ _ (by intro e; have := congrArg Addr.block e; simp at this; omega)]; exact h1, fun i => by rw [World.frozen?_setCell]; exact h2 i, World.ownsRow.kept h3 hg ?_, h4, h5, h6.far hg (fun e => by have h9 : S = b := Option.some.inj e; omega) (fun c hc e => by have h9 : c = b := Option.some.inj e; omega), Dk.gtrans h7 hg (fun i e => .inl (by have h9 : b = i := Option.some.inj e; omega)), ⟨p1, by simpa [World.setCell] using p2, p3⟩, by rw [World.cell?_setCell_other _ _ _ _ (by intro e; have := congrArg Addr.block e; simp at this; omega)]; exact r1, fun i => by rw [World.frozen?_setCell]; exact r2 i⟩
  cases hv : u.ownBlock with
  | none => exact .inl rfl
  | some g => exact .inr (fun e => hu (by rw [hv]; exact e))
/-- other files are stored in the variable -/
theorem Hp.set {B S p : Nat} {w wr : World} {u : Value} {R : List Fk.Fl} (h : Hp B S p w wr u R) (hS : S < w.heap.size) {v : Value} {M : List Fk.Fl} (ho : Fk.Own wr (p + 1) 75 v M) (hf : Dk.Fit M) (hl : M.length ≤ 2000) : Hp B S p w (wr.setCell ⟨p, 0, none⟩ v) v M := by
  obtain ⟨h1, h2, h3, h4, h5, h6, h7, ⟨p1, p2, p3⟩, r1, r2⟩ := h
  have hg := Fk.grownBy_setCell wr p 0 v
  have hB := h6.lt
  refine ⟨World.cell?_setCell_same _ _ _ h1, fun j => by rw [World.frozen?_setCell]; exact h2 j, Fk.Own.mono (ownsRow_setCell_below ho (by show p < p + 1; omega) _) (by omega), fit_of hf, hl, h6.far hg (fun e => by have h9 : S = p := Option.some.inj e; omega) (fun b hb e => by have h9 : b = p := Option.some.inj e; omega), Dk.gtrans h7 hg (fun i e => .inl (by have h9 : p = i := Option.some.inj e; omega)), ⟨p1, by simpa [World.setCell] using p2, Dk.own_ne ho (by omega)⟩, by rw [World.cell?_setCell_other _ _ _ _ (by intro e; have := congrArg Addr.block e; simp at this; omega)]; exact r1, fun i => by rw [World.frozen?_setCell]; exact r2 i⟩
/-- a cell of the files themselves is written -/
theorem Hp.put {B S p g n c i : Nat} {w wr : World} {R M : List Fk.Fl} {x : Value} (h : Hp B S p w wr (.slice (some ⟨g, 0, none⟩) n c) R) (hS : S < w.heap.size) (ho : Fk.Own (wr.setCell ⟨g, i, none⟩ x) (w.heap.size + 1) 75 (.slice (some ⟨g, 0, none⟩) n c) M) (hf : Fit M) (hl : M.length ≤ 2000) : Hp B S p w (wr.setCell ⟨g, i, none⟩ x) (.slice (some ⟨g, 0, none⟩) n c) M := by
  obtain ⟨h1, h2, h3, h4, h5, h6, h7, ⟨p1, p2, p3⟩, r1, r2⟩ := h
  have hg := Fk.grownBy_setCell wr g i x
  have hB := h6.lt
  have hgl := (World.ownsRow.lt h3 g rfl).1
  have hgp : g ≠ p := fun e => p3 (by rw [e]; rfl)
  exact ⟨by rw [World.cell?_setCell_other _ _ _ _ (by intro e; have := congrArg Addr.block e; simp at this; omega)]; exact h1, fun j => by rw [World.frozen?_setCell]; exact h2 j, ho, hf, hl, h6.far hg (fun e => by have h9 : S = g := Option.some.inj e; omega) (fun b hb e => by have h9 : b = g := Option.some.inj e; omega), Dk.gtrans h7 hg (fun i e => .inl (by have h9 : g = i := Option.some.inj e; omega)), ⟨p1, by simpa [World.setCell] using p2, p3⟩, by rw [World.cell?_setCell_other _ _ _ _ (by intro e; have := congrArg Addr.block e; simp at this; omega)]; exact r1, fun j => by rw [World.frozen?_setCell]; exact r2 j⟩
theorem fit_at {R : List Fk.Fl} (h : Fit R) {k : Nat} (hk : k < R.length) : Fk.Fit1 (Fk.nm R k, Fk.dt R k, Fk.sy R k) ∧ (Fk.nm R k).size ≤ 100000 ∧ (Fk.dt R k).size ≤ 100001 := by
  have hm : R[k] ∈ R := List.getElem_mem hk
  have e : (Fk.nm R k, Fk.dt R k, Fk.sy R k) = R[k] := by simp [Fk.nm, Fk.dt, Fk.sy, hk]
  have h1 := h.1 _ hm
  have h2 := h.2 _ hm
  rw [← e] at h1 h2
  exact ⟨h1, h2⟩
theorem dt_fit {R : List Fk.Fl} (h : Dk.Fit R) {k : Nat} (hk : k < R.length) : (Fk.dt R k).size ≤ 100000 := by
  have e : Fk.dt R k = (R[k]).2.1 := by simp [Fk.dt, hk]
  rw [e]
  exact (h.2 _ (List.getElem_mem hk)).2
theorem Hp.putData {B S p g n c k : Nat} {w wr : World} {R : List Fk.Fl} (h : Hp B S p w wr (.slice (some ⟨g, 0, none⟩) n c) R) (hS : S < w.heap.size) (hk : k < R.length) {d : ByteArray} (hd : d.size ≤ 100001) : Hp B S p w (wr.setCell ⟨g, k * 3 + 1, none⟩ (.string d)) (.slice (some ⟨g, 0, none⟩) n c) (R.set k (Fk.nm R k, d, Fk.sy R k)) := by
  have hf := fit_at h.2.2.2.1 hk
  refine h.put hS (h.2.2.1.putData hk d) (h.2.2.2.1.set k ⟨⟨hf.1.1, ?_, hf.1.2.2⟩, hf.2.1, hd⟩) (by rw [List.length_set]; exact h.2.2.2.2.1)
  unfold maxLen; show d.size ≤ _; omega
theorem Hp.putSync {B S p g n c k : Nat} {w wr : World} {R : List Fk.Fl} (h : Hp B S p w wr (.slice (some ⟨g, 0, none⟩) n c) R) (hS : S < w.heap.size) (hk : k < R.length) : Hp B S p w (wr.setCell ⟨g, k * 3 + 2, none⟩ (.int .i64 0)) (.slice (some ⟨g, 0, none⟩) n c) (R.set k (Fk.nm R k, Fk.dt R k, 0)) := by
  have hf := fit_at h.2.2.2.1 hk
  exact h.put hS (h.2.2.1.putSync hk 0) (h.2.2.2.1.set k ⟨⟨hf.1.1, hf.1.2.1, by show (-9223372036854775808 : Int) ≤ 0; decide, by show (0 : Int) ≤ 9223372036854775807; decide⟩, hf.2⟩) (by rw [List.length_set]; exact h.2.2.2.2.1)
def Reg (B S p : Nat) (w : World) (z : Nat) (w' : World) (u : Value) (R : List Fk.Fl) : Prop := Hp B S p w w' u R ∧ z ≤ w'.heap.size
theorem srcOf {B S p : Nat} {w w' : World} {z : Nat} {u : Value} {R : List Fk.Fl} (h : w'.cell? ⟨p, 0, none⟩ = some u ∧ Hid (Reg B S p w z w' u R)) : Dk.Src B w' S := h.2.out.1.2.2.2.2.2.1
theorem ownOf {B S p : Nat} {w w' : World} {z : Nat} {u : Value} {R : List Fk.Fl} (h : w'.cell? ⟨p, 0, none⟩ = some u ∧ Hid (Reg B S p w z w' u R)) : Fk.Own w' (w.heap.size + 1) 75 u R := h.2.out.1.2.2.1
theorem zOf {B S p : Nat} {w w' : World} {z : Nat} {u : Value} {R : List Fk.Fl} (h : w'.cell? ⟨p, 0, none⟩ = some u ∧ Hid (Reg B S p w z w' u R)) : z ≤ w'.heap.size := h.2.out.2
theorem regDraw {B S p : Nat} {w w1 w2 : World} {z : Nat} {u : Value} {R : List Fk.Fl} (hS : S < w.heap.size) (hs : Dk.Src B w2 S) (hg : w1.grownBy w2 (some S)) (h : w1.cell? ⟨p, 0, none⟩ = some u ∧ Hid (Reg B S p w z w1 u R)) : w2.cell? ⟨p, 0, none⟩ = some u ∧ Hid (Reg B S p w z w2 u R) :=
  have h1 := h.2.out.1.draw hS hs hg
  ⟨h1.1, h1, Nat.le_trans h.2.out.2 hg.size⟩
theorem regBelow {B S p : Nat} {w w1 w2 : World} {z : Nat} {u : Value} {R : List Fk.Fl} (hb : Below w1.heap.size w1 w2) (h : w1.cell? ⟨p, 0, none⟩ = some u ∧ Hid (Reg B S p w z w1 u R)) : w2.cell? ⟨p, 0, none⟩ = some u ∧ Hid (Reg B S p w z w2 u R) :=
  have h1 := h.2.out.1.below hb
  ⟨h1.1, h1, Nat.le_trans h.2.out.2 hb.size⟩
theorem regAlloc {B S p : Nat} {w w1 : World} {z : Nat} {u : Value} {R : List Fk.Fl} {o : Obj} (h : w1.cell? ⟨p, 0, none⟩ = some u ∧ Hid (Reg B S p w z w1 u R)) : (w1.alloc o).cell? ⟨p, 0, none⟩ = some u ∧ Hid (Reg B S p w z (w1.alloc o) u R) :=
  regBelow ((Below.refl _ _).alloc (Nat.le_refl _) _) h
theorem regStore {B S p : Nat} {w w1 : World} {z b j : Nat} {x u : Value} {R : List Fk.Fl} (hS : S < w.heap.size) (hb : p + 1 ≤ b) (hu : u.ownBlock ≠ some b) (h : w1.cell? ⟨p, 0, none⟩ = some u ∧ Hid (Reg B S p w z w1 u R)) : (w1.setCell ⟨b, j, none⟩ x).cell? ⟨p, 0, none⟩ = some u ∧ Hid (Reg B S p w z (w1.setCell ⟨b, j, none⟩ x) u R) :=
  have h1 := h.2.out.1.far hS (x := x) (j := j) hb hu
  ⟨h1.1, h1, by simpa [World.setCell] using h.2.out.2⟩
/-- the files of the loop, and what a call has just answered in a variable of its own -/
def Hold2 (B S p : Nat) (w wr : World) (u : Value) (R : List Fk.Fl) (b : Nat) (v : Value) (M : List Fk.Fl) (c : Int) : Prop :=
  Hp B S p w wr u R ∧ Hid (Dk.Y (p + 1) wr b v (.int .i64 c)) ∧ Fk.Own wr (p + 1) 75 v M ∧ Dk.Fit M ∧ M.length ≤ 12 ∧ u.ownBlock ≠ some b ∧ v.ownBlock ≠ some b
/-- an answer is stored in the variable -/
theorem Hold2.store {B S p : Nat} {w X : World} {z b : Nat} {x y u v : Value} {R M : List Fk.Fl} {c : Int} (hS : S < w.heap.size) (hz : p + 1 ≤ z) (h : X.cell? ⟨p, 0, none⟩ = some u ∧ Hid (Reg B S p w z X u R)) (hY : Hid (Dk.Y z X b x y)) (hu : u.ownBlock ≠ some b) (hv : v.ownBlock ≠ some b) (ho : Fk.Own X (p + 1) 75 v M) (hf : Dk.Fit M ∧ M.length ≤ 12) :
    Hid (Hold2 B S p w ((X.setCell ⟨b, 0, none⟩ v).setCell ⟨b, 1, none⟩ (.int .i64 c)) u R b v M c) := by
  obtain ⟨y1, y2, y3, y4, y5⟩ := hY.out
  have hb : p + 1 ≤ b := Nat.le_trans hz y1
  have hk : ∀ {Z : World} {j : Nat} {q : Value}, Fk.Own Z (p + 1) 75 v M → Fk.Own (Z.setCell ⟨b, j, none⟩ q) (p + 1) 75 v M := fun {Z j q} hz => by
    refine World.ownsRow.kept hz (Fk.grownBy_setCell Z b j q) ?_
    cases hv' : v.ownBlock with
    | none => exact .inl rfl
    | some g => exact .inr (fun e => hv (by rw [hv']; exact e))
  refine ⟨(h.2.out.1.far hS hb hu).far hS hb hu, ⟨hb, by simpa [World.setCell] using y2, ?_, ?_, fun j => ?_⟩, hk (hk ho), hf.1, hf.2, hu, hv⟩
  · rw [World.cell?_setCell_other _ _ _ _ (by simp)]
    exact World.cell?_setCell_same _ _ _ y3
  · refine World.cell?_setCell_same _ _ _ (u := y) ?_
    rw [World.cell?_setCell_other _ _ _ _ (by simp)]
    exact y4
  · rw [World.frozen?_setCell, World.frozen?_setCell]
    exact y5 j
theorem Hold2.draw {B S p : Nat} {w w1 w2 : World} {b : Nat} {u v : Value} {R M : List Fk.Fl} {c : Int} (hS : S < w.heap.size) (hs : Dk.Src B w2 S) (hg : w1.grownBy w2 (some S)) (h : Hold2 B S p w w1 u R b v M c) : Hold2 B S p w w2 u R b v M c := by
  obtain ⟨h1, h2, h3, h4, h5, h6, h7⟩ := h
  have hp := h1.2.2.2.2.2.2.2.1.1
  refine ⟨h1.draw hS hs hg, Dk.Y.draw (by omega) hg h2, World.ownsRow.kept h3 hg ?_, h4, h5, h6, h7⟩
  cases hv : v.ownBlock with
  | none => exact .inl rfl
  | some g => exact .inr (fun e => by have h8 := (World.ownsRow.lt h3 g hv).1; have h9 : g = S := Option.some.inj e; omega)
/-- an answer's variable is laid out with it -/
theorem Hold2.new {B S p : Nat} {w X : World} {z : Nat} {u v : Value} {R M : List Fk.Fl} {c : Int} {t : TypeId} (hz : p + 1 ≤ z) (h : X.cell? ⟨p, 0, none⟩ = some u ∧ Hid (Reg B S p w z X u R)) (hu : u.ownBlock ≠ some X.heap.size) (hv : v.ownBlock ≠ some X.heap.size) (ho : Fk.Own X (p + 1) 75 v M) (hf : Dk.Fit M ∧ M.length ≤ 12) :
    Hid (Hold2 B S p w (X.alloc (.cells #[v, .int .i64 c] t)) u R X.heap.size v M c) :=
  ⟨h.2.out.1.below ((Below.refl _ _).alloc (Nat.le_refl _) _), Dk.Y.new (Nat.le_trans hz h.2.out.2), ho.below ((Below.refl _ _).alloc (Nat.le_refl _) _), hf.1, hf.2, hu, hv⟩
/-- the files are handed over: they lie in the call's own new memory -/
theorem done {B S p : Nat} {w wr : World} {u : Value} {R : List Fk.Fl} (hS : S < w.heap.size) (h : Hp B S p w wr u R) :
    Fk.Own (wr.setCell ⟨w.heap.size, 0, none⟩ u) w.heap.size 75 u R ∧ Dk.Src B (wr.setCell ⟨w.heap.size, 0, none⟩ u) S ∧ w.grownBy (wr.setCell ⟨w.heap.size, 0, none⟩ u) (some S) := by
  obtain ⟨h1, h2, h3, h4, h5, h6, h7, ⟨p1, p2, p3⟩, r1, r2⟩ := h
  have hg := Fk.grownBy_setCell wr w.heap.size 0 u
  have hB := h6.lt
  exact ⟨Fk.Own.mono (ownsRow_setCell_below h3 (by show w.heap.size < w.heap.size + 1; omega) _) (by omega), h6.far hg (fun e => by have h9 : S = w.heap.size := Option.some.inj e; omega) (fun b hb e => by have h9 : b = w.heap.size := Option.some.inj e; omega), Dk.gtrans h7 hg (fun i e => .inl (by have h9 : w.heap.size = i := Option.some.inj e; omega))⟩
/-- the files are held, and what the file at j has for its data -/
theorem sqOf {B S p g c j : Nat} {w w' : World} {N : List Fk.Fl} (h : Hp B S p w w' (.slice (some ⟨g, 0, none⟩) N.length c) N) (hj : j < N.length) : w'.cell? ⟨p, 0, none⟩ = some (.slice (some ⟨g, 0, none⟩) N.length c) ∧ w'.cell? ⟨g, j * 3 + 1, none⟩ = some (.string (Fk.dt N j)) ∧ Hid (Hp B S p w w' (.slice (some ⟨g, 0, none⟩) N.length c) N) :=
  ⟨h.1, (h.2.2.1.at hj).1.2.1, h⟩
theorem dt_set {M : List Fk.Fl} {f : Fk.Fl} {i j : Nat} (h : i ≠ j) : Fk.dt (M.set j f) i = Fk.dt M i := by
  unfold Fk.dt
  rw [List.getD_eq_getElem?_getD, List.getD_eq_getElem?_getD, List.getElem?_set, if_neg (fun e => h e.symm)]
end Dj
end Go.Proofs.YtojdfdlbdpdlkaaGreatDoor

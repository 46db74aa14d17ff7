/- The walk of the specification's digits of a number that is not below nought. What the specification's drawn files keep from draw to draw: the files lie in a row of their own behind the variable's cell, the source stays a source. -/
import Derived.Test.YtlmbejldnfkfhaaDoorJoined7
import Derived.Test.YtlmbejldnfkfhaaDoorFsKit
import Derived.Test.YtlmbejldnfkfhaaDoorJoined1
import Derived.Test.YtlmbejldnfkfhaaDoorFsOps
import Derived.Test.YtlmbejldnfkfhaaDoorFsMore
namespace Go.Proofs.YtlmbejldnfkfhaaDoor
open Go.RowKit
set_option linter.unusedVariables false
set_option linter.unusedSimpArgs false
namespace Dk
/-- the digits of a number above nought, as bytes -/
def dec10 (n : Nat) : List Int := if h : n = 0 then [] else dec10 (n / 10) ++ [48 + ((n % 10 : Nat) : Int)]
termination_by n
decreasing_by omega
theorem dec10_zero : dec10 0 = [] := by rw [dec10]; simp
theorem dec10_pos {n : Nat} (h : n ≠ 0) : dec10 n = dec10 (n / 10) ++ [48 + ((n % 10 : Nat) : Int)] := by rw [dec10]; simp [h]
theorem dec10_len : ∀ (k n : Nat), n < 10 ^ k → (dec10 n).length ≤ k
  | 0, n, h => by
    obtain rfl : n = 0 := by simpa using h
    simp [dec10_zero]
  | k + 1, n, h => by
    by_cases hn : n = 0
    · subst hn; simp [dec10_zero]
    · rw [dec10_pos hn, List.length_append]
      have := dec10_len k (n / 10) (by rw [Nat.pow_succ] at h; omega)
      simp only [List.length_cons, List.length_nil]
      omega
/-- a number's text -/
def decS (n : Nat) : ByteArray := if n = 0 then ⟨#[48]⟩ else strOfNums (dec10 n)
theorem decS_len {k n : Nat} (hk : 1 ≤ k) (h : n < 10 ^ k) : (decS n).size ≤ k := by
  unfold decS
  split
  · exact hk
  · have := dec10_len k n h
    show (strOfNums _).data.size ≤ k
    simpa [strOfNums] using this
end Dk

theorem conv_one (W : World) (x : Int) : (convert 22 9 (.slice (some ⟨W.heap.size, 0, none⟩) 1 1)).run Tryd.prog (W.alloc (.cells #[.int .u8 x] 5)) = .ok (.string (strOfNums [x])) (W.alloc (.cells #[.int .u8 x] 5)) :=
  run_convert_bytes_arg _ 22 5 Tryd.underlying22 Tryd.underlying5 _ 0 1 1 [x] rfl (fun i hi => by
    obtain rfl : i = 0 := by omega
    rw [Fk.cellTop _ _ _ _ _ rfl]; rfl) 9 Tryd.underlying9

set_option maxHeartbeats 2000000 in
theorem l01Dec_any (n : Nat) (w : World) (hn : n < 1000000000000000000) :
    Calls Tryd.prog 125 #[.int .i64 n] w fun e w' => e = .returned (.string (Dk.decS n)) ∧ Below w.heap.size w w' := by
  by_cases h0 : n = 0
  · subst h0
    go_enter Tryd.func125, Tryd.ntmps125
    go_wp2_with fail
    go_ret
    exact ⟨rfl, Below.refl _ _⟩
  · have z0 : ((n : Int) == 0) = false := by simpa using h0
    have z1 : ¬ (n : Int) < 0 := by omega
    have HB0 := Fk.hide (Below.refl w.heap.size w)
    have HD : Hid (Dk.decS n = strOfNums (Dk.dec10 n)) := by show _ = _; simp [Dk.decS, h0]
    go_enter Tryd.func125, Tryd.ntmps125
    go_wp2_with fail
    clear z0
    go_loopw [0, 4] (fun i o wr => ∃ (v : Nat) (xs : List Int), i = .int .i64 v ∧ o = .string (strOfNums xs) ∧ v < 1000000000000000000 ∧ Hid (Dk.dec10 n = Dk.dec10 v ++ xs) ∧ Hid (Below w.heap.size w wr ∧ w.heap.size ≤ wr.heap.size)) (fun i _ _ => (intOf i).toNat)
    case atStart => exact ⟨n, [], rfl, rfl, hn, by show _ = _; simp, HB0.out, Nat.le_refl _⟩
    case round =>
      obtain ⟨v, xs, rfl, rfl, hv, HX, HB⟩ := hrel
      by_cases hv0 : v = 0
      · subst hv0
        have HE : Hid (Dk.dec10 n = xs) := by show _ = _; rw [HX.out, Dk.dec10_zero]; rfl
        go_wp2_with fail
        go_ret
        exact ⟨by rw [HD.out, HE.out]; rfl, HB.out.1⟩
      · have y0 : ((v : Int) == 0) = false := by simpa using hv0
        have y1 : ¬ (v : Int) % 10 < 0 := by omega
        have y2 : (v : Int) % 10 < 10 := by omega
        have hc := fun x => conv_one wr x
        have hx : (strOfNums xs).size ≤ 18 := by
          have h1 := Dk.dec10_len 18 n (by simpa using hn)
          rw [HX.out, List.length_append] at h1
          show (strOfNums _).data.size ≤ 18
          simp [strOfNums]
          omega
        have hx1 : ∀ x, (strOfNums [x]).size = 1 := fun _ => rfl
        have HJ : Hid (strOfNums [48 + (v : Int) % 10] ++ strOfNums xs = strOfNums ((48 + ((v % 10 : Nat) : Int)) :: xs)) := by show _ = _; rw [← str_append]; simp
        have HN : Hid (Dk.dec10 n = Dk.dec10 (v / 10) ++ ((48 + ((v % 10 : Nat) : Int)) :: xs)) := by show _ = _; rw [HX.out, Dk.dec10_pos hv0]; simp
        have HC : Hid (∀ o, Below w.heap.size w (wr.alloc o)) := fun o => HB.out.1.alloc HB.out.2 o
        go_wp2_with fail
        go_roundw
        case rel => exact ⟨v / 10, (48 + ((v % 10 : Nat) : Int)) :: xs, by go_num, by rw [HJ.out], by omega, HN.out, HC.out _, by have := HB.out.2; simp; omega⟩
        case measure => simp [intOf]; omega

theorem l01Dec_int (n : Int) (w : World) (h0 : 0 ≤ n) (h1 : n < 1000000000000000000) :
    Calls Tryd.prog 125 #[.int .i64 n] w fun e w' => e = .returned (.string (Dk.decS n.toNat)) ∧ Below w.heap.size w w' := by
  obtain ⟨m, rfl⟩ := Int.eq_ofNat_of_zero_le h0
  exact l01Dec_any m w (by omega)
end Go.Proofs.YtlmbejldnfkfhaaDoor

namespace Go.Proofs.YtlmbejldnfkfhaaDoor
open Go.RowKit
set_option linter.unusedVariables false
set_option linter.unusedSimpArgs false
namespace Dk
/-- files that a machine can hold, none of them great -/
def Fit (R : List Fk.Fl) : Prop := Fk.Fits R ∧ ∀ f ∈ R, f.1.size ≤ 100000 ∧ f.2.1.size ≤ 100000
theorem ans_fit {R : List Fk.Fl} {c : Int} (h : (c = 0 → Fk.right R = true) ∧ (c ≠ 0 → R = [])) : Fit R ∧ R.length ≤ 12 := by
  by_cases hc : c = 0
  · have h1 := Fk.right_fits (h.1 hc)
    refine ⟨⟨h1.1, fun f hf => ?_⟩, h1.2⟩
    have := Fk.right_fit (h.1 hc) f hf
    omega
  · rw [h.2 hc]; exact ⟨⟨fun f hf => absurd hf (by simp), fun f hf => absurd hf (by simp)⟩, by simp⟩
def Hold (B S : Nat) (w wr : World) (u : Value) (R : List Fk.Fl) : Prop :=
  wr.cell? ⟨w.heap.size + 1, 0, none⟩ = some u ∧ (∀ j, wr.frozen? ⟨w.heap.size + 1, j, none⟩ = false) ∧ Fk.Own wr (w.heap.size + 2) 48 u R ∧ Fit R ∧ R.length ≤ 1000 ∧ Src B wr S ∧ w.grownBy wr (some S) ∧ w.heap.size + 2 ≤ wr.heap.size ∧ (wr.cell? ⟨w.heap.size, 0, none⟩ = some (.slice none 0 0) ∧ ∀ j, wr.frozen? ⟨w.heap.size, j, none⟩ = false)
theorem Hold.draw {B S : Nat} {w wr w' : World} {u : Value} {R : List Fk.Fl} (h : Hold B S w wr u R) (hS : S < w.heap.size) (hs : Src B w' S) (hg : wr.grownBy w' (some S)) : Hold B S w w' u R := by
  obtain ⟨h1, h2, h3, h4, h5, h6, h7, h8, r1, r2⟩ := h
  refine ⟨(hg.cell_far ⟨w.heap.size + 1, 0, none⟩ (by show w.heap.size + 1 < _; omega) (fun h => by have h9 : w.heap.size + 1 = S := Option.some.inj h; omega)).trans h1, fun j => ?_, h3.kept hg (fun k hk => by have h9 := (World.ownsRow.lt h3 k hk).1; intro e; have h10 : k = S := Option.some.inj e; omega), h4, h5, hs, Fk.grownBy_trans h7 hg, Nat.le_trans h8 hg.size, (hg.cell_far ⟨w.heap.size, 0, none⟩ (by show w.heap.size < _; omega) (fun h => by have h9 : w.heap.size = S := Option.some.inj h; omega)).trans r1, fun j => (hg.frozen_far ⟨w.heap.size, j, none⟩ (by show w.heap.size < _; omega) (fun h => by have h9 : w.heap.size = S := Option.some.inj h; omega)).trans (r2 j)⟩
  rw [World.frozen?_of_block (w := wr) (hg.block (w.heap.size + 1) (by omega) (fun e => by have h9 : w.heap.size + 1 = S := Option.some.inj e; omega))]
  exact h2 j
theorem Hold.below {B S : Nat} {w wr w' : World} {u : Value} {R : List Fk.Fl} (h : Hold B S w wr u R) (hb : Below wr.heap.size wr w') : Hold B S w w' u R := by
  obtain ⟨h1, h2, h3, h4, h5, h6, h7, h8, r1, r2⟩ := h
  exact ⟨(hb.cell (by show w.heap.size + 1 < _; omega)).trans h1, fun j => (hb.frozen (by show w.heap.size + 1 < _; omega)).trans (h2 j), h3.below hb, h4, h5, h6.below hb, Fk.grownBy_trans h7 (Fk.grownBy_below (some S) hb), Nat.le_trans h8 hb.size, (hb.cell (by show w.heap.size < _; omega)).trans r1, fun j => (hb.frozen (by show w.heap.size < _; omega)).trans (r2 j)⟩
theorem Hold.set {B S : Nat} {w wr : World} {u : Value} {R : List Fk.Fl} (h : Hold B S w wr u R) (hS : S < w.heap.size) {v : Value} {M : List Fk.Fl} (ho : Fk.Own wr (w.heap.size + 2) 48 v M) (hf : Fit M) (hl : M.length ≤ 1000) : Hold B S w (wr.setCell ⟨w.heap.size + 1, 0, none⟩ v) v M := by
  obtain ⟨h1, h2, h3, h4, h5, h6, h7, h8, r1, r2⟩ := h
  have hg := Fk.grownBy_setCell wr (w.heap.size + 1) 0 v
  have hB := h6.lt
  refine ⟨World.cell?_setCell_same _ _ _ h1, fun j => ?_, ownsRow_setCell_below ho (by show w.heap.size + 1 < w.heap.size + 2; omega) _, hf, hl, h6.far hg (fun e => by have h9 : S = w.heap.size + 1 := Option.some.inj e; omega) (fun b hb e => by have h9 : b = w.heap.size + 1 := Option.some.inj e; omega), Dk.gtrans h7 hg (fun i e => .inl (by have h9 : w.heap.size + 1 = i := Option.some.inj e; omega)), by simpa [World.setCell] using h8, by rw [World.cell?_setCell_other _ _ _ _ (by simp)]; exact r1, fun j => by rw [World.frozen?_setCell]; exact r2 j⟩
  rw [World.frozen?_setCell]
  exact h2 j
/-- a store into a block that is neither the source's, nor the variable's, nor the files' own -/
theorem Hold.far {B S : Nat} {w wr : World} {u : Value} {R : List Fk.Fl} (h : Hold B S w wr u R) (hS : S < w.heap.size) {b j : Nat} {x : Value} (hb : w.heap.size + 2 ≤ b) (hu : u.ownBlock ≠ some b) : Hold B S w (wr.setCell ⟨b, j, none⟩ x) u R := by
  obtain ⟨h1, h2, h3, h4, h5, h6, h7, h8, r1, r2⟩ := h
  have hg := Fk.grownBy_setCell wr b j x
  have hB := h6.lt
  refine ⟨by rw [World.cell?_setCell_other _ _ _ _ (by intro e; have := congrArg Addr.block e; simp at this; omega)]; exact h1, fun i => by rw [World.frozen?_setCell]; exact h2 i, World.ownsRow.kept h3 hg ?_, h4, h5, h6.far hg (fun e => by have h9 : S = b := Option.some.inj e; omega) (fun c hc e => by have h9 : c = b := Option.some.inj e; omega), Dk.gtrans h7 hg (fun i e => .inl (by have h9 : b = i := Option.some.inj e; omega)), by simpa [World.setCell] using h8, by rw [World.cell?_setCell_other _ _ _ _ (by intro e; have := congrArg Addr.block e; simp at this; omega)]; exact r1, fun j => by rw [World.frozen?_setCell]; exact r2 j⟩
  cases hv : u.ownBlock with
  | none => exact .inl rfl
  | some g => exact .inr (fun e => hu (by rw [hv]; exact e))
/-- what holds all along a statement that draws: the files are held, memory from z on is new -/
def Reg (B S : Nat) (w : World) (z : Nat) (w' : World) (u : Value) (R : List Fk.Fl) : Prop := Hold B S w w' u R ∧ z ≤ w'.heap.size
theorem srcOf {B S : Nat} {w w' : World} {z : Nat} {u : Value} {R : List Fk.Fl} (h : w'.cell? ⟨w.heap.size + 1, 0, none⟩ = some u ∧ Hid (Reg B S w z w' u R)) : Src B w' S := h.2.out.1.2.2.2.2.2.1
theorem ownOf {B S : Nat} {w w' : World} {z : Nat} {u : Value} {R : List Fk.Fl} (h : w'.cell? ⟨w.heap.size + 1, 0, none⟩ = some u ∧ Hid (Reg B S w z w' u R)) : Fk.Own w' (w.heap.size + 2) 48 u R := h.2.out.1.2.2.1
theorem zOf {B S : Nat} {w w' : World} {z : Nat} {u : Value} {R : List Fk.Fl} (h : w'.cell? ⟨w.heap.size + 1, 0, none⟩ = some u ∧ Hid (Reg B S w z w' u R)) : z ≤ w'.heap.size := h.2.out.2
theorem regDraw {B S : Nat} {w w1 w2 : World} {z : Nat} {u : Value} {R : List Fk.Fl} (hS : S < w.heap.size) (hs : Src B w2 S) (hg : w1.grownBy w2 (some S)) (h : w1.cell? ⟨w.heap.size + 1, 0, none⟩ = some u ∧ Hid (Reg B S w z w1 u R)) : w2.cell? ⟨w.heap.size + 1, 0, none⟩ = some u ∧ Hid (Reg B S w z w2 u R) :=
  have h1 := h.2.out.1.draw hS hs hg
  ⟨h1.1, h1, Nat.le_trans h.2.out.2 hg.size⟩
theorem regBelow {B S : Nat} {w w1 w2 : World} {z : Nat} {u : Value} {R : List Fk.Fl} (hb : Below w1.heap.size w1 w2) (h : w1.cell? ⟨w.heap.size + 1, 0, none⟩ = some u ∧ Hid (Reg B S w z w1 u R)) : w2.cell? ⟨w.heap.size + 1, 0, none⟩ = some u ∧ Hid (Reg B S w z w2 u R) :=
  have h1 := h.2.out.1.below hb
  ⟨h1.1, h1, Nat.le_trans h.2.out.2 hb.size⟩
theorem regAlloc {B S : Nat} {w w1 : World} {z : Nat} {u : Value} {R : List Fk.Fl} {o : Obj} (h : w1.cell? ⟨w.heap.size + 1, 0, none⟩ = some u ∧ Hid (Reg B S w z w1 u R)) : (w1.alloc o).cell? ⟨w.heap.size + 1, 0, none⟩ = some u ∧ Hid (Reg B S w z (w1.alloc o) u R) :=
  regBelow ((Below.refl _ _).alloc (Nat.le_refl _) _) h
theorem regStore {B S : Nat} {w w1 : World} {z b j : Nat} {x u : Value} {R : List Fk.Fl} (hS : S < w.heap.size) (hb : w.heap.size + 2 ≤ b) (hu : u.ownBlock ≠ some b) (h : w1.cell? ⟨w.heap.size + 1, 0, none⟩ = some u ∧ Hid (Reg B S w z w1 u R)) : (w1.setCell ⟨b, j, none⟩ x).cell? ⟨w.heap.size + 1, 0, none⟩ = some u ∧ Hid (Reg B S w z (w1.setCell ⟨b, j, none⟩ x) u R) :=
  have h1 := h.2.out.1.far hS (x := x) (j := j) hb hu
  ⟨h1.1, h1, by simpa [World.setCell] using h.2.out.2⟩
/-- a variable's block of two cells, at or behind z -/
def Y (z : Nat) (w' : World) (b : Nat) (x y : Value) : Prop :=
  z ≤ b ∧ b < w'.heap.size ∧ w'.cell? ⟨b, 0, none⟩ = some x ∧ w'.cell? ⟨b, 1, none⟩ = some y ∧ ∀ j, w'.frozen? ⟨b, j, none⟩ = false
theorem Y.new {z : Nat} {w' : World} {x y : Value} {t : TypeId} (h : z ≤ w'.heap.size) : Hid (Y z (w'.alloc (.cells #[x, y] t)) w'.heap.size x y) :=
  ⟨h, by simp, by rw [Fk.cellTop _ _ _ _ _ rfl]; rfl, by rw [Fk.cellTop _ _ _ _ _ rfl]; rfl, fun j => by rw [Fk.frozTop _ _ _ _ _ rfl]⟩
theorem Y.draw {z b S : Nat} {w1 w2 : World} {x y : Value} (hS : S < z) (hg : w1.grownBy w2 (some S)) (h : Hid (Y z w1 b x y)) : Hid (Y z w2 b x y) := by
  obtain ⟨h1, h2, h3, h4, h5⟩ := h.out
  have hne : some b ≠ some S := fun e => by have h9 : b = S := Option.some.inj e; omega
  exact ⟨h1, Nat.lt_of_lt_of_le h2 hg.size, (hg.cell_far ⟨b, 0, none⟩ h2 hne).trans h3, (hg.cell_far ⟨b, 1, none⟩ h2 hne).trans h4, fun j => (hg.frozen_far ⟨b, j, none⟩ h2 hne).trans (h5 j)⟩
theorem Y.below {z b : Nat} {w1 w2 : World} {x y : Value} (hb : Below w1.heap.size w1 w2) (h : Hid (Y z w1 b x y)) : Hid (Y z w2 b x y) := by
  obtain ⟨h1, h2, h3, h4, h5⟩ := h.out
  exact ⟨h1, Nat.lt_of_lt_of_le h2 hb.size, (hb.cell h2).trans h3, (hb.cell h2).trans h4, fun j => (hb.frozen h2).trans (h5 j)⟩
/-- the files of the loop, and what a call has just answered in a variable of its own -/
def Hold2 (B S : Nat) (w wr : World) (u : Value) (R : List Fk.Fl) (b : Nat) (v : Value) (M : List Fk.Fl) (c : Int) : Prop :=
  Hold B S w wr u R ∧ Hid (Y (w.heap.size + 2) wr b v (.int .i64 c)) ∧ Fk.Own wr (w.heap.size + 2) 48 v M ∧ Fit M ∧ M.length ≤ 12 ∧ u.ownBlock ≠ some b ∧ v.ownBlock ≠ some b
/-- an answer is stored in the variable -/
theorem Hold2.store {B S : Nat} {w X : World} {z b : Nat} {x y u v : Value} {R M : List Fk.Fl} {c : Int} (hS : S < w.heap.size) (hz : w.heap.size + 2 ≤ z) (h : X.cell? ⟨w.heap.size + 1, 0, none⟩ = some u ∧ Hid (Reg B S w z X u R)) (hY : Hid (Y z X b x y)) (hu : u.ownBlock ≠ some b) (hv : v.ownBlock ≠ some b) (ho : Fk.Own X (w.heap.size + 2) 48 v M) (hf : Fit M ∧ M.length ≤ 12) :
    Hid (Hold2 B S w ((X.setCell ⟨b, 0, none⟩ v).setCell ⟨b, 1, none⟩ (.int .i64 c)) u R b v M c) := by
  obtain ⟨y1, y2, y3, y4, y5⟩ := hY.out
  have hb : w.heap.size + 2 ≤ b := Nat.le_trans hz y1
  have hk : ∀ {Z : World} {j : Nat} {q : Value}, Fk.Own Z (w.heap.size + 2) 48 v M → Fk.Own (Z.setCell ⟨b, j, none⟩ q) (w.heap.size + 2) 48 v M := fun {Z j q} hz => by
    refine World.ownsRow.kept hz (Fk.grownBy_setCell Z b j q) ?_
    cases hv' : v.ownBlock with
    | none => exact .inl rfl
    | some g => exact .inr (fun e => hv (by rw [hv']; exact e))
  refine ⟨(h.2.out.1.far hS hb hu).far hS hb hu, ⟨hb, by simpa [World.setCell] using y2, ?_, ?_, fun j => ?_⟩, hk (hk ho), hf.1, hf.2, hu, hv⟩
  · rw [World.cell?_setCell_other _ _ _ _ (by simp)]
    exact World.cell?_setCell_same _ _ _ y3
  · refine World.cell?_setCell_same _ _ _ (u := y) ?_
    rw [World.cell?_setCell_other _ _ _ _ (by simp)]
    exact y4
  · rw [World.frozen?_setCell, World.frozen?_setCell]
    exact y5 j
theorem Hold2.draw {B S : Nat} {w w1 w2 : World} {b : Nat} {u v : Value} {R M : List Fk.Fl} {c : Int} (hS : S < w.heap.size) (hs : Src B w2 S) (hg : w1.grownBy w2 (some S)) (h : Hold2 B S w w1 u R b v M c) : Hold2 B S w w2 u R b v M c := by
  obtain ⟨h1, h2, h3, h4, h5, h6, h7⟩ := h
  refine ⟨h1.draw hS hs hg, Y.draw (by omega) hg h2, World.ownsRow.kept h3 hg ?_, h4, h5, h6, h7⟩
  cases hv : v.ownBlock with
  | none => exact .inl rfl
  | some g => exact .inr (fun e => by have h8 := (World.ownsRow.lt h3 g hv).1; have h9 : g = S := Option.some.inj e; omega)
/-- an answer's variable is laid out with it -/
theorem Hold2.new {B S : Nat} {w X : World} {z : Nat} {u v : Value} {R M : List Fk.Fl} {c : Int} {t : TypeId} (hz : w.heap.size + 2 ≤ z) (h : X.cell? ⟨w.heap.size + 1, 0, none⟩ = some u ∧ Hid (Reg B S w z X u R)) (hu : u.ownBlock ≠ some X.heap.size) (hv : v.ownBlock ≠ some X.heap.size) (ho : Fk.Own X (w.heap.size + 2) 48 v M) (hf : Fit M ∧ M.length ≤ 12) :
    Hid (Hold2 B S w (X.alloc (.cells #[v, .int .i64 c] t)) u R X.heap.size v M c) :=
  ⟨h.2.out.1.below ((Below.refl _ _).alloc (Nat.le_refl _) _), Y.new (Nat.le_trans hz h.2.out.2), ho.below ((Below.refl _ _).alloc (Nat.le_refl _) _), hf.1, hf.2, hu, hv⟩
/-- the files are handed over: they lie in the call's own new memory -/
theorem hold_done {B S : Nat} {w wr : World} {u : Value} {R : List Fk.Fl} (hS : S < w.heap.size) (h : Hold B S w wr u R) :
    Fk.Own (wr.setCell ⟨w.heap.size, 0, none⟩ u) w.heap.size 48 u R ∧ Src B (wr.setCell ⟨w.heap.size, 0, none⟩ u) S ∧ w.grownBy (wr.setCell ⟨w.heap.size, 0, none⟩ u) (some S) := by
  obtain ⟨h1, h2, h3, h4, h5, h6, h7, h8, r1, r2⟩ := h
  have hg := Fk.grownBy_setCell wr w.heap.size 0 u
  have hB := h6.lt
  exact ⟨Fk.Own.mono (ownsRow_setCell_below h3 (by show w.heap.size < w.heap.size + 2; omega) _) (by omega), h6.far hg (fun e => by have h9 : S = w.heap.size := Option.some.inj e; omega) (fun b hb e => by have h9 : b = w.heap.size := Option.some.inj e; omega), Dk.gtrans h7 hg (fun i e => .inl (by have h9 : w.heap.size = i := Option.some.inj e; omega))⟩
/-- a file is put behind the files that are held -/
theorem appended {B S : Nat} {w X w' : World} {u v : Value} {R : List Fk.Fl} {o : Obj} {n : Nat} {f : Fk.Fl} (hS : S < w.heap.size) (h : Hold B S w X u R) (hg : (X.alloc o).grownBy w' u.ownBlock) (ho : w'.ownsRow (w.heap.size + 2) 48 3 v (n + 1) (Fk.flat R ++ Fk.flc f)) (hn : n = R.length) (hf : Fk.Fit1 f ∧ f.1.size ≤ 100000 ∧ f.2.1.size ≤ 100000) (hl : R.length ≤ 999) :
    (w'.cell? ⟨w.heap.size + 1, 0, none⟩ = some u ∧ ∀ j, w'.frozen? ⟨w.heap.size + 1, j, none⟩ = false) ∧ Hold B S w (w'.setCell ⟨w.heap.size + 1, 0, none⟩ v) v (R ++ [f]) := by
  obtain ⟨h1, h2, h3, h4, h5, h6, h7, h8, r1, r2⟩ := h.below ((Below.refl X.heap.size X).alloc (Nat.le_refl _) o)
  have hr : ∀ b, b < w.heap.size + 2 → some b ≠ u.ownBlock := fun b hb e => by have := (World.ownsRow.lt h3 b e.symm).1; omega
  have hB := h6.lt
  have e1 := (hg.cell_far ⟨w.heap.size + 1, 0, none⟩ (by show w.heap.size + 1 < _; omega) (hr _ (by show w.heap.size + 1 < _; omega))).trans h1
  have e2 : ∀ j, w'.frozen? ⟨w.heap.size + 1, j, none⟩ = false := fun j => (hg.frozen_far ⟨w.heap.size + 1, j, none⟩ (by show w.heap.size + 1 < _; omega) (hr _ (by show w.heap.size + 1 < _; omega))).trans (h2 j)
  have e3 := (hg.cell_far ⟨w.heap.size, 0, none⟩ (by show w.heap.size < _; omega) (hr _ (by show w.heap.size < _; omega))).trans r1
  have e4 : ∀ j, w'.frozen? ⟨w.heap.size, j, none⟩ = false := fun j => (hg.frozen_far ⟨w.heap.size, j, none⟩ (by show w.heap.size < _; omega) (hr _ (by show w.heap.size < _; omega))).trans (r2 j)
  have e5 : Fk.Own w' (w.heap.size + 2) 48 v (R ++ [f]) := by
    unfold Fk.Own
    rw [Fk.flat_append, List.length_append, ← hn]
    have e : Fk.flat [f] = Fk.flc f := by simp [Fk.flat]
    rw [e]
    exact ho
  have e6 := h6.far hg (hr _ (by omega)) (fun b hb => hr b (by omega))
  have e7 := Dk.gtrans h7 hg (fun i e => .inl (by have := (World.ownsRow.lt h3 i e).1; omega))
  refine ⟨⟨e1, e2⟩, ?_⟩
  have hg2 := Fk.grownBy_setCell w' (w.heap.size + 1) 0 v
  refine ⟨World.cell?_setCell_same _ _ _ e1, fun j => by rw [World.frozen?_setCell]; exact e2 j, ownsRow_setCell_below e5 (by show w.heap.size + 1 < w.heap.size + 2; omega) _, ⟨fun x hx => ?_, fun x hx => ?_⟩, by simp; omega, e6.far hg2 (fun e => by have h9 : S = w.heap.size + 1 := Option.some.inj e; omega) (fun b hb e => by have h9 : b = w.heap.size + 1 := Option.some.inj e; omega), Dk.gtrans e7 hg2 (fun i e => .inl (by have h9 : w.heap.size + 1 = i := Option.some.inj e; omega)), ?_, by rw [World.cell?_setCell_other _ _ _ _ (by simp)]; exact e3, fun j => by rw [World.frozen?_setCell]; exact e4 j⟩
  · rcases List.mem_append.1 hx with hx | hx
    · exact h4.1 x hx
    · have : x = f := by simpa using hx
      rw [this]; exact hf.1
  · rcases List.mem_append.1 hx with hx | hx
    · exact h4.2 x hx
    · have : x = f := by simpa using hx
      rw [this]; exact hf.2
  · have := hg.size
    simp [World.setCell]
    omega
/-- 'string(make([]byte, n))' -/
theorem zeros (X : World) (n : Int) (h0 : 0 ≤ n) (h1 : n ≤ 100000) : ∃ (O : Obj) (q : Nat) (t : ByteArray),
    (Instr.makeSlice 22 (.int .i64 n) (.int .i64 n)).run Tryd.prog X = .ok (.slice (some ⟨X.heap.size, 0, none⟩) q q) (X.alloc O) ∧ (convert 22 9 (.slice (some ⟨X.heap.size, 0, none⟩) q q)).run Tryd.prog (X.alloc O) = .ok (.string t) (X.alloc O) ∧ (t.size : Int) = n := by
  obtain ⟨i0, hi, hz0, hz1, hz2⟩ := info_parts Tryd.infoU8
  have hrun := run_make (P := Tryd.prog) X 22 5 i0 (.int .u8 0) Tryd.underlying22 hi hz0 .i64 .i64 n n h0 (Int.le_refl _) (by rw [hz2]; omega) (by omega)
  have e1 : madeCells (Value.int .u8 0).cells (n.toNat * i0.size) = ((List.replicate n.toNat (0 : Int)).map (Value.int .u8)).toArray := by
    rw [hz1]
    apply Array.ext
    · simp [size_madeCells]
    · intro j _ _
      simp [madeCells, Value.cells, Nat.mod_one]
  refine ⟨_, n.toNat, strOfNums (List.replicate n.toNat 0), hrun, run_convert_bytes_arg _ 22 5 Tryd.underlying22 Tryd.underlying5 _ 0 n.toNat n.toNat (List.replicate n.toNat 0) (by simp) (fun i hi => ?_) 9 Tryd.underlying9, ?_⟩
  · rw [e1, Fk.cellTop _ _ _ _ _ rfl]
    simp [hi, List.getD]
  · have e : (strOfNums (List.replicate n.toNat 0)).size = n.toNat := by show (strOfNums _).data.size = _; simp [strOfNums]
    rw [e]; omega
theorem ownN {X : World} {base : Nat} {a : Option Addr} {n c : Nat} {R : List Fk.Fl} (h : Fk.Own X base 48 (.slice a n c) R) (e : n = R.length) : X.ownsRow base 48 3 (.slice a n c) n (Fk.flat R) := by
  unfold Fk.Own at h
  rw [← e] at h
  exact h
theorem fit3 {a d : ByteArray} {s : Int} (ha : a.size ≤ 100000) (hd : d.size ≤ 100000) (h0 : 0 ≤ s) (h1 : s ≤ 100000) : Fk.Fit1 (a, d, s) ∧ (a, d, s).1.size ≤ 100000 ∧ (a, d, s).2.1.size ≤ 100000 := by
  unfold Fk.Fit1 maxLen
  exact ⟨⟨by show a.size ≤ _; omega, by show d.size ≤ _; omega, by show _ ≤ s; omega, by show s ≤ _; omega⟩, ha, hd⟩
/-- how long the slice in a cell is -/
def lenAt (w' : World) (b : Nat) : Nat := match w'.cell? ⟨b, 0, none⟩ with | some (.slice _ n _) => n | _ => 0
theorem lenAt_of {w' : World} {b n c : Nat} {a : Option Addr} (h : w'.cell? ⟨b, 0, none⟩ = some (.slice a n c)) : lenAt w' b = n := by unfold lenAt; rw [h]
theorem own_ne {X : World} {q b : Nat} {v : Value} {M : List Fk.Fl} (ho : Fk.Own X q 48 v M) (h : b < q) : v.ownBlock ≠ some b := fun e => by have := (World.ownsRow.lt ho b e).1; omega
theorem own_ne' {X : World} {q : Nat} {v : Value} {M : List Fk.Fl} (ho : Fk.Own X q 48 v M) : v.ownBlock ≠ some X.heap.size := fun e => by have := (World.ownsRow.lt ho _ e).2; omega
end Dk
end Go.Proofs.YtlmbejldnfkfhaaDoor

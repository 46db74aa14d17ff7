/- A source of draws, and all that has grown since a world. No function of the program here. Commands in plain words: when one is right, when it is an old one. No function of the program here. -/
import Derived.Test.YtfagldipjpaceaaDraws
import Derived.Test.YtfagldipjpaceaaFsKit
import Derived.WalkKit
namespace Go.Proofs.Ytfagldipjpaceaa
open Go.RowKit
set_option linter.unusedVariables false
set_option linter.unusedSimpArgs false
/-- a source of draws, and all that has grown since a world -/
def Dk.T (B S : Nat) (W0 w : World) : Prop := Dk.Src B w S ∧ W0.grownBy w (some S)
theorem Dk.T.cell {B S : Nat} {W0 w w' : World} (h : w.grownBy w' (some S)) {q j : Nat} {v : Value} (hq : q < w.heap.size) (hne : q ≠ S) (hc : w.cell? ⟨q, j, none⟩ = some v) : w'.cell? ⟨q, j, none⟩ = some v :=
  (h.cell_far ⟨q, j, none⟩ hq (fun e => hne (Option.some.inj e))).trans hc
theorem Dk.T.next {B S : Nat} {W0 w w' : World} (h : Dk.T B S W0 w) (h1 : Dk.Src B w' S) (h2 : w.grownBy w' (some S)) : Dk.T B S W0 w' := ⟨h1, Fk.grownBy_trans h.2 h2⟩
theorem Dk.T.alloc {B S : Nat} {W0 w : World} (h : Dk.T B S W0 w) (o : Obj) : Dk.T B S W0 (w.alloc o) := h.next (h.1.below ((Below.refl _ _).alloc (Nat.le_refl _) _)) (Fk.grownBy_below _ ((Below.refl _ _).alloc (Nat.le_refl _) _))
theorem Dk.T.drew {B S : Nat} {W0 w : World} (h : Dk.T B S W0 w) : Dk.T B S W0 w.drew := h.next (h.1.below (Below.drew (Below.refl _ _))) (Fk.grownBy_below _ (Below.drew (Below.refl _ _)))
theorem Dk.T.set {B S : Nat} {W0 w : World} (h : Dk.T B S W0 w) {q : Nat} (hq : W0.heap.size ≤ q) (hB : B ≤ q) (hne : q ≠ S) (i : Nat) (u : Value) : Dk.T B S W0 (w.setCell ⟨q, i, none⟩ u) :=
  ⟨h.1.far (Fk.grownBy_setCell w q i u) (fun e => hne (Option.some.inj e).symm) (fun b hb e => by have := Option.some.inj e; omega), ⟨h.2.os, h.2.tape, h.2.output, by simp [World.setCell]; exact h.2.size, fun k hk hr => (Below.heap_setCell _ _ _ _ (fun e => by have : k = q := e; omega)).trans (h.2.block k hk hr)⟩⟩
theorem Dk.T.far {B S : Nat} {W0 w w' : World} {row : Option Nat} (h : Dk.T B S W0 w) (hg : w.grownBy w' row) (hr : ∀ j, row = some j → W0.heap.size ≤ j ∧ B ≤ j ∧ j ≠ S) : Dk.T B S W0 w' :=
  ⟨h.1.far hg (fun e => (hr S e.symm).2.2 rfl) (fun b hb e => by have := (hr b e.symm).2.1; omega), ⟨hg.os.trans h.2.os, hg.tape.trans h.2.tape, hg.output.trans h.2.output, Nat.le_trans h.2.size hg.size, fun i hi hne => (hg.block i (Nat.lt_of_lt_of_le hi h.2.size) (fun e => by have := (hr i e.symm).1; omega)).trans (h.2.block i hi hne)⟩⟩
end Go.Proofs.Ytfagldipjpaceaa

namespace Go.Proofs.Ytfagldipjpaceaa
open Go.RowKit
namespace Cm
/-- a command -/
structure C where
  kind : Int
  owner : Int
  id : Int
  buy : Bool
  price : Int
  amount : Int
  life : Int
  post : Bool
  peak : Int
  guard : Bool
/-- a number lies from lo to hi -/
def inn (n lo hi : Int) : Bool := decide (lo ≤ n ∧ n ≤ hi)
/-- a command of limit is right -/
def limit (c : C) : Bool := decide (c.id = 0) && (inn c.owner 1 9 && (inn c.price 1 10000 && (inn c.amount 1 1000 && (inn c.life 0 3 && (if c.life ≤ 1 then inn c.peak 0 c.amount else (!c.post && decide (c.peak = 0)))))))
/-- all that a kind may leave out is zero -/
def plain (c : C) : Bool := decide (c.life = 0) && (!c.post && (decide (c.peak = 0) && !c.guard))
def market (c : C) : Bool := decide (c.id = 0) && (decide (c.price = 0) && (plain c && (inn c.owner 1 9 && inn c.amount 1 1000)))
def cancel (c : C) : Bool := decide (c.price = 0) && (decide (c.amount = 0) && (plain c && (!c.buy && (inn c.owner 1 9 && inn c.id 1 1000000))))
def replace (c : C) : Bool := plain c && (!c.buy && (inn c.owner 1 9 && (inn c.id 1 1000000 && (inn c.price 1 10000 && inn c.amount 1 1000))))
def roll (c : C) : Bool := decide (c.id = 0) && (decide (c.price = 0) && (decide (c.amount = 0) && (decide (c.owner = 0) && (plain c && !c.buy))))
/-- a command is right -/
def right (c : C) : Bool :=
  if c.kind = 1 then limit c else if c.kind = 2 then market c else if c.kind = 3 then cancel c else if c.kind = 4 then replace c else if c.kind = 5 then roll c else false
/-- it is an old one -/
def old (c : C) : Bool := right c && (!c.post && (decide (c.peak = 0) && !c.guard))
end Cm
end Go.Proofs.Ytfagldipjpaceaa

/- Events in plain words: when one is right. No function of the program here. -/
import Derived.Test.YtficlppngnnpoaaFsKit
import Derived.WalkKit
namespace Go.Proofs.Ytficlppngnnpoaa
open Go.RowKit
namespace Ev
/-- an event -/
structure E where
  kind : Int
  id : Int
  other : Int
  price : Int
  amount : Int
/-- a number lies from lo to hi -/
def inn (n lo hi : Int) : Bool := decide (lo ≤ n ∧ n ≤ hi)
/-- an event is right -/
def right (e : E) : Bool :=
  if e.kind = 1 then inn e.id 1 1000000 && (decide (e.other = 0) && (decide (e.price = 0) && decide (e.amount = 0)))
  else if e.kind = 2 then inn e.id 1 1000000 && (inn e.other 1 1000000 && (!decide (e.id = e.other) && (inn e.price 1 10000 && inn e.amount 1 1000)))
  else if e.kind = 3 then inn e.id 1 1000000 && (decide (e.other = 0) && (decide (e.price = 0) && inn e.amount 1 1000))
  else if e.kind = 4 then inn e.id 1 1000000 && (decide (e.other = 0) && (inn e.price 1 10000 && inn e.amount 1 1000))
  else if e.kind = 5 then inn e.id 1 20 && (decide (e.other = 0) && (decide (e.price = 0) && decide (e.amount = 0)))
  else false
/-- what a kind names of it -/
def named (e : E) : E :=
  if e.kind = 1 ∨ e.kind = 5 then ⟨e.kind, e.id, 0, 0, 0⟩
  else if e.kind = 2 then e
  else if e.kind = 3 then ⟨e.kind, e.id, 0, 0, e.amount⟩
  else if e.kind = 4 then ⟨e.kind, e.id, 0, e.price, e.amount⟩
  else ⟨0, 0, 0, 0, 0⟩
end Ev
end Go.Proofs.Ytficlppngnnpoaa

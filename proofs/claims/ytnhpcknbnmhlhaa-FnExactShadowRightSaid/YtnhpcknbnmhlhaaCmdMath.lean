/- Commands in plain words: when one is right, when it is an old one. No function of the program here. -/
import Derived.Test.YtnhpcknbnmhlhaaFsKit
import Derived.WalkKit
namespace Go.Proofs.Ytnhpcknbnmhlhaa
open Go.RowKit
namespace Cm
/-- a command -/
structure C where
  kind : Int
  owner : Int
  id : Int
  buy : Bool
  price : Int
  amount : Int
  life : Int
  post : Bool
  peak : Int
  guard : Bool
/-- a number lies from lo to hi -/
def inn (n lo hi : Int) : Bool := decide (lo ≤ n ∧ n ≤ hi)
/-- a command of limit is right -/
def limit (c : C) : Bool := decide (c.id = 0) && (inn c.owner 1 9 && (inn c.price 1 10000 && (inn c.amount 1 1000 && (inn c.life 0 3 && (if c.life ≤ 1 then inn c.peak 0 c.amount else (!c.post && decide (c.peak = 0)))))))
/-- all that a kind may leave out is zero -/
def plain (c : C) : Bool := decide (c.life = 0) && (!c.post && (decide (c.peak = 0) && !c.guard))
def market (c : C) : Bool := decide (c.id = 0) && (decide (c.price = 0) && (plain c && (inn c.owner 1 9 && inn c.amount 1 1000)))
def cancel (c : C) : Bool := decide (c.price = 0) && (decide (c.amount = 0) && (plain c && (!c.buy && (inn c.owner 1 9 && inn c.id 1 1000000))))
def replace (c : C) : Bool := plain c && (!c.buy && (inn c.owner 1 9 && (inn c.id 1 1000000 && (inn c.price 1 10000 && inn c.amount 1 1000))))
def roll (c : C) : Bool := decide (c.id = 0) && (decide (c.price = 0) && (decide (c.amount = 0) && (decide (c.owner = 0) && (plain c && !c.buy))))
/-- a command is right -/
def right (c : C) : Bool :=
  if c.kind = 1 then limit c else if c.kind = 2 then market c else if c.kind = 3 then cancel c else if c.kind = 4 then replace c else if c.kind = 5 then roll c else false
/-- it is an old one -/
def old (c : C) : Bool := right c && (!c.post && (decide (c.peak = 0) && !c.guard))
end Cm
end Go.Proofs.Ytnhpcknbnmhlhaa

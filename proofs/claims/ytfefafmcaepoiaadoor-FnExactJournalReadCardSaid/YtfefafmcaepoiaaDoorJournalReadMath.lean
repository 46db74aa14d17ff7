/- Plain mathematics: what is read of a journal, in files or without any. -/
import Derived.Test.YtfefafmcaepoiaaDoorJournalEnt
import Derived.Test.YtfefafmcaepoiaaDoorJournalMath
namespace Go.Proofs.YtfefafmcaepoiaaDoor
set_option linter.unusedSimpArgs false
namespace Jn
/-- the journal's bytes -/
def dat (L : List Fk.Fl) : ByteArray := match Fk.get L name with
  | none => ByteArray.empty
  | some f => f.2.1
def rdT (L : List Fk.Fl) : List ByteArray := if Fk.right L = true then (all (dat L)).map (·.1) else []
def rdA (L : List Fk.Fl) : Int := if Fk.right L = true then endOf (all (dat L)) else 0
def rdC (L : List Fk.Fl) : Int := if Fk.right L = true then 0 else 1
theorem dat_fit {L : List Fk.Fl} (h : Fk.right L = true) : (dat L).size ≤ 3000 := by
  unfold dat
  cases hg : Fk.get L name with
  | none => simp
  | some f => exact (Fk.right_fit h f (Fk.get_some hg).1).2
theorem rd_ill {L : List Fk.Fl} (h : Fk.right L = false) : rdT L = [] ∧ rdA L = 0 ∧ rdC L = 1 := by
  unfold rdT rdA rdC; simp [h]
theorem rd_ok {L : List Fk.Fl} (h : Fk.right L = true) : rdT L = (all (dat L)).map (·.1) ∧ rdA L = endOf (all (dat L)) ∧ rdC L = 0 := by
  unfold rdT rdA rdC; simp [h]
theorem rdT_len (L : List Fk.Fl) : (rdT L).length ≤ 1048576 := by
  unfold rdT
  split
  · rename_i h
    have h1 := dat_fit h
    have h2 := ents_len (s := dat L) ((dat L).size + 1) 0
    rw [List.length_map]
    show (ents (dat L) ((dat L).size + 1) 0).length ≤ _
    omega
  · simp
end Jn
end Go.Proofs.YtfefafmcaepoiaaDoor

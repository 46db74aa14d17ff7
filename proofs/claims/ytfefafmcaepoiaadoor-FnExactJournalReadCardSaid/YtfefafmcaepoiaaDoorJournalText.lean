/- The journal's bytes as the specification reads them. -/
import Derived.Test.YtfefafmcaepoiaaDoorJournalReadMath
import Derived.Test.YtfefafmcaepoiaaDoorFsReadWalks
namespace Go.Proofs.YtfefafmcaepoiaaDoor
set_option linter.unusedSimpArgs false
open Go.RowKit

theorem Jn.rdOf_text {L : List Fk.Fl} (h : Fk.right L = true) : (Fk.rdOf L Jn.name).1 = Jn.dat L := by
  unfold Fk.rdOf Jn.dat
  rw [Jn.opn_name, Jn.opn_yes h]
  cases Fk.get L Jn.name <;> simp

theorem Jn.field_text (t : ByteArray) (q c : Int) (W : World) : (Instr.field 49 (.agg #[.string t, .int .i64 q, .int .i64 c]) 0).run Tryd.prog W = .ok (.string t) W := by kernel_rfl
end Go.Proofs.YtfefafmcaepoiaaDoor

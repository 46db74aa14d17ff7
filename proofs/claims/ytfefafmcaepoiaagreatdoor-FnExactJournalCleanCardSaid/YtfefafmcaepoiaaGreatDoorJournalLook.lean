/- A look into the map of files for the journal, without asking whether it is there: its bytes, or none. -/
import Derived.Test.YtfefafmcaepoiaaGreatDoorFsOpen
import Derived.Test.YtfefafmcaepoiaaGreatDoorJoined6
namespace Go.Proofs.YtfefafmcaepoiaaGreatDoor
set_option linter.unusedSimpArgs false
open Go.RowKit Go.Maps
open Go.WideMaps (keyOf_string_mk)
set_option linter.unusedVariables false
namespace Jn
theorem look_dat {P : Program} (w : World) {ops : Array Oper} {rest : List Oper} {o : Oper} {a : Act} {Q : Exit → Act → World → Prop} (hg : o.guard = none) (m x : Operand) (t : TypeId) (hop : o.op = Op.lookup t m x false)
    (k e : TypeId) (K : Keyed P k) (ht : P.underlying t = some (.map k e)) (hz : (zeroValue e).run P w = .ok (.agg #[.string ByteArray.empty, .string ByteArray.empty, .int .i64 0]) w) (b n : Nat) (D : DataW Unit) (M : List Fk.Fl)
    (hm : a.eval m = .map (some b)) (hown : w.ownsMap P k Fk.rdFile b n D) (hM : Fk.Mp D M) (key : Value) (hx : a.eval x = key) (hkey : keyOf P k key = some (Fk.kl name))
    (hK : ∀ nm sy, wpList P ops Q rest (a.put o.dst (.agg #[.string nm, .string (dat M), .int .i64 sy])) w) :
    wpList P ops Q (o :: rest) a w := by
  refine wpList_plain hg fun K' hK' => ?_
  obtain ⟨v, ps, hrun, hv⟩ := hown.lookup K ht hz (Fk.rdFile_mk Fk.none_) hkey
  have hd : ∃ nm sy, v = .agg #[.string nm, .string (dat M), .int .i64 sy] := by
    unfold dat
    cases hf : Fk.get M name with
    | none => rw [hM.at_none hf] at hv; exact ⟨_, _, Fk.rdFile_inv hv⟩
    | some f => rw [hM.at_some hf] at hv; exact ⟨_, _, Fk.rdFile_inv hv⟩
  obtain ⟨nm, sy, rfl⟩ := hd
  unfold Oper.wp
  simp [execOp, hop, hm, hx, hrun, Result.andThen]
  exact hK' _ _ (hK nm sy)
end Jn
theorem Jn.field_data (a t : ByteArray) (c : Int) (W : World) : (Instr.field 73 (.agg #[.string a, .string t, .int .i64 c]) 1).run Tryz.prog W = .ok (.string t) W := by kernel_rfl
end Go.Proofs.YtfefafmcaepoiaaGreatDoor

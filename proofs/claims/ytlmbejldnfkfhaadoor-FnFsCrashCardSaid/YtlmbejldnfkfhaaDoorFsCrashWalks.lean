/- The walks of what FsCrash of the program calls: crashFile. -/
import Derived.Test.YtlmbejldnfkfhaaDoorNumKit
import Derived.Test.YtlmbejldnfkfhaaDoorCopyWalks
namespace Go.Proofs.YtlmbejldnfkfhaaDoor
open Go.RowKit
set_option linter.unusedVariables false
set_option linter.unusedSimpArgs false
namespace Ik
/-- how much of a file is there behind a crash -/
def kept (b : ByteArray) (s more : Int) : Int := s + min more ((b.size : Int) - s)
end Ik

set_option maxRecDepth 20000 in
set_option maxHeartbeats 2000000 in
theorem crashFile_any (a b : ByteArray) (s more : Int) (w : World) (h0 : 0 ≤ s) (h1 : s ≤ b.size) (hb : b.size ≤ 3000) (hm : 0 ≤ more) :
    Calls Tryd.prog 64 #[.agg #[.string a, .string b, .int .i64 s], .int .i64 more] w fun e w' =>
      e = .returned (.agg #[.string a, .string (b.extract 0 (Ik.kept b s more).toNat), .int .i64 (Ik.kept b s more)]) ∧ Below w.heap.size w w' := by
  have e1 : IntKind.i64.wrap ((b.size : Int) - s) = (b.size : Int) - s := by rw [IntKind.wrap_i64]; omega
  obtain ⟨n, hn⟩ : ∃ n, n = Ik.kept b s more := ⟨_, rfl⟩
  have hn' := hn
  unfold Ik.kept at hn'
  have e2 : IntKind.i64.wrap (s + min more ((b.size : Int) - s)) = n := by rw [hn', IntKind.wrap_i64]; omega
  have h3 : 0 ≤ n := by omega
  have h4 : n ≤ b.size := by omega
  obtain ⟨t, ht⟩ : ∃ t, t = b.extract 0 n.toNat := ⟨_, rfl⟩
  have hsl : ∀ W, (Instr.slice 9 (.string b) none (some (.int .i64 n)) none).run Tryd.prog W = .ok (.string t) W := fun W => by
    rw [ht, run_slice_string_h _ _ _ Tryd.underlying9 _ _ h3 h4]
  rw [← hn, ← ht]
  clear hn ht
  by_cases hc : (b.size : Int) - s < more
  · have hsum : s + ((b.size : Int) - s) = n := by omega
    have hc2 : ¬ more ≤ (b.size : Int) - s := by omega
    clear hn' e2
    go_enter Tryd.func64, Tryd.ntmps64
    go_wp2_with fail
    refine bodyPost_ret (v := .agg #[.string a, .string t, .int .i64 n]) (by simp [results, Tryd.results64, go_sem] <;> rfl) rfl ⟨rfl, ?_⟩
    repeat (first | exact Below.refl _ _ | refine Below.setCell ?_ (by simp <;> omega) _ | refine Below.alloc ?_ (by simp <;> omega) _)
  · have hsum : s + more = n := by omega
    have hc2 : more ≤ (b.size : Int) - s := by omega
    clear hn' e2
    go_enter Tryd.func64, Tryd.ntmps64
    go_wp2_with fail
    refine bodyPost_ret (v := .agg #[.string a, .string t, .int .i64 n]) (by simp [results, Tryd.results64, go_sem] <;> rfl) rfl ⟨rfl, ?_⟩
    repeat (first | exact Below.refl _ _ | refine Below.setCell ?_ (by simp <;> omega) _ | refine Below.alloc ?_ (by simp <;> omega) _)
end Go.Proofs.YtlmbejldnfkfhaaDoor

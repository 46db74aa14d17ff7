/- The walk of the program's question whether an event is right. -/
import Derived.Test.YtficlppngnnpoaaProg
import Derived.Test.YtficlppngnnpoaaEventMath
import Derived.WalkKit
import Derived.WalkSpells
import Derived.WalkLawsBesides
import Derived.BigRegion
import Derived.BigQuiet
import Derived.Deep.RegionWith
import Derived.Lib.QuietBelow
namespace Go.Proofs.Ytficlppngnnpoaa
open Go.RowKit
set_option linter.unusedVariables false
set_option linter.unusedSimpArgs false

set_option maxHeartbeats 400000 in
theorem within_ev (n lo hi : Int) (w : World) :
    Calls Try.prog 43 #[.int .i64 n, .int .i64 lo, .int .i64 hi] w fun e w' => e = .returned (.bool (Ev.inn n lo hi)) ∧ w' = w := by
  by_cases h0 : lo ≤ n
  · go_enter Try.func43, Try.ntmps43
    go_wp2
    go_ret
    refine ⟨?_, rfl⟩
    simp [Ev.inn, h0]
  · go_enter Try.func43, Try.ntmps43
    go_wp2
    go_ret
    refine ⟨?_, rfl⟩
    simp [Ev.inn]
    omega

set_option maxHeartbeats 2000000 in
theorem onlyNamed_1 (id other price amount : Int) (w : World) :
    Calls Try.prog 68 #[.agg #[.int .i64 1, .int .i64 id, .int .i64 other, .int .i64 price, .int .i64 amount]] w fun e w' => e = .returned (.agg #[.int .i64 1, .int .i64 id, .int .i64 0, .int .i64 0, .int .i64 0]) ∧ Below w.heap.size w w' := by
  go_enter Try.func68, Try.ntmps68
  go_wp2_with fail
  refine bodyPost_ret (v := .agg #[.int .i64 1, .int .i64 id, .int .i64 0, .int .i64 0, .int .i64 0]) (by simp [results, Try.results68, go_sem] <;> rfl) rfl ⟨rfl, ?_⟩
  repeat (first | exact Below.refl _ _ | refine Below.alloc ?_ (by simp <;> omega) _ | refine Below.setCell ?_ (by simp <;> omega) _)

set_option maxHeartbeats 2000000 in
theorem onlyNamed_2 (id other price amount : Int) (w : World) :
    Calls Try.prog 68 #[.agg #[.int .i64 2, .int .i64 id, .int .i64 other, .int .i64 price, .int .i64 amount]] w fun e w' => e = .returned (.agg #[.int .i64 2, .int .i64 id, .int .i64 other, .int .i64 price, .int .i64 amount]) ∧ Below w.heap.size w w' := by
  go_enter Try.func68, Try.ntmps68
  go_wp2_with fail
  refine bodyPost_ret (v := .agg #[.int .i64 2, .int .i64 id, .int .i64 other, .int .i64 price, .int .i64 amount]) (by simp [results, Try.results68, go_sem] <;> rfl) rfl ⟨rfl, ?_⟩
  repeat (first | exact Below.refl _ _ | refine Below.alloc ?_ (by simp <;> omega) _ | refine Below.setCell ?_ (by simp <;> omega) _)

set_option maxHeartbeats 2000000 in
theorem onlyNamed_3 (id other price amount : Int) (w : World) :
    Calls Try.prog 68 #[.agg #[.int .i64 3, .int .i64 id, .int .i64 other, .int .i64 price, .int .i64 amount]] w fun e w' => e = .returned (.agg #[.int .i64 3, .int .i64 id, .int .i64 0, .int .i64 0, .int .i64 amount]) ∧ Below w.heap.size w w' := by
  go_enter Try.func68, Try.ntmps68
  go_wp2_with fail
  refine bodyPost_ret (v := .agg #[.int .i64 3, .int .i64 id, .int .i64 0, .int .i64 0, .int .i64 amount]) (by simp [results, Try.results68, go_sem] <;> rfl) rfl ⟨rfl, ?_⟩
  repeat (first | exact Below.refl _ _ | refine Below.alloc ?_ (by simp <;> omega) _ | refine Below.setCell ?_ (by simp <;> omega) _)

set_option maxHeartbeats 2000000 in
theorem onlyNamed_4 (id other price amount : Int) (w : World) :
    Calls Try.prog 68 #[.agg #[.int .i64 4, .int .i64 id, .int .i64 other, .int .i64 price, .int .i64 amount]] w fun e w' => e = .returned (.agg #[.int .i64 4, .int .i64 id, .int .i64 0, .int .i64 price, .int .i64 amount]) ∧ Below w.heap.size w w' := by
  go_enter Try.func68, Try.ntmps68
  go_wp2_with fail
  refine bodyPost_ret (v := .agg #[.int .i64 4, .int .i64 id, .int .i64 0, .int .i64 price, .int .i64 amount]) (by simp [results, Try.results68, go_sem] <;> rfl) rfl ⟨rfl, ?_⟩
  repeat (first | exact Below.refl _ _ | refine Below.alloc ?_ (by simp <;> omega) _ | refine Below.setCell ?_ (by simp <;> omega) _)

set_option maxHeartbeats 2000000 in
theorem onlyNamed_5 (id other price amount : Int) (w : World) :
    Calls Try.prog 68 #[.agg #[.int .i64 5, .int .i64 id, .int .i64 other, .int .i64 price, .int .i64 amount]] w fun e w' => e = .returned (.agg #[.int .i64 5, .int .i64 id, .int .i64 0, .int .i64 0, .int .i64 0]) ∧ Below w.heap.size w w' := by
  go_enter Try.func68, Try.ntmps68
  go_wp2_with fail
  refine bodyPost_ret (v := .agg #[.int .i64 5, .int .i64 id, .int .i64 0, .int .i64 0, .int .i64 0]) (by simp [results, Try.results68, go_sem] <;> rfl) rfl ⟨rfl, ?_⟩
  repeat (first | exact Below.refl _ _ | refine Below.alloc ?_ (by simp <;> omega) _ | refine Below.setCell ?_ (by simp <;> omega) _)

set_option maxHeartbeats 2000000 in
theorem onlyNamed_else (kind id other price amount : Int) (h1 : kind ≠ 1) (h2 : kind ≠ 2) (h3 : kind ≠ 3) (h4 : kind ≠ 4) (h5 : kind ≠ 5) (w : World) :
    Calls Try.prog 68 #[.agg #[.int .i64 kind, .int .i64 id, .int .i64 other, .int .i64 price, .int .i64 amount]] w fun e w' => e = .returned (.agg #[.int .i64 0, .int .i64 0, .int .i64 0, .int .i64 0, .int .i64 0]) ∧ Below w.heap.size w w' := by
  have k1 : (kind == 1) = false := by simpa using h1
  have k2 : (kind == 2) = false := by simpa using h2
  have k3 : (kind == 3) = false := by simpa using h3
  have k4 : (kind == 4) = false := by simpa using h4
  have k5 : (kind == 5) = false := by simpa using h5
  go_enter Try.func68, Try.ntmps68
  go_wp2_with fail
  refine bodyPost_ret (v := .agg #[.int .i64 0, .int .i64 0, .int .i64 0, .int .i64 0, .int .i64 0]) (by simp [results, Try.results68, go_sem] <;> rfl) rfl ⟨rfl, ?_⟩
  repeat (first | exact Below.refl _ _ | refine Below.alloc ?_ (by simp <;> omega) _ | refine Below.setCell ?_ (by simp <;> omega) _)
end Go.Proofs.Ytficlppngnnpoaa

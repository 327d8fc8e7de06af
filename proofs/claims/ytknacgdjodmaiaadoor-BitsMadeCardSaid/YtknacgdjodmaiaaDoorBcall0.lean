/- need, reason, and what catches a panic of an error. -/
import Derived.Test.YtknacgdjodmaiaaDoorBrd
import Derived.Defers
import Derived.Recover
import Derived.Laws.Pointers
namespace Go.Proofs.YtknacgdjodmaiaaDoor
set_option linter.unusedVariables false
open Go.RowKit

/-- A call that ends by a panic with an error. -/
def pan (er : Int) : Ending := .panicked [{ v := .iface 27 (.int .i64 er), recovered := false }]
set_option maxRecDepth 100000 in
theorem need_yes (er : Int) (w : World) : Calls Tryd.prog 59 #[.bool true, .int .i64 er] w fun e w' => e = .returned (.tuple #[]) ∧ w = w' := by
  go_enter Tryd.func59, Tryd.ntmps59
  go_wp2
  go_end0
  exact ⟨rfl, rfl⟩
set_option maxRecDepth 100000 in
theorem need_no (er : Int) (w : World) : Calls Tryd.prog 59 #[.bool false, .int .i64 er] w fun e w' => e = pan er ∧ w = w' := by
  go_enter Tryd.func59, Tryd.ntmps59
  go_wp2
  exact ⟨rfl, rfl, rfl⟩
theorem run_assert (er : Int) (w : World) : (Instr.typeAssert (.iface 27 (.int .i64 er)) 20 27 true).run Tryd.prog w = .ok (.tuple #[.int .i64 er, .bool true]) w := by kernel_rfl
set_option maxRecDepth 100000 in
set_option maxHeartbeats 400000 in
theorem reason_any (er : Int) (w : World) : Calls Tryd.prog 83 #[.iface 27 (.int .i64 er)] w fun e w' => e = .returned (.int .i64 er) ∧ w = w' := by
  have hta := run_assert er
  go_enter Tryd.func83, Tryd.ntmps83
  go_wp2
  go_ret
  exact ⟨rfl, rfl⟩
theorem size_any (n : Int) (w : World) : Calls Tryd.prog 60 #[.int .i64 n] w fun e w' => e = .returned (.bool (decide (0 ≤ n) && decide (n ≤ 65536))) ∧ w = w' := by
  by_cases h : 0 ≤ n
  · go_enter Tryd.func60, Tryd.ntmps60
    go_wp2
    go_ret
    exact ⟨by simp [h], rfl⟩
  · go_enter Tryd.func60, Tryd.ntmps60
    go_wp2
    go_ret
    exact ⟨by simp; omega, rfl⟩
theorem bytesFor_any (n : Int) (w : World) (h0 : 0 ≤ n) (h1 : n ≤ 65536) : Calls Tryd.prog 88 #[.int .i64 n] w fun e w' => e = .returned (.int .i64 ((n + 7) / 8)) ∧ w = w' := by
  go_enter Tryd.func88, Tryd.ntmps88
  go_wp2
  go_ret
  refine ⟨?_, rfl⟩
  have e : n + 8 - 1 = n + 7 := by omega
  show Ending.returned (.int .i64 ((n + 8 - 1) / 8)) = _
  rw [e]
end Go.Proofs.YtknacgdjodmaiaaDoor

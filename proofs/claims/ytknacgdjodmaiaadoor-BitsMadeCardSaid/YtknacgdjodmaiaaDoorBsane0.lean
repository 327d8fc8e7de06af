/- What the laws' common test asks of the package, call by call. -/
import Derived.Test.YtknacgdjodmaiaaDoorBsame
import Derived.Test.YtknacgdjodmaiaaDoorBnot
import Derived.Test.YtknacgdjodmaiaaDoorBset
import Derived.Test.YtknacgdjodmaiaaDoorBcount
namespace Go.Proofs.YtknacgdjodmaiaaDoor
set_option linter.unusedVariables false
open Go.RowKit Go.Shelf

theorem smp_valid : validB 12 [35, 8] = true := by kernel_rfl
theorem smp_runs : runsV [35, 8] 12 false = [(2, 3), (6, 5)] := by kernel_rfl
theorem smp_next : nextV [35, 8] 12 4 0 = some 6 := by kernel_rfl
theorem smp_next7 : nextV [35, 8] 12 7 0 = none := by kernel_rfl
theorem smp_cnt : cntV [35, 8] 1 6 = 2 := by kernel_rfl
theorem smp_fill : fillV [35, 8] 3 7 true = [123, 8] := by kernel_rfl
theorem smp_not : notV 12 2 [35, 8] = [220, 7] := by kernel_rfl
theorem smp_bad : validB 3 [8] = false := by kernel_rfl
theorem smp_sort : Sort.insertionSort (ltOf cmpLong) [(2, 3), (6, 5)].toArray 0 2 = [(6, 5), (2, 3)].toArray := by kernel_rfl
section
variable (a : Option Addr) (l c : Nat) (w : World)
theorem from_s (hr : Rd w a l c [35, 8]) : Calls Tryd.prog 26 #[.int .i64 12, .slice a l c] w fun e w' => ∃ a l c, e = .returned (.tuple #[.agg #[.int .i64 12, .slice a l c], .int .i64 0]) ∧ Own w' w.heap.size (.slice a l c) [35, 8] ∧ Below w.heap.size w w' :=
  from_lift_ok 12 a l c 12 [35, 8] w (fun W hb h0 h1 => from1_ok _ _ 12 a l c [35, 8] W h0 h1 (hr.below hb (Nat.le_refl _)) smp_valid)
theorem from_n (hr : Rd w a l c [8]) : Calls Tryd.prog 26 #[.int .i64 3, .slice a l c] w fun e w' => e = .returned (.tuple #[.agg #[.int .i64 0, .slice none 0 0], .int .i64 4]) ∧ Below w.heap.size w w' :=
  from_lift_bad 3 a l c 4 w (fun W hb h0 h1 => from1_form _ _ 3 a l c [8] W h0 h1 (hr.below hb (Nat.le_refl _)) (by omega) smp_bad)
variable (hr : Rd w a l c [35, 8])
include hr
theorem runs_s : Calls Tryd.prog 37 #[.agg #[.int .i64 12, .slice a l c], .bool false] w fun e w' => ∃ a l c, e = .returned (.tuple #[.slice a l c, .int .i64 0]) ∧ OwnR w' w.heap.size (.slice a l c) [(2, 3), (6, 5)] ∧ Below w.heap.size w w' := by
  refine runs_lift_ok 12 a l c false [(2, 3), (6, 5)] w (fun W hb h0 h1 => ?_)
  rw [← smp_runs]
  exact runs1_ok _ _ 12 a l c [35, 8] false W h0 h1 (hr.below hb (Nat.le_refl _)) 12 rfl smp_valid
theorem find_s : Calls Tryd.prog 40 #[.agg #[.int .i64 12, .slice a l c], .int .i64 4, .int .i64 1, .int .i64 0] w fun e w' => e = .returned (.tuple #[.int .i64 6, .int .i64 0]) ∧ Below w.heap.size w w' :=
  find_lift_ok 12 a l c 4 1 0 6 w (fun W hb h0 h1 h2 h3 => find1_ok _ _ _ _ 12 a l c [35, 8] 4 0 1 W h0 h1 h3 h2 (hr.below hb (Nat.le_refl _)) smp_valid (by omega) (by omega) none (by omega) (by omega) (fun h => absurd h (by decide)) 6 (by unfold findV; exact smp_next))
theorem count_s (ho : Ones w) : Calls Tryd.prog 16 #[.agg #[.int .i64 12, .slice a l c], .int .i64 1, .int .i64 5] w fun e w' => e = .returned (.tuple #[.int .i64 2, .int .i64 0]) ∧ Below w.heap.size w w' := by
  refine count_lift_ok 12 a l c 1 5 2 w (fun W hb h0 h1 h2 => ?_)
  have := count1_ok _ _ _ 12 a l c [35, 8] 1 5 6 W h0 h1 h2 (hr.below hb (Nat.le_refl _)) smp_valid rfl (by omega) (ho.below hb (Nat.le_refl _))
  rw [smp_cnt] at this
  exact this
theorem set_s : Calls Tryd.prog 15 #[.agg #[.int .i64 12, .slice a l c], .int .i64 3, .int .i64 4, .bool true] w fun e w' => ∃ a l c, e = .returned (.tuple #[.agg #[.int .i64 12, .slice a l c], .int .i64 0]) ∧ Own w' w.heap.size (.slice a l c) [123, 8] ∧ Below w.heap.size w w' := by
  refine set_lift_ok 12 a l c 3 4 true 12 [123, 8] w (fun W hb h0 h1 h2 h3 => ?_)
  rw [← smp_fill]
  exact set1_ok _ _ _ _ 12 a l c [35, 8] 3 4 7 true W h0 h1 h2 h3 (hr.below hb (Nat.le_refl _)) smp_valid rfl (by omega)
theorem not_s : Calls Tryd.prog 33 #[.agg #[.int .i64 12, .slice a l c]] w fun e w' => ∃ a l c, e = .returned (.tuple #[.agg #[.int .i64 12, .slice a l c], .int .i64 0]) ∧ Own w' w.heap.size (.slice a l c) [220, 7] ∧ Below w.heap.size w w' := by
  refine not_lift_ok 12 a l c 12 [220, 7] w (fun W hb h0 => ?_)
  have hl : l = 2 := by have := hr.hl; simpa using this.symm
  subst hl
  rw [← smp_not]
  exact not1_ok _ 12 a 2 c [35, 8] W h0 (hr.below hb (Nat.le_refl _)) smp_valid
theorem gather_s : Calls Tryd.prog 42 #[.agg #[.int .i64 12, .slice a l c], .int .i64 7, .int .i64 0] w fun e w' => ∃ a l c, e = .returned (.tuple #[.slice a l c, .int .i64 0]) ∧ OwnR w' w.heap.size (.slice a l c) [(2, 2), (6, 5)] ∧ Below w.heap.size w w' := by
  refine gather_lift_ok 12 a l c 7 0 [(2, 2), (6, 5)] w (fun W hb h0 h1 h2 => ?_)
  refine gather1_many _ _ _ 12 a l c [35, 8] 7 0 W h0 h1 h2 (hr.below hb (Nat.le_refl _)) smp_valid (by omega) (by omega) 2 [(6, 5), (2, 3)] [(2, 2), (6, 5)] (by omega) ?_ (by decide) (by decide) ?_ ?_ ?_
  · rw [smp_runs]
    exact stableR_few _ _ (by decide) (by decide) smp_sort rfl (by decide)
  · intro i hi
    have : i = 0 ∨ i = 1 := by omega
    rcases this with rfl | rfl <;> decide
  · exact sortR_any _ _ (by decide) (by decide) (by decide)
  · unfold findV; rw [if_pos rfl, show ((7 : Nat) : Int) = 7 from rfl, smp_next7]
end
end Go.Proofs.YtknacgdjodmaiaaDoor

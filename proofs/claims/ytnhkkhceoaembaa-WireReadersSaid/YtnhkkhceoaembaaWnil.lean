/- The calls of a nil Reader. -/
import Derived.Test.YtnhkkhceoaembaaWdid2
namespace Go.Proofs.Ytnhkkhceoaembaa
set_option linter.unusedVariables false
open Go.RowKit

set_option maxHeartbeats 400000 in
theorem at_nil (w : World) :
    Calls Try.prog 52 #[.pointer none] w fun e w' => e = .returned (.int .i64 0) ∧ w' = w := by
  go_enter Try.func52, Try.ntmps52
  go_wp2
  go_ret
  exact ⟨rfl, rfl⟩
set_option maxHeartbeats 400000 in
theorem left_nil (w : World) :
    Calls Try.prog 53 #[.pointer none] w fun e w' => e = .returned (.int .i64 0) ∧ w' = w := by
  go_enter Try.func53, Try.ntmps53
  go_wp2
  go_ret
  exact ⟨rfl, rfl⟩
set_option maxHeartbeats 400000 in
theorem var_nil (w : World) :
    Calls Try.prog 60 #[.pointer none] w fun e w' => e = .returned (.tuple #[.int .i64 0, .int .i64 23]) ∧ w' = w := by
  go_enter Try.func60, Try.ntmps60
  go_wp2
  go_ret2
  exact ⟨rfl, rfl⟩
set_option maxHeartbeats 400000 in
theorem text_nil (w : World) :
    Calls Try.prog 63 #[.pointer none] w fun e w' => e = .returned (.tuple #[.slice none 0 0, .int .i64 23]) ∧ w' = w := by
  go_enter Try.func63, Try.ntmps63
  go_wp2
  go_ret2
  exact ⟨rfl, rfl⟩
set_option maxHeartbeats 400000 in
theorem seek_nil (w : World) (n : Int) :
    Calls Try.prog 57 #[.pointer none, .int .i64 n] w fun e w' => e = .returned (.int .i64 23) ∧ w' = w := by
  go_enter Try.func57, Try.ntmps57
  go_wp2
  go_ret
  exact ⟨rfl, rfl⟩
set_option maxHeartbeats 400000 in
theorem ahead_nil (w : World) (n : Int) :
    Calls Try.prog 82 #[.pointer none, .int .i64 n] w fun e w' => e = .returned (.tuple #[.slice none 0 0, .int .i64 23]) ∧ w' = w := by
  go_enter Try.func82, Try.ntmps82
  go_wp2
  go_ret2
  exact ⟨rfl, rfl⟩
set_option maxHeartbeats 400000 in
theorem fixedu_nil (w : World) (n : Int) :
    Calls Try.prog 84 #[.pointer none, .int .i64 n, .func (.func 20) #[] #[]] w fun e w' => e = .returned (.tuple #[.int .i64 0, .int .i64 23]) ∧ w' = w := by
  go_enter Try.func84, Try.ntmps84
  go_wp2
  go_ret2
  exact ⟨rfl, rfl⟩
set_option maxHeartbeats 400000 in
theorem fixedi_nil (w : World) (n : Int) :
    Calls Try.prog 84 #[.pointer none, .int .i64 n, .func (.func 22) #[] #[]] w fun e w' => e = .returned (.tuple #[.int .i64 0, .int .i64 23]) ∧ w' = w := by
  go_enter Try.func84, Try.ntmps84
  go_wp2
  go_ret2
  exact ⟨rfl, rfl⟩
set_option maxHeartbeats 400000 in
theorem uint_nil (w : World) (n : Int) :
    Calls Try.prog 62 #[.pointer none, .int .i64 n] w fun e w' => e = .returned (.tuple #[.int .i64 0, .int .i64 23]) ∧ w' = w := by
  go_enter Try.func62, Try.ntmps62
  go_wp2_with fail
  refine (fixedu_nil w n).mono ?_
  rintro e w1 ⟨rfl, rfl⟩
  go_wp2_with fail
  go_ret2
  exact ⟨rfl, rfl⟩
set_option maxHeartbeats 400000 in
theorem int_nil (w : World) (n : Int) :
    Calls Try.prog 79 #[.pointer none, .int .i64 n] w fun e w' => e = .returned (.tuple #[.int .i64 0, .int .i64 23]) ∧ w' = w := by
  go_enter Try.func79, Try.ntmps79
  go_wp2_with fail
  refine (fixedi_nil w n).mono ?_
  rintro e w1 ⟨rfl, rfl⟩
  go_wp2_with fail
  go_ret2
  exact ⟨rfl, rfl⟩
set_option maxHeartbeats 400000 in
theorem bytes_nil (w : World) (n : Int) :
    Calls Try.prog 80 #[.pointer none, .int .i64 n] w fun e w' => e = .returned (.tuple #[.slice none 0 0, .int .i64 23]) ∧ w' = w := by
  go_enter Try.func80, Try.ntmps80
  go_wp2_with fail
  refine (ahead_nil w n).mono ?_
  rintro e w1 ⟨rfl, rfl⟩
  go_wp2_with fail
  go_ret2
  exact ⟨rfl, rfl⟩
set_option maxHeartbeats 400000 in
theorem sub_nil (w : World) (n : Int) :
    Calls Try.prog 58 #[.pointer none, .int .i64 n] w fun e w' => e = .returned (.tuple #[.pointer none, .int .i64 23]) ∧ w' = w := by
  go_enter Try.func58, Try.ntmps58
  go_wp2_with fail
  refine (ahead_nil w n).mono ?_
  rintro e w1 ⟨rfl, rfl⟩
  go_wp2_with fail
  go_ret2
  exact ⟨rfl, rfl⟩
set_option maxRecDepth 100000 in
set_option maxHeartbeats 4000000 in
theorem did_nil0 (w : World) :
    Calls Try.prog 54 #[.pointer none, .agg #[.int .i64 0, .int .i64 0]] w fun e w' => e = .returned (.tuple #[.agg #[.int .i64 0, .slice none 0 0, .int .i64 23], .pointer none]) ∧ Below w.heap.size w w' := by
  obtain ⟨Wa, hWa⟩ : ∃ Wa, Wa = (w.alloc (.cells #[.int .i64 0, .int .i64 0] 87)).alloc (.cells #[.int .i64 0, .slice none 0 0, .int .i64 0] 83) := ⟨_, rfl⟩
  have hsa : Wa.heap.size = w.heap.size + 2 := by rw [hWa]; simp
  have hFa : Wa.heap[w.heap.size]? = some (.cells #[.int .i64 0, .int .i64 0] 87 (0, 0)) := by rw [hWa, heap_alloc_old _ _ _ (by simp), heap_alloc_last]
  have h4a : Wa.heap[w.heap.size + 1]? = some (.cells #[.int .i64 0, .slice none 0 0, .int .i64 0] 83 (0, 0)) := by
    rw [hWa]; have := heap_alloc_last (w.alloc (.cells #[.int .i64 0, .int .i64 0] 87)) (.cells #[.int .i64 0, .slice none 0 0, .int .i64 0] 83); simpa using this
  have hba : Below w.heap.size w Wa := by rw [hWa]; exact ((Below.refl _ w).alloc (Nat.le_refl _) _).alloc (by simp) _
  obtain ⟨Wz, hWz⟩ : ∃ Wz, Wz = Wa.alloc (.cells #[.int .i64 0, .slice none 0 0, .int .i64 0] 83) := ⟨_, rfl⟩
  have hsz : Wz.heap.size = w.heap.size + 3 := by rw [hWz]; simp [hsa]
  have h5z : Wz.heap[w.heap.size + 2]? = some (.cells #[.int .i64 0, .slice none 0 0, .int .i64 0] 83 (0, 0)) := by rw [hWz, ← hsa, heap_alloc_last]
  have hbz : Below w.heap.size w Wz := by rw [hWz]; exact hba.alloc (by omega) _
  have hFz : Wz.heap[w.heap.size]? = some (.cells #[.int .i64 0, .int .i64 0] 87 (0, 0)) := by rw [hWz, heap_alloc_old _ _ _ (by omega)]; exact hFa
  have h4z : Wz.heap[w.heap.size + 1]? = some (.cells #[.int .i64 0, .slice none 0 0, .int .i64 0] 83 (0, 0)) := by rw [hWz, heap_alloc_old _ _ _ (by omega)]; exact h4a
  obtain ⟨W0, hW0⟩ : ∃ W0, W0 = Wz.setRow (w.heap.size + 2) #[.int .i64 0, .slice none 0 0, .int .i64 0] := ⟨_, rfl⟩
  have h50 : W0.heap[w.heap.size + 2]? = some (.cells #[.int .i64 0, .slice none 0 0, .int .i64 0] 83 (0, 0)) := by rw [hW0]; exact setRow_heap _ _ _ _ _ _ h5z
  have h40 : W0.heap[w.heap.size + 1]? = some (.cells #[.int .i64 0, .slice none 0 0, .int .i64 0] 83 (0, 0)) := by rw [hW0]; exact (setRow_other _ _ _ _ (by omega)).trans h4z
  have hF0 : W0.heap[w.heap.size]? = some (.cells #[.int .i64 0, .int .i64 0] 87 (0, 0)) := by rw [hW0]; exact (setRow_other _ _ _ _ (by omega)).trans hFz
  have hb0 : Below w.heap.size w W0 := by rw [hW0]; exact hbz.trans (below_setRow' _ _ _ _ (by omega))
  have hs0 : W0.heap.size = w.heap.size + 3 := by rw [hW0]; simp [hsz]
  have cs := fun (i : Nat) => cell_of_row W0 w.heap.size i _ _ _ hF0
  have HWa := Lib.hid hWa
  have HWz := Lib.hid hWz
  have HW0 := Lib.hid hW0
  have H5z := Lib.hid h5z
  have H50 := Lib.hid h50
  have H40 := Lib.hid h40
  have Hb0 := Lib.hid hb0
  have Hsa := Lib.hid hsa
  have Hs0 := Lib.hid hs0
  have kc : W0.cell? ⟨w.heap.size, 0, none⟩ = some (.int .i64 0) := by rw [cs 0]; rfl
  have wc : W0.cell? ⟨w.heap.size, 1, none⟩ = some (.int .i64 0) := by rw [cs 1]; rfl
  clear cs hWa hWz hW0 h5z h50 h40 hb0 hFa h4a hFz h4z hF0 hba hbz hsa hsz hs0
  go_enter Try.func54, Try.ntmps54
  go_upto_region 1 with fail
  rw [← HWa.out]
  go_upto_region 2 with (rw [Hsa.out, ← HWz.out]; refine wpList_store_row rfl 83 (.tmp 6) (.tmp 8) rfl (w.heap.size + 2) #[.int .i64 0, .slice none 0 0, .int .i64 0] rfl rfl 83 #[.int .i64 0, .slice none 0 0, .int .i64 0] H5z.out (Try.sizeTold _ _ _) rfl (oneTold _ _ _ _ _) ?_)
  rw [← HW0.out]
  clear HWa HWz HW0 H5z Hsa
  go_wp2_with fail
  refine (uint_nil _ 0).mono ?_
  rintro e w1 ⟨rfl, rfl⟩
  have k5 := H50.out
  have k4 := H40.out
  obtain ⟨W2, e2, k52, k42, bk2, ok2⟩ := told_set k5 k4 (by omega : w.heap.size + 1 ≠ w.heap.size + 2) 0 (.int .i64 0) (B := w.heap.size) (by omega)
  obtain ⟨W3, e3, k53, k43, bk3, ok3⟩ := told_set k52 k42 (by omega : w.heap.size + 1 ≠ w.heap.size + 2) 2 (.int .i64 23) (B := w.heap.size) (by omega)
  have p1 : w1.cell? ⟨w.heap.size + 2, 0, none⟩ = some (.int .i64 0) := by rw [cell_of_row _ _ _ _ _ _ k5]; rfl
  have q1 := frozen_of_row w1 (w.heap.size + 2) 0 _ _ k5
  have p2 : W2.cell? ⟨w.heap.size + 2, 2, none⟩ = some (.int .i64 0) := by rw [cell_of_row _ _ _ _ _ _ k52]; rfl
  have q2 := frozen_of_row W2 (w.heap.size + 2) 2 _ _ k52
  have p2' : (w1.setCell ⟨w.heap.size + 2, 0, none⟩ (.int .i64 0)).cell? ⟨w.heap.size + 2, 2, none⟩ = some (.int .i64 0) := by rw [e2]; exact p2
  have q2' : (w1.setCell ⟨w.heap.size + 2, 0, none⟩ (.int .i64 0)).frozen? ⟨w.heap.size + 2, 2, none⟩ = false := by rw [e2]; exact q2
  have p3 : w1.cell? ⟨w.heap.size + 2, 2, none⟩ = some (.int .i64 0) := by rw [cell_of_row _ _ _ _ _ _ k5]; rfl
  have q3 := frozen_of_row w1 (w.heap.size + 2) 2 _ _ k5
  have k53' : W3.heap[w.heap.size + 2]? = some (.cells #[.int .i64 0, .slice none 0 0, .int .i64 23] 83 (0, 0)) := k53
  have B3 := Lib.hid (bk2.trans bk3)
  have E2 := Lib.hid e2
  have E3 := Lib.hid e3
  have K53 := Lib.hid k53'
  have K43 := Lib.hid k43
  have O3 := Lib.hid (And.intro ok2 ok3)
  clear e2 e3 bk2 bk3 k52 k42 k53 k53' k43 ok2 ok3 k5 k4
  go_upto_region 17 with fail
  rw [E2.out, E3.out]
  clear E2 E3 p1 p2 q1 q2 p2' q2' p3 q3
  have c5 := fun (i : Nat) => cell_of_row W3 (w.heap.size + 2) i _ _ _ K53.out
  have d0 : W3.cell? ⟨w.heap.size + 2, 0, none⟩ = some (.int .i64 0) := by rw [c5 0]; rfl
  have d1 : W3.cell? ⟨w.heap.size + 2, 1, none⟩ = some (.slice none 0 0) := by rw [c5 1]; rfl
  have d2 : W3.cell? ⟨w.heap.size + 2, 2, none⟩ = some (.int .i64 23) := by rw [c5 2]; rfl
  clear c5
  go_wp2_with (refine wpList_store_row rfl 83 (.tmp 4) (.tmp 77) rfl (w.heap.size + 1) #[.int .i64 0, .slice none 0 0, .int .i64 23] rfl rfl 83 #[.int .i64 0, .slice none 0 0, .int .i64 0] K43.out (Try.sizeTold _ _ _) rfl (oneTold _ _ _ _ _) ?_)
  refine bodyPost_ret (v := .tuple #[.agg #[.int .i64 0, .slice none 0 0, .int .i64 23], .pointer none]) ?_ rfl ?_
  · exact results_cell_two (p := 4) (q := 5) rfl _ _ (w.heap.size + 1) 83 #[.int .i64 0, .slice none 0 0, .int .i64 23] (0, 0) _ rfl (setRow_heap _ _ _ _ _ _ K43.out) Try.underlying83 rfl (Try.sizeTold _ _ _) _ rfl
  · exact ⟨rfl, Hb0.out.trans (B3.out.trans (below_setRow' _ _ _ _ (by omega)))⟩
set_option maxRecDepth 100000 in
set_option maxHeartbeats 4000000 in
theorem did_nil1 (w : World) :
    Calls Try.prog 54 #[.pointer none, .agg #[.int .i64 1, .int .i64 0]] w fun e w' => e = .returned (.tuple #[.agg #[.int .i64 0, .slice none 0 0, .int .i64 23], .pointer none]) ∧ Below w.heap.size w w' := by
  obtain ⟨Wa, hWa⟩ : ∃ Wa, Wa = (w.alloc (.cells #[.int .i64 1, .int .i64 0] 87)).alloc (.cells #[.int .i64 0, .slice none 0 0, .int .i64 0] 83) := ⟨_, rfl⟩
  have hsa : Wa.heap.size = w.heap.size + 2 := by rw [hWa]; simp
  have hFa : Wa.heap[w.heap.size]? = some (.cells #[.int .i64 1, .int .i64 0] 87 (0, 0)) := by rw [hWa, heap_alloc_old _ _ _ (by simp), heap_alloc_last]
  have h4a : Wa.heap[w.heap.size + 1]? = some (.cells #[.int .i64 0, .slice none 0 0, .int .i64 0] 83 (0, 0)) := by
    rw [hWa]; have := heap_alloc_last (w.alloc (.cells #[.int .i64 1, .int .i64 0] 87)) (.cells #[.int .i64 0, .slice none 0 0, .int .i64 0] 83); simpa using this
  have hba : Below w.heap.size w Wa := by rw [hWa]; exact ((Below.refl _ w).alloc (Nat.le_refl _) _).alloc (by simp) _
  obtain ⟨Wz, hWz⟩ : ∃ Wz, Wz = Wa.alloc (.cells #[.int .i64 0, .slice none 0 0, .int .i64 0] 83) := ⟨_, rfl⟩
  have hsz : Wz.heap.size = w.heap.size + 3 := by rw [hWz]; simp [hsa]
  have h5z : Wz.heap[w.heap.size + 2]? = some (.cells #[.int .i64 0, .slice none 0 0, .int .i64 0] 83 (0, 0)) := by rw [hWz, ← hsa, heap_alloc_last]
  have hbz : Below w.heap.size w Wz := by rw [hWz]; exact hba.alloc (by omega) _
  have hFz : Wz.heap[w.heap.size]? = some (.cells #[.int .i64 1, .int .i64 0] 87 (0, 0)) := by rw [hWz, heap_alloc_old _ _ _ (by omega)]; exact hFa
  have h4z : Wz.heap[w.heap.size + 1]? = some (.cells #[.int .i64 0, .slice none 0 0, .int .i64 0] 83 (0, 0)) := by rw [hWz, heap_alloc_old _ _ _ (by omega)]; exact h4a
  obtain ⟨W0, hW0⟩ : ∃ W0, W0 = Wz.setRow (w.heap.size + 2) #[.int .i64 0, .slice none 0 0, .int .i64 0] := ⟨_, rfl⟩
  have h50 : W0.heap[w.heap.size + 2]? = some (.cells #[.int .i64 0, .slice none 0 0, .int .i64 0] 83 (0, 0)) := by rw [hW0]; exact setRow_heap _ _ _ _ _ _ h5z
  have h40 : W0.heap[w.heap.size + 1]? = some (.cells #[.int .i64 0, .slice none 0 0, .int .i64 0] 83 (0, 0)) := by rw [hW0]; exact (setRow_other _ _ _ _ (by omega)).trans h4z
  have hF0 : W0.heap[w.heap.size]? = some (.cells #[.int .i64 1, .int .i64 0] 87 (0, 0)) := by rw [hW0]; exact (setRow_other _ _ _ _ (by omega)).trans hFz
  have hb0 : Below w.heap.size w W0 := by rw [hW0]; exact hbz.trans (below_setRow' _ _ _ _ (by omega))
  have hs0 : W0.heap.size = w.heap.size + 3 := by rw [hW0]; simp [hsz]
  have cs := fun (i : Nat) => cell_of_row W0 w.heap.size i _ _ _ hF0
  have HWa := Lib.hid hWa
  have HWz := Lib.hid hWz
  have HW0 := Lib.hid hW0
  have H5z := Lib.hid h5z
  have H50 := Lib.hid h50
  have H40 := Lib.hid h40
  have Hb0 := Lib.hid hb0
  have Hsa := Lib.hid hsa
  have Hs0 := Lib.hid hs0
  have kc : W0.cell? ⟨w.heap.size, 0, none⟩ = some (.int .i64 1) := by rw [cs 0]; rfl
  have wc : W0.cell? ⟨w.heap.size, 1, none⟩ = some (.int .i64 0) := by rw [cs 1]; rfl
  clear cs hWa hWz hW0 h5z h50 h40 hb0 hFa h4a hFz h4z hF0 hba hbz hsa hsz hs0
  go_enter Try.func54, Try.ntmps54
  go_upto_region 1 with fail
  rw [← HWa.out]
  go_upto_region 2 with (rw [Hsa.out, ← HWz.out]; refine wpList_store_row rfl 83 (.tmp 6) (.tmp 8) rfl (w.heap.size + 2) #[.int .i64 0, .slice none 0 0, .int .i64 0] rfl rfl 83 #[.int .i64 0, .slice none 0 0, .int .i64 0] H5z.out (Try.sizeTold _ _ _) rfl (oneTold _ _ _ _ _) ?_)
  rw [← HW0.out]
  clear HWa HWz HW0 H5z Hsa
  go_wp2_with fail
  refine (int_nil _ 0).mono ?_
  rintro e w1 ⟨rfl, rfl⟩
  have k5 := H50.out
  have k4 := H40.out
  obtain ⟨W2, e2, k52, k42, bk2, ok2⟩ := told_set k5 k4 (by omega : w.heap.size + 1 ≠ w.heap.size + 2) 0 (.int .i64 0) (B := w.heap.size) (by omega)
  obtain ⟨W3, e3, k53, k43, bk3, ok3⟩ := told_set k52 k42 (by omega : w.heap.size + 1 ≠ w.heap.size + 2) 2 (.int .i64 23) (B := w.heap.size) (by omega)
  have p1 : w1.cell? ⟨w.heap.size + 2, 0, none⟩ = some (.int .i64 0) := by rw [cell_of_row _ _ _ _ _ _ k5]; rfl
  have q1 := frozen_of_row w1 (w.heap.size + 2) 0 _ _ k5
  have p2 : W2.cell? ⟨w.heap.size + 2, 2, none⟩ = some (.int .i64 0) := by rw [cell_of_row _ _ _ _ _ _ k52]; rfl
  have q2 := frozen_of_row W2 (w.heap.size + 2) 2 _ _ k52
  have p2' : (w1.setCell ⟨w.heap.size + 2, 0, none⟩ (.int .i64 0)).cell? ⟨w.heap.size + 2, 2, none⟩ = some (.int .i64 0) := by rw [e2]; exact p2
  have q2' : (w1.setCell ⟨w.heap.size + 2, 0, none⟩ (.int .i64 0)).frozen? ⟨w.heap.size + 2, 2, none⟩ = false := by rw [e2]; exact q2
  have p3 : w1.cell? ⟨w.heap.size + 2, 2, none⟩ = some (.int .i64 0) := by rw [cell_of_row _ _ _ _ _ _ k5]; rfl
  have q3 := frozen_of_row w1 (w.heap.size + 2) 2 _ _ k5
  have k53' : W3.heap[w.heap.size + 2]? = some (.cells #[.int .i64 0, .slice none 0 0, .int .i64 23] 83 (0, 0)) := k53
  have B3 := Lib.hid (bk2.trans bk3)
  have E2 := Lib.hid e2
  have E3 := Lib.hid e3
  have K53 := Lib.hid k53'
  have K43 := Lib.hid k43
  have O3 := Lib.hid (And.intro ok2 ok3)
  clear e2 e3 bk2 bk3 k52 k42 k53 k53' k43 ok2 ok3 k5 k4
  go_upto_region 17 with fail
  rw [E2.out, E3.out]
  clear E2 E3 p1 p2 q1 q2 p2' q2' p3 q3
  have c5 := fun (i : Nat) => cell_of_row W3 (w.heap.size + 2) i _ _ _ K53.out
  have d0 : W3.cell? ⟨w.heap.size + 2, 0, none⟩ = some (.int .i64 0) := by rw [c5 0]; rfl
  have d1 : W3.cell? ⟨w.heap.size + 2, 1, none⟩ = some (.slice none 0 0) := by rw [c5 1]; rfl
  have d2 : W3.cell? ⟨w.heap.size + 2, 2, none⟩ = some (.int .i64 23) := by rw [c5 2]; rfl
  clear c5
  go_wp2_with (refine wpList_store_row rfl 83 (.tmp 4) (.tmp 77) rfl (w.heap.size + 1) #[.int .i64 0, .slice none 0 0, .int .i64 23] rfl rfl 83 #[.int .i64 0, .slice none 0 0, .int .i64 0] K43.out (Try.sizeTold _ _ _) rfl (oneTold _ _ _ _ _) ?_)
  refine bodyPost_ret (v := .tuple #[.agg #[.int .i64 0, .slice none 0 0, .int .i64 23], .pointer none]) ?_ rfl ?_
  · exact results_cell_two (p := 4) (q := 5) rfl _ _ (w.heap.size + 1) 83 #[.int .i64 0, .slice none 0 0, .int .i64 23] (0, 0) _ rfl (setRow_heap _ _ _ _ _ _ K43.out) Try.underlying83 rfl (Try.sizeTold _ _ _) _ rfl
  · exact ⟨rfl, Hb0.out.trans (B3.out.trans (below_setRow' _ _ _ _ (by omega)))⟩
set_option maxRecDepth 100000 in
set_option maxHeartbeats 4000000 in
theorem did_nil2 (w : World) :
    Calls Try.prog 54 #[.pointer none, .agg #[.int .i64 2, .int .i64 0]] w fun e w' => e = .returned (.tuple #[.agg #[.int .i64 0, .slice none 0 0, .int .i64 23], .pointer none]) ∧ Below w.heap.size w w' := by
  obtain ⟨Wa, hWa⟩ : ∃ Wa, Wa = (w.alloc (.cells #[.int .i64 2, .int .i64 0] 87)).alloc (.cells #[.int .i64 0, .slice none 0 0, .int .i64 0] 83) := ⟨_, rfl⟩
  have hsa : Wa.heap.size = w.heap.size + 2 := by rw [hWa]; simp
  have hFa : Wa.heap[w.heap.size]? = some (.cells #[.int .i64 2, .int .i64 0] 87 (0, 0)) := by rw [hWa, heap_alloc_old _ _ _ (by simp), heap_alloc_last]
  have h4a : Wa.heap[w.heap.size + 1]? = some (.cells #[.int .i64 0, .slice none 0 0, .int .i64 0] 83 (0, 0)) := by
    rw [hWa]; have := heap_alloc_last (w.alloc (.cells #[.int .i64 2, .int .i64 0] 87)) (.cells #[.int .i64 0, .slice none 0 0, .int .i64 0] 83); simpa using this
  have hba : Below w.heap.size w Wa := by rw [hWa]; exact ((Below.refl _ w).alloc (Nat.le_refl _) _).alloc (by simp) _
  obtain ⟨Wz, hWz⟩ : ∃ Wz, Wz = Wa.alloc (.cells #[.int .i64 0, .slice none 0 0, .int .i64 0] 83) := ⟨_, rfl⟩
  have hsz : Wz.heap.size = w.heap.size + 3 := by rw [hWz]; simp [hsa]
  have h5z : Wz.heap[w.heap.size + 2]? = some (.cells #[.int .i64 0, .slice none 0 0, .int .i64 0] 83 (0, 0)) := by rw [hWz, ← hsa, heap_alloc_last]
  have hbz : Below w.heap.size w Wz := by rw [hWz]; exact hba.alloc (by omega) _
  have hFz : Wz.heap[w.heap.size]? = some (.cells #[.int .i64 2, .int .i64 0] 87 (0, 0)) := by rw [hWz, heap_alloc_old _ _ _ (by omega)]; exact hFa
  have h4z : Wz.heap[w.heap.size + 1]? = some (.cells #[.int .i64 0, .slice none 0 0, .int .i64 0] 83 (0, 0)) := by rw [hWz, heap_alloc_old _ _ _ (by omega)]; exact h4a
  obtain ⟨W0, hW0⟩ : ∃ W0, W0 = Wz.setRow (w.heap.size + 2) #[.int .i64 0, .slice none 0 0, .int .i64 0] := ⟨_, rfl⟩
  have h50 : W0.heap[w.heap.size + 2]? = some (.cells #[.int .i64 0, .slice none 0 0, .int .i64 0] 83 (0, 0)) := by rw [hW0]; exact setRow_heap _ _ _ _ _ _ h5z
  have h40 : W0.heap[w.heap.size + 1]? = some (.cells #[.int .i64 0, .slice none 0 0, .int .i64 0] 83 (0, 0)) := by rw [hW0]; exact (setRow_other _ _ _ _ (by omega)).trans h4z
  have hF0 : W0.heap[w.heap.size]? = some (.cells #[.int .i64 2, .int .i64 0] 87 (0, 0)) := by rw [hW0]; exact (setRow_other _ _ _ _ (by omega)).trans hFz
  have hb0 : Below w.heap.size w W0 := by rw [hW0]; exact hbz.trans (below_setRow' _ _ _ _ (by omega))
  have hs0 : W0.heap.size = w.heap.size + 3 := by rw [hW0]; simp [hsz]
  have cs := fun (i : Nat) => cell_of_row W0 w.heap.size i _ _ _ hF0
  have HWa := Lib.hid hWa
  have HWz := Lib.hid hWz
  have HW0 := Lib.hid hW0
  have H5z := Lib.hid h5z
  have H50 := Lib.hid h50
  have H40 := Lib.hid h40
  have Hb0 := Lib.hid hb0
  have Hsa := Lib.hid hsa
  have Hs0 := Lib.hid hs0
  have kc : W0.cell? ⟨w.heap.size, 0, none⟩ = some (.int .i64 2) := by rw [cs 0]; rfl
  have wc : W0.cell? ⟨w.heap.size, 1, none⟩ = some (.int .i64 0) := by rw [cs 1]; rfl
  clear cs hWa hWz hW0 h5z h50 h40 hb0 hFa h4a hFz h4z hF0 hba hbz hsa hsz hs0
  go_enter Try.func54, Try.ntmps54
  go_upto_region 1 with fail
  rw [← HWa.out]
  go_upto_region 2 with (rw [Hsa.out, ← HWz.out]; refine wpList_store_row rfl 83 (.tmp 6) (.tmp 8) rfl (w.heap.size + 2) #[.int .i64 0, .slice none 0 0, .int .i64 0] rfl rfl 83 #[.int .i64 0, .slice none 0 0, .int .i64 0] H5z.out (Try.sizeTold _ _ _) rfl (oneTold _ _ _ _ _) ?_)
  rw [← HW0.out]
  clear HWa HWz HW0 H5z Hsa
  go_wp2_with fail
  refine (var_nil _).mono ?_
  rintro e w1 ⟨rfl, rfl⟩
  have k5 := H50.out
  have k4 := H40.out
  obtain ⟨W2, e2, k52, k42, bk2, ok2⟩ := told_set k5 k4 (by omega : w.heap.size + 1 ≠ w.heap.size + 2) 0 (.int .i64 0) (B := w.heap.size) (by omega)
  obtain ⟨W3, e3, k53, k43, bk3, ok3⟩ := told_set k52 k42 (by omega : w.heap.size + 1 ≠ w.heap.size + 2) 2 (.int .i64 23) (B := w.heap.size) (by omega)
  have p1 : w1.cell? ⟨w.heap.size + 2, 0, none⟩ = some (.int .i64 0) := by rw [cell_of_row _ _ _ _ _ _ k5]; rfl
  have q1 := frozen_of_row w1 (w.heap.size + 2) 0 _ _ k5
  have p2 : W2.cell? ⟨w.heap.size + 2, 2, none⟩ = some (.int .i64 0) := by rw [cell_of_row _ _ _ _ _ _ k52]; rfl
  have q2 := frozen_of_row W2 (w.heap.size + 2) 2 _ _ k52
  have p2' : (w1.setCell ⟨w.heap.size + 2, 0, none⟩ (.int .i64 0)).cell? ⟨w.heap.size + 2, 2, none⟩ = some (.int .i64 0) := by rw [e2]; exact p2
  have q2' : (w1.setCell ⟨w.heap.size + 2, 0, none⟩ (.int .i64 0)).frozen? ⟨w.heap.size + 2, 2, none⟩ = false := by rw [e2]; exact q2
  have p3 : w1.cell? ⟨w.heap.size + 2, 2, none⟩ = some (.int .i64 0) := by rw [cell_of_row _ _ _ _ _ _ k5]; rfl
  have q3 := frozen_of_row w1 (w.heap.size + 2) 2 _ _ k5
  have k53' : W3.heap[w.heap.size + 2]? = some (.cells #[.int .i64 0, .slice none 0 0, .int .i64 23] 83 (0, 0)) := k53
  have B3 := Lib.hid (bk2.trans bk3)
  have E2 := Lib.hid e2
  have E3 := Lib.hid e3
  have K53 := Lib.hid k53'
  have K43 := Lib.hid k43
  have O3 := Lib.hid (And.intro ok2 ok3)
  clear e2 e3 bk2 bk3 k52 k42 k53 k53' k43 ok2 ok3 k5 k4
  go_upto_region 17 with fail
  rw [E2.out, E3.out]
  clear E2 E3 p1 p2 q1 q2 p2' q2' p3 q3
  have c5 := fun (i : Nat) => cell_of_row W3 (w.heap.size + 2) i _ _ _ K53.out
  have d0 : W3.cell? ⟨w.heap.size + 2, 0, none⟩ = some (.int .i64 0) := by rw [c5 0]; rfl
  have d1 : W3.cell? ⟨w.heap.size + 2, 1, none⟩ = some (.slice none 0 0) := by rw [c5 1]; rfl
  have d2 : W3.cell? ⟨w.heap.size + 2, 2, none⟩ = some (.int .i64 23) := by rw [c5 2]; rfl
  clear c5
  go_wp2_with (refine wpList_store_row rfl 83 (.tmp 4) (.tmp 77) rfl (w.heap.size + 1) #[.int .i64 0, .slice none 0 0, .int .i64 23] rfl rfl 83 #[.int .i64 0, .slice none 0 0, .int .i64 0] K43.out (Try.sizeTold _ _ _) rfl (oneTold _ _ _ _ _) ?_)
  refine bodyPost_ret (v := .tuple #[.agg #[.int .i64 0, .slice none 0 0, .int .i64 23], .pointer none]) ?_ rfl ?_
  · exact results_cell_two (p := 4) (q := 5) rfl _ _ (w.heap.size + 1) 83 #[.int .i64 0, .slice none 0 0, .int .i64 23] (0, 0) _ rfl (setRow_heap _ _ _ _ _ _ K43.out) Try.underlying83 rfl (Try.sizeTold _ _ _) _ rfl
  · exact ⟨rfl, Hb0.out.trans (B3.out.trans (below_setRow' _ _ _ _ (by omega)))⟩
set_option maxRecDepth 100000 in
set_option maxHeartbeats 4000000 in
theorem did_nil3 (w : World) :
    Calls Try.prog 54 #[.pointer none, .agg #[.int .i64 3, .int .i64 0]] w fun e w' => e = .returned (.tuple #[.agg #[.int .i64 0, .slice none 0 0, .int .i64 23], .pointer none]) ∧ Below w.heap.size w w' := by
  obtain ⟨Wa, hWa⟩ : ∃ Wa, Wa = (w.alloc (.cells #[.int .i64 3, .int .i64 0] 87)).alloc (.cells #[.int .i64 0, .slice none 0 0, .int .i64 0] 83) := ⟨_, rfl⟩
  have hsa : Wa.heap.size = w.heap.size + 2 := by rw [hWa]; simp
  have hFa : Wa.heap[w.heap.size]? = some (.cells #[.int .i64 3, .int .i64 0] 87 (0, 0)) := by rw [hWa, heap_alloc_old _ _ _ (by simp), heap_alloc_last]
  have h4a : Wa.heap[w.heap.size + 1]? = some (.cells #[.int .i64 0, .slice none 0 0, .int .i64 0] 83 (0, 0)) := by
    rw [hWa]; have := heap_alloc_last (w.alloc (.cells #[.int .i64 3, .int .i64 0] 87)) (.cells #[.int .i64 0, .slice none 0 0, .int .i64 0] 83); simpa using this
  have hba : Below w.heap.size w Wa := by rw [hWa]; exact ((Below.refl _ w).alloc (Nat.le_refl _) _).alloc (by simp) _
  obtain ⟨Wz, hWz⟩ : ∃ Wz, Wz = Wa.alloc (.cells #[.int .i64 0, .slice none 0 0, .int .i64 0] 83) := ⟨_, rfl⟩
  have hsz : Wz.heap.size = w.heap.size + 3 := by rw [hWz]; simp [hsa]
  have h5z : Wz.heap[w.heap.size + 2]? = some (.cells #[.int .i64 0, .slice none 0 0, .int .i64 0] 83 (0, 0)) := by rw [hWz, ← hsa, heap_alloc_last]
  have hbz : Below w.heap.size w Wz := by rw [hWz]; exact hba.alloc (by omega) _
  have hFz : Wz.heap[w.heap.size]? = some (.cells #[.int .i64 3, .int .i64 0] 87 (0, 0)) := by rw [hWz, heap_alloc_old _ _ _ (by omega)]; exact hFa
  have h4z : Wz.heap[w.heap.size + 1]? = some (.cells #[.int .i64 0, .slice none 0 0, .int .i64 0] 83 (0, 0)) := by rw [hWz, heap_alloc_old _ _ _ (by omega)]; exact h4a
  obtain ⟨W0, hW0⟩ : ∃ W0, W0 = Wz.setRow (w.heap.size + 2) #[.int .i64 0, .slice none 0 0, .int .i64 0] := ⟨_, rfl⟩
  have h50 : W0.heap[w.heap.size + 2]? = some (.cells #[.int .i64 0, .slice none 0 0, .int .i64 0] 83 (0, 0)) := by rw [hW0]; exact setRow_heap _ _ _ _ _ _ h5z
  have h40 : W0.heap[w.heap.size + 1]? = some (.cells #[.int .i64 0, .slice none 0 0, .int .i64 0] 83 (0, 0)) := by rw [hW0]; exact (setRow_other _ _ _ _ (by omega)).trans h4z
  have hF0 : W0.heap[w.heap.size]? = some (.cells #[.int .i64 3, .int .i64 0] 87 (0, 0)) := by rw [hW0]; exact (setRow_other _ _ _ _ (by omega)).trans hFz
  have hb0 : Below w.heap.size w W0 := by rw [hW0]; exact hbz.trans (below_setRow' _ _ _ _ (by omega))
  have hs0 : W0.heap.size = w.heap.size + 3 := by rw [hW0]; simp [hsz]
  have cs := fun (i : Nat) => cell_of_row W0 w.heap.size i _ _ _ hF0
  have HWa := Lib.hid hWa
  have HWz := Lib.hid hWz
  have HW0 := Lib.hid hW0
  have H5z := Lib.hid h5z
  have H50 := Lib.hid h50
  have H40 := Lib.hid h40
  have Hb0 := Lib.hid hb0
  have Hsa := Lib.hid hsa
  have Hs0 := Lib.hid hs0
  have kc : W0.cell? ⟨w.heap.size, 0, none⟩ = some (.int .i64 3) := by rw [cs 0]; rfl
  have wc : W0.cell? ⟨w.heap.size, 1, none⟩ = some (.int .i64 0) := by rw [cs 1]; rfl
  clear cs hWa hWz hW0 h5z h50 h40 hb0 hFa h4a hFz h4z hF0 hba hbz hsa hsz hs0
  go_enter Try.func54, Try.ntmps54
  go_upto_region 1 with fail
  rw [← HWa.out]
  go_upto_region 2 with (rw [Hsa.out, ← HWz.out]; refine wpList_store_row rfl 83 (.tmp 6) (.tmp 8) rfl (w.heap.size + 2) #[.int .i64 0, .slice none 0 0, .int .i64 0] rfl rfl 83 #[.int .i64 0, .slice none 0 0, .int .i64 0] H5z.out (Try.sizeTold _ _ _) rfl (oneTold _ _ _ _ _) ?_)
  rw [← HW0.out]
  clear HWa HWz HW0 H5z Hsa
  go_wp2_with fail
  refine (text_nil _).mono ?_
  rintro e w1 ⟨rfl, rfl⟩
  have k5 := H50.out
  have k4 := H40.out
  obtain ⟨W2, e2, k52, k42, bk2, ok2⟩ := told_set k5 k4 (by omega : w.heap.size + 1 ≠ w.heap.size + 2) 1 (.slice none 0 0) (B := w.heap.size) (by omega)
  obtain ⟨W3, e3, k53, k43, bk3, ok3⟩ := told_set k52 k42 (by omega : w.heap.size + 1 ≠ w.heap.size + 2) 2 (.int .i64 23) (B := w.heap.size) (by omega)
  have p1 : w1.cell? ⟨w.heap.size + 2, 1, none⟩ = some (.slice none 0 0) := by rw [cell_of_row _ _ _ _ _ _ k5]; rfl
  have q1 := frozen_of_row w1 (w.heap.size + 2) 1 _ _ k5
  have p2 : W2.cell? ⟨w.heap.size + 2, 2, none⟩ = some (.int .i64 0) := by rw [cell_of_row _ _ _ _ _ _ k52]; rfl
  have q2 := frozen_of_row W2 (w.heap.size + 2) 2 _ _ k52
  have p2' : (w1.setCell ⟨w.heap.size + 2, 1, none⟩ (.slice none 0 0)).cell? ⟨w.heap.size + 2, 2, none⟩ = some (.int .i64 0) := by rw [e2]; exact p2
  have q2' : (w1.setCell ⟨w.heap.size + 2, 1, none⟩ (.slice none 0 0)).frozen? ⟨w.heap.size + 2, 2, none⟩ = false := by rw [e2]; exact q2
  have p3 : w1.cell? ⟨w.heap.size + 2, 2, none⟩ = some (.int .i64 0) := by rw [cell_of_row _ _ _ _ _ _ k5]; rfl
  have q3 := frozen_of_row w1 (w.heap.size + 2) 2 _ _ k5
  have k53' : W3.heap[w.heap.size + 2]? = some (.cells #[.int .i64 0, .slice none 0 0, .int .i64 23] 83 (0, 0)) := k53
  have B3 := Lib.hid (bk2.trans bk3)
  have E2 := Lib.hid e2
  have E3 := Lib.hid e3
  have K53 := Lib.hid k53'
  have K43 := Lib.hid k43
  have O3 := Lib.hid (And.intro ok2 ok3)
  clear e2 e3 bk2 bk3 k52 k42 k53 k53' k43 ok2 ok3 k5 k4
  go_upto_region 17 with fail
  rw [E2.out, E3.out]
  clear E2 E3 p1 p2 q1 q2 p2' q2' p3 q3
  have c5 := fun (i : Nat) => cell_of_row W3 (w.heap.size + 2) i _ _ _ K53.out
  have d0 : W3.cell? ⟨w.heap.size + 2, 0, none⟩ = some (.int .i64 0) := by rw [c5 0]; rfl
  have d1 : W3.cell? ⟨w.heap.size + 2, 1, none⟩ = some (.slice none 0 0) := by rw [c5 1]; rfl
  have d2 : W3.cell? ⟨w.heap.size + 2, 2, none⟩ = some (.int .i64 23) := by rw [c5 2]; rfl
  clear c5
  go_wp2_with (refine wpList_store_row rfl 83 (.tmp 4) (.tmp 77) rfl (w.heap.size + 1) #[.int .i64 0, .slice none 0 0, .int .i64 23] rfl rfl 83 #[.int .i64 0, .slice none 0 0, .int .i64 0] K43.out (Try.sizeTold _ _ _) rfl (oneTold _ _ _ _ _) ?_)
  refine bodyPost_ret (v := .tuple #[.agg #[.int .i64 0, .slice none 0 0, .int .i64 23], .pointer none]) ?_ rfl ?_
  · exact results_cell_two (p := 4) (q := 5) rfl _ _ (w.heap.size + 1) 83 #[.int .i64 0, .slice none 0 0, .int .i64 23] (0, 0) _ rfl (setRow_heap _ _ _ _ _ _ K43.out) Try.underlying83 rfl (Try.sizeTold _ _ _) _ rfl
  · exact ⟨rfl, Hb0.out.trans (B3.out.trans (below_setRow' _ _ _ _ (by omega)))⟩
set_option maxRecDepth 100000 in
set_option maxHeartbeats 4000000 in
theorem did_nil4 (w : World) :
    Calls Try.prog 54 #[.pointer none, .agg #[.int .i64 4, .int .i64 0]] w fun e w' => e = .returned (.tuple #[.agg #[.int .i64 0, .slice none 0 0, .int .i64 23], .pointer none]) ∧ Below w.heap.size w w' := by
  obtain ⟨Wa, hWa⟩ : ∃ Wa, Wa = (w.alloc (.cells #[.int .i64 4, .int .i64 0] 87)).alloc (.cells #[.int .i64 0, .slice none 0 0, .int .i64 0] 83) := ⟨_, rfl⟩
  have hsa : Wa.heap.size = w.heap.size + 2 := by rw [hWa]; simp
  have hFa : Wa.heap[w.heap.size]? = some (.cells #[.int .i64 4, .int .i64 0] 87 (0, 0)) := by rw [hWa, heap_alloc_old _ _ _ (by simp), heap_alloc_last]
  have h4a : Wa.heap[w.heap.size + 1]? = some (.cells #[.int .i64 0, .slice none 0 0, .int .i64 0] 83 (0, 0)) := by
    rw [hWa]; have := heap_alloc_last (w.alloc (.cells #[.int .i64 4, .int .i64 0] 87)) (.cells #[.int .i64 0, .slice none 0 0, .int .i64 0] 83); simpa using this
  have hba : Below w.heap.size w Wa := by rw [hWa]; exact ((Below.refl _ w).alloc (Nat.le_refl _) _).alloc (by simp) _
  obtain ⟨Wz, hWz⟩ : ∃ Wz, Wz = Wa.alloc (.cells #[.int .i64 0, .slice none 0 0, .int .i64 0] 83) := ⟨_, rfl⟩
  have hsz : Wz.heap.size = w.heap.size + 3 := by rw [hWz]; simp [hsa]
  have h5z : Wz.heap[w.heap.size + 2]? = some (.cells #[.int .i64 0, .slice none 0 0, .int .i64 0] 83 (0, 0)) := by rw [hWz, ← hsa, heap_alloc_last]
  have hbz : Below w.heap.size w Wz := by rw [hWz]; exact hba.alloc (by omega) _
  have hFz : Wz.heap[w.heap.size]? = some (.cells #[.int .i64 4, .int .i64 0] 87 (0, 0)) := by rw [hWz, heap_alloc_old _ _ _ (by omega)]; exact hFa
  have h4z : Wz.heap[w.heap.size + 1]? = some (.cells #[.int .i64 0, .slice none 0 0, .int .i64 0] 83 (0, 0)) := by rw [hWz, heap_alloc_old _ _ _ (by omega)]; exact h4a
  obtain ⟨W0, hW0⟩ : ∃ W0, W0 = Wz.setRow (w.heap.size + 2) #[.int .i64 0, .slice none 0 0, .int .i64 0] := ⟨_, rfl⟩
  have h50 : W0.heap[w.heap.size + 2]? = some (.cells #[.int .i64 0, .slice none 0 0, .int .i64 0] 83 (0, 0)) := by rw [hW0]; exact setRow_heap _ _ _ _ _ _ h5z
  have h40 : W0.heap[w.heap.size + 1]? = some (.cells #[.int .i64 0, .slice none 0 0, .int .i64 0] 83 (0, 0)) := by rw [hW0]; exact (setRow_other _ _ _ _ (by omega)).trans h4z
  have hF0 : W0.heap[w.heap.size]? = some (.cells #[.int .i64 4, .int .i64 0] 87 (0, 0)) := by rw [hW0]; exact (setRow_other _ _ _ _ (by omega)).trans hFz
  have hb0 : Below w.heap.size w W0 := by rw [hW0]; exact hbz.trans (below_setRow' _ _ _ _ (by omega))
  have hs0 : W0.heap.size = w.heap.size + 3 := by rw [hW0]; simp [hsz]
  have cs := fun (i : Nat) => cell_of_row W0 w.heap.size i _ _ _ hF0
  have HWa := Lib.hid hWa
  have HWz := Lib.hid hWz
  have HW0 := Lib.hid hW0
  have H5z := Lib.hid h5z
  have H50 := Lib.hid h50
  have H40 := Lib.hid h40
  have Hb0 := Lib.hid hb0
  have Hsa := Lib.hid hsa
  have Hs0 := Lib.hid hs0
  have kc : W0.cell? ⟨w.heap.size, 0, none⟩ = some (.int .i64 4) := by rw [cs 0]; rfl
  have wc : W0.cell? ⟨w.heap.size, 1, none⟩ = some (.int .i64 0) := by rw [cs 1]; rfl
  clear cs hWa hWz hW0 h5z h50 h40 hb0 hFa h4a hFz h4z hF0 hba hbz hsa hsz hs0
  go_enter Try.func54, Try.ntmps54
  go_upto_region 1 with fail
  rw [← HWa.out]
  go_upto_region 2 with (rw [Hsa.out, ← HWz.out]; refine wpList_store_row rfl 83 (.tmp 6) (.tmp 8) rfl (w.heap.size + 2) #[.int .i64 0, .slice none 0 0, .int .i64 0] rfl rfl 83 #[.int .i64 0, .slice none 0 0, .int .i64 0] H5z.out (Try.sizeTold _ _ _) rfl (oneTold _ _ _ _ _) ?_)
  rw [← HW0.out]
  clear HWa HWz HW0 H5z Hsa
  go_wp2_with fail
  refine (bytes_nil _ 0).mono ?_
  rintro e w1 ⟨rfl, rfl⟩
  have k5 := H50.out
  have k4 := H40.out
  obtain ⟨W2, e2, k52, k42, bk2, ok2⟩ := told_set k5 k4 (by omega : w.heap.size + 1 ≠ w.heap.size + 2) 1 (.slice none 0 0) (B := w.heap.size) (by omega)
  obtain ⟨W3, e3, k53, k43, bk3, ok3⟩ := told_set k52 k42 (by omega : w.heap.size + 1 ≠ w.heap.size + 2) 2 (.int .i64 23) (B := w.heap.size) (by omega)
  have p1 : w1.cell? ⟨w.heap.size + 2, 1, none⟩ = some (.slice none 0 0) := by rw [cell_of_row _ _ _ _ _ _ k5]; rfl
  have q1 := frozen_of_row w1 (w.heap.size + 2) 1 _ _ k5
  have p2 : W2.cell? ⟨w.heap.size + 2, 2, none⟩ = some (.int .i64 0) := by rw [cell_of_row _ _ _ _ _ _ k52]; rfl
  have q2 := frozen_of_row W2 (w.heap.size + 2) 2 _ _ k52
  have p2' : (w1.setCell ⟨w.heap.size + 2, 1, none⟩ (.slice none 0 0)).cell? ⟨w.heap.size + 2, 2, none⟩ = some (.int .i64 0) := by rw [e2]; exact p2
  have q2' : (w1.setCell ⟨w.heap.size + 2, 1, none⟩ (.slice none 0 0)).frozen? ⟨w.heap.size + 2, 2, none⟩ = false := by rw [e2]; exact q2
  have p3 : w1.cell? ⟨w.heap.size + 2, 2, none⟩ = some (.int .i64 0) := by rw [cell_of_row _ _ _ _ _ _ k5]; rfl
  have q3 := frozen_of_row w1 (w.heap.size + 2) 2 _ _ k5
  have k53' : W3.heap[w.heap.size + 2]? = some (.cells #[.int .i64 0, .slice none 0 0, .int .i64 23] 83 (0, 0)) := k53
  have B3 := Lib.hid (bk2.trans bk3)
  have E2 := Lib.hid e2
  have E3 := Lib.hid e3
  have K53 := Lib.hid k53'
  have K43 := Lib.hid k43
  have O3 := Lib.hid (And.intro ok2 ok3)
  clear e2 e3 bk2 bk3 k52 k42 k53 k53' k43 ok2 ok3 k5 k4
  go_upto_region 17 with fail
  rw [E2.out, E3.out]
  clear E2 E3 p1 p2 q1 q2 p2' q2' p3 q3
  have c5 := fun (i : Nat) => cell_of_row W3 (w.heap.size + 2) i _ _ _ K53.out
  have d0 : W3.cell? ⟨w.heap.size + 2, 0, none⟩ = some (.int .i64 0) := by rw [c5 0]; rfl
  have d1 : W3.cell? ⟨w.heap.size + 2, 1, none⟩ = some (.slice none 0 0) := by rw [c5 1]; rfl
  have d2 : W3.cell? ⟨w.heap.size + 2, 2, none⟩ = some (.int .i64 23) := by rw [c5 2]; rfl
  clear c5
  go_wp2_with (refine wpList_store_row rfl 83 (.tmp 4) (.tmp 77) rfl (w.heap.size + 1) #[.int .i64 0, .slice none 0 0, .int .i64 23] rfl rfl 83 #[.int .i64 0, .slice none 0 0, .int .i64 0] K43.out (Try.sizeTold _ _ _) rfl (oneTold _ _ _ _ _) ?_)
  refine bodyPost_ret (v := .tuple #[.agg #[.int .i64 0, .slice none 0 0, .int .i64 23], .pointer none]) ?_ rfl ?_
  · exact results_cell_two (p := 4) (q := 5) rfl _ _ (w.heap.size + 1) 83 #[.int .i64 0, .slice none 0 0, .int .i64 23] (0, 0) _ rfl (setRow_heap _ _ _ _ _ _ K43.out) Try.underlying83 rfl (Try.sizeTold _ _ _) _ rfl
  · exact ⟨rfl, Hb0.out.trans (B3.out.trans (below_setRow' _ _ _ _ (by omega)))⟩
set_option maxRecDepth 100000 in
set_option maxHeartbeats 4000000 in
theorem did_nil5 (w : World) :
    Calls Try.prog 54 #[.pointer none, .agg #[.int .i64 5, .int .i64 0]] w fun e w' => e = .returned (.tuple #[.agg #[.int .i64 0, .slice none 0 0, .int .i64 23], .pointer none]) ∧ Below w.heap.size w w' := by
  obtain ⟨Wa, hWa⟩ : ∃ Wa, Wa = (w.alloc (.cells #[.int .i64 5, .int .i64 0] 87)).alloc (.cells #[.int .i64 0, .slice none 0 0, .int .i64 0] 83) := ⟨_, rfl⟩
  have hsa : Wa.heap.size = w.heap.size + 2 := by rw [hWa]; simp
  have hFa : Wa.heap[w.heap.size]? = some (.cells #[.int .i64 5, .int .i64 0] 87 (0, 0)) := by rw [hWa, heap_alloc_old _ _ _ (by simp), heap_alloc_last]
  have h4a : Wa.heap[w.heap.size + 1]? = some (.cells #[.int .i64 0, .slice none 0 0, .int .i64 0] 83 (0, 0)) := by
    rw [hWa]; have := heap_alloc_last (w.alloc (.cells #[.int .i64 5, .int .i64 0] 87)) (.cells #[.int .i64 0, .slice none 0 0, .int .i64 0] 83); simpa using this
  have hba : Below w.heap.size w Wa := by rw [hWa]; exact ((Below.refl _ w).alloc (Nat.le_refl _) _).alloc (by simp) _
  obtain ⟨Wz, hWz⟩ : ∃ Wz, Wz = Wa.alloc (.cells #[.int .i64 0, .slice none 0 0, .int .i64 0] 83) := ⟨_, rfl⟩
  have hsz : Wz.heap.size = w.heap.size + 3 := by rw [hWz]; simp [hsa]
  have h5z : Wz.heap[w.heap.size + 2]? = some (.cells #[.int .i64 0, .slice none 0 0, .int .i64 0] 83 (0, 0)) := by rw [hWz, ← hsa, heap_alloc_last]
  have hbz : Below w.heap.size w Wz := by rw [hWz]; exact hba.alloc (by omega) _
  have hFz : Wz.heap[w.heap.size]? = some (.cells #[.int .i64 5, .int .i64 0] 87 (0, 0)) := by rw [hWz, heap_alloc_old _ _ _ (by omega)]; exact hFa
  have h4z : Wz.heap[w.heap.size + 1]? = some (.cells #[.int .i64 0, .slice none 0 0, .int .i64 0] 83 (0, 0)) := by rw [hWz, heap_alloc_old _ _ _ (by omega)]; exact h4a
  obtain ⟨W0, hW0⟩ : ∃ W0, W0 = Wz.setRow (w.heap.size + 2) #[.int .i64 0, .slice none 0 0, .int .i64 0] := ⟨_, rfl⟩
  have h50 : W0.heap[w.heap.size + 2]? = some (.cells #[.int .i64 0, .slice none 0 0, .int .i64 0] 83 (0, 0)) := by rw [hW0]; exact setRow_heap _ _ _ _ _ _ h5z
  have h40 : W0.heap[w.heap.size + 1]? = some (.cells #[.int .i64 0, .slice none 0 0, .int .i64 0] 83 (0, 0)) := by rw [hW0]; exact (setRow_other _ _ _ _ (by omega)).trans h4z
  have hF0 : W0.heap[w.heap.size]? = some (.cells #[.int .i64 5, .int .i64 0] 87 (0, 0)) := by rw [hW0]; exact (setRow_other _ _ _ _ (by omega)).trans hFz
  have hb0 : Below w.heap.size w W0 := by rw [hW0]; exact hbz.trans (below_setRow' _ _ _ _ (by omega))
  have hs0 : W0.heap.size = w.heap.size + 3 := by rw [hW0]; simp [hsz]
  have cs := fun (i : Nat) => cell_of_row W0 w.heap.size i _ _ _ hF0
  have HWa := Lib.hid hWa
  have HWz := Lib.hid hWz
  have HW0 := Lib.hid hW0
  have H5z := Lib.hid h5z
  have H50 := Lib.hid h50
  have H40 := Lib.hid h40
  have Hb0 := Lib.hid hb0
  have Hsa := Lib.hid hsa
  have Hs0 := Lib.hid hs0
  have kc : W0.cell? ⟨w.heap.size, 0, none⟩ = some (.int .i64 5) := by rw [cs 0]; rfl
  have wc : W0.cell? ⟨w.heap.size, 1, none⟩ = some (.int .i64 0) := by rw [cs 1]; rfl
  clear cs hWa hWz hW0 h5z h50 h40 hb0 hFa h4a hFz h4z hF0 hba hbz hsa hsz hs0
  go_enter Try.func54, Try.ntmps54
  go_upto_region 1 with fail
  rw [← HWa.out]
  go_upto_region 2 with (rw [Hsa.out, ← HWz.out]; refine wpList_store_row rfl 83 (.tmp 6) (.tmp 8) rfl (w.heap.size + 2) #[.int .i64 0, .slice none 0 0, .int .i64 0] rfl rfl 83 #[.int .i64 0, .slice none 0 0, .int .i64 0] H5z.out (Try.sizeTold _ _ _) rfl (oneTold _ _ _ _ _) ?_)
  rw [← HW0.out]
  clear HWa HWz HW0 H5z Hsa
  go_wp2_with fail
  refine (seek_nil _ 0).mono ?_
  rintro e w1 ⟨rfl, rfl⟩
  have k5 := H50.out
  have k4 := H40.out
  obtain ⟨W3, e3, k53, k43, bk3, ok3⟩ := told_set k5 k4 (by omega : w.heap.size + 1 ≠ w.heap.size + 2) 2 (.int .i64 23) (B := w.heap.size) (by omega)
  have p1 : w1.cell? ⟨w.heap.size + 2, 2, none⟩ = some (.int .i64 0) := by rw [cell_of_row _ _ _ _ _ _ k5]; rfl
  have q1 := frozen_of_row w1 (w.heap.size + 2) 2 _ _ k5
  have k53' : W3.heap[w.heap.size + 2]? = some (.cells #[.int .i64 0, .slice none 0 0, .int .i64 23] 83 (0, 0)) := k53
  have hk3 : ∀ k, k ≠ w.heap.size + 2 → W3.heap[k]? = w1.heap[k]? := fun k hk => by rw [← e3]; exact heap_setCell_other w1 ⟨w.heap.size + 2, 2, none⟩ k _ hk
  have B3 := Lib.hid bk3
  have E3 := Lib.hid e3
  have K53 := Lib.hid k53'
  have K43 := Lib.hid k43
  have HK3 := Lib.hid hk3
  have HK5 := Lib.hid k5
  clear e3 bk3 k53 k53' k43 ok3 k5 k4 hk3
  go_upto_region 17 with fail
  rw [E3.out]
  clear E3 p1 q1
  have c5 := fun (i : Nat) => cell_of_row W3 (w.heap.size + 2) i _ _ _ K53.out
  have d0 : W3.cell? ⟨w.heap.size + 2, 0, none⟩ = some (.int .i64 0) := by rw [c5 0]; rfl
  have d1 : W3.cell? ⟨w.heap.size + 2, 1, none⟩ = some (.slice none 0 0) := by rw [c5 1]; rfl
  have d2 : W3.cell? ⟨w.heap.size + 2, 2, none⟩ = some (.int .i64 23) := by rw [c5 2]; rfl
  clear c5
  go_wp2_with (refine wpList_store_row rfl 83 (.tmp 4) (.tmp 77) rfl (w.heap.size + 1) #[.int .i64 0, .slice none 0 0, .int .i64 23] rfl rfl 83 #[.int .i64 0, .slice none 0 0, .int .i64 0] K43.out (Try.sizeTold _ _ _) rfl (oneTold _ _ _ _ _) ?_)
  refine bodyPost_ret (v := .tuple #[.agg #[.int .i64 0, .slice none 0 0, .int .i64 23], .pointer none]) ?_ rfl ?_
  · exact results_cell_two (p := 4) (q := 5) rfl _ _ (w.heap.size + 1) 83 #[.int .i64 0, .slice none 0 0, .int .i64 23] (0, 0) _ rfl (setRow_heap _ _ _ _ _ _ K43.out) Try.underlying83 rfl (Try.sizeTold _ _ _) _ rfl
  · exact ⟨rfl, Hb0.out.trans (B3.out.trans (below_setRow' _ _ _ _ (by omega)))⟩
set_option maxRecDepth 100000 in
set_option maxHeartbeats 4000000 in
theorem did_nil6 (w : World) :
    Calls Try.prog 54 #[.pointer none, .agg #[.int .i64 6, .int .i64 0]] w fun e w' => e = .returned (.tuple #[.agg #[.int .i64 0, .slice none 0 0, .int .i64 23], .pointer none]) ∧ Below w.heap.size w w' := by
  obtain ⟨Wa, hWa⟩ : ∃ Wa, Wa = (w.alloc (.cells #[.int .i64 6, .int .i64 0] 87)).alloc (.cells #[.int .i64 0, .slice none 0 0, .int .i64 0] 83) := ⟨_, rfl⟩
  have hsa : Wa.heap.size = w.heap.size + 2 := by rw [hWa]; simp
  have hFa : Wa.heap[w.heap.size]? = some (.cells #[.int .i64 6, .int .i64 0] 87 (0, 0)) := by rw [hWa, heap_alloc_old _ _ _ (by simp), heap_alloc_last]
  have h4a : Wa.heap[w.heap.size + 1]? = some (.cells #[.int .i64 0, .slice none 0 0, .int .i64 0] 83 (0, 0)) := by
    rw [hWa]; have := heap_alloc_last (w.alloc (.cells #[.int .i64 6, .int .i64 0] 87)) (.cells #[.int .i64 0, .slice none 0 0, .int .i64 0] 83); simpa using this
  have hba : Below w.heap.size w Wa := by rw [hWa]; exact ((Below.refl _ w).alloc (Nat.le_refl _) _).alloc (by simp) _
  obtain ⟨Wz, hWz⟩ : ∃ Wz, Wz = Wa.alloc (.cells #[.int .i64 0, .slice none 0 0, .int .i64 0] 83) := ⟨_, rfl⟩
  have hsz : Wz.heap.size = w.heap.size + 3 := by rw [hWz]; simp [hsa]
  have h5z : Wz.heap[w.heap.size + 2]? = some (.cells #[.int .i64 0, .slice none 0 0, .int .i64 0] 83 (0, 0)) := by rw [hWz, ← hsa, heap_alloc_last]
  have hbz : Below w.heap.size w Wz := by rw [hWz]; exact hba.alloc (by omega) _
  have hFz : Wz.heap[w.heap.size]? = some (.cells #[.int .i64 6, .int .i64 0] 87 (0, 0)) := by rw [hWz, heap_alloc_old _ _ _ (by omega)]; exact hFa
  have h4z : Wz.heap[w.heap.size + 1]? = some (.cells #[.int .i64 0, .slice none 0 0, .int .i64 0] 83 (0, 0)) := by rw [hWz, heap_alloc_old _ _ _ (by omega)]; exact h4a
  obtain ⟨W0, hW0⟩ : ∃ W0, W0 = Wz.setRow (w.heap.size + 2) #[.int .i64 0, .slice none 0 0, .int .i64 0] := ⟨_, rfl⟩
  have h50 : W0.heap[w.heap.size + 2]? = some (.cells #[.int .i64 0, .slice none 0 0, .int .i64 0] 83 (0, 0)) := by rw [hW0]; exact setRow_heap _ _ _ _ _ _ h5z
  have h40 : W0.heap[w.heap.size + 1]? = some (.cells #[.int .i64 0, .slice none 0 0, .int .i64 0] 83 (0, 0)) := by rw [hW0]; exact (setRow_other _ _ _ _ (by omega)).trans h4z
  have hF0 : W0.heap[w.heap.size]? = some (.cells #[.int .i64 6, .int .i64 0] 87 (0, 0)) := by rw [hW0]; exact (setRow_other _ _ _ _ (by omega)).trans hFz
  have hb0 : Below w.heap.size w W0 := by rw [hW0]; exact hbz.trans (below_setRow' _ _ _ _ (by omega))
  have hs0 : W0.heap.size = w.heap.size + 3 := by rw [hW0]; simp [hsz]
  have cs := fun (i : Nat) => cell_of_row W0 w.heap.size i _ _ _ hF0
  have HWa := Lib.hid hWa
  have HWz := Lib.hid hWz
  have HW0 := Lib.hid hW0
  have H5z := Lib.hid h5z
  have H50 := Lib.hid h50
  have H40 := Lib.hid h40
  have Hb0 := Lib.hid hb0
  have Hsa := Lib.hid hsa
  have Hs0 := Lib.hid hs0
  have kc : W0.cell? ⟨w.heap.size, 0, none⟩ = some (.int .i64 6) := by rw [cs 0]; rfl
  have wc : W0.cell? ⟨w.heap.size, 1, none⟩ = some (.int .i64 0) := by rw [cs 1]; rfl
  clear cs hWa hWz hW0 h5z h50 h40 hb0 hFa h4a hFz h4z hF0 hba hbz hsa hsz hs0
  go_enter Try.func54, Try.ntmps54
  go_upto_region 1 with fail
  rw [← HWa.out]
  go_upto_region 2 with (rw [Hsa.out, ← HWz.out]; refine wpList_store_row rfl 83 (.tmp 6) (.tmp 8) rfl (w.heap.size + 2) #[.int .i64 0, .slice none 0 0, .int .i64 0] rfl rfl 83 #[.int .i64 0, .slice none 0 0, .int .i64 0] H5z.out (Try.sizeTold _ _ _) rfl (oneTold _ _ _ _ _) ?_)
  rw [← HW0.out]
  clear HWa HWz HW0 H5z Hsa
  go_wp2_with fail
  refine (sub_nil _ 0).mono ?_
  rintro e w1 ⟨rfl, rfl⟩
  have k5 := H50.out
  have k4 := H40.out
  obtain ⟨W3, e3, k53, k43, bk3, ok3⟩ := told_set k5 k4 (by omega : w.heap.size + 1 ≠ w.heap.size + 2) 2 (.int .i64 23) (B := w.heap.size) (by omega)
  have p1 : w1.cell? ⟨w.heap.size + 2, 2, none⟩ = some (.int .i64 0) := by rw [cell_of_row _ _ _ _ _ _ k5]; rfl
  have q1 := frozen_of_row w1 (w.heap.size + 2) 2 _ _ k5
  have k53' : W3.heap[w.heap.size + 2]? = some (.cells #[.int .i64 0, .slice none 0 0, .int .i64 23] 83 (0, 0)) := k53
  have hk3 : ∀ k, k ≠ w.heap.size + 2 → W3.heap[k]? = w1.heap[k]? := fun k hk => by rw [← e3]; exact heap_setCell_other w1 ⟨w.heap.size + 2, 2, none⟩ k _ hk
  have B3 := Lib.hid bk3
  have E3 := Lib.hid e3
  have K53 := Lib.hid k53'
  have K43 := Lib.hid k43
  have HK3 := Lib.hid hk3
  have HK5 := Lib.hid k5
  clear e3 bk3 k53 k53' k43 ok3 k5 k4 hk3
  go_upto_region 17 with fail
  rw [E3.out]
  clear E3 p1 q1
  have c5 := fun (i : Nat) => cell_of_row W3 (w.heap.size + 2) i _ _ _ K53.out
  have d0 : W3.cell? ⟨w.heap.size + 2, 0, none⟩ = some (.int .i64 0) := by rw [c5 0]; rfl
  have d1 : W3.cell? ⟨w.heap.size + 2, 1, none⟩ = some (.slice none 0 0) := by rw [c5 1]; rfl
  have d2 : W3.cell? ⟨w.heap.size + 2, 2, none⟩ = some (.int .i64 23) := by rw [c5 2]; rfl
  clear c5
  go_wp2_with (refine wpList_store_row rfl 83 (.tmp 4) (.tmp 77) rfl (w.heap.size + 1) #[.int .i64 0, .slice none 0 0, .int .i64 23] rfl rfl 83 #[.int .i64 0, .slice none 0 0, .int .i64 0] K43.out (Try.sizeTold _ _ _) rfl (oneTold _ _ _ _ _) ?_)
  refine bodyPost_ret (v := .tuple #[.agg #[.int .i64 0, .slice none 0 0, .int .i64 23], .pointer none]) ?_ rfl ?_
  · exact results_cell_two (p := 4) (q := 5) rfl _ _ (w.heap.size + 1) 83 #[.int .i64 0, .slice none 0 0, .int .i64 23] (0, 0) _ rfl (setRow_heap _ _ _ _ _ _ K43.out) Try.underlying83 rfl (Try.sizeTold _ _ _) _ rfl
  · exact ⟨rfl, Hb0.out.trans (B3.out.trans (below_setRow' _ _ _ _ (by omega)))⟩
theorem did_nil (k : Nat) (hk : k < 7) (w : World) :
    Calls Try.prog 54 #[.pointer none, .agg #[.int .i64 k, .int .i64 0]] w fun e w' => e = .returned (.tuple #[.agg #[.int .i64 0, .slice none 0 0, .int .i64 23], .pointer none]) ∧ Below w.heap.size w w' := by
  have : k = 0 ∨ k = 1 ∨ k = 2 ∨ k = 3 ∨ k = 4 ∨ k = 5 ∨ k = 6 := by omega
  rcases this with rfl | rfl | rfl | rfl | rfl | rfl | rfl
  · exact did_nil0 w
  · exact did_nil1 w
  · exact did_nil2 w
  · exact did_nil3 w
  · exact did_nil4 w
  · exact did_nil5 w
  · exact did_nil6 w
end Go.Proofs.Ytnhkkhceoaembaa

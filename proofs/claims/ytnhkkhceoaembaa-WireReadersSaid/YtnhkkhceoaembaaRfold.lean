/- The reference's Fold and Unfold, told in plain values. -/
import Derived.Test.YtnhkkhceoaembaaRtovar
import Derived.Test.YtnhkkhceoaembaaWfold
namespace Go.Proofs.Ytnhkkhceoaembaa
set_option linter.unusedVariables false
open Go.RowKit

theorem refFold_any (n : Int) (w : World) (h1 : -9223372036854775808 ≤ n) (h2 : n ≤ 9223372036854775807) :
    Calls Try.prog 30 #[.int .i64 n] w fun e w' => e = num ((foldV n).1, 0, (foldV n).2) ∧ Below w.heap.size w w' := by
  by_cases hb : 4611686018427387903 < n ∨ n < -4611686018427387904
  · have hv : foldV n = (0, 24) := by unfold foldV; rw [if_pos hb]
    have Hv := Lib.hid hv
    clear hv
    rcases hb with hb | hb
    · have hb2 : ¬ n < -4611686018427387904 := by omega
      have hb3 : 4611686018427387904 ≤ n := by omega
      go_enter Try.func30, Try.ntmps30
      go_wp2_with fail
      refine bodyPost_ret (results_cell_row rfl _ _ w.heap.size 34 _ (0, 0) _ rfl (heap_alloc_last w _) Try.underlying34 rfl (Try.sizeNum _ _ _)) rfl ⟨?_, (Below.refl _ w).alloc (Nat.le_refl _) _⟩
      exact num_eq (by rw [Hv.out])
    · go_enter Try.func30, Try.ntmps30
      go_wp2_with fail
      refine bodyPost_ret (results_cell_row rfl _ _ w.heap.size 34 _ (0, 0) _ rfl (heap_alloc_last w _) Try.underlying34 rfl (Try.sizeNum _ _ _)) rfl ⟨?_, (Below.refl _ w).alloc (Nat.le_refl _) _⟩
      exact num_eq (by rw [Hv.out])
  · have hb2 : ¬ n < -4611686018427387904 := by omega
    have hb3 : ¬ 4611686018427387904 ≤ n := by omega
    by_cases h0 : n < 0
    · have hv : foldV n = (-2 * n - 1, 0) := by unfold foldV; rw [if_neg hb, if_pos h0]
      have Hv := Lib.hid hv
      have h0' : ¬ 0 ≤ n := by omega
      have He : Hid (wrap64 (wrap64 (-(2 * n)) - 1) = -2 * n - 1) := Lib.hid (by unfold wrap64; omega)
      clear hv hb
      go_enter Try.func30, Try.ntmps30
      go_wp2_with fail
      refine bodyPost_ret (results_cell_row rfl _ _ w.heap.size 34 _ (0, 0) _ rfl (heap_alloc_last w _) Try.underlying34 rfl (Try.sizeNum _ _ _)) rfl ⟨?_, (Below.refl _ w).alloc (Nat.le_refl _) _⟩
      exact num_eq (by rw [Hv.out, He.out])
    · have hv : foldV n = (2 * n, 0) := by unfold foldV; rw [if_neg hb, if_neg h0]
      have Hv := Lib.hid hv
      have h0' : 0 ≤ n := by omega
      clear hv hb
      go_enter Try.func30, Try.ntmps30
      go_wp2_with fail
      refine bodyPost_ret (results_cell_row rfl _ _ w.heap.size 34 _ (0, 0) _ rfl (heap_alloc_last w _) Try.underlying34 rfl (Try.sizeNum _ _ _)) rfl ⟨?_, (Below.refl _ w).alloc (Nat.le_refl _) _⟩
      exact num_eq (by rw [Hv.out])
theorem refUnfold_any (n : Int) (w : World) (h1 : -9223372036854775808 ≤ n) (h2 : n ≤ 9223372036854775807) :
    Calls Try.prog 32 #[.int .i64 n] w fun e w' => e = num ((unfoldV n).1, 0, (unfoldV n).2) ∧ Below w.heap.size w w' := by
  by_cases h0 : n < 0
  · have Hv : Hid (unfoldV n = (0, 24)) := Lib.hid (by unfold unfoldV; rw [if_pos h0])
    go_enter Try.func32, Try.ntmps32
    go_wp2_with fail
    refine bodyPost_ret (results_cell_row rfl _ _ w.heap.size 34 _ (0, 0) _ rfl (heap_alloc_last w _) Try.underlying34 rfl (Try.sizeNum _ _ _)) rfl ⟨?_, (Below.refl _ w).alloc (Nat.le_refl _) _⟩
    exact num_eq (by rw [Hv.out])
  · have t1 : n.tmod 2 = n % 2 := Int.tmod_eq_emod_of_nonneg (by omega)
    have t2 : n.tdiv 2 = n / 2 := Int.tdiv_eq_ediv_of_nonneg (by omega)
    by_cases h3 : n % 2 = 1
    · have Hv : Hid (unfoldV n = (-(n / 2) - 1, 0)) := Lib.hid (by unfold unfoldV; rw [if_neg h0, if_pos h3])
      have h4 : ¬ n % 2 = 0 := by omega
      go_enter Try.func32, Try.ntmps32
      go_wp2_with fail
      refine bodyPost_ret (results_cell_row rfl _ _ w.heap.size 34 _ (0, 0) _ rfl (heap_alloc_last w _) Try.underlying34 rfl (Try.sizeNum _ _ _)) rfl ⟨?_, (Below.refl _ w).alloc (Nat.le_refl _) _⟩
      exact num_eq (by rw [Hv.out])
    · have Hv : Hid (unfoldV n = (n / 2, 0)) := Lib.hid (by unfold unfoldV; rw [if_neg h0, if_neg h3])
      have h4 : n % 2 = 0 := by omega
      clear h3
      go_enter Try.func32, Try.ntmps32
      go_wp2_with fail
      refine bodyPost_ret (results_cell_row rfl _ _ w.heap.size 34 _ (0, 0) _ rfl (heap_alloc_last w _) Try.underlying34 rfl (Try.sizeNum _ _ _)) rfl ⟨?_, (Below.refl _ w).alloc (Nat.le_refl _) _⟩
      exact num_eq (by rw [Hv.out])
end Go.Proofs.Ytnhkkhceoaembaa

/- The reference's Read, and how many bytes it used. -/
import Derived.Test.YtnhkkhceoaembaaRread
namespace Go.Proofs.Ytnhkkhceoaembaa
set_option linter.unusedVariables false
open Go.RowKit

set_option maxRecDepth 100000 in
set_option maxHeartbeats 4000000 in
theorem refRead_used (a : Option Addr) (len cap : Nat) (xs : List Int) (s : Bool) (w : World) (h : Rd w a len cap xs) :
    Calls Try.prog 21 #[.slice a len cap, .bool s] w fun e w' => (∃ u, e = .returned (.agg #[.int .i64 (numV s xs).1, .int .i64 u, .int .i64 (numV s xs).2]) ∧ ((numV s xs).2 = 0 → u = len)) ∧ Below w.heap.size w w' := by
  have hl := h.hl
  have hm := h.hm
  have hc := h.hc
  unfold maxLen at hm
  by_cases hbad : len < 1 ∨ 8 < len
  · have Hv : Hid (numV s xs = (0, 1)) := Lib.hid (by
      cases s
      · show toUintV xs = _; unfold toUintV; rw [if_pos (by omega)]
      · show toIntV xs = _; unfold toIntV; rw [if_pos (by omega)])
    rw [Hv.out]
    have hcase : (len : Int) < 1 ∨ ¬ (len : Int) < 1 ∧ (8 : Int) < (len : Int) := by omega
    clear hbad h hl
    rcases hcase with hw | ⟨hw, hw2⟩
    · go_enter Try.func21, Try.ntmps21
      go_wp2_with fail
      exact bodyPost_ret (results_cell_row rfl _ _ w.heap.size 34 _ (0, 0) _ rfl (heap_alloc_last w _) Try.underlying34 rfl (Try.sizeNum _ _ _)) rfl ⟨by first | exact ⟨_, rfl, fun h => absurd h (by decide)⟩ | exact ⟨_, rfl⟩, (Below.refl _ w).alloc (Nat.le_refl _) _⟩
    · go_enter Try.func21, Try.ntmps21
      go_wp2_with fail
      exact bodyPost_ret (results_cell_row rfl _ _ w.heap.size 34 _ (0, 0) _ rfl (heap_alloc_last w _) Try.underlying34 rfl (Try.sizeNum _ _ _)) rfl ⟨by first | exact ⟨_, rfl, fun h => absurd h (by decide)⟩ | exact ⟨_, rfl⟩, (Below.refl _ w).alloc (Nat.le_refl _) _⟩
  · have hlb := le_bd xs h.hb
    obtain ⟨b, off, rfl, hcell⟩ := h.hr (by omega)
    have hbk := World.block_lt_of_cell? w _ (hcell 0 (by omega))
    have Hc := Lib.hid hcell
    have Hbd := Lib.hid h.hb
    have Hl := Lib.hid hl
    have hl1 : ¬ (len : Int) < 1 := by omega
    have hl8 : ¬ (8 : Int) < (len : Int) := by omega
    clear hcell h
    go_enter Try.func21, Try.ntmps21
    go_wp2_with fail
    go_loopw [5, 6] (fun x i wr => ∃ j : Nat, j ≤ len ∧ i = .int .i64 j ∧ x = .int .u64 (le (xs.take j)) ∧ wr = w.alloc (.cells #[.int .i64 0, .int .i64 0, .int .i64 0] 34)) (fun _ i _ => 9 - (intOf i).toNat)
    case atStart => exact ⟨0, Nat.zero_le _, rfl, rfl, rfl⟩
    case round =>
      obtain ⟨j, hj, rfl, rfl, rfl⟩ := hrel
      by_cases hlt : j < len
      · have hcj := Hc.out j hlt
        have hjl : j < xs.length := by rw [Hl.out]; exact hlt
        have hx := Hbd.out (xs.getD j 0) (by rw [getD_at _ _ hjl]; exact List.getElem_mem _)
        have hbt := le_bd (xs.take j) (fun n hn => Hbd.out n (List.mem_of_mem_take hn))
        have htl : (xs.take j).length = j := by simp; omega
        rw [htl] at hbt
        have hst := add_step8 (le (xs.take j)) (xs.getD j 0) j (by omega) hbt.1 hbt.2 hx.1 hx.2
        have htk : xs.take (j + 1) = xs.take j ++ [xs.getD j 0] := by rw [List.take_succ_eq_append_getElem hjl, getD_at _ _ hjl]
        have hle : le (xs.take (j + 1)) = le (xs.take j) + xs.getD j 0 * 256 ^ j := by rw [htk, le_snoc, htl]
        have Hst := Lib.hid (hst.1.trans hle.symm)
        generalize hxx : xs.getD j 0 = x at *
        generalize hll : le (xs.take j) = acc at *
        clear hst htk hle htl hxx hll
        obtain ⟨hx1, hx2⟩ := hx
        obtain ⟨hb1, hb2⟩ := hbt
        go_wp2_with fail
        go_roundw
        case rel => exact ⟨j + 1, by omega, by go_num, by rw [← Hst.out], by first | trivial | rfl⟩
        case measure => simp [intOf]; omega
      · obtain rfl : j = len := by omega
        have htk : xs.take j = xs := List.take_of_length_le (by rw [Hl.out]; exact Nat.le_refl _)
        rw [htk]
        rw [Hl.out] at hlb
        generalize hX : le xs = X at *
        cases s
        · by_cases hbig : 9223372036854775807 < X
          · have Hv : Hid (numV false xs = (0, 24)) := Lib.hid (by show toUintV xs = _; unfold toUintV; rw [Hl.out, if_neg (by omega), hX, if_pos hbig])
            have hbig2 : 9223372036854775808 ≤ X := by omega
            go_wp2_with fail
            exact bodyPost_ret (results_cell_row rfl _ _ w.heap.size 34 _ (0, 0) _ rfl (heap_alloc_last w _) Try.underlying34 rfl (Try.sizeNum _ _ _)) rfl ⟨⟨_, by rw [Hv.out], by first | (intro _; rfl) | (rw [Hv.out]; intro h; exact absurd h (by decide))⟩, (Below.refl _ w).alloc (Nat.le_refl _) _⟩
          · have Hv : Hid (numV false xs = (X, 0)) := Lib.hid (by show toUintV xs = _; unfold toUintV; rw [Hl.out, if_neg (by omega), hX, if_neg hbig])
            have hbig2 : ¬ 9223372036854775808 ≤ X := by omega
            obtain ⟨hX0, hX1⟩ := hlb
            clear hX1
            go_wp2_with fail
            exact bodyPost_ret (results_cell_row rfl _ _ w.heap.size 34 _ (0, 0) _ rfl (heap_alloc_last w _) Try.underlying34 rfl (Try.sizeNum _ _ _)) rfl ⟨⟨_, by rw [Hv.out], by first | (intro _; rfl) | (rw [Hv.out]; intro h; exact absurd h (by decide))⟩, (Below.refl _ w).alloc (Nat.le_refl _) _⟩
        · have hj8 : j = 1 ∨ j = 2 ∨ j = 3 ∨ j = 4 ∨ j = 5 ∨ j = 6 ∨ j = 7 ∨ j = 8 := by omega
          obtain ⟨hX0, hX1⟩ := hlb
          rcases hj8 with rfl | rfl | rfl | rfl | rfl | rfl | rfl | rfl
          · simp only [Int.reducePow] at hX1
            by_cases hneg : X < 128
            · have Hv : Hid (numV true xs = (X, 0)) := Lib.hid (by show toIntV xs = _; unfold toIntV sle; rw [Hl.out, if_neg (by omega), hX]; simp only [Int.reducePow, Int.reduceDiv]; rw [if_pos hneg])
              have hneg2 : ¬ 128 ≤ X := by omega
              go_wp2_with fail
              exact bodyPost_ret (results_cell_row rfl _ _ w.heap.size 34 _ (0, 0) _ rfl (heap_alloc_last w _) Try.underlying34 rfl (Try.sizeNum _ _ _)) rfl ⟨⟨_, by rw [Hv.out], by first | (intro _; rfl) | (rw [Hv.out]; intro h; exact absurd h (by decide))⟩, (Below.refl _ w).alloc (Nat.le_refl _) _⟩
            · have Hv : Hid (numV true xs = (X - 256, 0)) := Lib.hid (by show toIntV xs = _; unfold toIntV sle; rw [Hl.out, if_neg (by omega), hX]; simp only [Int.reducePow, Int.reduceDiv]; rw [if_neg hneg])
              have hneg2 : 128 ≤ X := by omega
              go_wp2_with fail
              exact bodyPost_ret (results_cell_row rfl _ _ w.heap.size 34 _ (0, 0) _ rfl (heap_alloc_last w _) Try.underlying34 rfl (Try.sizeNum _ _ _)) rfl ⟨⟨_, by rw [Hv.out], by first | (intro _; rfl) | (rw [Hv.out]; intro h; exact absurd h (by decide))⟩, (Below.refl _ w).alloc (Nat.le_refl _) _⟩
          · simp only [Int.reducePow] at hX1
            by_cases hneg : X < 32768
            · have Hv : Hid (numV true xs = (X, 0)) := Lib.hid (by show toIntV xs = _; unfold toIntV sle; rw [Hl.out, if_neg (by omega), hX]; simp only [Int.reducePow, Int.reduceDiv]; rw [if_pos hneg])
              have hneg2 : ¬ 32768 ≤ X := by omega
              go_wp2_with fail
              exact bodyPost_ret (results_cell_row rfl _ _ w.heap.size 34 _ (0, 0) _ rfl (heap_alloc_last w _) Try.underlying34 rfl (Try.sizeNum _ _ _)) rfl ⟨⟨_, by rw [Hv.out], by first | (intro _; rfl) | (rw [Hv.out]; intro h; exact absurd h (by decide))⟩, (Below.refl _ w).alloc (Nat.le_refl _) _⟩
            · have Hv : Hid (numV true xs = (X - 65536, 0)) := Lib.hid (by show toIntV xs = _; unfold toIntV sle; rw [Hl.out, if_neg (by omega), hX]; simp only [Int.reducePow, Int.reduceDiv]; rw [if_neg hneg])
              have hneg2 : 32768 ≤ X := by omega
              go_wp2_with fail
              exact bodyPost_ret (results_cell_row rfl _ _ w.heap.size 34 _ (0, 0) _ rfl (heap_alloc_last w _) Try.underlying34 rfl (Try.sizeNum _ _ _)) rfl ⟨⟨_, by rw [Hv.out], by first | (intro _; rfl) | (rw [Hv.out]; intro h; exact absurd h (by decide))⟩, (Below.refl _ w).alloc (Nat.le_refl _) _⟩
          · simp only [Int.reducePow] at hX1
            by_cases hneg : X < 8388608
            · have Hv : Hid (numV true xs = (X, 0)) := Lib.hid (by show toIntV xs = _; unfold toIntV sle; rw [Hl.out, if_neg (by omega), hX]; simp only [Int.reducePow, Int.reduceDiv]; rw [if_pos hneg])
              have hneg2 : ¬ 8388608 ≤ X := by omega
              go_wp2_with fail
              exact bodyPost_ret (results_cell_row rfl _ _ w.heap.size 34 _ (0, 0) _ rfl (heap_alloc_last w _) Try.underlying34 rfl (Try.sizeNum _ _ _)) rfl ⟨⟨_, by rw [Hv.out], by first | (intro _; rfl) | (rw [Hv.out]; intro h; exact absurd h (by decide))⟩, (Below.refl _ w).alloc (Nat.le_refl _) _⟩
            · have Hv : Hid (numV true xs = (X - 16777216, 0)) := Lib.hid (by show toIntV xs = _; unfold toIntV sle; rw [Hl.out, if_neg (by omega), hX]; simp only [Int.reducePow, Int.reduceDiv]; rw [if_neg hneg])
              have hneg2 : 8388608 ≤ X := by omega
              go_wp2_with fail
              exact bodyPost_ret (results_cell_row rfl _ _ w.heap.size 34 _ (0, 0) _ rfl (heap_alloc_last w _) Try.underlying34 rfl (Try.sizeNum _ _ _)) rfl ⟨⟨_, by rw [Hv.out], by first | (intro _; rfl) | (rw [Hv.out]; intro h; exact absurd h (by decide))⟩, (Below.refl _ w).alloc (Nat.le_refl _) _⟩
          · simp only [Int.reducePow] at hX1
            by_cases hneg : X < 2147483648
            · have Hv : Hid (numV true xs = (X, 0)) := Lib.hid (by show toIntV xs = _; unfold toIntV sle; rw [Hl.out, if_neg (by omega), hX]; simp only [Int.reducePow, Int.reduceDiv]; rw [if_pos hneg])
              have hneg2 : ¬ 2147483648 ≤ X := by omega
              go_wp2_with fail
              exact bodyPost_ret (results_cell_row rfl _ _ w.heap.size 34 _ (0, 0) _ rfl (heap_alloc_last w _) Try.underlying34 rfl (Try.sizeNum _ _ _)) rfl ⟨⟨_, by rw [Hv.out], by first | (intro _; rfl) | (rw [Hv.out]; intro h; exact absurd h (by decide))⟩, (Below.refl _ w).alloc (Nat.le_refl _) _⟩
            · have Hv : Hid (numV true xs = (X - 4294967296, 0)) := Lib.hid (by show toIntV xs = _; unfold toIntV sle; rw [Hl.out, if_neg (by omega), hX]; simp only [Int.reducePow, Int.reduceDiv]; rw [if_neg hneg])
              have hneg2 : 2147483648 ≤ X := by omega
              go_wp2_with fail
              exact bodyPost_ret (results_cell_row rfl _ _ w.heap.size 34 _ (0, 0) _ rfl (heap_alloc_last w _) Try.underlying34 rfl (Try.sizeNum _ _ _)) rfl ⟨⟨_, by rw [Hv.out], by first | (intro _; rfl) | (rw [Hv.out]; intro h; exact absurd h (by decide))⟩, (Below.refl _ w).alloc (Nat.le_refl _) _⟩
          · simp only [Int.reducePow] at hX1
            by_cases hneg : X < 549755813888
            · have Hv : Hid (numV true xs = (X, 0)) := Lib.hid (by show toIntV xs = _; unfold toIntV sle; rw [Hl.out, if_neg (by omega), hX]; simp only [Int.reducePow, Int.reduceDiv]; rw [if_pos hneg])
              have hneg2 : ¬ 549755813888 ≤ X := by omega
              go_wp2_with fail
              exact bodyPost_ret (results_cell_row rfl _ _ w.heap.size 34 _ (0, 0) _ rfl (heap_alloc_last w _) Try.underlying34 rfl (Try.sizeNum _ _ _)) rfl ⟨⟨_, by rw [Hv.out], by first | (intro _; rfl) | (rw [Hv.out]; intro h; exact absurd h (by decide))⟩, (Below.refl _ w).alloc (Nat.le_refl _) _⟩
            · have Hv : Hid (numV true xs = (X - 1099511627776, 0)) := Lib.hid (by show toIntV xs = _; unfold toIntV sle; rw [Hl.out, if_neg (by omega), hX]; simp only [Int.reducePow, Int.reduceDiv]; rw [if_neg hneg])
              have hneg2 : 549755813888 ≤ X := by omega
              go_wp2_with fail
              exact bodyPost_ret (results_cell_row rfl _ _ w.heap.size 34 _ (0, 0) _ rfl (heap_alloc_last w _) Try.underlying34 rfl (Try.sizeNum _ _ _)) rfl ⟨⟨_, by rw [Hv.out], by first | (intro _; rfl) | (rw [Hv.out]; intro h; exact absurd h (by decide))⟩, (Below.refl _ w).alloc (Nat.le_refl _) _⟩
          · simp only [Int.reducePow] at hX1
            by_cases hneg : X < 140737488355328
            · have Hv : Hid (numV true xs = (X, 0)) := Lib.hid (by show toIntV xs = _; unfold toIntV sle; rw [Hl.out, if_neg (by omega), hX]; simp only [Int.reducePow, Int.reduceDiv]; rw [if_pos hneg])
              have hneg2 : ¬ 140737488355328 ≤ X := by omega
              go_wp2_with fail
              exact bodyPost_ret (results_cell_row rfl _ _ w.heap.size 34 _ (0, 0) _ rfl (heap_alloc_last w _) Try.underlying34 rfl (Try.sizeNum _ _ _)) rfl ⟨⟨_, by rw [Hv.out], by first | (intro _; rfl) | (rw [Hv.out]; intro h; exact absurd h (by decide))⟩, (Below.refl _ w).alloc (Nat.le_refl _) _⟩
            · have Hv : Hid (numV true xs = (X - 281474976710656, 0)) := Lib.hid (by show toIntV xs = _; unfold toIntV sle; rw [Hl.out, if_neg (by omega), hX]; simp only [Int.reducePow, Int.reduceDiv]; rw [if_neg hneg])
              have hneg2 : 140737488355328 ≤ X := by omega
              go_wp2_with fail
              exact bodyPost_ret (results_cell_row rfl _ _ w.heap.size 34 _ (0, 0) _ rfl (heap_alloc_last w _) Try.underlying34 rfl (Try.sizeNum _ _ _)) rfl ⟨⟨_, by rw [Hv.out], by first | (intro _; rfl) | (rw [Hv.out]; intro h; exact absurd h (by decide))⟩, (Below.refl _ w).alloc (Nat.le_refl _) _⟩
          · simp only [Int.reducePow] at hX1
            by_cases hneg : X < 36028797018963968
            · have Hv : Hid (numV true xs = (X, 0)) := Lib.hid (by show toIntV xs = _; unfold toIntV sle; rw [Hl.out, if_neg (by omega), hX]; simp only [Int.reducePow, Int.reduceDiv]; rw [if_pos hneg])
              have hneg2 : ¬ 36028797018963968 ≤ X := by omega
              go_wp2_with fail
              exact bodyPost_ret (results_cell_row rfl _ _ w.heap.size 34 _ (0, 0) _ rfl (heap_alloc_last w _) Try.underlying34 rfl (Try.sizeNum _ _ _)) rfl ⟨⟨_, by rw [Hv.out], by first | (intro _; rfl) | (rw [Hv.out]; intro h; exact absurd h (by decide))⟩, (Below.refl _ w).alloc (Nat.le_refl _) _⟩
            · have Hv : Hid (numV true xs = (X - 72057594037927936, 0)) := Lib.hid (by show toIntV xs = _; unfold toIntV sle; rw [Hl.out, if_neg (by omega), hX]; simp only [Int.reducePow, Int.reduceDiv]; rw [if_neg hneg])
              have hneg2 : 36028797018963968 ≤ X := by omega
              go_wp2_with fail
              exact bodyPost_ret (results_cell_row rfl _ _ w.heap.size 34 _ (0, 0) _ rfl (heap_alloc_last w _) Try.underlying34 rfl (Try.sizeNum _ _ _)) rfl ⟨⟨_, by rw [Hv.out], by first | (intro _; rfl) | (rw [Hv.out]; intro h; exact absurd h (by decide))⟩, (Below.refl _ w).alloc (Nat.le_refl _) _⟩
          · simp only [Int.reducePow] at hX1
            by_cases hneg : X < 9223372036854775808
            · have Hv : Hid (numV true xs = (X, 0)) := Lib.hid (by show toIntV xs = _; unfold toIntV sle; rw [Hl.out, if_neg (by omega), hX]; simp only [Int.reducePow, Int.reduceDiv]; rw [if_pos hneg])
              have hneg2 : ¬ 9223372036854775808 ≤ X := by omega
              have e1 : wrap64 X = X := by unfold wrap64; omega
              have e2 : IntKind.i64.wrap X = X := by rw [IntKind.wrap_i64]; omega
              go_wp2_with fail
              exact bodyPost_ret (results_cell_row rfl _ _ w.heap.size 34 _ (0, 0) _ rfl (heap_alloc_last w _) Try.underlying34 rfl (Try.sizeNum _ _ _)) rfl ⟨⟨_, by rw [Hv.out], by first | (intro _; rfl) | (rw [Hv.out]; intro h; exact absurd h (by decide))⟩, (Below.refl _ w).alloc (Nat.le_refl _) _⟩
            · have Hv : Hid (numV true xs = (X - 18446744073709551616, 0)) := Lib.hid (by show toIntV xs = _; unfold toIntV sle; rw [Hl.out, if_neg (by omega), hX]; simp only [Int.reducePow, Int.reduceDiv]; rw [if_neg hneg])
              have hneg2 : 9223372036854775808 ≤ X := by omega
              have e1 : wrap64 X = X - 18446744073709551616 := by unfold wrap64; omega
              have e2 : IntKind.i64.wrap X = X - 18446744073709551616 := by rw [IntKind.wrap_i64]; omega
              go_wp2_with fail
              exact bodyPost_ret (results_cell_row rfl _ _ w.heap.size 34 _ (0, 0) _ rfl (heap_alloc_last w _) Try.underlying34 rfl (Try.sizeNum _ _ _)) rfl ⟨⟨_, by rw [Hv.out], by first | (intro _; rfl) | (rw [Hv.out]; intro h; exact absurd h (by decide))⟩, (Below.refl _ w).alloc (Nat.le_refl _) _⟩
end Go.Proofs.Ytnhkkhceoaembaa

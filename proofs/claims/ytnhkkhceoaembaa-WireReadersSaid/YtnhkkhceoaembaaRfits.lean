/- The reference's Fits and Width, told in plain values. -/
import Derived.Test.YtnhkkhceoaembaaRfold
import Derived.Test.YtnhkkhceoaembaaWback
namespace Go.Proofs.Ytnhkkhceoaembaa
set_option linter.unusedVariables false
open Go.RowKit

/-- Whether a number can be written in a width. -/
def fitsV (n w : Int) (s : Bool) : Bool := decide (widthV n s ≠ 0 ∧ widthV n s ≤ w)
theorem fits_u (n w : Int) (h2 : n ≤ 9223372036854775807) (w1 : 1 ≤ w) (w8 : w ≤ 8) : fitsV n w false = decide (0 ≤ n ∧ (w = 8 ∨ n < 256 ^ w.toNat)) := by
  unfold fitsV
  congr 1
  have hd : widthV n false = (if n < 0 then 0 else if n < 256 then 1 else if n < 65536 then 2 else if n < 16777216 then 3 else if n < 4294967296 then 4
      else if n < 1099511627776 then 5 else if n < 281474976710656 then 6 else if n < 72057594037927936 then 7 else 8) := by unfold widthV; simp
  rw [hd]
  have : w = 1 ∨ w = 2 ∨ w = 3 ∨ w = 4 ∨ w = 5 ∨ w = 6 ∨ w = 7 ∨ w = 8 := by omega
  rcases this with rfl | rfl | rfl | rfl | rfl | rfl | rfl | rfl <;> simp only [Int.reduceToNat, Int.reducePow, eq_iff_iff] <;> (repeat' split) <;> omega
theorem fits_s (n w : Int) (h1 : -9223372036854775808 ≤ n) (h2 : n ≤ 9223372036854775807) (w1 : 1 ≤ w) (w8 : w ≤ 8) : fitsV n w true = decide (w = 8 ∨ (-(256 ^ w.toNat / 2) ≤ n ∧ n < 256 ^ w.toNat / 2)) := by
  unfold fitsV
  congr 1
  have hm : (0 ≤ n ∧ mag n = n) ∨ (n < 0 ∧ mag n = -n - 1) := by unfold mag; split <;> omega
  have hd : widthV n true = (if mag n < 128 then 1 else if mag n < 32768 then 2 else if mag n < 8388608 then 3 else if mag n < 2147483648 then 4
      else if mag n < 549755813888 then 5 else if mag n < 140737488355328 then 6 else if mag n < 36028797018963968 then 7 else 8) := by unfold widthV; simp
  rw [hd]
  generalize mag n = m at *
  have : w = 1 ∨ w = 2 ∨ w = 3 ∨ w = 4 ∨ w = 5 ∨ w = 6 ∨ w = 7 ∨ w = 8 := by omega
  rcases this with rfl | rfl | rfl | rfl | rfl | rfl | rfl | rfl <;> simp only [Int.reduceToNat, Int.reducePow, Int.reduceDiv, eq_iff_iff] <;> (repeat' split) <;> omega
theorem ret_bool {b c : Bool} (h : b = true ↔ c = true) : Ending.returned (.bool b) = .returned (.bool c) := by rw [Bool.eq_iff_iff.2 h]
theorem fits_1_false (n : Int) (w : World) (h1 : -9223372036854775808 ≤ n) (h2 : n ≤ 9223372036854775807) :
    Calls Try.prog 65 #[.int .i64 n, .int .i64 1, .bool false] w fun e w' => e = .returned (.bool (fitsV n 1 false)) ∧ w = w' := by
  have Hf := Lib.hid (fits_u n 1 h2 (by decide) (by decide))
  go_enter Try.func65, Try.ntmps65
  go_wp2
  all_goals (go_ret; refine ⟨?_, rfl⟩; rw [Hf.out]; refine ret_bool ?_; simp; try omega)
theorem fits_1_true (n : Int) (w : World) (h1 : -9223372036854775808 ≤ n) (h2 : n ≤ 9223372036854775807) :
    Calls Try.prog 65 #[.int .i64 n, .int .i64 1, .bool true] w fun e w' => e = .returned (.bool (fitsV n 1 true)) ∧ w = w' := by
  have Hf := Lib.hid (fits_s n 1 h1 h2 (by decide) (by decide))
  go_enter Try.func65, Try.ntmps65
  go_wp2
  all_goals (go_ret; refine ⟨?_, rfl⟩; rw [Hf.out]; refine ret_bool ?_; simp; try omega)
theorem fits_2_false (n : Int) (w : World) (h1 : -9223372036854775808 ≤ n) (h2 : n ≤ 9223372036854775807) :
    Calls Try.prog 65 #[.int .i64 n, .int .i64 2, .bool false] w fun e w' => e = .returned (.bool (fitsV n 2 false)) ∧ w = w' := by
  have Hf := Lib.hid (fits_u n 2 h2 (by decide) (by decide))
  go_enter Try.func65, Try.ntmps65
  go_wp2
  all_goals (go_ret; refine ⟨?_, rfl⟩; rw [Hf.out]; refine ret_bool ?_; simp; try omega)
theorem fits_2_true (n : Int) (w : World) (h1 : -9223372036854775808 ≤ n) (h2 : n ≤ 9223372036854775807) :
    Calls Try.prog 65 #[.int .i64 n, .int .i64 2, .bool true] w fun e w' => e = .returned (.bool (fitsV n 2 true)) ∧ w = w' := by
  have Hf := Lib.hid (fits_s n 2 h1 h2 (by decide) (by decide))
  go_enter Try.func65, Try.ntmps65
  go_wp2
  all_goals (go_ret; refine ⟨?_, rfl⟩; rw [Hf.out]; refine ret_bool ?_; simp; try omega)
theorem fits_3_false (n : Int) (w : World) (h1 : -9223372036854775808 ≤ n) (h2 : n ≤ 9223372036854775807) :
    Calls Try.prog 65 #[.int .i64 n, .int .i64 3, .bool false] w fun e w' => e = .returned (.bool (fitsV n 3 false)) ∧ w = w' := by
  have Hf := Lib.hid (fits_u n 3 h2 (by decide) (by decide))
  go_enter Try.func65, Try.ntmps65
  go_wp2
  all_goals (go_ret; refine ⟨?_, rfl⟩; rw [Hf.out]; refine ret_bool ?_; simp; try omega)
theorem fits_3_true (n : Int) (w : World) (h1 : -9223372036854775808 ≤ n) (h2 : n ≤ 9223372036854775807) :
    Calls Try.prog 65 #[.int .i64 n, .int .i64 3, .bool true] w fun e w' => e = .returned (.bool (fitsV n 3 true)) ∧ w = w' := by
  have Hf := Lib.hid (fits_s n 3 h1 h2 (by decide) (by decide))
  go_enter Try.func65, Try.ntmps65
  go_wp2
  all_goals (go_ret; refine ⟨?_, rfl⟩; rw [Hf.out]; refine ret_bool ?_; simp; try omega)
theorem fits_4_false (n : Int) (w : World) (h1 : -9223372036854775808 ≤ n) (h2 : n ≤ 9223372036854775807) :
    Calls Try.prog 65 #[.int .i64 n, .int .i64 4, .bool false] w fun e w' => e = .returned (.bool (fitsV n 4 false)) ∧ w = w' := by
  have Hf := Lib.hid (fits_u n 4 h2 (by decide) (by decide))
  go_enter Try.func65, Try.ntmps65
  go_wp2
  all_goals (go_ret; refine ⟨?_, rfl⟩; rw [Hf.out]; refine ret_bool ?_; simp; try omega)
theorem fits_4_true (n : Int) (w : World) (h1 : -9223372036854775808 ≤ n) (h2 : n ≤ 9223372036854775807) :
    Calls Try.prog 65 #[.int .i64 n, .int .i64 4, .bool true] w fun e w' => e = .returned (.bool (fitsV n 4 true)) ∧ w = w' := by
  have Hf := Lib.hid (fits_s n 4 h1 h2 (by decide) (by decide))
  go_enter Try.func65, Try.ntmps65
  go_wp2
  all_goals (go_ret; refine ⟨?_, rfl⟩; rw [Hf.out]; refine ret_bool ?_; simp; try omega)
theorem fits_5_false (n : Int) (w : World) (h1 : -9223372036854775808 ≤ n) (h2 : n ≤ 9223372036854775807) :
    Calls Try.prog 65 #[.int .i64 n, .int .i64 5, .bool false] w fun e w' => e = .returned (.bool (fitsV n 5 false)) ∧ w = w' := by
  have Hf := Lib.hid (fits_u n 5 h2 (by decide) (by decide))
  go_enter Try.func65, Try.ntmps65
  go_wp2
  all_goals (go_ret; refine ⟨?_, rfl⟩; rw [Hf.out]; refine ret_bool ?_; simp; try omega)
theorem fits_5_true (n : Int) (w : World) (h1 : -9223372036854775808 ≤ n) (h2 : n ≤ 9223372036854775807) :
    Calls Try.prog 65 #[.int .i64 n, .int .i64 5, .bool true] w fun e w' => e = .returned (.bool (fitsV n 5 true)) ∧ w = w' := by
  have Hf := Lib.hid (fits_s n 5 h1 h2 (by decide) (by decide))
  go_enter Try.func65, Try.ntmps65
  go_wp2
  all_goals (go_ret; refine ⟨?_, rfl⟩; rw [Hf.out]; refine ret_bool ?_; simp; try omega)
theorem fits_6_false (n : Int) (w : World) (h1 : -9223372036854775808 ≤ n) (h2 : n ≤ 9223372036854775807) :
    Calls Try.prog 65 #[.int .i64 n, .int .i64 6, .bool false] w fun e w' => e = .returned (.bool (fitsV n 6 false)) ∧ w = w' := by
  have Hf := Lib.hid (fits_u n 6 h2 (by decide) (by decide))
  go_enter Try.func65, Try.ntmps65
  go_wp2
  all_goals (go_ret; refine ⟨?_, rfl⟩; rw [Hf.out]; refine ret_bool ?_; simp; try omega)
theorem fits_6_true (n : Int) (w : World) (h1 : -9223372036854775808 ≤ n) (h2 : n ≤ 9223372036854775807) :
    Calls Try.prog 65 #[.int .i64 n, .int .i64 6, .bool true] w fun e w' => e = .returned (.bool (fitsV n 6 true)) ∧ w = w' := by
  have Hf := Lib.hid (fits_s n 6 h1 h2 (by decide) (by decide))
  go_enter Try.func65, Try.ntmps65
  go_wp2
  all_goals (go_ret; refine ⟨?_, rfl⟩; rw [Hf.out]; refine ret_bool ?_; simp; try omega)
theorem fits_7_false (n : Int) (w : World) (h1 : -9223372036854775808 ≤ n) (h2 : n ≤ 9223372036854775807) :
    Calls Try.prog 65 #[.int .i64 n, .int .i64 7, .bool false] w fun e w' => e = .returned (.bool (fitsV n 7 false)) ∧ w = w' := by
  have Hf := Lib.hid (fits_u n 7 h2 (by decide) (by decide))
  go_enter Try.func65, Try.ntmps65
  go_wp2
  all_goals (go_ret; refine ⟨?_, rfl⟩; rw [Hf.out]; refine ret_bool ?_; simp; try omega)
theorem fits_7_true (n : Int) (w : World) (h1 : -9223372036854775808 ≤ n) (h2 : n ≤ 9223372036854775807) :
    Calls Try.prog 65 #[.int .i64 n, .int .i64 7, .bool true] w fun e w' => e = .returned (.bool (fitsV n 7 true)) ∧ w = w' := by
  have Hf := Lib.hid (fits_s n 7 h1 h2 (by decide) (by decide))
  go_enter Try.func65, Try.ntmps65
  go_wp2
  all_goals (go_ret; refine ⟨?_, rfl⟩; rw [Hf.out]; refine ret_bool ?_; simp; try omega)
theorem fits_8_false (n : Int) (w : World) (h1 : -9223372036854775808 ≤ n) (h2 : n ≤ 9223372036854775807) :
    Calls Try.prog 65 #[.int .i64 n, .int .i64 8, .bool false] w fun e w' => e = .returned (.bool (fitsV n 8 false)) ∧ w = w' := by
  have Hf := Lib.hid (fits_u n 8 h2 (by decide) (by decide))
  go_enter Try.func65, Try.ntmps65
  go_wp2
  all_goals (go_ret; refine ⟨?_, rfl⟩; rw [Hf.out]; refine ret_bool ?_; simp; try omega)
theorem fits_8_true (n : Int) (w : World) (h1 : -9223372036854775808 ≤ n) (h2 : n ≤ 9223372036854775807) :
    Calls Try.prog 65 #[.int .i64 n, .int .i64 8, .bool true] w fun e w' => e = .returned (.bool (fitsV n 8 true)) ∧ w = w' := by
  have Hf := Lib.hid (fits_s n 8 h1 h2 (by decide) (by decide))
  go_enter Try.func65, Try.ntmps65
  go_wp2
  all_goals (go_ret; refine ⟨?_, rfl⟩; rw [Hf.out]; refine ret_bool ?_; simp; try omega)
theorem refFits_any (n k : Int) (s : Bool) (w : World) (h1 : -9223372036854775808 ≤ n) (h2 : n ≤ 9223372036854775807) (k1 : 1 ≤ k) (k8 : k ≤ 8) :
    Calls Try.prog 65 #[.int .i64 n, .int .i64 k, .bool s] w fun e w' => e = .returned (.bool (fitsV n k s)) ∧ w = w' := by
  have : k = 1 ∨ k = 2 ∨ k = 3 ∨ k = 4 ∨ k = 5 ∨ k = 6 ∨ k = 7 ∨ k = 8 := by omega
  rcases this with rfl | rfl | rfl | rfl | rfl | rfl | rfl | rfl <;> cases s
  · exact fits_1_false n w h1 h2
  · exact fits_1_true n w h1 h2
  · exact fits_2_false n w h1 h2
  · exact fits_2_true n w h1 h2
  · exact fits_3_false n w h1 h2
  · exact fits_3_true n w h1 h2
  · exact fits_4_false n w h1 h2
  · exact fits_4_true n w h1 h2
  · exact fits_5_false n w h1 h2
  · exact fits_5_true n w h1 h2
  · exact fits_6_false n w h1 h2
  · exact fits_6_true n w h1 h2
  · exact fits_7_false n w h1 h2
  · exact fits_7_true n w h1 h2
  · exact fits_8_false n w h1 h2
  · exact fits_8_true n w h1 h2
end Go.Proofs.Ytnhkkhceoaembaa

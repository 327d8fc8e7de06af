/- The greatest power of 2 below a number; lists of parts in two. -/
import Derived.Test.YtnlblmghhkmbbaaSleaf
import Derived.Test.YtnlblmghhkmbbaaShelf
import Derived.Lib.ItoaNum
namespace Go.Proofs.Ytnlblmghhkmbbaa
set_option linter.unusedVariables false
open Go.RowKit Go.Shelf

/-- How many leaves are below the left one of two nodes. -/
def halfV (n : Nat) : Nat := 2 ^ (Lib.bitLen (n - 1) - 1)
theorem halfV_bd (n : Nat) (h : 2 ≤ n) (hm : n ≤ 4096) : 1 ≤ halfV n ∧ halfV n < n ∧ n ≤ 2 * halfV n := by
  have hb := Lib.bitLenAux_bounds 64 (n - 1) (by omega) (by omega)
  unfold halfV Lib.bitLen
  obtain ⟨L, hL⟩ : ∃ L, L = Lib.bitLenAux 64 (n - 1) := ⟨_, rfl⟩
  rw [← hL] at hb ⊢
  obtain ⟨h1, h2, h3⟩ := hb
  obtain ⟨m, rfl⟩ : ∃ m, L = m + 1 := ⟨L - 1, by omega⟩
  have e : 2 ^ (m + 1) = 2 * 2 ^ m := by rw [Nat.pow_succ]; omega
  simp only [Nat.add_sub_cancel] at h2 ⊢
  rw [e] at h3
  have := Nat.two_pow_pos m
  omega
theorem bitLen_small (n : Nat) (h : 2 ≤ n) (hm : n ≤ 4096) : 1 ≤ Lib.bitLen (n - 1) ∧ Lib.bitLen (n - 1) ≤ 12 := by
  refine ⟨?_, Lib.bitLen_le (n - 1) 12 (by omega) (by omega)⟩
  have hb := Lib.bitLenAux_bounds 64 (n - 1) (by omega) (by omega)
  unfold Lib.bitLen
  omega
theorem lenU_any (x : Int) (w : World) (h0 : 0 ≤ x) (h1 : x ≤ 4096) :
    Calls Try.prog 87 #[.int .u64 x] w fun e w' => e = .returned (.int .i64 (Lib.bitLen x.toNat)) ∧ w' = w := by
  go_enter Try.func87, Try.ntmps87
  go_wp2_with fail
  refine (Try.bits_Len64 x w h0 (by omega)).mono ?_
  rintro e w1 ⟨rfl, rfl⟩
  go_wp2_with fail
  go_ret
  exact ⟨rfl, rfl⟩
set_option maxRecDepth 100000 in
set_option maxHeartbeats 1000000 in
theorem firstPart_any (n : Nat) (w : World) (h : 2 ≤ n) (hm : n ≤ 4096) :
    Calls Try.prog 69 #[.int .i64 n] w fun e w' => e = .returned (.int .i64 (halfV n : Int)) ∧ w' = w := by
  have hb := bitLen_small n h hm
  have e1 : ((n : Int) - 1) = ((n - 1 : Nat) : Int) := by omega
  obtain ⟨m, hm1⟩ : ∃ m, m = n - 1 := ⟨_, rfl⟩
  obtain ⟨L, hL⟩ : ∃ L, L = Lib.bitLen m := ⟨_, rfl⟩
  have H : Hid (halfV n = 2 ^ (L - 1)) := Lib.hid (by rw [hL, hm1]; rfl)
  rw [← hm1] at e1 hb
  rw [← hL] at hb
  have HL := Lib.hid hL
  have hm0 : (m : Int) ≤ 4096 := by omega
  clear hL hm1
  go_enter Try.func69, Try.ntmps69
  go_wp2_with fail
  refine (lenU_any _ w (by omega) (by omega)).mono ?_
  rintro e w1 ⟨rfl, rfl⟩
  rw [Int.toNat_natCast, ← HL.out]
  have hL12 : L = 1 ∨ L = 2 ∨ L = 3 ∨ L = 4 ∨ L = 5 ∨ L = 6 ∨ L = 7 ∨ L = 8 ∨ L = 9 ∨ L = 10 ∨ L = 11 ∨ L = 12 := by omega
  clear hb HL e1
  rcases hL12 with rfl | rfl | rfl | rfl | rfl | rfl | rfl | rfl | rfl | rfl | rfl | rfl
  all_goals
    go_wp2_with fail
    go_ret
    exact ⟨ret_int_ (by rw [H.out]; rfl), rfl⟩
end Go.Proofs.Ytnlblmghhkmbbaa

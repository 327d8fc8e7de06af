/- Numbers that were written are read again. -/
import Derived.Test.YtmfijcniaehooaaWrnum
namespace Go.Proofs.Ytmfijcniaehooaa
set_option linter.unusedVariables false
open Go.RowKit

theorem le_bytesOf (k : Nat) : ∀ n : Int, le (bytesOf k n) = n % 256 ^ k := by
  induction k with
  | zero => intro n; simp [bytesOf, le]
  | succ k ih =>
    intro n
    rw [bytesOf, le, ih]
    have hp : (0 : Int) < 256 ^ k := Int.pow_pos (by decide)
    rw [show (256 : Int) ^ (k + 1) = 256 * 256 ^ k from by rw [Int.pow_succ, Int.mul_comm]]
    generalize (256 : Int) ^ k = P at hp
    have a := Int.mul_ediv_add_emod n 256
    have b := Int.mul_ediv_add_emod (n / 256) P
    have b1 := Int.emod_nonneg (n / 256) (show P ≠ 0 by omega)
    have b2 := Int.emod_lt_of_pos (n / 256) hp
    have e1 : n = (n % 256 + 256 * (n / 256 % P)) + (256 * P) * (n / 256 / P) := by
      rw [Int.mul_assoc]; omega
    have e2 : n % (256 * P) = n % 256 + 256 * (n / 256 % P) := by
      conv => lhs; rw [e1]
      rw [Int.add_mul_emod_self_left]
      exact Int.emod_eq_of_lt (by omega) (by omega)
    exact e2.symm
theorem width_fit_u (n w : Int) (h0 : 0 ≤ n) (h2 : n ≤ 9223372036854775807) (h : widthV n false ≤ w) (hw : w ≤ 8) : 1 ≤ w ∧ n < 256 ^ w.toNat := by
  have hw0 : 1 ≤ w := by
    unfold widthV at h; simp only [Bool.false_eq_true, if_false] at h
    repeat' split at h
    all_goals omega
  refine ⟨hw0, ?_⟩
  have : w = 1 ∨ w = 2 ∨ w = 3 ∨ w = 4 ∨ w = 5 ∨ w = 6 ∨ w = 7 ∨ w = 8 := by omega
  unfold widthV at h; simp only [Bool.false_eq_true, if_false] at h
  rcases this with rfl | rfl | rfl | rfl | rfl | rfl | rfl | rfl <;> simp only [Int.reduceToNat, Int.reducePow] <;> (repeat' split at h) <;> omega
theorem width_fit_s (n w : Int) (h1 : -9223372036854775808 ≤ n) (h2 : n ≤ 9223372036854775807) (h : widthV n true ≤ w) (hw : w ≤ 8) : 1 ≤ w ∧ -(256 ^ w.toNat / 2) ≤ n ∧ n < 256 ^ w.toNat / 2 := by
  have hm : n ≤ mag n ∧ -n - 1 ≤ mag n ∧ mag n ≤ 9223372036854775807 := by unfold mag; omega
  generalize hg : mag n = m at *
  have hw0 : 1 ≤ w := by
    unfold widthV at h; simp only [if_true, hg] at h
    repeat' split at h
    all_goals omega
  refine ⟨hw0, ?_⟩
  have : w = 1 ∨ w = 2 ∨ w = 3 ∨ w = 4 ∨ w = 5 ∨ w = 6 ∨ w = 7 ∨ w = 8 := by omega
  unfold widthV at h; simp only [if_true, hg] at h
  rcases this with rfl | rfl | rfl | rfl | rfl | rfl | rfl | rfl <;> simp only [Int.reduceToNat, Int.reducePow, Int.reduceDiv] <;> (repeat' split at h) <;> omega
theorem fixed_less (n w : Int) (s : Bool) (h1 : 1 ≤ w) (h : w < widthV n s) (hw : w ≤ 8) : fixedE n w s = 24 := by
  unfold fixedE; rw [if_neg (by omega), if_pos (.inr h)]
theorem fixed_fit (n w : Int) (s : Bool) (h1 : -9223372036854775808 ≤ n) (h2 : n ≤ 9223372036854775807) (h0 : widthV n s ≠ 0) (h : widthV n s ≤ w) (hw : w ≤ 8) : fixedE n w s = 0 ∧ numV s (fixedB n w s) = (n, 0) ∧ (fixedB n w s).length = w.toNat := by
  have hb := widthV_bd n s
  have hE : fixedE n w s = 0 := by unfold fixedE; rw [if_neg (by omega), if_neg (by omega)]
  have hB : fixedB n w s = bytesOf w.toNat n := by unfold fixedB; rw [if_pos hE]
  have hl := bytesOf_length w.toNat n
  refine ⟨hE, ?_, by rw [hB, hl]⟩
  rw [hB]
  cases s
  · have hn : 0 ≤ n := by
      rcases Int.lt_or_le n 0 with hlt | hge
      · exact absurd (by unfold widthV; simp [hlt]) h0
      · exact hge
    obtain ⟨w1, hf⟩ := width_fit_u n w hn h2 h hw
    have hle : le (bytesOf w.toNat n) = n := by rw [le_bytesOf, Int.emod_eq_of_lt hn hf]
    show toUintV _ = _
    unfold toUintV
    rw [hle, hl, if_neg (by omega), if_neg (by omega)]
  · obtain ⟨w1, hf1, hf2⟩ := width_fit_s n w h1 h2 h hw
    show toIntV _ = _
    unfold toIntV sle
    rw [le_bytesOf, hl, if_neg (by omega)]
    have : w = 1 ∨ w = 2 ∨ w = 3 ∨ w = 4 ∨ w = 5 ∨ w = 6 ∨ w = 7 ∨ w = 8 := by omega
    congr 1
    rcases this with rfl | rfl | rfl | rfl | rfl | rfl | rfl | rfl <;> simp only [Int.reduceToNat, Int.reducePow, Int.reduceDiv] at * <;> split <;> omega
end Go.Proofs.Ytmfijcniaehooaa

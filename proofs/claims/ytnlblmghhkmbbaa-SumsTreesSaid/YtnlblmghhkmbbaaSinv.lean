/- Undo and Permute are inverse. -/
import Derived.Test.YtnlblmghhkmbbaaSundo
namespace Go.Proofs.Ytnlblmghhkmbbaa
set_option linter.unusedVariables false
open Go.RowKit

theorem rot_rot (x : B32) (s t : Nat) (hs : 0 < s) (h : s + t = 32) (ht : 0 < t) : rotL (rotL x s) t = x := by
  unfold rotL
  apply BitVec.eq_of_getLsbD_eq
  intro i hi
  simp only [BitVec.getLsbD_or, BitVec.getLsbD_shiftLeft, BitVec.getLsbD_ushiftRight]
  by_cases h1 : i < t
  · have e1 : (32 - s) + (32 - t + i) = i + 32 := by omega
    have e2 : 32 - t + i - s = i := by omega
    have e3 : ¬ (32 - t + i < s) := by omega
    have e4 : 32 - t + i < 32 := by omega
    have e5 : x.getLsbD (i + 32) = false := BitVec.getLsbD_of_ge _ _ (by omega)
    simp [h1, e1, e2, e3, e4, e5, hi]
  · have e1 : 32 - s + (i - t) = i := by omega
    have e2 : i - t < s := by omega
    have e3 : ¬ (32 - t + i < 32) := by omega
    have e4 : i - t < 32 := by omega
    have e5 : x.getLsbD (32 - s + (32 - t + i)) = false := BitVec.getLsbD_of_ge _ _ (by omega)
    simp [h1, e1, e2, e3, e4, e5, hi]
theorem rot16 (x : B32) : rotL (rotL x 16) 16 = x := rot_rot x 16 16 (by omega) (by omega) (by omega)
theorem rot7 (x : B32) : rotL (rotL x 7) 25 = x := rot_rot x 7 25 (by omega) (by omega) (by omega)
theorem rot25 (x : B32) : rotL (rotL x 25) 7 = x := rot_rot x 25 7 (by omega) (by omega) (by omega)
theorem xor_xor (a b : B32) : (a ^^^ b) ^^^ b = a := by rw [BitVec.xor_assoc, BitVec.xor_self, BitVec.xor_zero]
theorem upd_at (s : St) (i : Nat) (x : B32) : upd s i x i = x := by unfold upd; simp
theorem upd_ne (s : St) (i j : Nat) (x : B32) (h : j ≠ i) : upd s i x j = s j := by unfold upd; simp [h]
theorem upd_upd (s : St) (i : Nat) (x y : B32) : upd (upd s i x) i y = upd s i y := by funext j; unfold upd; split <;> rfl
theorem upd_self (s : St) (i : Nat) : upd s i (s i) = s := by funext j; unfold upd; split <;> simp_all
theorem unturn_turn (s : St) : turnU (turnV s) = s := by
  funext j
  unfold turnU turnV upd
  by_cases h4 : j = 4
  · subst h4; simp
  · by_cases h5 : j = 5
    · subst h5; simp
    · by_cases h6 : j = 6
      · subst h6; simp
      · by_cases h7 : j = 7
        · subst h7; simp
        · simp [h4, h5, h6, h7]
theorem turn_unturn (s : St) : turnV (turnU s) = s := by
  funext j
  unfold turnU turnV upd
  by_cases h4 : j = 4
  · subst h4; simp
  · by_cases h5 : j = 5
    · subst h5; simp
    · by_cases h6 : j = 6
      · subst h6; simp
      · by_cases h7 : j = 7
        · subst h7; simp
        · simp [h4, h5, h6, h7]
/-- What mixes leaves at each place. -/
theorem mixes_at (s : St) : ∀ k, k ≤ 4 → ∀ j, mixes k s j = if j < k then rotL (s j + s (j + 4)) 16 else if 4 ≤ j ∧ j < 4 + k then rotL (s j) 7 ^^^ (s (j - 4) + s j) else s j := by
  intro k
  induction k with
  | zero => intro _ j; rw [if_neg (by omega), if_neg (by omega)]; rfl
  | succ k ih =>
    intro hk j
    have e1 : mixes k s k = s k := by rw [ih (by omega), if_neg (by omega), if_neg (by omega)]
    have e2 : mixes k s (k + 4) = s (k + 4) := by rw [ih (by omega), if_neg (by omega), if_neg (by omega)]
    rw [mixes]
    unfold mixV
    rw [e1, e2]
    by_cases h1 : j = k
    · subst h1; rw [upd_at, if_pos (by omega)]
    · rw [upd_ne _ _ _ _ h1]
      by_cases h2 : j = k + 4
      · subst h2; rw [upd_at, if_neg (by omega), if_pos (by omega), Nat.add_sub_cancel]
      · rw [upd_ne _ _ _ _ h2, ih (by omega)]
        by_cases h3 : j < k
        · rw [if_pos h3, if_pos (by omega)]
        · rw [if_neg h3, if_neg (show ¬ j < k + 1 by omega)]
          by_cases h4 : 4 ≤ j ∧ j < 4 + k
          · rw [if_pos h4, if_pos (by omega)]
          · rw [if_neg h4, if_neg (by omega)]
theorem unmixes_at (s : St) : ∀ k, k ≤ 4 → ∀ j, unmixes k s j = if j < k then rotL (s j) 16 - rotL (s (j + 4) ^^^ rotL (s j) 16) 25 else if 4 ≤ j ∧ j < 4 + k then rotL (s j ^^^ rotL (s (j - 4)) 16) 25 else s j := by
  intro k
  induction k with
  | zero => intro _ j; rw [if_neg (by omega), if_neg (by omega)]; rfl
  | succ k ih =>
    intro hk j
    have e1 : unmixes k s k = s k := by rw [ih (by omega), if_neg (by omega), if_neg (by omega)]
    have e2 : unmixes k s (k + 4) = s (k + 4) := by rw [ih (by omega), if_neg (by omega), if_neg (by omega)]
    rw [unmixes]
    unfold unmixV
    rw [e1, e2]
    by_cases h1 : j = k
    · subst h1; rw [upd_at, if_pos (by omega)]
    · rw [upd_ne _ _ _ _ h1]
      by_cases h2 : j = k + 4
      · subst h2; rw [upd_at, if_neg (by omega), if_pos (by omega), Nat.add_sub_cancel]
      · rw [upd_ne _ _ _ _ h2, ih (by omega)]
        by_cases h3 : j < k
        · rw [if_pos h3, if_pos (by omega)]
        · rw [if_neg h3, if_neg (show ¬ j < k + 1 by omega)]
          by_cases h4 : 4 ≤ j ∧ j < 4 + k
          · rw [if_pos h4, if_pos (by omega)]
          · rw [if_neg h4, if_neg (by omega)]
theorem unmix_mix (s : St) : unmixes 4 (mixes 4 s) = s := by
  have m := mixes_at s 4 (by omega)
  have u := unmixes_at (mixes 4 s) 4 (by omega)
  funext j
  rw [u j]
  by_cases h1 : j < 4
  · have a : mixes 4 s j = rotL (s j + s (j + 4)) 16 := by rw [m j, if_pos h1]
    have b : mixes 4 s (j + 4) = rotL (s (j + 4)) 7 ^^^ (s j + s (j + 4)) := by rw [m (j + 4), if_neg (by omega), if_pos (by omega), Nat.add_sub_cancel]
    rw [if_pos h1, a, b, rot16, xor_xor, rot7, BitVec.add_sub_cancel]
  · rw [if_neg h1]
    by_cases h2 : 4 ≤ j ∧ j < 4 + 4
    · have a : mixes 4 s (j - 4) = rotL (s (j - 4) + s j) 16 := by rw [m (j - 4), if_pos (by omega), show j - 4 + 4 = j by omega]
      have b : mixes 4 s j = rotL (s j) 7 ^^^ (s (j - 4) + s j) := by rw [m j, if_neg h1, if_pos h2]
      rw [if_pos h2, a, b, rot16, xor_xor, rot7]
    · rw [if_neg h2, m j, if_neg h1, if_neg h2]
theorem mix_unmix (s : St) : mixes 4 (unmixes 4 s) = s := by
  have u := unmixes_at s 4 (by omega)
  have m := mixes_at (unmixes 4 s) 4 (by omega)
  funext j
  rw [m j]
  by_cases h1 : j < 4
  · have a : unmixes 4 s j = rotL (s j) 16 - rotL (s (j + 4) ^^^ rotL (s j) 16) 25 := by rw [u j, if_pos h1]
    have b : unmixes 4 s (j + 4) = rotL (s (j + 4) ^^^ rotL (s j) 16) 25 := by rw [u (j + 4), if_neg (by omega), if_pos (by omega), Nat.add_sub_cancel]
    rw [if_pos h1, a, b, BitVec.sub_add_cancel, rot16]
  · rw [if_neg h1]
    by_cases h2 : 4 ≤ j ∧ j < 4 + 4
    · have a : unmixes 4 s (j - 4) = rotL (s (j - 4)) 16 - rotL (s j ^^^ rotL (s (j - 4)) 16) 25 := by rw [u (j - 4), if_pos (by omega), show j - 4 + 4 = j by omega]
      have b : unmixes 4 s j = rotL (s j ^^^ rotL (s (j - 4)) 16) 25 := by rw [u j, if_neg h1, if_pos h2]
      rw [if_pos h2, a, b, BitVec.sub_add_cancel, rot25, xor_xor]
    · rw [if_neg h2, u j, if_neg h1, if_neg h2]
theorem unround_round (r q : Nat) (h : 12 - q = r + 1) (s : St) : unroundV q (roundV r s) = s := by
  unfold unroundV roundV
  rw [unturn_turn, unmix_mix, h, upd_upd, upd_at, xor_xor, upd_self]
theorem round_unround (r q : Nat) (h : 12 - q = r + 1) (s : St) : roundV r (unroundV q s) = s := by
  unfold unroundV roundV
  rw [h, upd_upd, upd_at, xor_xor, upd_self, mix_unmix, turn_unturn]
theorem undos_perms (s : St) : ∀ k, k ≤ 12 → undos k (perms 12 s) = perms (12 - k) s := by
  intro k
  induction k with
  | zero => intro _; rfl
  | succ k ih =>
    intro hk
    rw [undos, ih (by omega), show 12 - k = (12 - (k + 1)) + 1 by omega, perms]
    exact unround_round _ _ (by omega) _
theorem perms_undos (s : St) : ∀ k, k ≤ 12 → perms k (undos 12 s) = undos (12 - k) s := by
  intro k
  induction k with
  | zero => intro _; rfl
  | succ k ih =>
    intro hk
    rw [perms, ih (by omega), show 12 - k = (12 - (k + 1)) + 1 by omega, undos]
    exact round_unround _ _ (by omega) _
/-- Undo leads back from Permute. -/
theorem undo_perm (s : St) : undos 12 (permV s) = s := undos_perms s 12 (by omega)
/-- Permute leads back from Undo. -/
theorem perm_undo (s : St) : permV (undos 12 s) = s := perms_undos s 12 (by omega)
end Go.Proofs.Ytnlblmghhkmbbaa

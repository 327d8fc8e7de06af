/- Products of polynomials, and the checksum of two parts: pure. -/
import Derived.Test.YtjkkjfigoanplaaSlin
namespace Go.Proofs.Ytjkkjfigoanplaa
theorem shifts_nil (k : Nat) : shifts k 0#32 = 0#32 := by
  rw [shifts_even k 0#32 (by simp)]; simp
theorem shifts_comm (j k : Nat) (c : B32) : shifts j (shifts k c) = shifts k (shifts j c) := by
  rw [← shifts_add, ← shifts_add, Nat.add_comm]
/-- The polynomial 1. -/
def oneB : B32 := 0x80000000#32
/-- The product of two polynomials, its first bits. -/
def timesN (a b : B32) : Nat → B32
  | 0 => 0#32
  | i + 1 => if a.getLsbD (31 - i) then timesN a b i ^^^ shifts i b else timesN a b i
def timesV (a b : B32) : B32 := timesN a b 32
theorem one_shift (i : Nat) (h : i < 32) : shifts i oneB = oneB >>> i := by
  apply shifts_even
  have : oneB.toNat = 2 ^ (31 - i) * 2 ^ i := by
    rw [← Nat.pow_add, show 31 - i + i = 31 by omega]; rfl
  rw [this]
  exact Nat.mul_mod_left _ _
/-- The first bits of a word. -/
def topV (a : B32) (i : Nat) : B32 := (a >>> (32 - i)) <<< (32 - i)
theorem top_bit (a : B32) (i j : Nat) (hj : j < 32) : (topV a i).getLsbD j = (decide (32 - i ≤ j) && a.getLsbD j) := by
  unfold topV
  simp only [BitVec.getLsbD_shiftLeft, BitVec.getLsbD_ushiftRight, hj, decide_true, Bool.true_and]
  by_cases h : j < 32 - i
  · simp [h, show ¬ 32 - i ≤ j by omega]
  · simp [h, show 32 - i ≤ j by omega, show 32 - i + (j - (32 - i)) = j by omega]
theorem one_bit (i j : Nat) (hi : i < 32) (hj : j < 32) : (oneB >>> i).getLsbD j = decide (j = 31 - i) := by
  rw [BitVec.getLsbD_ushiftRight]
  have : oneB = 1#32 <<< 31 := by decide
  rw [this, BitVec.getLsbD_shiftLeft]
  by_cases h : j = 31 - i
  · subst h
    simp [show i + (31 - i) = 31 by omega]
  · by_cases h2 : i + j < 31
    · simp [h2, h]
    · simp [h, show ¬ i + j < 32 by omega]
theorem top_succ (a : B32) (i : Nat) (hi : i < 32) : topV a (i + 1) = if a.getLsbD (31 - i) then topV a i ^^^ (oneB >>> i) else topV a i := by
  apply BitVec.eq_of_getLsbD_eq
  intro j hj
  have e : decide (32 - (i + 1) ≤ j) = (decide (32 - i ≤ j) || decide (j = 31 - i)) := by
    rw [Bool.eq_iff_iff, Bool.or_eq_true, decide_eq_true_eq, decide_eq_true_eq, decide_eq_true_eq]
    omega
  rw [top_bit a (i + 1) j hj, e]
  by_cases hb : a.getLsbD (31 - i) = true
  · rw [if_pos hb, BitVec.getLsbD_xor, top_bit a i j hj, one_bit i j hi hj]
    by_cases h : j = 31 - i
    · rw [decide_eq_true h, decide_eq_false (show ¬ 32 - i ≤ j by omega), h, hb]; rfl
    · rw [decide_eq_false h, Bool.or_false, Bool.xor_false]
  · rw [if_neg hb, top_bit a i j hj]
    by_cases h : j = 31 - i
    · have hf : a.getLsbD (31 - i) = false := by simpa using hb
      rw [h, hf]; simp
    · rw [decide_eq_false h, Bool.or_false]
theorem times_top (a : B32) (k : Nat) : ∀ i, i ≤ 32 → timesN a (shifts k oneB) i = shifts k (topV a i) := by
  intro i
  induction i with
  | zero =>
    intro _
    have : topV a 0 = 0#32 := by
      apply BitVec.eq_of_getLsbD_eq
      intro j hj
      rw [top_bit a 0 j hj]
      simp; omega
    rw [this, shifts_nil]
    rfl
  | succ i ih =>
    intro h
    rw [timesN, ih (by omega), top_succ a i (by omega)]
    split
    · rw [shifts_xor, ← one_shift i (by omega), shifts_comm]
    · rfl
/-- The product with a power of x is as many parts of a step. -/
theorem times_power (a : B32) (k : Nat) : timesV a (shifts k oneB) = shifts k a := by
  have : topV a 32 = a := by
    apply BitVec.eq_of_getLsbD_eq
    intro j hj
    rw [top_bit a 32 j hj]
    simp
  unfold timesV
  rw [times_top a k 32 (Nat.le_refl _), this]
/-- Two registers that differ. -/
theorem reg_lin (ys : List Int) : ∀ (a d : B32), regV (a ^^^ d) ys = regV a ys ^^^ shifts (8 * ys.length) d := by
  induction ys with
  | nil => intro a d; rfl
  | cons y ys ih =>
    intro a d
    show regV (stepV (a ^^^ d) y) ys = regV (stepV a y) ys ^^^ _
    have e : stepV (a ^^^ d) y = stepV a y ^^^ shifts 8 d := by
      unfold stepV
      rw [← shifts_xor]
      congr 1
      simp only [BitVec.xor_assoc]
      congr 1
      exact BitVec.xor_comm _ _
    rw [e, ih, ← shifts_add, List.length_cons, show 8 + 8 * ys.length = 8 * (ys.length + 1) by omega]
/-- The checksum of two parts. -/
theorem crc_join (xs ys : List Int) : crcV (xs ++ ys) = shifts (8 * ys.length) (crcV xs) ^^^ crcV ys := by
  unfold crcV
  have h : regV 0xFFFFFFFF#32 (xs ++ ys) = regV (0xFFFFFFFF#32 ^^^ ~~~ regV 0xFFFFFFFF#32 xs) ys := by
    have e : (0xFFFFFFFF#32 : B32) ^^^ ~~~ regV 0xFFFFFFFF#32 xs = regV 0xFFFFFFFF#32 xs := by
      have : (0xFFFFFFFF#32 : B32) = BitVec.allOnes 32 := by decide
      rw [this, BitVec.allOnes_xor, BitVec.not_not]
    rw [e]
    unfold regV
    rw [List.foldl_append]
  rw [h, reg_lin, BitVec.not_xor_left, BitVec.xor_comm]
end Go.Proofs.Ytjkkjfigoanplaa

/- The shift is linear; half a byte at a time does the same as bit by bit. -/
import Derived.Test.YtnlblmghhkmbbaaSbase
namespace Go.Proofs.Ytnlblmghhkmbbaa
set_option linter.unusedVariables false

theorem shift_def (c : B32) : shiftV c = (c >>> 1) ^^^ (if c.getLsbD 0 then polyB else 0#32) := by
  unfold shiftV
  have : c.getLsbD 0 = decide (c.toNat % 2 = 1) := by
    rw [BitVec.getLsbD, Nat.testBit_zero]
  rw [this]
  by_cases h : c.toNat % 2 = 1
  · rw [if_pos h, decide_eq_true h]; rfl
  · rw [if_neg h, decide_eq_false h]; simp
theorem shift_xor (a b : B32) : shiftV (a ^^^ b) = shiftV a ^^^ shiftV b := by
  rw [shift_def, shift_def, shift_def, BitVec.getLsbD_xor, BitVec.ushiftRight_xor_distrib]
  have hx : ∀ x y p : B32, (x ^^^ y) ^^^ p = x ^^^ (y ^^^ p) := BitVec.xor_assoc
  cases a.getLsbD 0 <;> cases b.getLsbD 0 <;> simp
  · rw [hx]
  · rw [hx, BitVec.xor_comm (b >>> 1), ← hx]
  · rw [hx (a >>> 1), ← hx polyB, BitVec.xor_comm polyB (b >>> 1), hx (b >>> 1), BitVec.xor_self]; simp
/-- k eighths. -/
def shifts : Nat → B32 → B32
  | 0, c => c
  | k + 1, c => shifts k (shiftV c)
theorem shifts_xor (k : Nat) : ∀ a b, shifts k (a ^^^ b) = shifts k a ^^^ shifts k b := by
  induction k with
  | zero => intro a b; rfl
  | succ k ih => intro a b; rw [shifts, shifts, shifts, shift_xor, ih]
theorem shifts_add (j : Nat) : ∀ k c, shifts (k + j) c = shifts j (shifts k c) := by
  intro k
  induction k with
  | zero => intro c; rw [Nat.zero_add]; rfl
  | succ k ih => intro c; rw [show k + 1 + j = (k + j) + 1 by omega, shifts, shifts, ih]
theorem shifts_even (k : Nat) : ∀ c : B32, c.toNat % 2 ^ k = 0 → shifts k c = c >>> k := by
  induction k with
  | zero => intro c _; simp [shifts]
  | succ k ih =>
    intro c h
    have h2 : c.toNat % 2 = 0 := by
      have : c.toNat % 2 = c.toNat % 2 ^ (k + 1) % 2 := by rw [Nat.mod_mod_of_dvd _ (by rw [Nat.pow_succ]; exact Nat.dvd_mul_left _ _)]
      rw [this, h]
    have hs : shiftV c = c >>> 1 := by unfold shiftV; rw [if_neg (by omega)]
    have h3 : (c >>> 1).toNat = c.toNat / 2 := by rw [BitVec.toNat_ushiftRight, Nat.shiftRight_eq_div_pow]
    rw [shifts, hs, ih]
    · apply BitVec.eq_of_toNat_eq
      rw [BitVec.toNat_ushiftRight, h3, BitVec.toNat_ushiftRight, Nat.shiftRight_eq_div_pow, Nat.shiftRight_eq_div_pow, Nat.div_div_eq_div_mul, Nat.pow_succ, Nat.mul_comm]
    · rw [h3]
      obtain ⟨q, hq⟩ := Nat.dvd_of_mod_eq_zero h
      rw [hq, Nat.pow_succ, Nat.mul_right_comm, Nat.mul_div_cancel _ (by omega)]
      exact Nat.mul_mod_right _ _
theorem split4 (c : B32) : c = ((c >>> 4) <<< 4) ^^^ (c &&& 15#32) := by
  ext i hi
  have h15 : (15#32 : B32).getLsbD i = decide (i < 4) := by
    have : (15#32 : B32).toNat = 2 ^ 4 - 1 := rfl
    rw [BitVec.getLsbD, this, Nat.testBit_two_pow_sub_one]
  simp only [← BitVec.getLsbD_eq_getElem, BitVec.getLsbD_xor, BitVec.getLsbD_and, h15, BitVec.getLsbD_shiftLeft, BitVec.getLsbD_ushiftRight, hi, decide_true, Bool.true_and]
  by_cases h4 : i < 4
  · simp [h4]
  · simp [h4, show 4 + (i - 4) = i by omega]
theorem low4 (c : B32) : (c &&& 15#32).toNat = c.toNat % 16 := by
  rw [BitVec.toNat_and]
  exact Nat.and_two_pow_sub_one_eq_mod _ 4
theorem high4 (c : B32) : ((c >>> 4) <<< 4).toNat % 16 = 0 ∧ ((c >>> 4) <<< 4) >>> 4 = c >>> 4 := by
  have e : ((c >>> 4) <<< 4).toNat = c.toNat / 16 * 16 := by
    rw [BitVec.toNat_shiftLeft, BitVec.toNat_ushiftRight, Nat.shiftRight_eq_div_pow, Nat.shiftLeft_eq]
    have := c.isLt
    omega
  refine ⟨by rw [e]; omega, ?_⟩
  apply BitVec.eq_of_toNat_eq
  rw [BitVec.toNat_ushiftRight, e, BitVec.toNat_ushiftRight, Nat.shiftRight_eq_div_pow, Nat.shiftRight_eq_div_pow]
  omega
/-- Half a byte at once. -/
theorem half_step (c : B32) : (c >>> 4) ^^^ shifts 4 (BitVec.ofNat 32 (c.toNat % 16)) = shifts 4 c := by
  have e : BitVec.ofNat 32 (c.toNat % 16) = c &&& 15#32 := by
    apply BitVec.eq_of_toNat_eq
    rw [low4, BitVec.toNat_ofNat]
    exact Nat.mod_eq_of_lt (by omega)
  obtain ⟨h1, h2⟩ := high4 c
  conv => rhs; rw [split4 c]
  rw [shifts_xor, shifts_even 4 _ h1, h2, e]
/-- A step of the register with a byte. -/
def stepV (c : B32) (x : Int) : B32 := shifts 8 (c ^^^ BitVec.ofInt 32 x)
/-- The register behind bytes. -/
def regV (c : B32) (xs : List Int) : B32 := xs.foldl stepV c
/-- The checksum of bytes. -/
def crcV (xs : List Int) : B32 := ~~~ regV 0xFFFFFFFF#32 xs
theorem step_halves (c : B32) (x : Int) : stepV c x = (((c ^^^ BitVec.ofInt 32 x) >>> 4 ^^^ shifts 4 (BitVec.ofNat 32 ((c ^^^ BitVec.ofInt 32 x).toNat % 16))) >>> 4) ^^^ shifts 4 (BitVec.ofNat 32 (((c ^^^ BitVec.ofInt 32 x) >>> 4 ^^^ shifts 4 (BitVec.ofNat 32 ((c ^^^ BitVec.ofInt 32 x).toNat % 16))).toNat % 16)) := by
  rw [half_step, half_step]
  exact shifts_add 4 4 _
end Go.Proofs.Ytnlblmghhkmbbaa

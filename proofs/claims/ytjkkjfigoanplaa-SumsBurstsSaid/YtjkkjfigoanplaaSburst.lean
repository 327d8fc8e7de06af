/- Bytes that differ within four have different checksums: pure. -/
import Derived.Test.YtjkkjfigoanplaaSlin
namespace Go.Proofs.Ytjkkjfigoanplaa
theorem shift_zero {c : B32} (h : shiftV c = 0#32) : c = 0#32 := by
  have hc := c.isLt
  unfold shiftV at h
  split at h
  · rename_i h1
    have e : c >>> 1 = polyB := by
      have := congrArg (· ^^^ polyB) h
      simpa [BitVec.xor_assoc] using this
    have := congrArg BitVec.toNat e
    rw [BitVec.toNat_ushiftRight, Nat.shiftRight_eq_div_pow] at this
    have hp : polyB.toNat = 3252574743 := by decide
    omega
  · rename_i h1
    have := congrArg BitVec.toNat h
    rw [BitVec.toNat_ushiftRight, Nat.shiftRight_eq_div_pow] at this
    apply BitVec.eq_of_toNat_eq
    simp at this ⊢
    omega
theorem shifts_zero (k : Nat) : ∀ {c : B32}, shifts k c = 0#32 → c = 0#32 := by
  induction k with
  | zero => intro c h; exact h
  | succ k ih => intro c h; exact shift_zero (ih h)
theorem xor_self_iff {a b : B32} : a ^^^ b = 0#32 ↔ a = b := by
  constructor
  · intro h
    have := congrArg (· ^^^ b) h
    simpa [BitVec.xor_assoc] using this
  · rintro rfl; exact BitVec.xor_self
/-- Bytes behind a register lead two registers to different ones. -/
theorem reg_inj (xs : List Int) : ∀ {a b : B32}, regV a xs = regV b xs → a = b := by
  induction xs with
  | nil => intro a b h; exact h
  | cons x xs ih =>
    intro a b h
    have h1 : stepV a x = stepV b x := ih h
    unfold stepV at h1
    have h2 := shifts_zero 8 (by rw [shifts_xor]; exact xor_self_iff.2 h1)
    have h3 := xor_self_iff.1 h2
    have := congrArg (· ^^^ BitVec.ofInt 32 x) h3
    simpa [BitVec.xor_assoc] using this
theorem up_shift (x k : Nat) (hx : x < 256) (hk : k ≤ 24) : shifts k (BitVec.ofNat 32 (x * 2 ^ k)) = BitVec.ofNat 32 x := by
  have hb : x * 2 ^ k < 2 ^ 32 := by
    calc x * 2 ^ k < 256 * 2 ^ k := Nat.mul_lt_mul_of_pos_right hx (Nat.two_pow_pos k)
      _ ≤ 256 * 2 ^ 24 := Nat.mul_le_mul_left _ (Nat.pow_le_pow_right (by omega) hk)
      _ = 2 ^ 32 := by decide
  have e : (BitVec.ofNat 32 (x * 2 ^ k)).toNat = x * 2 ^ k := by rw [BitVec.toNat_ofNat]; exact Nat.mod_eq_of_lt hb
  rw [shifts_even k _ (by rw [e]; exact Nat.mul_mod_left _ _)]
  apply BitVec.eq_of_toNat_eq
  rw [BitVec.toNat_ushiftRight, e, Nat.shiftRight_eq_div_pow, Nat.mul_div_cancel _ (Nat.two_pow_pos k), BitVec.toNat_ofNat, Nat.mod_eq_of_lt (by omega)]
theorem byte_xor (y x : Nat) : BitVec.ofInt 32 ((y ^^^ x : Nat) : Int) = BitVec.ofInt 32 (y : Int) ^^^ BitVec.ofNat 32 x := by
  have h : ∀ n : Nat, BitVec.ofInt 32 (n : Int) = BitVec.ofNat 32 n := fun n => by simp
  rw [h, h, BitVec.ofNat_xor]
theorem step_diff (c d : B32) (y x : Nat) : stepV (c ^^^ d) ((y ^^^ x : Nat) : Int) = stepV c (y : Int) ^^^ shifts 8 (d ^^^ BitVec.ofNat 32 x) := by
  unfold stepV
  rw [← shifts_xor, byte_xor]
  congr 1
  simp only [BitVec.xor_assoc]
  congr 1
  rw [← BitVec.xor_assoc, BitVec.xor_comm d, BitVec.xor_assoc]
theorem low_gone (x k j : Nat) (hx : x < 256) (h : k + 8 ≤ j) : BitVec.ofNat 32 (x * 2 ^ k) >>> j = 0#32 := by
  have h1 : x * 2 ^ k < 2 ^ j := by
    calc x * 2 ^ k < 2 ^ 8 * 2 ^ k := Nat.mul_lt_mul_of_pos_right hx (Nat.two_pow_pos k)
      _ = 2 ^ (8 + k) := (Nat.pow_add 2 8 k).symm
      _ ≤ 2 ^ j := Nat.pow_le_pow_right (by omega) (by omega)
  apply BitVec.eq_of_toNat_eq
  rw [BitVec.toNat_ushiftRight, Nat.shiftRight_eq_div_pow, BitVec.toNat_ofNat]
  show _ = 0
  exact Nat.div_eq_of_lt (Nat.lt_of_le_of_lt (Nat.mod_le _ _) h1)
theorem low_self (x k : Nat) (hx : x < 256) (hk : k ≤ 24) : BitVec.ofNat 32 (x * 2 ^ k) >>> k = BitVec.ofNat 32 x := by
  have hb : x * 2 ^ k < 2 ^ 32 := by
    calc x * 2 ^ k < 256 * 2 ^ k := Nat.mul_lt_mul_of_pos_right hx (Nat.two_pow_pos k)
      _ ≤ 256 * 2 ^ 24 := Nat.mul_le_mul_left _ (Nat.pow_le_pow_right (by omega) hk)
      _ = 2 ^ 32 := by decide
  apply BitVec.eq_of_toNat_eq
  rw [BitVec.toNat_ushiftRight, Nat.shiftRight_eq_div_pow, BitVec.toNat_ofNat, Nat.mod_eq_of_lt hb, Nat.mul_div_cancel _ (Nat.two_pow_pos k), BitVec.toNat_ofNat, Nat.mod_eq_of_lt (by omega)]
theorem zero_of (x : Nat) (hx : x < 256) (h : BitVec.ofNat 32 x = 0#32) : x = 0 := by
  have := congrArg BitVec.toNat h
  rw [BitVec.toNat_ofNat, Nat.mod_eq_of_lt (by omega)] at this
  exact this
/-- Four bytes that differ lead one register to two. -/
theorem burst4 (c : B32) (y0 y1 y2 y3 x0 x1 x2 x3 : Nat) (h0 : x0 < 256) (h1 : x1 < 256) (h2 : x2 < 256) (h3 : x3 < 256) (hx : ¬ (x0 = 0 ∧ x1 = 0 ∧ x2 = 0 ∧ x3 = 0)) :
    regV c [(y0 : Int), (y1 : Int), (y2 : Int), (y3 : Int)] ≠ regV c [((y0 ^^^ x0 : Nat) : Int), ((y1 ^^^ x1 : Nat) : Int), ((y2 ^^^ x2 : Nat) : Int), ((y3 ^^^ x3 : Nat) : Int)] := by
  intro h
  have e0 : ∀ y x : Nat, stepV c ((y ^^^ x : Nat) : Int) = stepV c (y : Int) ^^^ shifts 8 (BitVec.ofNat 32 x) := fun y x => by
    have := step_diff c 0#32 y x
    simpa using this
  simp only [regV, List.foldl_cons, List.foldl_nil] at h
  rw [e0, step_diff, step_diff, step_diff] at h
  have hz : shifts 8 (shifts 8 (shifts 8 (shifts 8 (BitVec.ofNat 32 x0) ^^^ BitVec.ofNat 32 x1) ^^^ BitVec.ofNat 32 x2) ^^^ BitVec.ofNat 32 x3) = 0#32 := by
    have := congrArg (stepV (stepV (stepV (stepV c y0) y1) y2) y3 ^^^ ·) h
    simp only [BitVec.xor_self, ← BitVec.xor_assoc, BitVec.zero_xor] at this
    exact this.symm
  have hz3 := shifts_zero 8 hz
  have hw : shifts 24 (BitVec.ofNat 32 x0 ^^^ BitVec.ofNat 32 (x1 * 2 ^ 8) ^^^ BitVec.ofNat 32 (x2 * 2 ^ 16) ^^^ BitVec.ofNat 32 (x3 * 2 ^ 24)) = 0#32 := by
    rw [shifts_xor, shifts_xor, shifts_xor, up_shift x3 24 h3 (by omega)]
    rw [show (24 : Nat) = 8 + 16 from rfl, shifts_add 16 8 (BitVec.ofNat 32 (x1 * 2 ^ 8)), up_shift x1 8 h1 (by omega)]
    rw [show (8 + 16 : Nat) = 16 + 8 from rfl, shifts_add 8 16 (BitVec.ofNat 32 (x2 * 2 ^ 16)), up_shift x2 16 h2 (by omega)]
    rw [← hz3, shifts_xor, shifts_xor, shifts_xor]
    have a1 : ∀ z : B32, shifts 8 (shifts 8 z) = shifts 16 z := fun z => (shifts_add 8 8 z).symm
    rw [a1, a1, ← shifts_add 16 8]
  have hword := shifts_zero 24 hw
  rw [show x0 = x0 * 2 ^ 0 from by omega] at hword
  have z3 : x3 = 0 := by
    have := congrArg (fun z : B32 => z >>> (24 : Nat)) hword
    simp only [BitVec.ushiftRight_xor_distrib] at this
    rw [low_gone x0 0 24 h0 (by omega), low_gone x1 8 24 h1 (by omega), low_gone x2 16 24 h2 (by omega), low_self x3 24 h3 (by omega)] at this
    exact zero_of x3 h3 (by simpa using this)
  subst z3
  have z2 : x2 = 0 := by
    have := congrArg (fun z : B32 => z >>> (16 : Nat)) hword
    simp only [BitVec.ushiftRight_xor_distrib] at this
    rw [low_gone x0 0 16 h0 (by omega), low_gone x1 8 16 h1 (by omega), low_self x2 16 h2 (by omega)] at this
    exact zero_of x2 h2 (by simpa using this)
  subst z2
  have z1 : x1 = 0 := by
    have := congrArg (fun z : B32 => z >>> (8 : Nat)) hword
    simp only [BitVec.ushiftRight_xor_distrib] at this
    rw [low_gone x0 0 8 h0 (by omega), low_self x1 8 h1 (by omega)] at this
    exact zero_of x1 h1 (by simpa using this)
  subst z1
  have z0 : x0 = 0 := zero_of x0 h0 (by simpa using hword)
  exact hx ⟨z0, rfl, rfl, rfl⟩
/-- A burst of four bytes is seen. -/
theorem burst (p q : List Int) (y0 y1 y2 y3 x0 x1 x2 x3 : Nat) (h0 : x0 < 256) (h1 : x1 < 256) (h2 : x2 < 256) (h3 : x3 < 256) (hx : ¬ (x0 = 0 ∧ x1 = 0 ∧ x2 = 0 ∧ x3 = 0)) :
    crcV (p ++ [(y0 : Int), (y1 : Int), (y2 : Int), (y3 : Int)] ++ q) ≠ crcV (p ++ [((y0 ^^^ x0 : Nat) : Int), ((y1 ^^^ x1 : Nat) : Int), ((y2 ^^^ x2 : Nat) : Int), ((y3 ^^^ x3 : Nat) : Int)] ++ q) := by
  intro h
  unfold crcV at h
  have h' : regV 0xFFFFFFFF#32 (p ++ [(y0 : Int), (y1 : Int), (y2 : Int), (y3 : Int)] ++ q) = regV 0xFFFFFFFF#32 (p ++ [((y0 ^^^ x0 : Nat) : Int), ((y1 ^^^ x1 : Nat) : Int), ((y2 ^^^ x2 : Nat) : Int), ((y3 ^^^ x3 : Nat) : Int)] ++ q) := by
    have := congrArg (fun z => ~~~ z) h
    simpa using this
  have ap : ∀ (c : B32) (a b : List Int), regV c (a ++ b) = regV (regV c a) b := fun c a b => by unfold regV; rw [List.foldl_append]
  rw [ap, ap, ap, ap] at h'
  exact burst4 _ y0 y1 y2 y3 x0 x1 x2 x3 h0 h1 h2 h3 hx (reg_inj q h')
end Go.Proofs.Ytjkkjfigoanplaa

/- Width answers as the chapter says. -/
import Derived.Test.YtmfijcniaehooaaWfix1
import Derived.Test.YtmfijcniaehooaaShelf
import Derived.Lib.ItoaNum
namespace Go.Proofs.Ytmfijcniaehooaa
set_option linter.unusedVariables false
open Go.RowKit
def bl (x : Int) : Int := Lib.bitLen x.toNat
theorem bl_bd (x : Int) (h0 : 0 ≤ x) (h1 : x ≤ 18446744073709551615) : 0 ≤ bl x ∧ bl x ≤ 64 := by
  have := Lib.bitLen_le x.toNat 64 (by omega) (by omega)
  unfold bl; omega
theorem bl_iff (x : Int) (k : Nat) (hk : k ≤ 64) (h0 : 0 ≤ x) (h1 : x ≤ 18446744073709551615) : bl x ≤ k ↔ x < 2 ^ k := by
  obtain ⟨n, rfl⟩ := Int.eq_ofNat_of_zero_le h0
  have e : ((2 ^ k : Nat) : Int) = (2 : Int) ^ k := by simp
  unfold bl
  rw [Int.toNat_natCast, ← e]
  constructor
  · intro h
    by_cases hz : n = 0
    · subst hz
      have := Nat.two_pow_pos k
      omega
    · have hb := (Lib.bitLenAux_bounds 64 n (by omega) hz).2.2
      have : 2 ^ Lib.bitLenAux 64 n ≤ 2 ^ k := Nat.pow_le_pow_right (by omega) (by unfold Lib.bitLen at h; omega)
      omega
  · intro h
    have := Lib.bitLen_le n k hk (by omega)
    omega
theorem wrap_u64_bd (n : Int) : 0 ≤ IntKind.u64.wrap n ∧ IntKind.u64.wrap n ≤ 18446744073709551615 := by
  rw [IntKind.wrap_u64]; omega
theorem len64_any (x : Int) (w : World) (h : 0 ≤ x ∧ x ≤ 18446744073709551615) :
    Calls Try.prog 67 #[.int .u64 x] w fun e w' => e = .returned (.int .i64 (bl x)) ∧ w = w' :=
  (Try.bits_Len64 x w h.1 h.2).mono fun _ _ ⟨he, hw⟩ => ⟨he, hw.symm⟩

/-- The number whose bits are counted: n, or its complement. -/
def mag (n : Int) : Int := if n < 0 then -n - 1 else n
/-- What Width answers. -/
def widthV (n : Int) (s : Bool) : Int :=
  if s then
    if mag n < 128 then 1 else if mag n < 32768 then 2 else if mag n < 8388608 then 3 else if mag n < 2147483648 then 4
    else if mag n < 549755813888 then 5 else if mag n < 140737488355328 then 6 else if mag n < 36028797018963968 then 7 else 8
  else if n < 0 then 0 else if n < 256 then 1 else if n < 65536 then 2 else if n < 16777216 then 3 else if n < 4294967296 then 4
    else if n < 1099511627776 then 5 else if n < 281474976710656 then 6 else if n < 72057594037927936 then 7 else 8

theorem widthV_bd (n : Int) (s : Bool) : 0 ≤ widthV n s ∧ widthV n s ≤ 8 := by
  unfold widthV
  repeat' split
  all_goals omega

theorem bl_steps (x : Int) (h0 : 0 ≤ x) (h1 : x ≤ 18446744073709551615) :
    (bl x ≤ 8 ↔ x < 256) ∧ (bl x ≤ 16 ↔ x < 65536) ∧ (bl x ≤ 24 ↔ x < 16777216) ∧ (bl x ≤ 32 ↔ x < 4294967296) ∧ (bl x ≤ 40 ↔ x < 1099511627776) ∧ (bl x ≤ 48 ↔ x < 281474976710656) ∧ (bl x ≤ 56 ↔ x < 72057594037927936) :=
  ⟨bl_iff x 8 (by omega) h0 h1, bl_iff x 16 (by omega) h0 h1, bl_iff x 24 (by omega) h0 h1, bl_iff x 32 (by omega) h0 h1, bl_iff x 40 (by omega) h0 h1, bl_iff x 48 (by omega) h0 h1, bl_iff x 56 (by omega) h0 h1⟩
theorem bl_steps1 (x : Int) (h0 : 0 ≤ x) (h1 : x ≤ 18446744073709551615) :
    (bl x ≤ 7 ↔ x < 128) ∧ (bl x ≤ 15 ↔ x < 32768) ∧ (bl x ≤ 23 ↔ x < 8388608) ∧ (bl x ≤ 31 ↔ x < 2147483648) ∧ (bl x ≤ 39 ↔ x < 549755813888) ∧ (bl x ≤ 47 ↔ x < 140737488355328) ∧ (bl x ≤ 55 ↔ x < 36028797018963968) ∧ (bl x ≤ 63 ↔ x < 9223372036854775808) :=
  ⟨bl_iff x 7 (by omega) h0 h1, bl_iff x 15 (by omega) h0 h1, bl_iff x 23 (by omega) h0 h1, bl_iff x 31 (by omega) h0 h1, bl_iff x 39 (by omega) h0 h1, bl_iff x 47 (by omega) h0 h1, bl_iff x 55 (by omega) h0 h1, bl_iff x 63 (by omega) h0 h1⟩

theorem widthV_neg (n : Int) (h : n < 0) : widthV n false = 0 := by unfold widthV; simp [h]
theorem width_u_num (n : Int) (h0 : 0 ≤ n) (h2 : n ≤ 9223372036854775807) : max 1 ((bl n + 7) / 8) = widthV n false := by
  have h := bl_steps n h0 (by omega)
  have hb := bl_bd n h0 (by omega)
  unfold widthV
  simp only [Bool.false_eq_true, if_false]
  generalize bl n = b at *
  repeat' split
  all_goals omega
theorem width_s_num (n : Int) (h1 : -9223372036854775808 ≤ n) (h2 : n ≤ 9223372036854775807) : max 1 ((bl (mag n) + 1 + 7) / 8) = widthV n true := by
  have hm : 0 ≤ mag n ∧ mag n ≤ 9223372036854775807 := by unfold mag; split <;> omega
  have h := bl_steps1 (mag n) hm.1 (by omega)
  have hb := bl_bd (mag n) hm.1 (by omega)
  unfold widthV
  simp only [if_true]
  generalize bl (mag n) = b at *
  generalize mag n = m at *
  repeat' split
  all_goals omega

/-- The complement of a number, as the walk spells it. -/
theorem not_i64 (n : Int) (h1 : -9223372036854775808 ≤ n) (h2 : n ≤ 9223372036854775807) : bits .xor .i64 (-1) n = -n - 1 := by
  have e : BitVec.ofInt 64 (-1) ^^^ BitVec.ofInt 64 n = ~~~ BitVec.ofInt 64 n := by
    rw [show BitVec.ofInt 64 (-1) = BitVec.allOnes 64 from by decide, BitVec.allOnes_xor]
  show IntKind.i64.wrap ((BitVec.ofInt 64 (-1) ^^^ BitVec.ofInt 64 n).toNat : Int) = _
  rw [e, BitVec.toNat_not, BitVec.toNat_ofInt]
  simp only [IntKind.wrap_i64]
  omega
theorem width_s_wrap (n : Int) (h1 : -9223372036854775808 ≤ n) (h2 : n ≤ 9223372036854775807) :
    max 1 (wrap64 ((wrap64 (wrap64 (bl (IntKind.u64.wrap (max n (bits .xor .i64 (-1) n))) + 1) + 7)).tdiv 8)) = widthV n true := by
  have hx : IntKind.u64.wrap (max n (bits .xor .i64 (-1) n)) = mag n := by
    rw [not_i64 n h1 h2, IntKind.wrap_u64]; unfold mag; split <;> omega
  have hm : 0 ≤ mag n ∧ mag n ≤ 9223372036854775807 := by unfold mag; split <;> omega
  have b1 := bl_bd _ hm.1 (by omega)
  rw [hx, ← width_s_num n h1 h2]
  generalize bl (mag n) = b at *
  rw [show wrap64 (b + 1) = b + 1 from by unfold wrap64; omega, show wrap64 (b + 1 + 7) = b + 1 + 7 from by unfold wrap64; omega,
    Int.tdiv_eq_ediv_of_nonneg (by omega), show wrap64 ((b + 1 + 7) / 8) = (b + 1 + 7) / 8 from by unfold wrap64; omega]

set_option maxHeartbeats 400000 in
theorem width_s (n : Int) (w : World) (h1 : -9223372036854775808 ≤ n) (h2 : n ≤ 9223372036854775807) :
    Calls Try.prog 23 #[.int .i64 n, .bool true] w fun e w' => e = .returned (.int .i64 (widthV n true)) ∧ w = w' := by
  have Hv := Lib.hid (width_s_wrap n h1 h2)
  go_enter Try.func23, Try.ntmps23
  go_wp2_with (go_at_call 67; refine (len64_any _ _ (wrap_u64_bd _)).mono ?_; rintro e w' ⟨rfl, rfl⟩)
  go_ret
  exact ⟨ret_int Hv.out, rfl⟩
set_option maxHeartbeats 400000 in
theorem width_u (n : Int) (w : World) (h1 : -9223372036854775808 ≤ n) (h2 : n ≤ 9223372036854775807) :
    Calls Try.prog 23 #[.int .i64 n, .bool false] w fun e w' => e = .returned (.int .i64 (widthV n false)) ∧ w = w' := by
  by_cases h0 : n < 0
  · have Hv : Hid (widthV n false = 0) := Lib.hid (by unfold widthV; simp [h0])
    go_enter Try.func23, Try.ntmps23
    go_wp2_with (go_at_call 67; refine (len64_any _ _ (wrap_u64_bd _)).mono ?_; rintro e w' ⟨rfl, rfl⟩)
    go_ret
    exact ⟨ret_int Hv.out.symm, rfl⟩
  · have b1 := bl_bd n (by omega) (by omega)
    have Hv := Lib.hid (width_u_num n (by omega) h2)
    go_enter Try.func23, Try.ntmps23
    go_wp2_with (go_at_call 67; refine (len64_any _ _ ⟨by omega, by omega⟩).mono ?_; rintro e w' ⟨rfl, rfl⟩)
    go_ret
    exact ⟨ret_int Hv.out, rfl⟩
theorem width_any (n : Int) (s : Bool) (w : World) (h1 : -9223372036854775808 ≤ n) (h2 : n ≤ 9223372036854775807) :
    Calls Try.prog 23 #[.int .i64 n, .bool s] w fun e w' => e = .returned (.int .i64 (widthV n s)) ∧ w = w' := by
  cases s
  · exact width_u n w h1 h2
  · exact width_s n w h1 h2
attribute [irreducible] widthV
end Go.Proofs.Ytmfijcniaehooaa

/- times and Join answer as the chapter says. -/
import Derived.Test.YtjkkjfigoanplaaStimes
import Derived.Test.YtjkkjfigoanplaaScrc2
namespace Go.Proofs.Ytjkkjfigoanplaa
set_option linter.unusedVariables false
open Go.RowKit

theorem one_down (i : Nat) : (oneB >>> i).toNat = 2147483648 / 2 ^ i := by rw [BitVec.toNat_ushiftRight, Nat.shiftRight_eq_div_pow]; rfl
theorem one_pos (i : Nat) (h : i < 32) : 0 < (oneB >>> i).toNat := by
  rw [one_down]
  have : 2147483648 = 2 ^ (31 - i) * 2 ^ i := by rw [← Nat.pow_add, show 31 - i + i = 31 by omega]
  rw [this, Nat.mul_div_cancel _ (Nat.two_pow_pos i)]
  exact Nat.two_pow_pos _
theorem one_half (i : Nat) : ((oneB >>> i).toNat : Int) / 2 = ((oneB >>> (i + 1)).toNat : Int) := by
  have := b_shr (oneB >>> i) 1
  rw [BitVec.shiftRight_add]
  rw [← this]
  rfl
theorem and_one (a : B32) (i : Nat) (h : i < 32) : a &&& (oneB >>> i) = if a.getLsbD (31 - i) then oneB >>> i else 0#32 := by
  apply BitVec.eq_of_getLsbD_eq
  intro j hj
  rw [BitVec.getLsbD_and, one_bit i j h hj]
  by_cases hq : j = 31 - i
  · subst hq
    cases ha : a.getLsbD (31 - i)
    · simp
    · rw [if_pos rfl, one_bit i _ h hj]; simp
  · rw [decide_eq_false hq, Bool.and_false]
    split
    · rw [one_bit i j h hj, decide_eq_false hq]
    · simp
theorem times_any (a b : B32) (w : World) : Calls Try.prog 54 #[.int .u32 (a.toNat : Int), .int .u32 (b.toNat : Int)] w fun e w' => e = .returned (.int .u32 ((timesV a b).toNat : Int)) ∧ w = w' := by
  go_enter Try.func54, Try.ntmps54
  go_wp2_with fail
  go_loopw [1, 5, 6] (fun vb vp vt wr => ∃ i : Nat, i ≤ 32 ∧ vb = .int .u32 ((shifts i b).toNat : Int) ∧ vp = .int .u32 ((timesN a b i).toNat : Int) ∧ vt = .int .u32 ((oneB >>> i).toNat : Int) ∧ w = wr) (fun _ _ t _ => (intOf t).toNat)
  case atStart => exact ⟨0, by omega, rfl, rfl, rfl, rfl⟩
  case round =>
    obtain ⟨i, hi, rfl, rfl, rfl, rfl⟩ := hrel
    by_cases hlt : i < 32
    · obtain ⟨t, ht⟩ : ∃ t, t = oneB >>> i := ⟨_, rfl⟩
      obtain ⟨p, hp⟩ : ∃ p, p = timesN a b i := ⟨_, rfl⟩
      obtain ⟨c, hc⟩ : ∃ c, c = shifts i b := ⟨_, rfl⟩
      have hpos : (0 : Int) < (t.toNat : Int) := by have := one_pos i hlt; rw [ht]; omega
      have hhalf : (t.toNat : Int) / 2 = ((oneB >>> (i + 1)).toNat : Int) := by rw [ht]; exact one_half i
      have hand := b_and a t
      obtain ⟨z, hz⟩ : ∃ z, z = a &&& t := ⟨_, rfl⟩
      rw [← hz] at hand
      obtain ⟨y, hy⟩ : ∃ y, y = p ^^^ c := ⟨_, rfl⟩
      have hxor := b_xor p c
      rw [← hy] at hxor
      have hsh : shiftV c = shifts (i + 1) b := by rw [hc, shifts_add 1 i]; rfl
      have bt := b_bd t
      have bp := b_bd p
      have bc := b_bd c
      have hq := and_one a i hlt
      rw [← ht, ← hz] at hq
      have hN : timesN a b (i + 1) = if a.getLsbD (31 - i) then y else p := by rw [hy, hp, hc]; rfl
      rw [← ht, ← hp, ← hc]
      by_cases hb : a.getLsbD (31 - i) = true
      · rw [if_pos hb] at hq hN
        have hg : (0 : Int) < (z.toNat : Int) := by rw [hq]; exact hpos
        have Hh := Lib.hid hhalf
        have Hs := Lib.hid hsh
        have HN := Lib.hid hN
        have Hp := Lib.hid hpos
        clear ht hp hc hq hN hhalf hsh hb hz hy
        go_wp2_with fail
        refine (shift_any c w).mono ?_
        rintro e u ⟨rfl, rfl⟩
        go_wp2_with fail
        go_roundw
        case rel => exact ⟨i + 1, by omega, by rw [← Hs.out], by rw [HN.out], by rw [← Hh.out], trivial⟩
        case measure => simp [intOf]; have := Hp.out; omega
      · rw [if_neg hb] at hq hN
        have hg : ¬ (0 : Int) < (z.toNat : Int) := by rw [hq]; simp
        have Hh := Lib.hid hhalf
        have Hs := Lib.hid hsh
        have HN := Lib.hid hN
        have Hp := Lib.hid hpos
        clear ht hp hc hq hN hhalf hsh hb hz hy
        go_wp2_with fail
        refine (shift_any c w).mono ?_
        rintro e u ⟨rfl, rfl⟩
        go_wp2_with fail
        go_roundw
        case rel => exact ⟨i + 1, by omega, by rw [← Hs.out], by rw [HN.out], by rw [← Hh.out], trivial⟩
        case measure => simp [intOf]; have := Hp.out; omega
    · obtain rfl : i = 32 := by omega
      have hz : (oneB >>> 32).toNat = 0 := by decide
      rw [hz]
      go_wp2_with fail
      go_ret
      exact ⟨rfl, rfl⟩
end Go.Proofs.Ytjkkjfigoanplaa

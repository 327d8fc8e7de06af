/- Join answers as the chapter says. -/
import Derived.Test.YtjkkjfigoanplaaSjoin
namespace Go.Proofs.Ytjkkjfigoanplaa
set_option linter.unusedVariables false
open Go.RowKit

theorem join_less (a b : B32) (n : Int) (w : World) (h : n < 0) : Calls Try.prog 16 #[.int .u32 (a.toNat : Int), .int .u32 (b.toNat : Int), .int .i64 n] w fun e w' => e = .returned (.tuple #[.int .u32 0, .int .i64 1]) ∧ w = w' := by
  go_enter Try.func16, Try.ntmps16
  go_wp2
  go_ret2
  exact ⟨rfl, rfl⟩
theorem join_more (a b : B32) (n : Int) (w : World) (h : 2147483647 < n) : Calls Try.prog 16 #[.int .u32 (a.toNat : Int), .int .u32 (b.toNat : Int), .int .i64 n] w fun e w' => e = .returned (.tuple #[.int .u32 0, .int .i64 2]) ∧ w = w' := by
  have h0 : ¬ n < 0 := by omega
  go_enter Try.func16, Try.ntmps16
  go_wp2
  go_ret2
  exact ⟨rfl, rfl⟩
theorem join_ok (a b : B32) (n : Nat) (w : World) (hn : n ≤ 2147483647) : Calls Try.prog 16 #[.int .u32 (a.toNat : Int), .int .u32 (b.toNat : Int), .int .i64 n] w fun e w' => e = .returned (.tuple #[.int .u32 ((shifts (8 * n) a ^^^ b).toNat : Int), .int .i64 0]) ∧ w = w' := by
  have h0 : ¬ (n : Int) < 0 := by omega
  have h1 : ¬ (2147483647 : Int) < (n : Int) := by omega
  go_enter Try.func16, Try.ntmps16
  go_wp2_with fail
  go_loopw [0, 8, 9] (fun va vp vr wr => ∃ acc k rest : Nat, n = acc + k * rest ∧ rest ≤ n ∧ va = .int .u32 ((shifts (8 * acc) a).toNat : Int) ∧ vp = .int .u32 ((shifts (8 * k) oneB).toNat : Int) ∧ vr = .int .i64 rest ∧ w = wr) (fun _ _ r _ => (intOf r).toNat)
  case atStart => exact ⟨0, 1, n, by omega, Nat.le_refl _, rfl, by kernel_rfl, rfl, rfl⟩
  case round =>
    obtain ⟨acc, k, rest, hs, hrn, rfl, rfl, rfl, rfl⟩ := hrel
    by_cases hlt : 0 < rest
    · have hg : (0 : Int) < (rest : Int) := by omega
      have hhalf : (rest : Int) / 2 = ((rest / 2 : Nat) : Int) := by omega
      obtain ⟨c, hc⟩ : ∃ c, c = shifts (8 * acc) a := ⟨_, rfl⟩
      obtain ⟨p, hp⟩ : ∃ p, p = shifts (8 * k) oneB := ⟨_, rfl⟩
      have hpp : timesV p p = shifts (8 * (2 * k)) oneB := by rw [hp, times_power, ← shifts_add]; congr 1; omega
      have hcp : timesV c p = shifts (8 * (acc + k)) a := by rw [hp, hc, times_power, ← shifts_add]; congr 1; omega
      rw [← hc, ← hp]
      have Hc := Lib.hid hc
      have HPP := Lib.hid hpp
      have HCP := Lib.hid hcp
      have Hhalf := Lib.hid hhalf
      have hr4 : (rest : Int) ≤ 2147483647 := by omega
      by_cases hodd : rest % 2 = 1
      · have ho : (rest : Int) % 2 = 1 := by omega
        have ho2 : ((rest : Int) % 2 == 1) = true := by simp [ho]
        have hs2 : n = (acc + k) + (2 * k) * (rest / 2) := by
          have : k * rest = k + 2 * k * (rest / 2) := by
            conv => lhs; rw [show rest = 1 + 2 * (rest / 2) by omega, Nat.mul_add, Nat.mul_one, ← Nat.mul_assoc, Nat.mul_comm k 2]
          omega
        have Hs2 := Lib.hid hs2
        have Hrn := Lib.hid hrn
        clear hc hp hpp hcp hhalf hs hs2 hrn ho hodd
        go_wp2_with fail
        refine (times_any c p w).mono ?_
        rintro e u ⟨rfl, rfl⟩
        go_wp2_with fail
        refine (times_any p p w).mono ?_
        rintro e u ⟨rfl, rfl⟩
        go_wp2_with fail
        go_roundw
        case rel => exact ⟨acc + k, 2 * k, rest / 2, Hs2.out, by have := Hrn.out; omega, by rw [HCP.out], by rw [HPP.out], by first | rfl | (rw [Hhalf.out]) | go_num, trivial⟩
        case measure => simp [intOf]; omega
      · have ho : (rest : Int) % 2 = 0 := by omega
        have ho2 : ((rest : Int) % 2 == 1) = false := by simp [ho]
        have hs2 : n = acc + (2 * k) * (rest / 2) := by
          have : k * rest = 2 * k * (rest / 2) := by
            conv => lhs; rw [show rest = 2 * (rest / 2) by omega, ← Nat.mul_assoc, Nat.mul_comm k 2]
          omega
        have Hs2 := Lib.hid hs2
        have Hrn := Lib.hid hrn
        clear hp hpp hcp hhalf hs hs2 hrn ho hodd hc
        go_wp2_with fail
        refine (times_any p p w).mono ?_
        rintro e u ⟨rfl, rfl⟩
        go_wp2_with fail
        go_roundw
        case rel => exact ⟨acc, 2 * k, rest / 2, Hs2.out, by have := Hrn.out; omega, by rw [Hc.out], by rw [HPP.out], by first | rfl | (rw [Hhalf.out]) | go_num, trivial⟩
        case measure => simp [intOf]; omega
    · obtain rfl : rest = 0 := by omega
      have hacc : acc = n := by omega
      subst hacc
      obtain ⟨c, hc⟩ : ∃ c, c = shifts (8 * acc) a := ⟨_, rfl⟩
      obtain ⟨p, hp⟩ : ∃ p, p = shifts (8 * k) oneB := ⟨_, rfl⟩
      obtain ⟨y, hy⟩ : ∃ y, y = c ^^^ b := ⟨_, rfl⟩
      have hx := b_xor c b
      rw [← hy] at hx
      rw [← hc, ← hp]
      have HY : Hid (y = shifts (8 * acc) a ^^^ b) := Lib.hid (by rw [hy, hc])
      clear hc hp hy hs hrn hlt
      go_wp2_with fail
      go_ret2
      exact ⟨by first | (rw [HY.out]; rfl) | (rw [HY.out]; simp) | (simp [HY.out]), rfl⟩
end Go.Proofs.Ytjkkjfigoanplaa

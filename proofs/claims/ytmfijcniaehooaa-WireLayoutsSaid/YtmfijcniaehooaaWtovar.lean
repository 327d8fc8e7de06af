/- ToVar answers as the chapter says. -/
import Derived.Test.YtmfijcniaehooaaWvar
namespace Go.Proofs.Ytmfijcniaehooaa
set_option linter.unusedVariables false
open Go.RowKit

/-- What ToVar makes of bytes, from the group i on, with what the groups before it came to. -/
def tvL : Nat → Int → List Int → Int × Int × Int
  | _, _, [] => (0, 0, 4)
  | i, acc, x :: xs => if x = 0 ∧ 0 < i then (0, 0, 4) else if x < 128 then (acc + x % 128 * 128 ^ i, i + 1, 0) else tvL (i + 1) (acc + x % 128 * 128 ^ i) xs
def toVarV (xs : List Int) : Int × Int × Int := tvL 0 0 (xs.take 9)
def three (p : Int × Int × Int) : Ending := .returned (.tuple #[.int .i64 p.1, .int .i64 p.2.1, .int .i64 p.2.2])

theorem i64_or (a b : Int) (h1 : 0 ≤ a) (h2 : a < 9223372036854775808) (h3 : 0 ≤ b) (h4 : b < 9223372036854775808) : bits .or .i64 a b = ((a.toNat ||| b.toNat : Nat) : Int) := by
  obtain ⟨a, rfl⟩ := Int.eq_ofNat_of_zero_le h1
  obtain ⟨b, rfl⟩ := Int.eq_ofNat_of_zero_le h3
  have hx : a ||| b < 2 ^ 63 := Nat.or_lt_two_pow (by omega) (by omega)
  show IntKind.i64.wrap ((BitVec.ofInt 64 (a : Int) ||| BitVec.ofInt 64 (b : Int)).toNat : Int) = _
  rw [BitVec.toNat_or, ofInt_u64 _ (by omega), ofInt_u64 _ (by omega), IntKind.wrap_i64, Int.toNat_natCast, Int.toNat_natCast]
  omega

theorem two_128 (k : Nat) : (2 : Int) ^ (7 * k) = 128 ^ k := by
  rw [Int.pow_mul]; rfl
theorem pow7_bd (k : Nat) (hk : k ≤ 8) : (1 : Int) ≤ 128 ^ k ∧ (128 : Int) ^ k ≤ 72057594037927936 := by
  have : k = 0 ∨ k = 1 ∨ k = 2 ∨ k = 3 ∨ k = 4 ∨ k = 5 ∨ k = 6 ∨ k = 7 ∨ k = 8 := by omega
  rcases this with rfl | rfl | rfl | rfl | rfl | rfl | rfl | rfl | rfl <;> decide
/-- A group laid above the lower ones. -/
theorem or_step7 (a c : Int) (k : Nat) (hk : k ≤ 8) (ha : 0 ≤ a) (ha' : a < 128 ^ k) (hx : 0 ≤ c) (hx' : c ≤ 127) :
    bits .or .i64 a (wrap64 (c * 2 ^ (7 * k))) = a + c * 128 ^ k ∧ 0 ≤ a + c * 128 ^ k ∧ a + c * 128 ^ k < 128 ^ (k + 1) := by
  have hp := pow7_bd k hk
  have h1 : (0 : Int) ≤ c * 128 ^ k := Int.mul_nonneg hx (by omega)
  have h2 : c * 128 ^ k ≤ 127 * 128 ^ k := Int.mul_le_mul_of_nonneg_right hx' (by omega)
  have e2 : wrap64 (c * 128 ^ k) = c * 128 ^ k := by unfold wrap64; omega
  rw [Int.pow_succ, two_128, e2, i64_or _ _ ha (by omega) h1 (by omega)]
  obtain ⟨an, rfl⟩ := Int.eq_ofNat_of_zero_le ha
  obtain ⟨xn, rfl⟩ := Int.eq_ofNat_of_zero_le hx
  have e0 : ((2 ^ (7 * k) : Nat) : Int) = (128 : Int) ^ k := by rw [← two_128]; simp
  have e4 : (xn : Int) * 128 ^ k = ((xn * 2 ^ (7 * k) : Nat) : Int) := by rw [Int.natCast_mul, e0]
  rw [e4, Int.toNat_natCast, Int.toNat_natCast, Nat.or_comm, nat_join (7 * k) (xn * 2 ^ (7 * k)) an (by simp) (by omega)]
  rw [← e4]
  omega
theorem getD_at (xs : List Int) (k : Nat) (h : k < xs.length) : xs.getD k 0 = xs[k] := by simp [List.getD, h]
theorem three_eq {a b c : Int} {p : Int × Int × Int} (h : p = (a, b, c)) : Ending.returned (.tuple #[.int .i64 a, .int .i64 b, .int .i64 c]) = three p := by rw [h]; rfl

set_option maxRecDepth 100000 in
set_option maxHeartbeats 400000 in
theorem toVar_any (a : Option Addr) (len cap : Nat) (xs : List Int) (w : World) (h : Rd w a len cap xs) :
    Calls Try.prog 27 #[.slice a len cap] w fun e w' => e = three (toVarV xs) ∧ w = w' := by
  obtain ⟨hl, hc, hm, hb, hn, hr⟩ := h
  obtain ⟨m, hmm⟩ : ∃ m : Nat, m = min len 9 := ⟨_, rfl⟩
  by_cases h0 : 0 < len
  · obtain ⟨b, off, rfl, hcell⟩ := hr h0
    unfold maxLen at hm
    clear hr hn
    go_enter Try.func27, Try.ntmps27
    go_wp2
    go_loop [2, 5, 6, 13] (fun t _ _ i => ∃ (k : Nat) (acc : Int), k ≤ m ∧ i = .int .i64 k ∧ t = .int .i64 acc ∧ 0 ≤ acc ∧ acc < 128 ^ k ∧ toVarV xs = tvL k acc ((xs.take 9).drop k))
                 (fun _ _ _ i => m - (intOf i).toNat)
    case atStart => exact ⟨0, 0, Nat.zero_le _, rfl, rfl, by omega, by decide, rfl⟩
    case round =>
      obtain ⟨k, acc, hk, rfl, rfl, ha0, ha1, hv⟩ := hrel
      have hm1 : m ≤ len := by omega
      have hm2 : m ≤ 9 := by omega
      have hm3 : len ≤ m ∨ 9 ≤ m := by omega
      clear hmm
      by_cases hlt : k < m
      · have hc' := hcell k (by omega)
        have hxb := hb (xs.getD k 0) (by rw [getD_at _ _ (by omega)]; exact List.getElem_mem _)
        obtain ⟨x, hx⟩ : ∃ x, x = xs.getD k 0 := ⟨_, rfl⟩
        rw [← hx] at hc' hxb
        have hd : (xs.take 9).drop k = x :: (xs.take 9).drop (k + 1) := by
          rw [List.drop_eq_getElem_cons (by simp; omega)]
          simp only [List.getElem_take, List.cons.injEq, and_true]
          rw [hx, getD_at _ _ (by omega)]
        rw [hd] at hv
        have Hv := Lib.hid hv
        clear hv hd hx hcell hb hl
        by_cases hA : x = 0 ∧ 0 < k
        · have Hf : Hid (toVarV xs = (0, 0, 4)) := Lib.hid (by rw [Hv.out, tvL, if_pos hA])
          obtain ⟨hA1, hA2⟩ := hA
          subst hA1
          go_wp2
          go_ret3
          exact ⟨three_eq Hf.out, rfl⟩
        · have hor := or_step7 acc (x % 128) k (by omega) ha0 ha1 (by omega) (by omega)
          by_cases hB : x < 128
          · have Hf : Hid (toVarV xs = (acc + x % 128 * 128 ^ k, (k : Int) + 1, 0)) := Lib.hid (by rw [Hv.out, tvL, if_neg hA, if_pos hB])
            have Ho := Lib.hid hor.1
            clear hor
            by_cases hx0 : x = 0
            · have hk0 : k ≤ 0 := by omega
              have e0 : (x == 0) = true := by simp [hx0]
              clear hx0 hA
              go_wp2
              go_ret3
              exact ⟨three_eq (by rw [Hf.out, Ho.out]), rfl⟩
            · go_wp2
              go_ret3
              exact ⟨three_eq (by rw [Hf.out, Ho.out]), rfl⟩
          · have Hf : Hid (toVarV xs = tvL (k + 1) (acc + x % 128 * 128 ^ k) ((xs.take 9).drop (k + 1))) := Lib.hid (by rw [Hv.out, tvL, if_neg hA, if_neg hB])
            have Ho := Lib.hid hor
            clear hor
            go_wp2
            go_round
            case rel => exact ⟨k + 1, acc + x % 128 * 128 ^ k, by omega, by go_num, by rw [Ho.out.1], Ho.out.2.1, Ho.out.2.2, Hf.out⟩
            case measure => simp [intOf]; omega
      · have Hf : Hid (toVarV xs = (0, 0, 4)) := Lib.hid (by rw [hv, List.drop_of_length_le (by simp; omega), tvL])
        clear hv hcell hb hl
        go_wp2
        go_ret3
        exact ⟨three_eq Hf.out, rfl⟩
  · obtain rfl : len = 0 := by omega
    obtain rfl : xs = [] := by simpa using hl
    clear hb hl hr hmm
    go_enter Try.func27, Try.ntmps27
    go_wp2
    refine wp_loop_rounds 1 ?_
    rw [rounds_succ]
    go_wp2
    go_ret3
    exact ⟨rfl, rfl⟩
end Go.Proofs.Ytmfijcniaehooaa

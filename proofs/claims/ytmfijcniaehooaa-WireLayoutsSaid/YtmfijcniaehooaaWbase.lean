/- What it is for a slice to read as bytes, and the number that bytes are. -/
import Derived.Test.YtmfijcniaehooaaRows
import Derived.WalkKit
import Derived.WalkSpells
import Derived.WalkLawsBesides
import Derived.Lib.Hide
import Derived.Laws.BitsAllLaws
namespace Go.Proofs.Ytmfijcniaehooaa
set_option linter.unusedVariables false
open Go.RowKit

/-- The slice (a, len, cap) reads in w as the bytes xs. -/
structure Rd (w : World) (a : Option Addr) (len cap : Nat) (xs : List Int) : Prop where
  hl : xs.length = len
  hc : len ≤ cap
  hm : cap ≤ maxLen
  hb : ∀ n ∈ xs, 0 ≤ n ∧ n ≤ 255
  hn : a = none → cap = 0
  hr : 0 < len → ∃ b off, a = some ⟨b, off, none⟩ ∧ ∀ i, i < len → w.cell? ⟨b, off + i, none⟩ = some (.int .u8 (xs.getD i 0))

theorem ret_int {k : IntKind} {a b : Int} (h : a = b) : Ending.returned (.int k a) = .returned (.int k b) := by rw [h]
theorem ret_tuple2 {u v u' v' : Value} (h : u = u') (k : v = v') : Ending.returned (.tuple #[u, v]) = .returned (.tuple #[u', v']) := by rw [h, k]

/-- Bytes, the low one first, as a number. -/
def le : List Int → Int
  | [] => 0
  | x :: xs => x + 256 * le xs

theorem le_bd (xs : List Int) (h : ∀ n ∈ xs, 0 ≤ n ∧ n ≤ 255) : 0 ≤ le xs ∧ le xs < 256 ^ xs.length := by
  induction xs with
  | nil => simp [le]
  | cons x xs ih =>
    have h1 := h x (by simp)
    have h2 := ih (fun n hn => h n (by simp [hn]))
    simp only [le, List.length_cons, Int.pow_succ]
    omega
theorem le_snoc (xs : List Int) (x : Int) : le (xs ++ [x]) = le xs + x * 256 ^ xs.length := by
  induction xs with
  | nil => simp [le]
  | cons y ys ih =>
    simp only [List.cons_append, le, ih, List.length_cons, Int.pow_succ]
    rw [Int.mul_add, ← Int.mul_assoc 256 x, Int.mul_comm 256 x, Int.mul_assoc x, Int.mul_comm 256 (256 ^ _)]
    omega
theorem take_snoc (xs : List Int) (k : Nat) (h : k < xs.length) : xs.take (k + 1) = xs.take k ++ [xs[k]] := by
  rw [List.take_succ_eq_append_getElem h]
theorem pow_bd (k : Nat) (hk : k ≤ 8) : (1 : Int) ≤ 256 ^ k ∧ (256 : Int) ^ k ≤ 18446744073709551616 := by
  have : k = 0 ∨ k = 1 ∨ k = 2 ∨ k = 3 ∨ k = 4 ∨ k = 5 ∨ k = 6 ∨ k = 7 ∨ k = 8 := by omega
  rcases this with rfl | rfl | rfl | rfl | rfl | rfl | rfl | rfl | rfl <;> decide
theorem two_256 (k : Nat) : (2 : Int) ^ (8 * k) = 256 ^ k := by
  rw [Int.pow_mul]; rfl
/-- A byte laid above the lower ones. -/
theorem or_step (a x : Int) (k : Nat) (hk : k < 8) (ha : 0 ≤ a) (ha' : a < 256 ^ k) (hx : 0 ≤ x) (hx' : x ≤ 255) :
    bits .or .u64 a (IntKind.u64.wrap (IntKind.u64.wrap x * 2 ^ (8 * k))) = a + x * 256 ^ k := by
  have hp := pow_bd k (by omega)
  have hp1 := pow_bd (k + 1) (by omega)
  have h1 : (0 : Int) ≤ x * 256 ^ k := Int.mul_nonneg hx (by omega)
  have h2 : x * 256 ^ k ≤ 255 * 256 ^ k := Int.mul_le_mul_of_nonneg_right hx' (by omega)
  rw [Int.pow_succ] at hp1
  have e1 : IntKind.u64.wrap x = x := by rw [IntKind.wrap_u64]; omega
  have e2 : IntKind.u64.wrap (x * 256 ^ k) = x * 256 ^ k := by rw [IntKind.wrap_u64]; omega
  rw [e1, two_256, e2, u64_or _ _ ha (by omega) h1 (by omega)]
  obtain ⟨an, rfl⟩ := Int.eq_ofNat_of_zero_le ha
  obtain ⟨xn, rfl⟩ := Int.eq_ofNat_of_zero_le hx
  have e0 : ((2 ^ (8 * k) : Nat) : Int) = (256 : Int) ^ k := by rw [← two_256]; simp
  have e4 : (xn : Int) * 256 ^ k = ((xn * 2 ^ (8 * k) : Nat) : Int) := by rw [Int.natCast_mul, e0]
  rw [e4, Int.toNat_natCast, Int.toNat_natCast, Nat.or_comm, nat_join (8 * k) (xn * 2 ^ (8 * k)) an (by simp) (by omega)]
  omega
theorem le_step (xs : List Int) (k : Nat) (h : k < xs.length) (h8 : k < 8) (hb : ∀ n ∈ xs, 0 ≤ n ∧ n ≤ 255) :
    bits .or .u64 (le (xs.take k)) (IntKind.u64.wrap (IntKind.u64.wrap xs[k] * 2 ^ (8 * k))) = le (xs.take (k + 1)) := by
  have h1 := le_bd (xs.take k) (fun n hn => hb n (List.mem_of_mem_take hn))
  have h2 := hb xs[k] (List.getElem_mem h)
  rw [List.length_take, Nat.min_eq_left (by omega)] at h1
  rw [or_step _ _ k h8 h1.1 h1.2 h2.1 h2.2, take_snoc xs k h, le_snoc, List.length_take, Nat.min_eq_left (by omega)]
end Go.Proofs.Ytmfijcniaehooaa

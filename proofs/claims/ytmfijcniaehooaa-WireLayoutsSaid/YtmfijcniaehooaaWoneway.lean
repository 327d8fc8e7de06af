/- What is read is written as just the bytes that were used. -/
import Derived.Test.YtmfijcniaehooaaWpback
namespace Go.Proofs.Ytmfijcniaehooaa
set_option linter.unusedVariables false
open Go.RowKit

theorem varL_of_tvL (f : Nat) : ∀ (i : Nat) (acc : Int) (xs : List Int) (N U : Int), i + f = 8 → xs.length ≤ f + 1 → (∀ x ∈ xs, 0 ≤ x ∧ x ≤ 255) → tvL i acc xs = (N, U, 0) →
    ∃ (m : Nat) (v : Int), U = ((i + m : Nat) : Int) ∧ 1 ≤ m ∧ m ≤ xs.length ∧ 0 ≤ v ∧ (0 < i → 0 < v) ∧ N = acc + v * 128 ^ i ∧ varL f v = xs.take m ∧ v < 128 ^ (f + 1) := by
  induction f with
  | zero =>
    intro i acc xs N U hi hl hb h
    match xs, hl, hb, h with
    | [], _, _, h => rw [tvL] at h; simp at h
    | [x], _, hb, h =>
      have hx := hb x (by simp)
      rw [tvL] at h
      split at h
      · simp at h
      · rename_i hz
        split at h
        · rename_i hlt
          simp only [Prod.mk.injEq] at h
          refine ⟨1, x, by omega, by omega, by simp, hx.1, by omega, ?_, by simp [varL], by omega⟩
          rw [← h.1, Int.emod_eq_of_lt hx.1 hlt]
        · rw [tvL] at h; simp at h
  | succ f ih =>
    intro i acc xs N U hi hl hb h
    match xs, hl, hb, h with
    | [], _, _, h => rw [tvL] at h; simp at h
    | x :: xs, hl, hb, h =>
      have hx := hb x (by simp)
      rw [tvL] at h
      split at h
      · simp at h
      · rename_i hz
        split at h
        · rename_i hlt
          simp only [Prod.mk.injEq] at h
          refine ⟨1, x, by omega, by omega, by simp, hx.1, by omega, ?_, ?_, ?_⟩
          · rw [← h.1, Int.emod_eq_of_lt hx.1 hlt]
          · rw [varL, if_neg (by omega)]; simp
          · have : (1 : Int) ≤ 128 ^ f := Int.pow_pos (by decide)
            rw [Int.pow_succ, Int.pow_succ]; omega
        · rename_i hge
          obtain ⟨m, v, h1, h2, h3, h4, h5, h6, h7, h8⟩ := ih (i + 1) _ xs N U (by omega) (by simp at hl; omega) (fun y hy => hb y (by simp [hy])) h
          have hv : 0 < v := h5 (by omega)
          have hxm : x % 128 = x - 128 := by omega
          refine ⟨m + 1, (x - 128) + 128 * v, by omega, by omega, by simp; omega, by omega, by omega, ?_, ?_, ?_⟩
          · rw [h6, hxm, Int.pow_succ, Int.add_mul, Int.mul_comm (128 ^ i) 128, ← Int.mul_assoc, Int.mul_comm v 128]; omega
          · rw [varL, if_pos (by omega), show (x - 128 + 128 * v) / 128 = v by omega, h7, List.take_succ_cons]
            congr 1; omega
          · rw [Int.pow_succ]; omega
/-- A variable number that was read is written as the bytes that were used. -/
theorem toVar_oneway {xs : List Int} (hb : ∀ x ∈ xs, 0 ≤ x ∧ x ≤ 255) {n u : Int} (h : toVarV xs = (n, u, 0)) : 0 ≤ n ∧ n ≤ 9223372036854775807 ∧ ∃ m : Nat, u = m ∧ m ≤ xs.length ∧ 1 ≤ m ∧ varB n = xs.take m := by
  unfold toVarV at h
  obtain ⟨m, v, h1, h2, h3, h4, h5, h6, h7, h8⟩ := varL_of_tvL 8 0 0 (xs.take 9) n u (by omega) (List.length_take_le _ _) (fun x hx => hb x (List.mem_of_mem_take hx)) h
  have hn : n = v := by rw [h6]; simp
  have hm : m ≤ xs.length := by simp at h3; omega
  have hm9 : m ≤ 9 := by simp at h3; omega
  subst hn
  have : (128 : Int) ^ (8 + 1) = 9223372036854775808 := by decide
  refine ⟨h4, by omega, m, by rw [h1]; simp, hm, h2, ?_⟩
  unfold varB
  rw [h7, List.take_take, Nat.min_eq_left hm9]
/-- A text that was read is written as the bytes that were used. -/
theorem toText_oneway {xs t : List Int} (hb : ∀ x ∈ xs, 0 ≤ x ∧ x ≤ 255) {u : Int} (h : toTextV xs = (t, u, 0)) : t.length ≤ 65535 ∧ ∃ m : Nat, u = m ∧ m ≤ xs.length ∧ textV t = xs.take m := by
  unfold toTextV at h
  rcases hv : toVarV xs with ⟨n, k, e⟩
  rw [hv] at h
  simp only at h
  split at h
  · rename_i he
    simp only [Prod.mk.injEq] at h
    exact absurd h.2.2 he
  · rename_i he
    have he0 : e = 0 := by omega
    subst he0
    obtain ⟨n0, n1, m, rfl, hm, hm1, hB⟩ := toVar_oneway hb hv
    split at h
    · simp at h
    · split at h
      · simp at h
      · rename_i h1 h2
        simp only [Prod.mk.injEq] at h
        obtain ⟨ht, hu, -⟩ := h
        obtain ⟨n, rfl⟩ := Int.eq_ofNat_of_zero_le n0
        have hlen : t.length = n := by rw [← ht]; simp; omega
        refine ⟨by omega, m + n, by omega, by omega, ?_⟩
        unfold textV
        rw [if_neg (by omega), hlen, hB, ← ht, List.take_add]
        simp
theorem le_bytes (xs : List Int) (hb : ∀ x ∈ xs, 0 ≤ x ∧ x ≤ 255) : bytesOf xs.length (le xs) = xs := by
  induction xs with
  | nil => rfl
  | cons x xs ih =>
    have hx := hb x (by simp)
    rw [List.length_cons, bytesOf, le, show (x + 256 * le xs) % 256 = x by omega, show (x + 256 * le xs) / 256 = le xs by omega, ih (fun y hy => hb y (by simp [hy]))]
theorem bytesOf_add (k : Nat) : ∀ n q : Int, bytesOf k (n + q * 256 ^ k) = bytesOf k n := by
  induction k with
  | zero => intro n q; rfl
  | succ k ih =>
    intro n q
    have e : n + q * 256 ^ (k + 1) = n + 256 * (q * 256 ^ k) := by rw [Int.pow_succ, ← Int.mul_assoc, Int.mul_comm _ 256]
    rw [bytesOf, bytesOf, e, show (n + 256 * (q * 256 ^ k)) % 256 = n % 256 by omega, show (n + 256 * (q * 256 ^ k)) / 256 = n / 256 + q * 256 ^ k by omega, ih]
theorem width_le_u (n : Int) (k : Nat) (h0 : 0 ≤ n) (h1 : n < 256 ^ k) (k1 : 1 ≤ k) (k8 : k ≤ 8) : widthV n false ≠ 0 ∧ widthV n false ≤ k := by
  have hk : k = 1 ∨ k = 2 ∨ k = 3 ∨ k = 4 ∨ k = 5 ∨ k = 6 ∨ k = 7 ∨ k = 8 := by omega
  unfold widthV
  rcases hk with rfl | rfl | rfl | rfl | rfl | rfl | rfl | rfl <;> simp only [Int.reducePow] at h1 <;> simp only [Bool.false_eq_true, if_false] <;> (repeat' split) <;> omega
theorem width_le_s (n : Int) (k : Nat) (h0 : -(256 ^ k / 2) ≤ n) (h1 : n < 256 ^ k / 2) (k1 : 1 ≤ k) (k8 : k ≤ 8) : widthV n true ≠ 0 ∧ widthV n true ≤ k := by
  have hk : k = 1 ∨ k = 2 ∨ k = 3 ∨ k = 4 ∨ k = 5 ∨ k = 6 ∨ k = 7 ∨ k = 8 := by omega
  have hm : mag n = n ∨ mag n = -n - 1 := by unfold mag; omega
  unfold widthV
  generalize mag n = m at *
  rcases hk with rfl | rfl | rfl | rfl | rfl | rfl | rfl | rfl <;> simp only [Int.reducePow, Int.reduceDiv] at h0 h1 <;> simp only [if_true] <;> (repeat' split) <;> omega
/-- A number that was read is written as its bytes. -/
theorem num_oneway (s : Bool) {xs : List Int} (hb : ∀ x ∈ xs, 0 ≤ x ∧ x ≤ 255) {n : Int} (h : numV s xs = (n, 0)) : 1 ≤ xs.length ∧ xs.length ≤ 8 ∧ fixedE n xs.length s = 0 ∧ fixedB n xs.length s = xs ∧ -9223372036854775808 ≤ n ∧ n ≤ 9223372036854775807 := by
  have hl := le_bd xs hb
  have key : ∀ w : Int, w = widthV n s → w ≠ 0 → w ≤ xs.length → 1 ≤ xs.length → xs.length ≤ 8 → fixedE n xs.length s = 0 := by
    intro w hw h0 h1 h2 h3
    unfold fixedE
    rw [if_neg (by omega), if_neg (by rw [← hw]; omega)]
  cases s
  · have h : toUintV xs = (n, 0) := h
    unfold toUintV at h
    split at h
    · simp at h
    · rename_i h8
      split at h
      · simp at h
      · rename_i hbig
        simp only [Prod.mk.injEq, and_true] at h
        obtain ⟨w1, w2⟩ := width_le_u n xs.length (by omega) (by omega) (by omega) (by omega)
        have hE := key _ rfl w1 w2 (by omega) (by omega)
        refine ⟨by omega, by omega, hE, ?_, by omega, by omega⟩
        unfold fixedB
        rw [if_pos hE, ← h, Int.toNat_natCast, le_bytes xs hb]
  · have h : toIntV xs = (n, 0) := h
    unfold toIntV at h
    split at h
    · simp at h
    · rename_i h8
      simp only [Prod.mk.injEq, and_true] at h
      have hk : xs.length = 1 ∨ xs.length = 2 ∨ xs.length = 3 ∨ xs.length = 4 ∨ xs.length = 5 ∨ xs.length = 6 ∨ xs.length = 7 ∨ xs.length = 8 := by omega
      have hn : -(256 ^ xs.length / 2) ≤ n ∧ n < 256 ^ xs.length / 2 ∧ (n = le xs + 0 * 256 ^ xs.length ∨ n = le xs + (-1) * 256 ^ xs.length) ∧ -9223372036854775808 ≤ n ∧ n ≤ 9223372036854775807 := by
        unfold sle at h
        rcases hk with e | e | e | e | e | e | e | e <;> rw [e] at h hl ⊢ <;> simp only [Int.reducePow, Int.reduceDiv] at h hl ⊢ <;> split at h <;> omega
      obtain ⟨n1, n2, n3, n4, n5⟩ := hn
      obtain ⟨w1, w2⟩ := width_le_s n xs.length n1 n2 (by omega) (by omega)
      have hE := key _ rfl w1 w2 (by omega) (by omega)
      refine ⟨by omega, by omega, hE, ?_, n4, n5⟩
      unfold fixedB
      rw [if_pos hE, Int.toNat_natCast]
      rcases n3 with e | e <;> rw [e, bytesOf_add, le_bytes xs hb]
end Go.Proofs.Ytmfijcniaehooaa

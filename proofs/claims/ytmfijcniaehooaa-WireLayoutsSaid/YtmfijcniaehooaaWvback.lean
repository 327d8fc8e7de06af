/- Variable numbers and texts that were written are read again, with anything behind; none is the beginning of another one; what is refused ahead of its end is refused whatever follows. -/
import Derived.Test.YtmfijcniaehooaaWtotext
namespace Go.Proofs.Ytmfijcniaehooaa
set_option linter.unusedVariables false
open Go.RowKit

theorem group_sum (n acc P : Int) : acc + (128 + n % 128) % 128 * P + n / 128 * (P * 128) = acc + n * P := by
  have e2 : (128 + n % 128) % 128 = n % 128 := by omega
  have e1 := Int.mul_ediv_add_emod n 128
  rw [e2]
  generalize n / 128 = q at *
  generalize n % 128 = r at *
  subst e1
  rw [Int.add_mul, Int.mul_comm P 128, ← Int.mul_assoc, Int.mul_comm q 128]
  omega
theorem tvL_varL (f : Nat) : ∀ (i : Nat) (acc n : Int) (ys : List Int), i + f = 8 → 0 ≤ n → n < 128 ^ (f + 1) → (0 < i → 0 < n) →
    tvL i acc ((varL f n ++ ys).take (9 - i)) = (acc + n * 128 ^ i, ((i + (varL f n).length : Nat) : Int), 0) := by
  induction f with
  | zero =>
    intro i acc n ys hi h0 h1 hp
    have : 9 - i = 1 := by omega
    rw [this]
    simp at h1
    simp only [varL, List.cons_append, List.take_succ_cons, List.take_zero, List.nil_append, List.length_singleton]
    rw [tvL, if_neg (by omega), if_pos (by omega), Int.emod_eq_of_lt h0 h1]
    simp
  | succ f ih =>
    intro i acc n ys hi h0 h1 hp
    rw [show 9 - i = (9 - (i + 1)) + 1 by omega]
    simp only [varL]
    by_cases hn : 128 ≤ n
    · rw [if_pos hn, List.cons_append, List.take_succ_cons, tvL, if_neg (by omega), if_neg (by omega), ih (i + 1) _ (n / 128) ys (by omega) (by omega) (by rw [Int.pow_succ] at h1; omega) (by omega)]
      rw [Int.pow_succ, group_sum, List.length_cons]
      congr 2
      omega
    · rw [if_neg hn, List.cons_append, List.take_succ_cons, tvL, if_neg (by omega), if_pos (by omega), Int.emod_eq_of_lt h0 (by omega)]
      simp
/-- A variable number is read again, whatever follows. -/
theorem toVar_back (n : Int) (ys : List Int) (h0 : 0 ≤ n) (h1 : n ≤ 9223372036854775807) : toVarV (varB n ++ ys) = (n, ((varB n).length : Int), 0) := by
  unfold toVarV varB
  have := tvL_varL 8 0 0 n ys (by omega) h0 (by have : (128 : Int) ^ (8 + 1) = 9223372036854775808 := by decide
                                                omega) (by omega)
  simpa using this
/-- A text is read again, whatever follows. -/
theorem toText_back (xs ys : List Int) (h : xs.length ≤ 65535) : toTextV (textV xs ++ ys) = (xs, ((textV xs).length : Int), 0) := by
  have hv : textV xs = varB xs.length ++ xs := by unfold textV; rw [if_neg (by omega)]
  have hb := toVar_back xs.length (xs ++ ys) (by omega) (by omega)
  rw [hv, List.append_assoc]
  unfold toTextV
  rw [hb]
  have hl := varB_len (xs.length : Int)
  simp only [List.length_append]
  rw [if_neg (by simp), if_neg (by omega), if_neg (by omega)]
  have e : ((varB (xs.length : Int)).length : Int).toNat = (varB (xs.length : Int)).length := by omega
  simp
theorem var_prefix {m n : Int} (hm : 0 ≤ m) (hm1 : m ≤ 9223372036854775807) (hn : 0 ≤ n) (hn1 : n ≤ 9223372036854775807) (h : varB m <+: varB n) : m = n := by
  obtain ⟨zs, hz⟩ := h
  have h1 := toVar_back m zs hm hm1
  have h2 := toVar_back n [] hn hn1
  rw [hz] at h1
  rw [List.append_nil, h1] at h2
  simpa using (congrArg Prod.fst h2)
theorem text_prefix {s t : List Int} (hs : s.length ≤ 65535) (ht : t.length ≤ 65535) (h : textV s <+: textV t) : s = t := by
  obtain ⟨zs, hz⟩ := h
  have h1 := toText_back s zs hs
  have h2 := toText_back t [] ht
  rw [hz] at h1
  rw [List.append_nil, h1] at h2
  simpa using (congrArg Prod.fst h2)
theorem tvL_app (ws : List Int) : ∀ (xs : List Int) (i : Nat) (acc : Int), (∃ x ∈ xs, x < 128) → tvL i acc (xs ++ ws) = tvL i acc xs := by
  intro xs
  induction xs with
  | nil => intro i acc ⟨x, hx, _⟩; simp at hx
  | cons x xs ih =>
    intro i acc ⟨y, hy, hlt⟩
    rw [List.cons_append, tvL, tvL]
    by_cases h1 : x = 0 ∧ 0 < i
    · rw [if_pos h1, if_pos h1]
    · rw [if_neg h1, if_neg h1]
      by_cases h2 : x < 128
      · rw [if_pos h2, if_pos h2]
      · rw [if_neg h2, if_neg h2]
        refine ih _ _ ⟨y, ?_, hlt⟩
        rcases List.mem_cons.1 hy with rfl | hy
        · omega
        · exact hy
theorem tvL_ends : ∀ (xs : List Int) (i : Nat) (acc : Int), (∀ x ∈ xs, 128 ≤ x) → tvL i acc xs = (0, 0, 4) := by
  intro xs
  induction xs with
  | nil => intro i acc _; rw [tvL]
  | cons x xs ih =>
    intro i acc h
    have := h x (by simp)
    rw [tvL, if_neg (by omega), if_neg (by omega)]
    exact ih _ _ (fun y hy => h y (by simp [hy]))
/-- Do the bytes end within a number? -/
def endsV (xs : List Int) : Bool := decide (xs.length < 9) && (xs.take 9).all fun x => decide (128 ≤ x)
theorem toVar_ends {xs : List Int} (h : endsV xs = true) : toVarV xs = (0, 0, 4) := by
  unfold endsV at h
  simp only [Bool.and_eq_true, decide_eq_true_eq, List.all_eq_true] at h
  exact tvL_ends _ _ _ h.2
theorem toVar_app {xs : List Int} (ys : List Int) (h : endsV xs = false) : toVarV (xs ++ ys) = toVarV xs := by
  unfold toVarV
  rw [List.take_append]
  by_cases h9 : xs.length < 9
  · refine tvL_app _ _ _ _ ?_
    unfold endsV at h
    rw [decide_eq_true h9, Bool.true_and, List.all_eq_false] at h
    obtain ⟨x, hx, hlt⟩ := h
    exact ⟨x, hx, by simpa using hlt⟩
  · rw [show 9 - xs.length = 0 by omega]; simp
end Go.Proofs.Ytmfijcniaehooaa

/- Counting byte by byte (pure). -/
import Derived.Test.YtknacgdjodmaiaaDoorBvalp
namespace Go.Proofs.YtknacgdjodmaiaaDoor
set_option linter.unusedVariables false

/-- How many bits one byte has in a range. -/
def popB (bs : List Int) (a e i : Nat) : Nat := popV ((bs.getD i 0).toNat &&& mkV a e i)
theorem mkV_cut (a e i : Nat) : mkV a e i = mkV (max a (8 * i)) (min e (8 * i + 8)) i := by
  unfold mkV
  rw [show min (min e (8 * i + 8)) (8 * i + 8) - max (max a (8 * i)) (8 * i) = min e (8 * i + 8) - max a (8 * i) by omega, show max (max a (8 * i)) (8 * i) - 8 * i = max a (8 * i) - 8 * i by omega]
theorem popB_eq {bs : List Int} (h : isBs bs) (a e i : Nat) (hi : i < bs.length) : popB bs a e i = cntV bs (max a (8 * i)) (min e (8 * i + 8)) := by
  unfold popB
  rw [mkV_cut]
  exact cntV_byte h _ _ i hi (by omega) (by omega)
theorem popV_le (x : Nat) (hx : x < 256) : popV x ≤ 8 := by
  rw [popV_bits x hx]
  have := List.length_filter_le x.testBit (List.range 8)
  simpa using this
theorem popB_le {bs : List Int} (a e i : Nat) : popB bs a e i ≤ 8 := by
  unfold popB
  apply popV_le
  have := Nat.and_le_right (n := (bs.getD i 0).toNat) (m := mkV a e i)
  have := mkV_lt a e i
  omega
def sumB (bs : List Int) (a e : Nat) (l : List Nat) : Nat := (l.map (popB bs a e)).sum
theorem sumB_le (bs : List Int) (a e : Nat) (l : List Nat) : sumB bs a e l ≤ 8 * l.length := by
  unfold sumB
  induction l with
  | nil => simp
  | cons x l ih =>
    have := popB_le (bs := bs) a e x
    simp only [List.map_cons, List.sum_cons, List.length_cons]
    omega
theorem sumB_next (bs : List Int) (a e : Nat) (l : List Nat) (i : Nat) : sumB bs a e (l ++ [i]) = sumB bs a e l + popB bs a e i := by
  simp [sumB]
theorem sumB_range {bs : List Int} (h : isBs bs) (a e : Nat) (he : e ≤ 8 * bs.length) (hae : a < e) : ∀ k, a / 8 + k ≤ (e + 7) / 8 → sumB bs a e (List.range' (a / 8) k) = cntV bs a (max a (min e (8 * (a / 8 + k)))) := by
  intro k
  induction k with
  | zero =>
    intro _
    rw [show max a (min e (8 * (a / 8 + 0))) = a by omega, cntV_none _ _ _ (Nat.le_refl _)]
    rfl
  | succ k ih =>
    intro hk
    rw [List.range'_concat, Nat.one_mul, sumB_next, ih (by omega), popB_eq h a e (a / 8 + k) (by omega)]
    rw [cntV_split bs a (max a (min e (8 * (a / 8 + k)))) (max a (min e (8 * (a / 8 + (k + 1))))) (by omega) (by omega)]
    congr 2 <;> omega
/-- All bytes of a range. -/
theorem sumB_all {bs : List Int} (h : isBs bs) (a e n : Nat) (he : e ≤ 8 * bs.length) (hn : n = if a < e then (e + 7) / 8 - a / 8 else 0) : sumB bs a e (List.range' (a / 8) n) = cntV bs a e := by
  by_cases hae : a < e
  · rw [if_pos hae] at hn
    rw [sumB_range h a e he hae n (by omega), show max a (min e (8 * (a / 8 + n))) = e by omega]
  · rw [if_neg hae] at hn
    subst hn
    rw [cntV_none _ _ _ (by omega)]
    rfl
end Go.Proofs.YtknacgdjodmaiaaDoor

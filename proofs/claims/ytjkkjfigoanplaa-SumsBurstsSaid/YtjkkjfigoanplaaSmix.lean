/- Four bytes of a list changed, one after the other: pure, but for the row in memory. -/
import Derived.Test.YtjkkjfigoanplaaSburst
import Derived.Test.YtjkkjfigoanplaaSrow
namespace Go.Proofs.Ytjkkjfigoanplaa
set_option linter.unusedVariables false
open Go.RowKit
def mix (xs : List Int) (A : Nat) (x : List Int) : Nat → List Int
  | 0 => xs
  | k + 1 => (mix xs A x k).set (A + k) ((((mix xs A x k).getD (A + k) 0).toNat ^^^ (x.getD k 0).toNat : Nat) : Int)
theorem mix_len (xs : List Int) (A : Nat) (x : List Int) (k : Nat) : (mix xs A x k).length = xs.length := by
  induction k with
  | zero => rfl
  | succ k ih => rw [mix, List.length_set, ih]
theorem xor_lt (a b : Int) (h1 : 0 ≤ a ∧ a ≤ 255) (h2 : 0 ≤ b ∧ b ≤ 255) : (0 : Int) ≤ ((a.toNat ^^^ b.toNat : Nat) : Int) ∧ ((a.toNat ^^^ b.toNat : Nat) : Int) ≤ 255 := by
  have := Nat.xor_lt_two_pow (n := 8) (x := a.toNat) (y := b.toNat) (by omega) (by omega)
  omega
theorem mix_bd (xs : List Int) (A : Nat) (x : List Int) (hx : ∀ n ∈ x, 0 ≤ n ∧ n ≤ 255) (h : ∀ n ∈ xs, 0 ≤ n ∧ n ≤ 255) (k : Nat) : ∀ n ∈ mix xs A x k, 0 ≤ n ∧ n ≤ 255 := by
  have getd : ∀ (l : List Int) (i : Nat), (∀ n ∈ l, 0 ≤ n ∧ n ≤ 255) → 0 ≤ l.getD i 0 ∧ l.getD i 0 ≤ 255 := by
    intro l i hl
    by_cases hi : i < l.length
    · rw [getD_at l i hi]; exact hl _ (List.getElem_mem hi)
    · simp [List.getD, List.getElem?_eq_none (by omega : l.length ≤ i)]
  induction k with
  | zero => exact h
  | succ k ih =>
    intro n hn
    rw [mix] at hn
    rcases List.mem_or_eq_of_mem_set hn with hn | rfl
    · exact ih n hn
    · exact xor_lt _ _ (getd _ _ ih) (getd _ _ hx)
theorem mix_app (p r : List Int) (x : List Int) (k : Nat) : mix (p ++ r) p.length x k = p ++ mix r 0 x k := by
  induction k with
  | zero => rfl
  | succ k ih =>
    rw [mix, mix, ih, List.set_append_right _ _ (by omega), show p.length + k - p.length = k by omega, Nat.zero_add]
    have : (p ++ mix r 0 x k).getD (p.length + k) 0 = (mix r 0 x k).getD k 0 := by
      simp [List.getD, List.getElem?_append_right]
    rw [this]
theorem mix_burst (xs : List Int) (hb : ∀ n ∈ xs, 0 ≤ n ∧ n ≤ 255) (A : Nat) (hA : A + 4 ≤ xs.length) (x0 x1 x2 x3 : Int) (h0 : 0 ≤ x0 ∧ x0 ≤ 255) (h1 : 0 ≤ x1 ∧ x1 ≤ 255) (h2 : 0 ≤ x2 ∧ x2 ≤ 255) (h3 : 0 ≤ x3 ∧ x3 ≤ 255)
    (hx : ¬ (x0 = 0 ∧ x1 = 0 ∧ x2 = 0 ∧ x3 = 0)) : crcV xs ≠ crcV (mix xs A [x0, x1, x2, x3] 4) := by
  obtain ⟨p, r, rfl, rfl⟩ : ∃ p r, xs = p ++ r ∧ A = p.length := ⟨xs.take A, xs.drop A, (List.take_append_drop _ _).symm, by rw [List.length_take]; omega⟩
  rw [List.length_append] at hA
  have hr : 4 ≤ r.length := by omega
  obtain ⟨a, b, c, d, q, rfl⟩ : ∃ a b c d q, r = a :: b :: c :: d :: q := by
    rcases r with _ | ⟨a, _ | ⟨b, _ | ⟨c, _ | ⟨d, q⟩⟩⟩⟩
    · simp at hr
    · simp at hr
    · simp at hr
    · simp at hr
    · exact ⟨a, b, c, d, q, rfl⟩
  · 
    rw [mix_app]
    have ha := hb a (by simp)
    have hb' := hb b (by simp)
    have hc := hb c (by simp)
    have hd := hb d (by simp)
    have := burst p q a.toNat b.toNat c.toNat d.toNat x0.toNat x1.toNat x2.toNat x3.toNat (by omega) (by omega) (by omega) (by omega) (by omega)
    have ea : ((a.toNat : Nat) : Int) = a := by omega
    have eb : ((b.toNat : Nat) : Int) = b := by omega
    have ec : ((c.toNat : Nat) : Int) = c := by omega
    have ed : ((d.toNat : Nat) : Int) = d := by omega
    rw [ea, eb, ec, ed] at this
    have hm : mix (a :: b :: c :: d :: q) 0 [x0, x1, x2, x3] 4 = ((a.toNat ^^^ x0.toNat : Nat) : Int) :: ((b.toNat ^^^ x1.toNat : Nat) : Int) :: ((c.toNat ^^^ x2.toNat : Nat) : Int) :: ((d.toNat ^^^ x3.toNat : Nat) : Int) :: q := by
      simp [mix]
    rw [hm]
    simpa using this
theorem Own.stored {w : World} {B g n cap : Nat} {xs : List Int} (h : Own w B (.slice (some ⟨g, 0, none⟩) n cap) xs) (hn : xs.length = n) (j : Nat) (z : Int) (hz : 0 ≤ z ∧ z ≤ 255) :
    Own (w.setCell ⟨g, j, none⟩ (.int .u8 z)) B (.slice (some ⟨g, 0, none⟩) n cap) (xs.set j z) := by
  subst hn
  refine ⟨?_, fun m hm => ?_⟩
  · rw [List.length_set, List.map_set]
    exact (h.1.stored j (.int .u8 z)).1
  · rcases List.mem_or_eq_of_mem_set hm with hm | rfl
    · exact h.2 m hm
    · exact hz
end Go.Proofs.Ytjkkjfigoanplaa

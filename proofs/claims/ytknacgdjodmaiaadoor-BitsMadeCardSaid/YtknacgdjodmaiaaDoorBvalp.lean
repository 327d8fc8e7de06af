/- Which bitmaps are valid (pure). -/
import Derived.Test.YtknacgdjodmaiaaDoorBfillp
namespace Go.Proofs.YtknacgdjodmaiaaDoor
set_option linter.unusedVariables false

/-- A valid bitmap. -/
def validB (N : Int) (bs : List Int) : Bool := decide (0 ≤ N) && decide (N ≤ 65536) && decide ((bs.length : Int) = (N + 7) / 8) && (List.range (8 * bs.length)).all fun j => decide (j < N.toNat) || !bitV bs j
theorem validB_iff (N : Int) (bs : List Int) : validB N bs = true ↔ 0 ≤ N ∧ N ≤ 65536 ∧ (bs.length : Int) = (N + 7) / 8 ∧ ∀ j, N.toNat ≤ j → j < 8 * bs.length → bitV bs j = false := by
  unfold validB
  simp only [Bool.and_eq_true, decide_eq_true_eq, List.all_eq_true, List.mem_range, Bool.or_eq_true, Bool.not_eq_true']
  constructor
  · rintro ⟨⟨⟨h1, h2⟩, h3⟩, h4⟩
    exact ⟨h1, h2, h3, fun j hj hl => by rcases h4 j hl with h | h; omega; exact h⟩
  · rintro ⟨h1, h2, h3, h4⟩
    exact ⟨⟨⟨h1, h2⟩, h3⟩, fun j hl => by
      by_cases h : j < N.toNat
      · exact .inl h
      · exact .inr (h4 j (by omega) hl)⟩
theorem byte_clean {bs : List Int} (h : isBs bs) (a e i : Nat) (hi : i < bs.length) : (bs.getD i 0).toNat &&& mkV a e i = 0 ↔ ∀ j, j / 8 = i → a ≤ j → j < e → bitV bs j = false := by
  constructor
  · intro h0 j hj h1 h2
    have : ((bs.getD i 0).toNat &&& mkV a e i).testBit (j % 8) = false := by rw [h0]; exact Nat.zero_testBit _
    rw [Nat.testBit_and, mkV_bit a e i _ (by omega)] at this
    unfold bitV
    rw [hj]
    simpa [show 8 * i + j % 8 = j by omega, h1, h2] using this
  · intro hj
    apply Nat.eq_of_testBit_eq
    intro t
    rw [Nat.zero_testBit, Nat.testBit_and]
    by_cases ht : t < 8
    · rw [mkV_bit a e i t ht]
      by_cases hr : a ≤ 8 * i + t ∧ 8 * i + t < e
      · have := hj (8 * i + t) (by omega) hr.1 hr.2
        unfold bitV at this
        rw [show (8 * i + t) / 8 = i by omega, show (8 * i + t) % 8 = t by omega] at this
        rw [this]; rfl
      · simp [hr]
    · have : (mkV a e i).testBit t = false := by
        apply Nat.testBit_lt_two_pow
        have := Nat.pow_le_pow_right (show 0 < 2 by decide) (show 8 ≤ t by omega)
        have := mkV_lt a e i
        omega
      rw [this, Bool.and_false]
/-- The spare bits are clear, where no byte has one. -/
theorem spare_clean {bs : List Int} (h : isBs bs) (N : Nat) (n : Nat) (hn : N < 8 * bs.length → (8 * bs.length + 7) / 8 ≤ N / 8 + n) (hx : ∀ i, i ∈ List.range' (N / 8) n → i < bs.length → (bs.getD i 0).toNat &&& mkV N (8 * bs.length) i = 0) :
    ∀ j, N ≤ j → j < 8 * bs.length → bitV bs j = false := by
  intro j h1 h2
  have hm : j / 8 ∈ List.range' (N / 8) n := by rw [List.mem_range'_1]; omega
  exact (byte_clean h N _ (j / 8) (by omega)).mp (hx _ hm (by omega)) j rfl h1 h2
end Go.Proofs.YtknacgdjodmaiaaDoor

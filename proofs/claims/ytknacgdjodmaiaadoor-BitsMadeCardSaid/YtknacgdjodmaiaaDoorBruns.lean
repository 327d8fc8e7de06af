/- Runs of bits: the next bit of a kind, and all runs (pure). -/
import Derived.Test.YtknacgdjodmaiaaDoorBpure
import Derived.Lib.BitFns
namespace Go.Proofs.YtknacgdjodmaiaaDoor
set_option linter.unusedVariables false

/-- The first bit of a kind among n bits from j on, or the place behind them. -/
def seekF (bs : List Int) (on : Bool) : Nat → Nat → Nat
  | 0, j => j
  | n + 1, j => if bitV bs j = on then j else seekF bs on n (j + 1)
def seekV (bs : List Int) (N : Nat) (on : Bool) (a : Nat) : Nat := seekF bs on (N - a) a
theorem seekF_spec (bs : List Int) (on : Bool) : ∀ n j, j ≤ seekF bs on n j ∧ seekF bs on n j ≤ j + n ∧ (∀ t, j ≤ t → t < seekF bs on n j → bitV bs t ≠ on) ∧ (seekF bs on n j < j + n → bitV bs (seekF bs on n j) = on) := by
  intro n
  induction n with
  | zero => intro j; exact ⟨Nat.le_refl _, Nat.le_refl _, fun t h1 h2 => absurd h2 (by simp only [seekF]; omega), fun h => absurd h (by simp only [seekF]; omega)⟩
  | succ n ih =>
    intro j
    unfold seekF
    by_cases h : bitV bs j = on
    · rw [if_pos h]
      exact ⟨Nat.le_refl _, by omega, fun t h1 h2 => absurd h2 (by omega), fun _ => h⟩
    · rw [if_neg h]
      obtain ⟨k1, k2, k3, k4⟩ := ih (j + 1)
      refine ⟨by omega, by omega, fun t h1 h2 => ?_, fun h5 => k4 (by omega)⟩
      by_cases e : t = j
      · rw [e]; exact h
      · exact k3 t (by omega) h2
theorem seekV_spec (bs : List Int) (N : Nat) (on : Bool) (a : Nat) (ha : a ≤ N) : a ≤ seekV bs N on a ∧ seekV bs N on a ≤ N ∧ (∀ t, a ≤ t → t < seekV bs N on a → bitV bs t ≠ on) ∧ (seekV bs N on a < N → bitV bs (seekV bs N on a) = on) := by
  obtain ⟨k1, k2, k3, k4⟩ := seekF_spec bs on (N - a) a
  unfold seekV
  exact ⟨k1, by omega, k3, fun h => k4 (by omega)⟩
theorem seekV_eq (bs : List Int) (N : Nat) (on : Bool) (a s : Nat) (h1 : a ≤ s) (h2 : s ≤ N) (h3 : ∀ t, a ≤ t → t < s → bitV bs t ≠ on) (h4 : s < N → bitV bs s = on) : seekV bs N on a = s := by
  obtain ⟨k1, k2, k3, k4⟩ := seekV_spec bs N on a (by omega)
  rcases Nat.lt_trichotomy (seekV bs N on a) s with h | h | h
  · exact absurd (k4 (by omega)) (h3 _ k1 h)
  · exact h
  · exact absurd (h4 (by omega)) (k3 _ h1 h)
theorem seekV_end (bs : List Int) (N : Nat) (on : Bool) (a : Nat) (h : N ≤ a) : seekV bs N on a = a := by
  unfold seekV
  rw [show N - a = 0 by omega]
  rfl
theorem seekV_skip (bs : List Int) (N : Nat) (on : Bool) (a m : Nat) (h1 : a ≤ m) (h2 : m ≤ N) (h3 : ∀ t, a ≤ t → t < m → bitV bs t ≠ on) : seekV bs N on a = seekV bs N on m := by
  obtain ⟨k1, k2, k3, k4⟩ := seekV_spec bs N on m h2
  exact seekV_eq bs N on a _ (by omega) k2 (fun t ht1 ht2 => if h : t < m then h3 t ht1 h else k3 t (by omega) ht2) k4

/-- All runs from a place on at which one begins. -/
def runsF (bs : List Int) (N : Nat) (on : Bool) : Nat → Nat → List (Nat × Nat)
  | 0, _ => []
  | n + 1, a => if a < N then (a, seekV bs N (!on) a - a) :: runsF bs N on n (seekV bs N on (seekV bs N (!on) a)) else []
def runsV (bs : List Int) (N : Nat) (on : Bool) : List (Nat × Nat) := runsF bs N on (N + 1) (seekV bs N on 0)
/-- From one run to the next. -/
theorem run_step (bs : List Int) (N : Nat) (on : Bool) (a : Nat) (ha : a < N) (hb : bitV bs a = on) : a < seekV bs N (!on) a ∧ seekV bs N (!on) a ≤ N ∧ seekV bs N (!on) a ≤ seekV bs N on (seekV bs N (!on) a) ∧ seekV bs N on (seekV bs N (!on) a) ≤ N := by
  obtain ⟨k1, k2, k3, k4⟩ := seekV_spec bs N (!on) a (by omega)
  obtain ⟨j1, j2, j3, j4⟩ := seekV_spec bs N on (seekV bs N (!on) a) k2
  refine ⟨?_, k2, j1, j2⟩
  rcases Nat.lt_or_ge a (seekV bs N (!on) a) with h | h
  · exact h
  · have e : seekV bs N (!on) a = a := by omega
    have := k4 (by omega)
    rw [e, hb] at this
    cases on <;> cases this
theorem runsF_fuel (bs : List Int) (N : Nat) (on : Bool) : ∀ n m a, (a < N → bitV bs a = on) → N - a < n → N - a < m → runsF bs N on n a = runsF bs N on m a := by
  intro n
  induction n with
  | zero => intro m a _ h; omega
  | succ n ih =>
    intro m a hb h1 h2
    cases m with
    | zero => omega
    | succ m =>
      unfold runsF
      by_cases h : a < N
      · rw [if_pos h, if_pos h]
        obtain ⟨s1, s2, s3, s4⟩ := run_step bs N on a h (hb h)
        have j4 := (seekV_spec bs N on (seekV bs N (!on) a) s2).2.2.2
        rw [ih m _ j4 (by omega) (by omega)]
      · rw [if_neg h, if_neg h]
/-- The runs that are left from a place on. -/
def restV (bs : List Int) (N : Nat) (on : Bool) (a : Nat) : List (Nat × Nat) := runsF bs N on (N + 1) a
theorem restV_end (bs : List Int) (N : Nat) (on : Bool) (a : Nat) (h : N ≤ a) : restV bs N on a = [] := by
  unfold restV runsF
  rw [if_neg (by omega)]
theorem restV_next (bs : List Int) (N : Nat) (on : Bool) (a : Nat) (h : a < N) (hb : bitV bs a = on) : restV bs N on a = (a, seekV bs N (!on) a - a) :: restV bs N on (seekV bs N on (seekV bs N (!on) a)) := by
  obtain ⟨s1, s2, s3, s4⟩ := run_step bs N on a h hb
  have j4 := (seekV_spec bs N on (seekV bs N (!on) a) s2).2.2.2
  unfold restV
  rw [runsF, if_pos h, runsF_fuel bs N on N (N + 1) _ j4 (by omega) (by omega)]

/-- The number of zeros at the end of a byte. -/
theorem tz_facts : ∀ x : Nat, x < 256 → Lib.trailingZeros8 x ≤ 8 ∧ (x ≠ 0 → Lib.trailingZeros8 x < 8 ∧ x.testBit (Lib.trailingZeros8 x) = true) ∧ ∀ t, t < Lib.trailingZeros8 x → x.testBit t = false := by
  intro x hx
  have h : (List.range 256).all (fun x => decide (Lib.trailingZeros8 x ≤ 8) && (decide (x = 0) || (decide (Lib.trailingZeros8 x < 8) && x.testBit (Lib.trailingZeros8 x))) && (List.range (Lib.trailingZeros8 x)).all fun t => !x.testBit t) = true := by kernel_rfl
  have := List.all_eq_true.mp h x (List.mem_range.mpr hx)
  simp only [Bool.and_eq_true, decide_eq_true_eq, Bool.or_eq_true, List.all_eq_true, List.mem_range, Bool.not_eq_true'] at this
  exact ⟨this.1.1, fun h0 => by rcases this.1.2 with h | h; exact absurd h h0; exact h, this.2⟩
/-- What seek looks at: the bits of a kind of one byte, from one on. -/
def lookB (on : Bool) (x : Int) (r : Nat) : Nat := (if on then x.toNat else 255 - x.toNat) / 2 ^ r * 2 ^ r
theorem lookB_bit (on : Bool) (x : Int) (hx : 0 ≤ x ∧ x ≤ 255) (r t : Nat) (ht : t < 8) : (lookB on x r).testBit t = (decide (r ≤ t) && (x.toNat.testBit t == on)) := by
  unfold lookB
  rw [Nat.testBit_mul_two_pow, Nat.testBit_div_two_pow]
  by_cases h : r ≤ t
  · rw [show t - r + r = t by omega]
    cases on with
    | true => simp [h]
    | false =>
      rw [if_neg (by simp)]
      have := Nat.testBit_two_pow_sub_succ (n := 8) (x := x.toNat) (by omega) t
      rw [show 2 ^ 8 - (x.toNat + 1) = 255 - x.toNat by omega] at this
      rw [this]; simp [h, ht]
  · simp [h]
theorem lookB_lt (on : Bool) (x : Int) (hx : 0 ≤ x ∧ x ≤ 255) (r : Nat) : lookB on x r < 256 := by
  unfold lookB
  have := Nat.div_mul_le_self (if on then x.toNat else 255 - x.toNat) (2 ^ r)
  have : (if on then x.toNat else 255 - x.toNat) ≤ 255 := by split <;> omega
  omega
/-- Nothing in this byte. -/
theorem seek_zero {bs : List Int} (h : isBs bs) (N : Nat) (on : Bool) (a : Nat) (ha : a < N) (hl : N ≤ 8 * bs.length) (h0 : lookB on (bs.getD (a / 8) 0) (a % 8) = 0) :
    ∀ t, a ≤ t → t < 8 * (a / 8) + 8 → bitV bs t ≠ on := by
  intro t h1 h2
  have hb := h _ (getD_mem (show a / 8 < bs.length by omega))
  have := lookB_bit on _ hb (a % 8) (t % 8) (by omega)
  rw [h0, Nat.zero_testBit] at this
  intro e
  unfold bitV at e
  rw [show t / 8 = a / 8 by omega] at e
  rw [e] at this
  simp at this
  omega
/-- Something in this byte: the first one. -/
theorem seek_hit {bs : List Int} (h : isBs bs) (N : Nat) (on : Bool) (a : Nat) (ha : a < N) (hl : N ≤ 8 * bs.length) (hs : ∀ j, N ≤ j → j < 8 * bs.length → bitV bs j = false)
    (hlast : 8 * bs.length < N + 8) (h0 : lookB on (bs.getD (a / 8) 0) (a % 8) ≠ 0) :
    seekV bs N on a = 8 * (a / 8) + Lib.trailingZeros8 (lookB on (bs.getD (a / 8) 0) (a % 8)) := by
  have hi : a / 8 < bs.length := by omega
  have hb := h _ (getD_mem hi)
  obtain ⟨t1, t2, t3⟩ := tz_facts _ (lookB_lt on _ hb (a % 8))
  obtain ⟨t4, t5⟩ := t2 h0
  obtain ⟨z, hz⟩ : ∃ z, z = Lib.trailingZeros8 (lookB on (bs.getD (a / 8) 0) (a % 8)) := ⟨_, rfl⟩
  rw [← hz] at t1 t3 t4 t5 ⊢
  rw [lookB_bit on _ hb _ _ t4] at t5
  simp only [Bool.and_eq_true, decide_eq_true_eq, beq_iff_eq] at t5
  have hit : bitV bs (8 * (a / 8) + z) = on := by
    unfold bitV
    rw [show (8 * (a / 8) + z) / 8 = a / 8 by omega, show (8 * (a / 8) + z) % 8 = z by omega]
    exact t5.2
  have hmiss : ∀ t, a ≤ t → t < 8 * (a / 8) + z → bitV bs t ≠ on := by
    intro t h1 h2 e
    have := t3 (t % 8) (by omega)
    rw [lookB_bit on _ hb _ _ (by omega)] at this
    unfold bitV at e
    rw [show t / 8 = a / 8 by omega] at e
    rw [e] at this
    simp at this
    omega
  have hle : 8 * (a / 8) + z ≤ N := by
    rcases Nat.lt_or_ge N (8 * (a / 8) + z) with hlt | hge
    · exfalso
      have s1 := hs (8 * (a / 8) + z) (by omega) (by omega)
      have s2 := hs N (Nat.le_refl _) (by omega)
      rw [s1] at hit
      exact hmiss N (by omega) hlt (by rw [s2, hit])
    · exact hge
  exact seekV_eq bs N on a _ (by omega) hle hmiss (fun _ => hit)
end Go.Proofs.YtknacgdjodmaiaaDoor

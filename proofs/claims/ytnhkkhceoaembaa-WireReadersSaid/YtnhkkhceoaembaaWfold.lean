/- Fold and Unfold answer as the chapter says. -/
import Derived.Test.YtnhkkhceoaembaaRows
import Derived.WalkKit
import Derived.WalkSpells
import Derived.WalkLawsBesides
namespace Go.Proofs.Ytnhkkhceoaembaa
set_option linter.unusedVariables false
open Go.RowKit

/-- The plain value of Fold. -/
def foldV (n : Int) : Int × Int :=
  if 4611686018427387903 < n ∨ n < -4611686018427387904 then (0, 24) else if n < 0 then (-2 * n - 1, 0) else (2 * n, 0)

theorem fold_any (n : Int) (w : World) (h1 : -9223372036854775808 ≤ n) (h2 : n ≤ 9223372036854775807) :
    Calls Try.prog 29 #[.int .i64 n] w fun e w' => e = .returned (.tuple #[.int .i64 (foldV n).1, .int .i64 (foldV n).2]) ∧ w = w' := by
  unfold foldV
  by_cases hb : 4611686018427387903 < n
  · rw [if_pos (.inl hb)]
    go_enter Try.func29, Try.ntmps29
    go_wp2
    go_ret2
    exact ⟨rfl, rfl⟩
  · by_cases hs : n < -4611686018427387904
    · rw [if_pos (.inr hs)]
      go_enter Try.func29, Try.ntmps29
      go_wp2
      go_ret2
      exact ⟨rfl, rfl⟩
    · rw [if_neg (by omega)]
      by_cases h0 : n < 0
      · rw [if_pos h0]
        have e2 : wrap64 (wrap64 (-2 * n) - 1) = -2 * n - 1 := by unfold wrap64; omega
        go_enter Try.func29, Try.ntmps29
        go_wp2
        go_ret2
        exact ⟨by first | rfl | (simp; done) | (simp [e2]; done), rfl⟩
      · rw [if_neg h0]
        have e1 : IntKind.i64.wrap (2 * n) = 2 * n := by rw [IntKind.wrap_i64]; omega
        go_enter Try.func29, Try.ntmps29
        go_wp2
        go_ret2
        exact ⟨by first | rfl | (simp [e1]; done), rfl⟩
/-- The plain value of Unfold. -/
def unfoldV (n : Int) : Int × Int := if n < 0 then (0, 24) else if n % 2 = 1 then (-(n / 2) - 1, 0) else (n / 2, 0)
theorem unfold_any (n : Int) (w : World) (h1 : -9223372036854775808 ≤ n) (h2 : n ≤ 9223372036854775807) :
    Calls Try.prog 31 #[.int .i64 n] w fun e w' => e = .returned (.tuple #[.int .i64 (unfoldV n).1, .int .i64 (unfoldV n).2]) ∧ w = w' := by
  unfold unfoldV
  by_cases h0 : n < 0
  · rw [if_pos h0]
    go_enter Try.func31, Try.ntmps31
    go_wp2
    go_ret2
    exact ⟨rfl, rfl⟩
  · rw [if_neg h0]
    have t1 : n.tmod 2 = n % 2 := Int.tmod_eq_emod_of_nonneg (by omega)
    have t2 : n.tdiv 2 = n / 2 := Int.tdiv_eq_ediv_of_nonneg (by omega)
    by_cases h3 : n % 2 = 1
    · rw [if_pos h3]
      have e1 : IntKind.i64.wrap (-(n / 2)) = -(n / 2) := by rw [IntKind.wrap_i64]; omega
      have e2 : IntKind.i64.wrap (-(n / 2) - 1) = -(n / 2) - 1 := by rw [IntKind.wrap_i64]; omega
      have e3 : IntKind.i64.wrap (n / 2) = n / 2 := by rw [IntKind.wrap_i64]; omega
      have e4 : IntKind.i64.wrap (n % 2) = n % 2 := by rw [IntKind.wrap_i64]; omega
      go_enter Try.func31, Try.ntmps31
      go_wp2
      go_ret2
      exact ⟨by first | rfl | (simp [e1, e2, e3]; done), rfl⟩
    · rw [if_neg h3]
      have e3 : IntKind.i64.wrap (n / 2) = n / 2 := by rw [IntKind.wrap_i64]; omega
      have e4 : IntKind.i64.wrap (n % 2) = n % 2 := by rw [IntKind.wrap_i64]; omega
      go_enter Try.func31, Try.ntmps31
      go_wp2
      go_ret2
      exact ⟨by first | rfl | (simp [e3]; done), rfl⟩
end Go.Proofs.Ytnhkkhceoaembaa

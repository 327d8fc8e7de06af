/- ToUint and ToInt answer as the chapter says. -/
import Derived.Test.YtmfijcniaehooaaWlow
namespace Go.Proofs.Ytmfijcniaehooaa
set_option linter.unusedVariables false
open Go.RowKit

/-- What ToUint answers. -/
def toUintV (xs : List Int) : Int × Int :=
  if xs.length < 1 ∨ 8 < xs.length then (0, 1) else if 9223372036854775807 < le xs then (0, 24) else (le xs, 0)
/-- The number with a sign that the bytes are. -/
def sle (xs : List Int) : Int := if le xs < 256 ^ xs.length / 2 then le xs else le xs - 256 ^ xs.length
/-- What ToInt answers. -/
def toIntV (xs : List Int) : Int × Int := if xs.length < 1 ∨ 8 < xs.length then (0, 1) else (sle xs, 0)
def two (p : Int × Int) : Ending := .returned (.tuple #[.int .i64 p.1, .int .i64 p.2])

theorem sle_shift (xs : List Int) (h1 : 1 ≤ xs.length) (h8 : xs.length ≤ 8) (h0 : 0 ≤ le xs) (h2 : le xs < 256 ^ xs.length) :
    wrap64 (IntKind.u64.wrap (le xs * 2 ^ (64 - 8 * xs.length))) / 2 ^ (64 - 8 * xs.length) = sle xs := by
  unfold sle
  generalize le xs = v at *
  generalize xs.length = l at *
  have : l = 1 ∨ l = 2 ∨ l = 3 ∨ l = 4 ∨ l = 5 ∨ l = 6 ∨ l = 7 ∨ l = 8 := by omega
  rcases this with rfl | rfl | rfl | rfl | rfl | rfl | rfl | rfl <;> (simp only [IntKind.wrap_u64, wrap64, Nat.reduceMul, Nat.reduceSub, Int.reducePow, Int.reduceDiv] at *; split <;> omega)

set_option maxHeartbeats 400000 in
theorem toUint_any (a : Option Addr) (len cap : Nat) (xs : List Int) (w : World) (h : Rd w a len cap xs) :
    Calls Try.prog 20 #[.slice a len cap] w fun e w' => e = two (toUintV xs) ∧ w = w' := by
  have hb := le_bd xs h.hb
  have hl := h.hl
  by_cases hbad : len < 1 ∨ 8 < len
  · have hv : toUintV xs = (0, 1) := by unfold toUintV; rw [if_pos (by omega)]
    have Hv := Lib.hid hv
    clear hb hl hv h
    rcases hbad with hbad | hbad
    all_goals
      go_enter Try.func20, Try.ntmps20
      go_wp2
      go_ret2
      exact ⟨by rw [Hv.out]; rfl, rfl⟩
  · have h8 : len ≤ 8 := by omega
    have hp := pow_bd len h8
    have hb1 : le xs < 18446744073709551616 := by rw [hl] at hb; omega
    have hb0 := hb.1
    have hv : toUintV xs = if 9223372036854775807 < le xs then (0, 24) else (le xs, 0) := by unfold toUintV; rw [if_neg (by omega)]
    have Hv := Lib.hid hv
    have h1 : 1 ≤ len := by omega
    clear hb hp hl hv hbad
    by_cases hbig : 9223372036854775807 < le xs
    · have Hw : Hid (toUintV xs = (0, 24)) := Lib.hid (by rw [Hv.out, if_pos hbig])
      go_enter Try.func20, Try.ntmps20
      go_wp2_with (go_at_call 66; refine (lowFirst_any _ _ _ _ _ h h8).mono ?_; rintro e w' ⟨rfl, rfl⟩)
      go_ret2
      exact ⟨by rw [Hw.out]; rfl, rfl⟩
    · have Hw : Hid (toUintV xs = (le xs, 0)) := Lib.hid (by rw [Hv.out, if_neg hbig])
      go_enter Try.func20, Try.ntmps20
      go_wp2_with (go_at_call 66; refine (lowFirst_any _ _ _ _ _ h h8).mono ?_; rintro e w' ⟨rfl, rfl⟩)
      go_ret2
      exact ⟨by rw [Hw.out]; rfl, rfl⟩

set_option maxHeartbeats 400000 in
theorem toInt_any (a : Option Addr) (len cap : Nat) (xs : List Int) (w : World) (h : Rd w a len cap xs) :
    Calls Try.prog 22 #[.slice a len cap] w fun e w' => e = two (toIntV xs) ∧ w = w' := by
  have hb := le_bd xs h.hb
  have hl := h.hl
  by_cases hbad : len < 1 ∨ 8 < len
  · have Hv : Hid (toIntV xs = (0, 1)) := Lib.hid (by unfold toIntV; rw [if_pos (by omega)])
    clear hb hl h
    rcases hbad with hbad | hbad
    all_goals
      go_enter Try.func22, Try.ntmps22
      go_wp2
      go_ret2
      exact ⟨by rw [Hv.out]; rfl, rfl⟩
  · have h8 : len ≤ 8 := by omega
    have h1 : 1 ≤ len := by omega
    have hp := pow_bd len h8
    have hb1 : le xs < 18446744073709551616 := by rw [hl] at hb; omega
    have hb0 := hb.1
    have Hs := Lib.hid (sle_shift xs (by omega) (by omega) hb.1 hb.2)
    have Hl := Lib.hid hl
    have Hv : Hid (toIntV xs = (sle xs, 0)) := Lib.hid (by unfold toIntV; rw [if_neg (by omega)])
    clear hb hp hl hbad
    go_enter Try.func22, Try.ntmps22
    go_wp2_with (go_at_call 66; refine (lowFirst_any _ _ _ _ _ h h8).mono ?_; rintro e w' ⟨rfl, rfl⟩)
    go_ret2
    exact ⟨by rw [Hv.out, ← Hs.out, Hl.out]; rfl, rfl⟩
end Go.Proofs.Ytmfijcniaehooaa

/- What each kind of field writes. -/
import Derived.Test.YtmfijcniaehooaaWcheck
namespace Go.Proofs.Ytmfijcniaehooaa
set_option linter.unusedVariables false
open Go.RowKit

/-- A call that began in w came back in w' with bytes and an error. -/
def Gives (w : World) (err : Int) (bs : List Int) (e : Ending) (w' : World) : Prop :=
  ∃ a l c, e = .returned (.tuple #[.slice a l c, .int .i64 err]) ∧ Rd w' a l c bs ∧ Below w.heap.size w w'
theorem Gives.of_own {w w' : World} {err : Int} {bs : List Int} {e : Ending} {v : Value} {B : Nat} (he : e = .returned (.tuple #[v, .int .i64 err])) (ho : Own w' B v bs) (hb : Below w.heap.size w w') : Gives w err bs e w' := by
  obtain ⟨a, c, rfl, hr⟩ := ho.rd
  exact ⟨a, bs.length, c, he, hr, hb⟩
theorem Rd.nil (w : World) : Rd w none 0 0 [] := ⟨rfl, Nat.le_refl _, Nat.zero_le _, by simp, fun _ => rfl, by simp⟩

section
variable (n width : Int) (a : Option Addr) (len cap : Nat) (w : World) (h1 : -9223372036854775808 ≤ n) (h2 : n ≤ 9223372036854775807)
include h1 h2
set_option maxHeartbeats 400000 in
theorem wr1_any : Calls Try.prog 87 #[.agg #[.int .i64 n, .slice a len cap], .int .i64 width] w (Gives w (fixedE n width false) (fixedB n width false)) := by
  go_enter Try.func87, Try.ntmps87
  go_wp2_with (go_at_call 16; refine (uint_any _ _ _ h1 h2).mono ?_; rintro e w' ⟨v, rfl, ho, hb⟩)
  go_ret2
  exact Gives.of_own rfl (by assumption) (((Below.refl _ w).alloc (Nat.le_refl _) _).trans (Below.mono (by assumption) (by simp)))
set_option maxHeartbeats 400000 in
theorem wr2_any : Calls Try.prog 90 #[.agg #[.int .i64 n, .slice a len cap], .int .i64 width] w (Gives w (fixedE n width true) (fixedB n width true)) := by
  go_enter Try.func90, Try.ntmps90
  go_wp2_with (go_at_call 19; refine (int_any _ _ _ h1 h2).mono ?_; rintro e w' ⟨v, rfl, ho, hb⟩)
  go_ret2
  exact Gives.of_own rfl (by assumption) (((Below.refl _ w).alloc (Nat.le_refl _) _).trans (Below.mono (by assumption) (by simp)))
omit h1 in
set_option maxHeartbeats 400000 in
theorem wr3_any : Calls Try.prog 93 #[.agg #[.int .i64 n, .slice a len cap], .int .i64 width] w (Gives w (varE n) (varV n)) := by
  go_enter Try.func93, Try.ntmps93
  go_wp2_with (go_at_call 25; refine (var_any _ _ h2).mono ?_; rintro e w' ⟨v, rfl, ho, hb⟩)
  go_ret2
  exact Gives.of_own rfl (by assumption) (((Below.refl _ w).alloc (Nat.le_refl _) _).trans (Below.mono (by assumption) (by simp)))
end
section
variable (n width : Int) (a : Option Addr) (len cap : Nat) (xs : List Int) (w : World) (h : Rd w a len cap xs)
include h
def wr4E (width : Int) (xs : List Int) : Int := if (xs.length : Int) = width then 0 else 24
def wr4B (width : Int) (xs : List Int) : List Int := if (xs.length : Int) = width then xs else []
def wr5E (width : Int) (xs : List Int) : Int := if width < xs.length then 24 else textE xs
def wr5B (width : Int) (xs : List Int) : List Int := if width < xs.length then [] else textV xs
set_option maxHeartbeats 400000 in
theorem wr4_any : Calls Try.prog 95 #[.agg #[.int .i64 n, .slice a len cap], .int .i64 width] w (Gives w (wr4E width xs) (wr4B width xs)) := by
  have hl := h.hl
  by_cases hw : (len : Int) = width
  · have e1 : wr4E width xs = 0 := by unfold wr4E; rw [if_pos (by omega)]
    have e2 : wr4B width xs = xs := by unfold wr4B; rw [if_pos (by omega)]
    rw [e1, e2]
    have hb : (len : Int) ≤ width := by omega
    have hb' : width ≤ (len : Int) := by omega
    have H := Lib.hid h
    clear e1 e2 hw hl h
    go_enter Try.func95, Try.ntmps95
    go_wp2
    go_ret2
    exact ⟨_, _, _, rfl, H.out.below ((Below.refl _ w).alloc (Nat.le_refl _) _) (Nat.le_refl _), (Below.refl _ w).alloc (Nat.le_refl _) _⟩
  · have e1 : wr4E width xs = 24 := by unfold wr4E; rw [if_neg (by omega)]
    have e2 : wr4B width xs = [] := by unfold wr4B; rw [if_neg (by omega)]
    rw [e1, e2]
    have hb : ((len : Int) != width) = true := by simpa using hw
    clear e1 e2 hl h hw
    go_enter Try.func95, Try.ntmps95
    go_wp2
    go_ret2
    exact ⟨_, _, _, rfl, Rd.nil _, (Below.refl _ w).alloc (Nat.le_refl _) _⟩
set_option maxHeartbeats 400000 in
theorem wr5_any : Calls Try.prog 99 #[.agg #[.int .i64 n, .slice a len cap], .int .i64 width] w (Gives w (wr5E width xs) (wr5B width xs)) := by
  have hl := h.hl
  by_cases hw : width < (len : Int)
  · have e1 : wr5E width xs = 24 := by unfold wr5E; rw [if_pos (by omega)]
    have e2 : wr5B width xs = [] := by unfold wr5B; rw [if_pos (by omega)]
    rw [e1, e2]
    clear e1 e2 hl h
    go_enter Try.func99, Try.ntmps99
    go_wp2
    go_ret2
    exact ⟨_, _, _, rfl, Rd.nil _, (Below.refl _ w).alloc (Nat.le_refl _) _⟩
  · have e1 : wr5E width xs = textE xs := by unfold wr5E; rw [if_neg (by omega)]
    have e2 : wr5B width xs = textV xs := by unfold wr5B; rw [if_neg (by omega)]
    rw [e1, e2]
    have H := Lib.hid h
    clear e1 e2 hl h
    go_enter Try.func99, Try.ntmps99
    go_wp2_with (go_at_call 33; refine (text_any _ _ _ xs _ (H.out.below ((Below.refl _ w).alloc (Nat.le_refl _) _) (Nat.le_refl _))).mono ?_; rintro e w' ⟨v, rfl, ho, hb⟩)
    go_ret2
    exact Gives.of_own rfl (by assumption) (((Below.refl _ w).alloc (Nat.le_refl _) _).trans (Below.mono (by assumption) (by simp)))
end
end Go.Proofs.Ytmfijcniaehooaa

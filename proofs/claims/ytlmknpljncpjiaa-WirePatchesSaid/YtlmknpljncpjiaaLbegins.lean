/- Whether bytes begin with others. -/
import Derived.Test.YtlmknpljncpjiaaRvar
import Derived.Deep.QuietTactic
import Derived.BigQuiet
import Derived.RegionTactic
import Derived.ChangeAlike
namespace Go.Proofs.Ytlmknpljncpjiaa
set_option linter.unusedVariables false
open Go.RowKit

theorem Rd.take {w : World} {a : Option Addr} {len cap : Nat} {xs : List Int} (h : Rd w a len cap xs) (m : Nat) (hm : m ≤ len) : Rd w a m cap (xs.take m) := by
  have hl := h.hl
  have hc := h.hc
  refine ⟨by simp [hl]; omega, by omega, h.hm, fun n hn => h.hb n (List.mem_of_mem_take hn), h.hn, fun h0 => ?_⟩
  obtain ⟨b, off, rfl, hcell⟩ := h.hr (by omega)
  refine ⟨b, off, rfl, fun i hi => ?_⟩
  rw [hcell i (by omega), getD_at _ _ (by omega), getD_at _ _ (by simp [hl]; omega)]
  simp
theorem Own.rdz {w : World} {B m : Nat} {v : Value} {xs : List Int} (h : Own w B v xs) (hm : xs.length = m) : ∃ a cap, v = .slice a m cap ∧ Rd w a m cap xs := by subst hm; exact h.rd
theorem Rd.drewN {w : World} {a : Option Addr} {len cap : Nat} {xs : List Int} (h : Rd w a len cap xs) (n : Nat) : Rd (w.drewN n) a len cap xs := ⟨h.hl, h.hc, h.hm, h.hb, h.hn, h.hr⟩
theorem Rd.drew {w : World} {a : Option Addr} {len cap : Nat} {xs : List Int} (h : Rd w a len cap xs) : Rd w.drew a len cap xs := ⟨h.hl, h.hc, h.hm, h.hb, h.hn, h.hr⟩
theorem str_eq {xs ys : List Int} (hx : ∀ n ∈ xs, 0 ≤ n ∧ n ≤ 255) (hy : ∀ n ∈ ys, 0 ≤ n ∧ n ≤ 255) : ((strOfNums xs).toList == (strOfNums ys).toList) = decide (xs = ys) := by
  by_cases hxy : xs = ys
  · subst hxy; simp
  · rw [decide_eq_false hxy]
    have : strOfNums xs ≠ strOfNums ys := fun hh => hxy (strOfNums_inj hx hy hh)
    rw [beq_eq_false_iff_ne]
    intro hh
    rw [ByteArray.toList_eq, ByteArray.toList_eq] at hh
    exact this (ByteArray.ext (Array.toList_inj.1 hh))
set_option maxRecDepth 100000 in
set_option maxHeartbeats 1000000 in
theorem begins_any (a : Option Addr) (len cap : Nat) (xs : List Int) (a2 : Option Addr) (len2 cap2 : Nat) (ys : List Int) (w : World) (h : Rd w a len cap xs) (h2 : Rd w a2 len2 cap2 ys) :
    Calls Try.prog 56 #[.slice a len cap, .slice a2 len2 cap2] w fun e w' => e = .returned (.bool (decide (ys <+: xs))) ∧ ∃ n, w' = w.drewN n := by
  have hl := h.hl
  have hl2 := h2.hl
  have hm := h.hm
  have hc := h.hc
  have hm2 := h2.hm
  unfold maxLen at hm hm2
  have hc2 := h2.hc
  by_cases hle : len2 ≤ len
  · have k1 := fun n => ((h.take len2 hle).drewN n).convAny
    have k2 := fun n => (h2.drewN n).convAny
    have he := str_eq (h.take len2 hle).hb h2.hb
    have hp : decide (xs.take len2 = ys) = decide (ys <+: xs) := by
      rw [decide_eq_decide, List.prefix_iff_eq_take, hl2]
      exact ⟨fun h => h.symm, fun h => h.symm⟩
    rw [hp] at he
    have He := Lib.hid he
    have hd : decide ((len2 : Int) ≤ (len : Int)) = true := by simp; omega
    clear he hp h h2 hl hl2
    have hle' : len2 ≤ cap := by omega
    go_enter Try.func56, Try.ntmps56
    go_wp2
    go_quiet (fail)
    go_wp2
    go_ret
    rw [← He.out]
    exact ⟨rfl, _, rfl⟩
  · have hp : decide (ys <+: xs) = false := by
      rw [decide_eq_false_iff_not]
      intro hh
      have := hh.length_le
      omega
    rw [hp]
    have hd : decide ((len2 : Int) ≤ (len : Int)) = false := by simp; omega
    clear h h2 hl hl2 hp
    go_enter Try.func56, Try.ntmps56
    go_wp2
    go_quiet (fail)
    go_wp2
    go_ret
    exact ⟨rfl, _, rfl⟩
end Go.Proofs.Ytlmknpljncpjiaa

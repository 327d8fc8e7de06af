/- lowFirst returns the number that the bytes are. -/
import Derived.Test.YtmfijcniaehooaaWbase
namespace Go.Proofs.Ytmfijcniaehooaa
set_option linter.unusedVariables false
open Go.RowKit
set_option maxHeartbeats 400000 in
theorem lowFirst_any (a : Option Addr) (len cap : Nat) (xs : List Int) (w : World) (h : Rd w a len cap xs) (h8 : len ≤ 8) :
    Calls Try.prog 66 #[.slice a len cap] w fun e w' => e = .returned (.int .u64 (le xs)) ∧ w = w' := by
  obtain ⟨hl, hc, hm, hb, hn, hr⟩ := h
  clear hn
  by_cases h0 : 0 < len
  · obtain ⟨b, off, rfl, hcell⟩ := hr h0
    clear hr
    unfold maxLen at hm
    go_enter Try.func66, Try.ntmps66
    go_wp2
    go_loop [3, 4, 5, 8] (fun t _ _ i => ∃ k : Nat, k ≤ len ∧ i = .int .i64 k ∧ t = .int .u64 (le (xs.take k)))
                 (fun _ _ _ i => len - (intOf i).toNat)
    case atStart => exact ⟨0, Nat.zero_le _, rfl, rfl⟩
    case round =>
      obtain ⟨k, hk, rfl, rfl⟩ := hrel
      by_cases hlt : k < len
      · have hc := hcell k hlt
        go_wp2
        go_round
        case rel => exact ⟨k + 1, by omega, by go_num, by rw [le_step xs k (by omega) (by omega) hb]⟩
        case measure => simp [intOf]; omega
      · have hfin : le (xs.take k) = le xs := by rw [List.take_of_length_le (by omega)]
        have Hfin := Lib.hid hfin
        clear hfin
        go_wp2
        go_ret
        exact ⟨by rw [Hfin.out]; rfl, rfl⟩
  · obtain rfl : len = 0 := by omega
    obtain rfl : xs = [] := by simpa using hl
    clear hb hl hr hc
    go_enter Try.func66, Try.ntmps66
    go_wp2
    refine wp_loop_rounds 1 ?_
    rw [rounds_succ]
    go_wp2
    go_ret
    exact ⟨rfl, rfl⟩
end Go.Proofs.Ytmfijcniaehooaa

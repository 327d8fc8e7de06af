/- Words out of bytes. -/
import Derived.Test.YtnlblmghhkmbbaaSrd
import Derived.Test.YtnlblmghhkmbbaaScrc
import Derived.Test.YtnlblmghhkmbbaaSrot
import Derived.Test.YtnlblmghhkmbbaaShelf
namespace Go.Proofs.Ytnlblmghhkmbbaa
set_option linter.unusedVariables false
open Go.RowKit

set_option maxRecDepth 100000 in
set_option maxHeartbeats 1000000 in
theorem sizeOf32 (w : World) : Calls Try.prog 94 #[] w fun e w' => e = .returned (.int .i64 4) ∧ w' = w := by
  go_enter Try.func94, Try.ntmps94
  go_wp2_with (go_at_call 97; refine (Try.bits_Len64 4294967295 w (by omega) (by omega)).mono ?_; rintro e w1 ⟨rfl, rfl⟩)
  go_ret
  exact ⟨by kernel_rfl, rfl⟩
/-- The first k bytes as a word, the least first. -/
def loadK (xs : List Int) : Nat → B32
  | 0 => 0#32
  | k + 1 => loadK xs k ||| (BitVec.ofInt 32 (xs.getD k 0) <<< (8 * k))
set_option maxRecDepth 100000 in
set_option maxHeartbeats 1000000 in
theorem load_any (a : Option Addr) (len cap : Nat) (xs : List Int) (w : World) (h : Rd w a len cap xs) (h4 : 4 ≤ len) :
    Calls Try.prog 79 #[.slice a len cap] w fun e w' => e = .returned (.int .u32 ((loadK xs 4).toNat : Int)) ∧ w' = w := by
  have hm := h.hm
  have hc := h.hc
  unfold maxLen at hm
  obtain ⟨b, off, rfl, hcell⟩ := h.hr (by omega)
  have H := Lib.hid h
  have HC := Lib.hid hcell
  clear h hcell
  go_enter Try.func79, Try.ntmps79
  go_wp2_with fail
  refine (sizeOf32 w).mono ?_
  rintro e w1 ⟨rfl, rfl⟩
  go_wp2_with fail
  go_loop [3, 6] (fun c i => ∃ k : Nat, k ≤ 4 ∧ i = .int .i64 k ∧ c = .int .u32 ((loadK xs k).toNat : Int)) (fun _ i => 4 - (intOf i).toNat)
  case atStart => exact ⟨0, Nat.zero_le _, rfl, rfl⟩
  case round =>
    obtain ⟨k, hk, rfl, rfl⟩ := hrel
    by_cases hlt : k < 4
    · have hl := H.out.hl
      have hc' := HC.out k (by omega)
      have hxb := H.out.hb (xs.getD k 0) (by rw [getD_at _ _ (by omega)]; exact List.getElem_mem _)
      obtain ⟨x, hx⟩ : ∃ x, x = xs.getD k 0 := ⟨_, rfl⟩
      have hs : loadK xs (k + 1) = loadK xs k ||| (BitVec.ofInt 32 x <<< (8 * k)) := by rw [hx]; rfl
      rw [← hx] at hc' hxb
      obtain ⟨y, hy⟩ : ∃ y, y = BitVec.ofInt 32 x := ⟨_, rfl⟩
      obtain rfl : x = (y.toNat : Int) := by rw [hy]; exact b_ofInt hxb.1 hxb.2
      obtain ⟨c, hcv⟩ : ∃ c, c = loadK xs k := ⟨_, rfl⟩
      rw [← hy, ← hcv] at hs
      rw [← hcv]
      have hsh := b_shl y (8 * k)
      obtain ⟨z, hz⟩ : ∃ z, z = y <<< (8 * k) := ⟨_, rfl⟩
      rw [← hz] at hsh hs
      have hor := b_or c z
      obtain ⟨d, hd⟩ : ∃ d, d = c ||| z := ⟨_, rfl⟩
      rw [← hd] at hor hs
      have HS := Lib.hid hs
      clear hx hy hcv hz hd hs hl
      have hk4 : k = 0 ∨ k = 1 ∨ k = 2 ∨ k = 3 := by omega
      clear hk
      rcases hk4 with rfl | rfl | rfl | rfl
      · simp only [Nat.mul_zero, Nat.reduceMul, Nat.mul_one, Nat.add_zero] at hsh hc'
        have e : (z.toNat : Int) = (y.toNat : Int) := by omega
        rw [e] at hor
        clear e hsh
        go_wp2_with fail
        go_round
        case rel => exact ⟨1, by omega, rfl, by rw [HS.out]⟩
        case measure => simp [intOf]
      · simp only [Nat.mul_zero, Nat.reduceMul, Nat.mul_one, Nat.add_zero] at hsh hc'
        have e : (z.toNat : Int) = (y.toNat : Int) * 256 := by omega
        rw [e] at hor
        clear e hsh
        go_wp2_with fail
        go_round
        case rel => exact ⟨2, by omega, rfl, by rw [HS.out]⟩
        case measure => simp [intOf]
      · simp only [Nat.mul_zero, Nat.reduceMul, Nat.mul_one, Nat.add_zero] at hsh hc'
        have e : (z.toNat : Int) = (y.toNat : Int) * 65536 := by omega
        rw [e] at hor
        clear e hsh
        go_wp2_with fail
        go_round
        case rel => exact ⟨3, by omega, rfl, by rw [HS.out]⟩
        case measure => simp [intOf]
      · simp only [Nat.mul_zero, Nat.reduceMul, Nat.mul_one, Nat.add_zero] at hsh hc'
        have e : (z.toNat : Int) = (y.toNat : Int) * 16777216 := by omega
        rw [e] at hor
        clear e hsh
        go_wp2_with fail
        go_round
        case rel => exact ⟨4, by omega, rfl, by rw [HS.out]⟩
        case measure => simp [intOf]
    · obtain rfl : k = 4 := by omega
      obtain ⟨c, hcv⟩ : ∃ c, c = loadK xs 4 := ⟨_, rfl⟩
      rw [← hcv]
      have Hcv := Lib.hid hcv
      clear hcv
      go_wp2_with fail
      go_ret
      exact ⟨by rw [← Hcv.out]; rfl, rfl⟩
end Go.Proofs.Ytnlblmghhkmbbaa

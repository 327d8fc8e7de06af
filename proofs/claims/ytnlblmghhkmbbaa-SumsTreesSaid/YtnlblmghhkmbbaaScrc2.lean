/- Crc of any bytes. -/
import Derived.Test.YtnlblmghhkmbbaaScrc
import Derived.Test.YtnlblmghhkmbbaaSrd
namespace Go.Proofs.Ytnlblmghhkmbbaa
set_option linter.unusedVariables false
open Go.RowKit

theorem reg_snoc (c : B32) (xs : List Int) (x : Int) : regV c (xs ++ [x]) = stepV (regV c xs) x := by unfold regV; rw [List.foldl_append]; rfl
theorem b_not (x : B32) : bits .xor .u32 IntKind.u32.max (x.toNat : Int) = ((~~~x).toNat : Int) := by
  have e : (4294967295#32 : B32) ^^^ x = ~~~x := BitVec.allOnes_xor
  rw [← e, ← b_xor]
  rfl
set_option maxRecDepth 100000 in
set_option maxHeartbeats 1000000 in
theorem crc_any (a : Option Addr) (len cap : Nat) (xs : List Int) (w : World) (h : Rd w a len cap xs) :
    Calls Try.prog 18 #[.slice a len cap] w fun e w' => e = .returned (.int .u32 ((crcV xs).toNat : Int)) ∧ Below w.heap.size w w' := by
  have hl := h.hl
  have hm := h.hm
  have hc := h.hc
  unfold maxLen at hm
  have H := Lib.hid h
  have Hl := Lib.hid hl
  clear h hl
  go_enter Try.func18, Try.ntmps18
  go_wp2_with fail
  refine (register_any w).mono ?_
  rintro e w1 ⟨rfl, hblk, hb⟩
  have H1 := Lib.hid (H.out.below hb (Nat.le_refl _))
  have HB := Lib.hid hblk
  have Hb := Lib.hid hb
  clear hblk hb H
  go_wp2_with fail
  go_loop [4, 10] (fun c i => ∃ k : Nat, k ≤ len ∧ i = .int .i64 k ∧ c = .int .u32 ((regV 0xFFFFFFFF#32 (xs.take k)).toNat : Int)) (fun _ i => len - (intOf i).toNat)
  case atStart => exact ⟨0, Nat.zero_le _, rfl, rfl⟩
  case round =>
    obtain ⟨k, hk, rfl, rfl⟩ := hrel
    by_cases hlt : k < len
    · have hl := Hl.out
      obtain ⟨b, off, rfl, hcell⟩ := H1.out.hr (by omega)
      have hc' := hcell k hlt
      have hxb := H1.out.hb (xs.getD k 0) (by rw [getD_at _ _ (by omega)]; exact List.getElem_mem _)
      have hs : regV 0xFFFFFFFF#32 (xs.take (k + 1)) = stepV (regV 0xFFFFFFFF#32 (xs.take k)) (xs.getD k 0) := by
        rw [take_snoc xs k (by omega), reg_snoc, getD_at _ _ (by omega)]
      obtain ⟨x, hx⟩ : ∃ x, x = xs.getD k 0 := ⟨_, rfl⟩
      obtain ⟨c, hcv⟩ : ∃ c, c = regV 0xFFFFFFFF#32 (xs.take k) := ⟨_, rfl⟩
      rw [← hx] at hc' hxb hs
      rw [← hcv] at hs ⊢
      have HS := Lib.hid hs
      clear hx hcv hcell hs hl
      go_wp2_with fail
      refine (step_any c x hxb.1 hxb.2 _ w1 HB.out).mono ?_
      rintro e u ⟨rfl, rfl⟩
      go_wp2_with fail
      go_round
      case rel => exact ⟨k + 1, by omega, by go_num, by rw [HS.out]⟩
      case measure => simp [intOf]; omega
    · have ht : xs.take k = xs := List.take_of_length_le (by rw [Hl.out]; omega)
      rw [ht]
      obtain ⟨c, hcv⟩ : ∃ c, c = regV 0xFFFFFFFF#32 xs := ⟨_, rfl⟩
      have HC : Hid (crcV xs = ~~~ c) := Lib.hid (by rw [hcv]; rfl)
      rw [← hcv]
      have hcb := b_bd c
      clear hcv ht
      go_wp2_with fail
      go_ret
      rw [HC.out]
      exact ⟨ret_int_ (b_not c), Hb.out⟩
end Go.Proofs.Ytnlblmghhkmbbaa

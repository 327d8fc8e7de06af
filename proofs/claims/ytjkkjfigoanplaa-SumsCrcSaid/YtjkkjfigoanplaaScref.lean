/- The reference's checksum: Step, Crc, applied. -/
import Derived.Test.YtjkkjfigoanplaaScrc2
import Derived.Test.YtjkkjfigoanplaaStimes
import Derived.Test.YtjkkjfigoanplaaSrot
namespace Go.Proofs.Ytjkkjfigoanplaa
set_option linter.unusedVariables false
open Go.RowKit

set_option maxRecDepth 100000 in
set_option maxHeartbeats 1000000 in
theorem stepR_any (c : B32) (x : Int) (hx0 : 0 ≤ x) (hx1 : x ≤ 255) (w : World) :
    Calls Try.prog 55 #[.int .u32 (c.toNat : Int), .int .u8 x] w fun e w' => e = .returned (.int .u32 ((stepV c x).toNat : Int)) ∧ w = w' := by
  have e1 : bits .xor .u32 (c.toNat : Int) x = ((c ^^^ BitVec.ofInt 32 x).toNat : Int) := by
    rw [← b_xor, ← b_ofInt hx0 hx1]
  obtain ⟨c1, hc1⟩ : ∃ c1, c1 = c ^^^ BitVec.ofInt 32 x := ⟨_, rfl⟩
  have hst : stepV c x = shifts 8 c1 := by rw [hc1]; rfl
  rw [← hc1] at e1
  have HS := Lib.hid hst
  clear hc1 hst
  go_enter Try.func55, Try.ntmps55
  go_wp2_with fail
  go_loop [0, 5, 6] (fun v i o => ∃ k : Nat, k ≤ 8 ∧ i = .int .i64 k ∧ v = .int .u32 ((shifts k c1).toNat : Int)) (fun _ i _ => 8 - (intOf i).toNat)
  case atStart => exact ⟨0, by omega, rfl, rfl⟩
  case round =>
    obtain ⟨k, hk, rfl, rfl⟩ := hrel
    by_cases hlt : k < 8
    · have hk8 : (k : Int) < 8 := by omega
      obtain ⟨d, hd⟩ : ∃ d, d = shifts k c1 := ⟨_, rfl⟩
      have hs : shifts (k + 1) c1 = shiftV d := by rw [hd, Nat.add_comm, Nat.add_comm, shifts_add 1 k]; rfl
      have hdiv := b_shr d 1
      have hdb := b_bd d
      rw [← hd]
      obtain ⟨h, hh⟩ : ∃ h, h = d >>> 1 := ⟨_, rfl⟩
      rw [← hh] at hdiv
      have hdiv : (d.toNat : Int) / 2 = (h.toNat : Int) := by rw [← hdiv]; rfl
      by_cases ho : d.toNat % 2 = 1
      · have ho2 : ((d.toNat : Int) % 2 == 1) = true := by simp; omega
        have hx := b_xor h polyB
        rw [show ((polyB.toNat : Nat) : Int) = 3252574743 from rfl] at hx
        obtain ⟨z, hz⟩ : ∃ z, z = h ^^^ polyB := ⟨_, rfl⟩
        rw [← hz] at hx
        have hsz : shifts (k + 1) c1 = z := by rw [hs, hz, hh]; unfold shiftV; rw [if_pos ho]
        have HZ := Lib.hid hsz
        clear hd hs hh hz hsz ho hk
        go_wp2_with fail
        go_round
        case rel => exact ⟨k + 1, by omega, by go_num, by rw [HZ.out]⟩
        case measure => simp [intOf]; omega
      · have ho2 : ((d.toNat : Int) % 2 == 1) = false := by simp; omega
        have hsz : shifts (k + 1) c1 = h := by rw [hs, hh]; unfold shiftV; rw [if_neg ho]
        have HZ := Lib.hid hsz
        clear hd hs hh hsz ho hk
        go_wp2_with fail
        go_round
        case rel => exact ⟨k + 1, by omega, by go_num, by rw [HZ.out]⟩
        case measure => simp [intOf]; omega
    · obtain rfl : k = 8 := by omega
      rw [← HS.out]
      obtain ⟨d, hd⟩ : ∃ d, d = stepV c x := ⟨_, rfl⟩
      rw [← hd]
      have HD := Lib.hid hd
      clear hd
      go_wp2_with fail
      go_ret
      exact ⟨ret_int_ (by rw [HD.out]), rfl⟩
set_option maxRecDepth 100000 in
set_option maxHeartbeats 1000000 in
theorem crcR_any (a : Option Addr) (len cap : Nat) (xs : List Int) (w : World) (h : Rd w a len cap xs) :
    Calls Try.prog 19 #[.slice a len cap] w fun e w' => e = .returned (.int .u32 ((crcV xs).toNat : Int)) ∧ w = w' := by
  have hl := h.hl
  have hm := h.hm
  have hc := h.hc
  unfold maxLen at hm
  have H1 := Lib.hid h
  have Hl := Lib.hid hl
  clear h hl
  go_enter Try.func19, Try.ntmps19
  go_wp2_with fail
  go_loop [3, 4] (fun c i => ∃ k : Nat, k ≤ len ∧ i = .int .i64 k ∧ c = .int .u32 ((regV 0xFFFFFFFF#32 (xs.take k)).toNat : Int)) (fun _ i => len - (intOf i).toNat)
  case atStart => exact ⟨0, Nat.zero_le _, rfl, rfl⟩
  case round =>
    obtain ⟨k, hk, rfl, rfl⟩ := hrel
    by_cases hlt : k < len
    · have hl := Hl.out
      obtain ⟨b, off, rfl, hcell⟩ := H1.out.hr (by omega)
      have hc' := hcell k hlt
      have hxb := H1.out.hb (xs.getD k 0) (by rw [getD_at _ _ (by omega)]; exact List.getElem_mem _)
      have hs : regV 0xFFFFFFFF#32 (xs.take (k + 1)) = stepV (regV 0xFFFFFFFF#32 (xs.take k)) (xs.getD k 0) := by
        rw [take_snoc xs k (by omega), reg_snoc, getD_at _ _ (by omega)]
      obtain ⟨x, hx⟩ : ∃ x, x = xs.getD k 0 := ⟨_, rfl⟩
      obtain ⟨c, hcv⟩ : ∃ c, c = regV 0xFFFFFFFF#32 (xs.take k) := ⟨_, rfl⟩
      rw [← hx] at hc' hxb hs
      rw [← hcv] at hs ⊢
      have HS := Lib.hid hs
      have hk0 : (0 : Int) ≤ (k : Int) := by omega
      have hkl : (k : Int) < (len : Int) := by omega
      clear hx hcv hcell hs hl
      go_wp2_with fail
      refine (stepR_any c x hxb.1 hxb.2 w).mono ?_
      rintro e u ⟨rfl, rfl⟩
      go_wp2_with fail
      go_round
      case rel => exact ⟨k + 1, by omega, by go_num, by rw [HS.out]⟩
      case measure => simp [intOf]; omega
    · have ht : xs.take k = xs := List.take_of_length_le (by rw [Hl.out]; omega)
      rw [ht]
      obtain ⟨c, hcv⟩ : ∃ c, c = regV 0xFFFFFFFF#32 xs := ⟨_, rfl⟩
      have HC : Hid (crcV xs = ~~~ c) := Lib.hid (by rw [hcv]; rfl)
      rw [← hcv]
      have hcb := b_bd c
      have hn := b_xor c 0xFFFFFFFF#32
      rw [show ((0xFFFFFFFF#32 : B32).toNat : Int) = 4294967295 from rfl] at hn
      have hall : c ^^^ 0xFFFFFFFF#32 = ~~~ c := by rw [BitVec.xor_comm]; exact BitVec.allOnes_xor
      rw [hall] at hn
      obtain ⟨d, hd⟩ : ∃ d, d = ~~~ c := ⟨_, rfl⟩
      rw [← hd] at hn
      have HD := Lib.hid hd
      clear hcv ht hd hall
      go_wp2_with fail
      go_ret
      exact ⟨ret_int_ (by rw [HC.out, ← HD.out]), rfl⟩
def bitW (i : Nat) : B32 := 1#32 <<< i
def matF (F : Nat → B32) (k : Nat) : Array Value := (Array.range 32).map fun i => if i < k then .int .u32 ((F i).toNat : Int) else .int .u32 0
theorem mat_size (F : Nat → B32) (k : Nat) : (matF F k).size = 32 := by unfold matF; simp
theorem mat_get (F : Nat → B32) (k i : Nat) (h : i < 32) : (matF F k)[i]? = some (if i < k then .int .u32 ((F i).toNat : Int) else .int .u32 0) := by
  unfold matF; simp [h]
theorem mat_set (F : Nat → B32) (k : Nat) (h : k < 32) (v : Value) (hv : v = .int .u32 ((F k).toNat : Int)) : (matF F k).setIfInBounds k v = matF F (k + 1) := by
  subst hv
  apply Array.ext_getElem?
  intro i
  have hs := mat_size F k
  have hs1 := mat_size F (k + 1)
  by_cases hi : i < 32
  · rw [mat_get F (k + 1) i hi, Array.getElem?_setIfInBounds]
    by_cases hk : k = i
    · subst hk
      rw [if_pos rfl, if_pos (by omega), if_pos (by omega)]
    · rw [if_neg hk, mat_get F k i hi]
      by_cases hlt : i < k
      · rw [if_pos hlt, if_pos (by omega)]
      · rw [if_neg hlt, if_neg (by omega)]
  · rw [Array.getElem?_eq_none (by simp; omega), Array.getElem?_eq_none (by omega)]
theorem mat_one (F : Nat → B32) (k : Nat) : (matF F k).all (fun x => x.oneCell') = true := by
  rw [Array.all_eq_true']
  intro x hx
  unfold matF at hx
  simp only [Array.mem_map] at hx
  obtain ⟨i, -, rfl⟩ := hx
  split <;> rfl
theorem sizeM (cs : Array Value) (h : cs.size = 32) : (Try.prog.info? 75).map (·.size) = some cs.size := by rw [h]; kernel_rfl
/-- The low bits of a word. -/
def lowV (c : B32) (i : Nat) : B32 := BitVec.ofNat 32 (c.toNat % 2 ^ i)
theorem low_bit (c : B32) (i j : Nat) (hj : j < 32) : (lowV c i).getLsbD j = (decide (j < i) && c.getLsbD j) := by
  unfold lowV
  rw [BitVec.getLsbD_ofNat, Nat.testBit_mod_two_pow, decide_eq_true hj, Bool.true_and]
  rfl
theorem bitW_bit (i j : Nat) (hi : i < 32) (hj : j < 32) : (bitW i).getLsbD j = decide (j = i) := by
  unfold bitW
  rw [BitVec.getLsbD_shiftLeft, decide_eq_true hj, Bool.true_and]
  by_cases h : j = i
  · subst h; simp
  · rw [decide_eq_false h]
    by_cases hlt : j < i
    · simp [hlt]
    · have : j - i ≠ 0 := by omega
      simp [hlt, BitVec.getLsbD_one, this]
theorem low_succ (c : B32) (i : Nat) (hi : i < 32) : lowV c (i + 1) = if c.getLsbD i then lowV c i ^^^ bitW i else lowV c i := by
  apply BitVec.eq_of_getLsbD_eq
  intro j hj
  rw [low_bit c (i + 1) j hj]
  by_cases hc : c.getLsbD i
  · rw [if_pos hc, BitVec.getLsbD_xor, low_bit c i j hj, bitW_bit i j hi hj]
    by_cases h : j = i
    · subst h; simp [hc]
    · by_cases hl : j < i
      · have : j < i + 1 := by omega
        simp [h, hl, this]
      · have : ¬ j < i + 1 := by omega
        simp [h, hl, this]
  · rw [if_neg hc, low_bit c i j hj]
    by_cases h : j = i
    · subst h; simp [hc]
    · by_cases hl : j < i
      · have : j < i + 1 := by omega
        simp [hl, this]
      · have : ¬ j < i + 1 := by omega
        simp [hl, this]
theorem low_all (c : B32) : lowV c 32 = c := by
  unfold lowV
  apply BitVec.eq_of_toNat_eq
  rw [BitVec.toNat_ofNat]
  have := c.isLt
  omega
theorem low_none (c : B32) : lowV c 0 = 0#32 := by unfold lowV; simp [Nat.mod_one]
theorem bit_div (c : B32) (i : Nat) : c.getLsbD i = decide (c.toNat / 2 ^ i % 2 = 1) := by
  show c.toNat.testBit i = _
  rw [Nat.testBit_eq_decide_div_mod_eq]
end Go.Proofs.Ytjkkjfigoanplaa

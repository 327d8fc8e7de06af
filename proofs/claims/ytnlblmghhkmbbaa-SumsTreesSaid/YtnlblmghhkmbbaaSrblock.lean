/- The reference's block, Start and ValidSponge. -/
import Derived.Test.YtnlblmghhkmbbaaSrperm
import Derived.Test.YtnlblmghhkmbbaaSabe
import Derived.Test.YtnlblmghhkmbbaaShand
import Derived.Test.YtnlblmghhkmbbaaScheck
import Derived.Test.YtnlblmghhkmbbaaSinv
import Derived.StillTailTactics
import Derived.Deep.MidRow
namespace Go.Proofs.Ytnlblmghhkmbbaa
set_option linter.unusedVariables false
open Go.RowKit Go.Shelf

def byteW (b : List Int) (i : Nat) : B32 := BitVec.ofInt 32 (b.getD i 0) <<< (8 * (i % 4))
/-- A state with the first bytes of a block taken in. -/
def bxor (s : St) (b : List Int) : Nat → St
  | 0 => s
  | i + 1 => upd (bxor s b i) (i / 4) (bxor s b i (i / 4) ^^^ byteW b i)
theorem updd (s : St) (j : Nat) (x y : B32) : upd (upd s j x) j y = upd s j y := by
  funext i; unfold upd; split <;> rfl
theorem upds (s : St) (j : Nat) (x : B32) : upd s j x j = x := by unfold upd; rw [if_pos rfl]
theorem bxor_succ (s : St) (b : List Int) (i j : Nat) (h : i / 4 = j) : bxor s b (i + 1) = upd (bxor s b i) j (bxor s b i j ^^^ byteW b i) := by subst h; rfl
theorem bxor_four (s : St) (b : List Int) (j : Nat) : bxor s b (4 * j + 4) = upd (bxor s b (4 * j)) j ((((bxor s b (4 * j) j ^^^ byteW b (4 * j)) ^^^ byteW b (4 * j + 1)) ^^^ byteW b (4 * j + 2)) ^^^ byteW b (4 * j + 3)) := by
  have e1 := bxor_succ s b (4 * j) j (by omega)
  have e2 := bxor_succ s b (4 * j + 1) j (by omega)
  have e3 := bxor_succ s b (4 * j + 2) j (by omega)
  have e4 := bxor_succ s b (4 * j + 3) j (by omega)
  rw [e1, updd, upds] at e2
  rw [e2, updd, upds] at e3
  rw [e3, updd, upds] at e4
  exact e4
theorem byte_bit (x : Int) (h0 : 0 ≤ x) (h1 : x ≤ 255) (k j : Nat) (hj : j < 32) : (BitVec.ofInt 32 x <<< k).getLsbD j = (decide (k ≤ j ∧ j < k + 8) && x.toNat.testBit (j - k)) := by
  obtain ⟨n, rfl⟩ : ∃ n : Nat, x = n := ⟨x.toNat, by omega⟩
  rw [BitVec.getLsbD_shiftLeft, decide_eq_true hj, Bool.true_and, Int.toNat_natCast]
  have e : BitVec.ofInt 32 (n : Int) = BitVec.ofNat 32 n := by simp
  rw [e, BitVec.getLsbD_ofNat]
  by_cases hk : j < k
  · simp [hk, show ¬ (k ≤ j ∧ j < k + 8) by omega]
  · by_cases h8 : j < k + 8
    · simp [hk, show (k ≤ j ∧ j < k + 8) by omega, show j - k < 32 by omega]
    · have hb : n.testBit (j - k) = false := by
        apply Nat.testBit_lt_two_pow
        calc n < 2 ^ 8 := by omega
          _ ≤ 2 ^ (j - k) := Nat.pow_le_pow_right (by omega) (by omega)
      simp [hb]
theorem word_xor (l : List Int) (hl : ∀ i, 0 ≤ l.getD i 0 ∧ l.getD i 0 ≤ 255) : loadK l 4 = ((BitVec.ofInt 32 (l.getD 0 0) <<< 0 ^^^ BitVec.ofInt 32 (l.getD 1 0) <<< 8) ^^^ BitVec.ofInt 32 (l.getD 2 0) <<< 16) ^^^ BitVec.ofInt 32 (l.getD 3 0) <<< 24 := by
  show ((((0#32 ||| (BitVec.ofInt 32 (l.getD 0 0) <<< 0)) ||| (BitVec.ofInt 32 (l.getD 1 0) <<< 8)) ||| (BitVec.ofInt 32 (l.getD 2 0) <<< 16)) ||| (BitVec.ofInt 32 (l.getD 3 0) <<< 24)) = _
  apply BitVec.eq_of_getLsbD_eq
  intro j hj
  simp only [BitVec.getLsbD_or, BitVec.getLsbD_xor, byte_bit _ (hl 0).1 (hl 0).2 0 j hj, byte_bit _ (hl 1).1 (hl 1).2 8 j hj, byte_bit _ (hl 2).1 (hl 2).2 16 j hj, byte_bit _ (hl 3).1 (hl 3).2 24 j hj, BitVec.getLsbD_zero, Bool.false_or]
  have : j < 8 ∨ (8 ≤ j ∧ j < 16) ∨ (16 ≤ j ∧ j < 24) ∨ 24 ≤ j := by omega
  rcases this with h | h | h | h
  · simp [show (0 ≤ j ∧ j < 8) by omega, show ¬ (8 ≤ j ∧ j < 16) by omega, show ¬ (16 ≤ j ∧ j < 24) by omega, show ¬ (24 ≤ j ∧ j < 32) by omega]
  · simp [show ¬ (j < 8) by omega, show (8 ≤ j ∧ j < 16) by omega, show ¬ (16 ≤ j ∧ j < 24) by omega, show ¬ (24 ≤ j ∧ j < 32) by omega]
  · simp [show ¬ (j < 8) by omega, show ¬ (8 ≤ j ∧ j < 16) by omega, show (16 ≤ j ∧ j < 24) by omega, show ¬ (24 ≤ j ∧ j < 32) by omega]
  · simp [show ¬ (j < 8) by omega, show ¬ (8 ≤ j ∧ j < 16) by omega, show ¬ (16 ≤ j ∧ j < 24) by omega, show (24 ≤ j ∧ j < 32) by omega]
theorem getD_drop0 (b : List Int) (j k : Nat) : (b.drop j).getD k 0 = b.getD (j + k) 0 := by simp [List.getD]
theorem bxor_words (s : St) (b : List Int) (hb : ∀ n ∈ b, 0 ≤ n ∧ n ≤ 255) : ∀ j, bxor s b (4 * j) = xorW s b j
  | 0 => rfl
  | j + 1 => by
    have hg : ∀ i, 0 ≤ b.getD i 0 ∧ b.getD i 0 ≤ 255 := fun i => by
      by_cases hi : i < b.length
      · rw [getD_at b i hi]; exact hb _ (List.getElem_mem hi)
      · simp [List.getD, List.getElem?_eq_none (by omega : b.length ≤ i)]
    have ih := bxor_words s b hb j
    rw [Nat.mul_add, Nat.mul_one, bxor_four, ih, xorW]
    have hw := word_xor (b.drop (4 * j)) (fun i => by rw [getD_drop0]; exact hg _)
    rw [hw]
    simp only [getD_drop0, byteW]
    rw [show (4 * j) % 4 = 0 by omega, show (4 * j + 1) % 4 = 1 by omega, show (4 * j + 2) % 4 = 2 by omega, show (4 * j + 3) % 4 = 3 by omega]
    simp only [Nat.mul_zero, Nat.mul_one, Nat.add_zero, Nat.reduceMul, BitVec.xor_assoc]
theorem bxor_blk (s : St) (b : List Int) (hb : ∀ n ∈ b, 0 ≤ n ∧ n ≤ 255) : permV (bxor s b 16) = blkV s b := by
  have := bxor_words s b hb 4
  rw [show 4 * 4 = 16 from rfl] at this
  rw [this]; rfl
theorem byte_fact (x : Int) (h0 : 0 ≤ x) (h1 : x ≤ 255) (k : Nat) (hk : k ≤ 24) : ((BitVec.ofInt 32 x <<< k).toNat : Int) = x * 2 ^ k := by
  have hy := b_ofInt h0 h1
  have := b_shl (BitVec.ofInt 32 x) k
  rw [← this, ← hy]
  obtain ⟨n, rfl⟩ : ∃ n : Nat, x = n := ⟨x.toNat, by omega⟩
  have h2 : (2 : Nat) ^ k ≤ 2 ^ 24 := Nat.pow_le_pow_right (by omega) hk
  have h3 : n * 2 ^ k ≤ 255 * 2 ^ 24 := Nat.mul_le_mul (by omega) h2
  have h4 : ((n * 2 ^ k : Nat) : Int) = (n : Int) * 2 ^ k := by simp
  rw [← h4]
  omega
attribute [local irreducible] permV vals byteW bxor
set_option maxRecDepth 100000 in
set_option maxHeartbeats 8000000 in
theorem rblock_any (s : St) (a : Option Addr) (cap : Nat) (xs : List Int) (w : World) (h : Rd w a 16 cap xs) :
    Calls Try.prog 62 #[.agg (vals s), .slice a 16 cap] w fun e w' => e = .returned (.agg (vals (blkV s xs))) ∧ Below w.heap.size w w' := by
  obtain ⟨W0, hW0⟩ : ∃ W0, W0 = (w.alloc (.cells (vals s) 41)).alloc (.cells (vals (fun _ => 0#32)) 41) := ⟨_, rfl⟩
  have hg1 : Blk W0 w.heap.size 41 (vals s) := by rw [hW0]; exact (Below.heap_alloc _ _ _ (by simp)).trans (heap_new w _)
  have hg2 : Blk W0 (w.heap.size + 1) 41 (vals (fun _ => 0#32)) := by rw [hW0]; exact heap_alloc2_new w _ _
  have hb0 : Below w.heap.size w W0 := by rw [hW0]; exact ((Below.refl _ w).alloc (Nat.le_refl _) _).alloc (by simp) _
  have hs0 : W0.heap.size = w.heap.size + 2 := by rw [hW0]; simp
  have hm := h.hm
  unfold maxLen at hm
  have hc := h.hc
  obtain ⟨b, off, rfl, hcell⟩ := h.hr (by omega)
  rw [show vals (fun _ => 0#32) = #[.int .u32 0, .int .u32 0, .int .u32 0, .int .u32 0, .int .u32 0, .int .u32 0, .int .u32 0, .int .u32 0] from by unfold vals; rfl] at hW0
  have HW0 := Lib.hid hW0
  have Hg1 := Lib.hid hg1
  have Hg2 := Lib.hid hg2
  have Hb0 := Lib.hid hb0
  have Hs0 := Lib.hid hs0
  have H := Lib.hid h
  have HC := Lib.hid hcell
  clear hW0 hg1 hg2 hb0 hs0 h hcell
  go_enter Try.func62, Try.ntmps62
  go_upto_region 1 with fail
  rw [← HW0.out]
  clear HW0
  go_wp2_with fail
  go_loopw [5] (fun i wr => ∃ k : Nat, k ≤ 16 ∧ i = .int .i64 k ∧ Blk wr w.heap.size 41 (vals (bxor s xs k)) ∧ Blk wr (w.heap.size + 1) 41 (vals (fun _ => 0#32)) ∧ Below w.heap.size w wr) (fun i _ => 16 - (intOf i).toNat)
  case atStart => exact ⟨0, by omega, rfl, by unfold bxor; exact Hg1.out, Hg2.out, Hb0.out⟩
  case round =>
    obtain ⟨k, hk, rfl, hblk, hzero, hb⟩ := hrel
    by_cases hlt : k < 16
    · obtain ⟨τ, hτ⟩ : ∃ τ, τ = bxor s xs k := ⟨_, rfl⟩
      rw [← hτ] at hblk
      obtain ⟨x, hx⟩ : ∃ x, x = xs.getD k 0 := ⟨_, rfl⟩
      have hxb := H.out.hb (xs.getD k 0) (by rw [getD_at _ _ (by rw [H.out.hl]; exact hlt)]; exact List.getElem_mem _)
      rw [← hx] at hxb
      have hd := HC.out k hlt
      rw [← hx] at hd
      have hbw := World.block_lt_of_cell? w _ hd
      have hfact := byte_fact x hxb.1 hxb.2 (8 * (k % 4)) (by omega)
      obtain ⟨z, hz⟩ : ∃ z, z = BitVec.ofInt 32 x <<< (8 * (k % 4)) := ⟨_, rfl⟩
      rw [← hz] at hfact
      obtain ⟨t0, ht0⟩ : ∃ t, t = τ (k / 4) := ⟨_, rfl⟩
      have hxo := b_xor t0 z
      obtain ⟨y, hy⟩ : ∃ y, y = t0 ^^^ z := ⟨_, rfl⟩
      rw [← hy] at hxo
      have hnext : bxor s xs (k + 1) = upd τ (k / 4) y := by rw [bxor, ← hτ, hy, ht0, hz, hx]; unfold byteW; rfl
      have hset : (vals τ).setIfInBounds (k / 4) (.int .u32 (y.toNat : Int)) = vals (bxor s xs (k + 1)) := by rw [hnext]; exact vals_set τ (k / 4) y (by omega)
      obtain ⟨w9, hw9⟩ : ∃ w9, w9 = wr.drew := ⟨_, rfl⟩
      have hblk9 : Blk w9 w.heap.size 41 (vals τ) := by rw [hw9]; exact hblk
      have hz9 : Blk w9 (w.heap.size + 1) 41 (vals (fun _ => 0#32)) := by rw [hw9]; exact hzero
      have hb9 : Below w.heap.size w w9 := by rw [hw9]; exact hb.drew
      have q0 : w9.cell? ⟨w.heap.size, k / 4, none⟩ = some (.int .u32 (t0.toNat : Int)) := by rw [hblk9.cell (k / 4), vals_get τ (k / 4) (by omega), ht0]; rfl
      have f0 : w9.frozen? ⟨w.heap.size, k / 4, none⟩ = false := hblk9.frozen (k / 4)
      have d9 : w9.cell? ⟨b, off + k, none⟩ = some (.int .u8 x) := (hb9.cell (p := ⟨b, off + k, none⟩) hbw).trans hd
      have HSet := Lib.hid hset
      have HB := Lib.hid hblk9
      have HZ := Lib.hid hz9
      have Hb := Lib.hid hb9
      have Hw9 := Lib.hid hw9
      clear hτ hx hd hz ht0 hy hnext hset hw9 hblk9 hz9 hb9 hblk hzero hb
      have hk16 : k = 0 ∨ k = 1 ∨ k = 2 ∨ k = 3 ∨ k = 4 ∨ k = 5 ∨ k = 6 ∨ k = 7 ∨ k = 8 ∨ k = 9 ∨ k = 10 ∨ k = 11 ∨ k = 12 ∨ k = 13 ∨ k = 14 ∨ k = 15 := by omega
      clear hk hlt
      rcases hk16 with rfl | rfl | rfl | rfl | rfl | rfl | rfl | rfl | rfl | rfl | rfl | rfl | rfl | rfl | rfl | rfl
      · simp only [Nat.reduceDiv, Nat.reduceMod, Nat.reduceMul, Nat.reduceAdd, Nat.add_zero, Nat.zero_div, Nat.zero_mod, Nat.mul_zero, Int.reducePow, Int.pow_zero, Int.mul_one] at q0 f0 d9 hfact HSet
        rw [hfact] at hxo
        clear hfact
        have e0 : IntKind.i64.wrap 0 = 0 := by kernel_rfl
        have e1 : IntKind.i64.wrap 1 = 1 := by kernel_rfl
        have e2 : IntKind.i64.wrap 2 = 2 := by kernel_rfl
        have e3 : IntKind.i64.wrap 3 = 3 := by kernel_rfl
        have e8 : IntKind.i64.wrap 8 = 8 := by kernel_rfl
        have e16 : IntKind.i64.wrap 16 = 16 := by kernel_rfl
        have e24 : IntKind.i64.wrap 24 = 24 := by kernel_rfl
        have ex : IntKind.u32.wrap (x * 1) = x * 1 := IntWalk.u32_in _ (by omega)
        have ey : IntKind.u32.wrap x = x := IntWalk.u32_in _ (by omega)
        go_wp2_with fail
        refine wp_region_still_tail 17 (by kernel_rfl) (by kernel_rfl) ?_
        rw [show (({ wr with drawn := wr.drawn + 1 } : World)) = w9 from Hw9.out.symm]
        simp only [List.take_succ_cons, List.take_zero, List.drop_succ_cons, List.drop_zero]
        repeat still_step
        refine wpStill_nil ?_
        go_wp2_with fail
        go_roundw
        case rel => exact ⟨1, by omega, rfl, by rw [← HSet.out]; exact HB.out.set_ 0 _, HZ.out.other (by omega) _ _, Hb.out.setCell (Nat.le_refl _) _⟩
        case measure => simp [intOf]
      · simp only [Nat.reduceDiv, Nat.reduceMod, Nat.reduceMul, Nat.reduceAdd, Nat.add_zero, Nat.zero_div, Nat.zero_mod, Nat.mul_zero, Int.reducePow, Int.pow_zero, Int.mul_one] at q0 f0 d9 hfact HSet
        rw [hfact] at hxo
        clear hfact
        have e0 : IntKind.i64.wrap 0 = 0 := by kernel_rfl
        have e1 : IntKind.i64.wrap 1 = 1 := by kernel_rfl
        have e2 : IntKind.i64.wrap 2 = 2 := by kernel_rfl
        have e3 : IntKind.i64.wrap 3 = 3 := by kernel_rfl
        have e8 : IntKind.i64.wrap 8 = 8 := by kernel_rfl
        have e16 : IntKind.i64.wrap 16 = 16 := by kernel_rfl
        have e24 : IntKind.i64.wrap 24 = 24 := by kernel_rfl
        have ex : IntKind.u32.wrap (x * 256) = x * 256 := IntWalk.u32_in _ (by omega)
        have ey : IntKind.u32.wrap x = x := IntWalk.u32_in _ (by omega)
        go_wp2_with fail
        refine wp_region_still_tail 17 (by kernel_rfl) (by kernel_rfl) ?_
        rw [show (({ wr with drawn := wr.drawn + 1 } : World)) = w9 from Hw9.out.symm]
        simp only [List.take_succ_cons, List.take_zero, List.drop_succ_cons, List.drop_zero]
        repeat still_step
        refine wpStill_nil ?_
        go_wp2_with fail
        go_roundw
        case rel => exact ⟨2, by omega, rfl, by rw [← HSet.out]; exact HB.out.set_ 0 _, HZ.out.other (by omega) _ _, Hb.out.setCell (Nat.le_refl _) _⟩
        case measure => simp [intOf]
      · simp only [Nat.reduceDiv, Nat.reduceMod, Nat.reduceMul, Nat.reduceAdd, Nat.add_zero, Nat.zero_div, Nat.zero_mod, Nat.mul_zero, Int.reducePow, Int.pow_zero, Int.mul_one] at q0 f0 d9 hfact HSet
        rw [hfact] at hxo
        clear hfact
        have e0 : IntKind.i64.wrap 0 = 0 := by kernel_rfl
        have e1 : IntKind.i64.wrap 1 = 1 := by kernel_rfl
        have e2 : IntKind.i64.wrap 2 = 2 := by kernel_rfl
        have e3 : IntKind.i64.wrap 3 = 3 := by kernel_rfl
        have e8 : IntKind.i64.wrap 8 = 8 := by kernel_rfl
        have e16 : IntKind.i64.wrap 16 = 16 := by kernel_rfl
        have e24 : IntKind.i64.wrap 24 = 24 := by kernel_rfl
        have ex : IntKind.u32.wrap (x * 65536) = x * 65536 := IntWalk.u32_in _ (by omega)
        have ey : IntKind.u32.wrap x = x := IntWalk.u32_in _ (by omega)
        go_wp2_with fail
        refine wp_region_still_tail 17 (by kernel_rfl) (by kernel_rfl) ?_
        rw [show (({ wr with drawn := wr.drawn + 1 } : World)) = w9 from Hw9.out.symm]
        simp only [List.take_succ_cons, List.take_zero, List.drop_succ_cons, List.drop_zero]
        repeat still_step
        refine wpStill_nil ?_
        go_wp2_with fail
        go_roundw
        case rel => exact ⟨3, by omega, rfl, by rw [← HSet.out]; exact HB.out.set_ 0 _, HZ.out.other (by omega) _ _, Hb.out.setCell (Nat.le_refl _) _⟩
        case measure => simp [intOf]
      · simp only [Nat.reduceDiv, Nat.reduceMod, Nat.reduceMul, Nat.reduceAdd, Nat.add_zero, Nat.zero_div, Nat.zero_mod, Nat.mul_zero, Int.reducePow, Int.pow_zero, Int.mul_one] at q0 f0 d9 hfact HSet
        rw [hfact] at hxo
        clear hfact
        have e0 : IntKind.i64.wrap 0 = 0 := by kernel_rfl
        have e1 : IntKind.i64.wrap 1 = 1 := by kernel_rfl
        have e2 : IntKind.i64.wrap 2 = 2 := by kernel_rfl
        have e3 : IntKind.i64.wrap 3 = 3 := by kernel_rfl
        have e8 : IntKind.i64.wrap 8 = 8 := by kernel_rfl
        have e16 : IntKind.i64.wrap 16 = 16 := by kernel_rfl
        have e24 : IntKind.i64.wrap 24 = 24 := by kernel_rfl
        have ex : IntKind.u32.wrap (x * 16777216) = x * 16777216 := IntWalk.u32_in _ (by omega)
        have ey : IntKind.u32.wrap x = x := IntWalk.u32_in _ (by omega)
        go_wp2_with fail
        refine wp_region_still_tail 17 (by kernel_rfl) (by kernel_rfl) ?_
        rw [show (({ wr with drawn := wr.drawn + 1 } : World)) = w9 from Hw9.out.symm]
        simp only [List.take_succ_cons, List.take_zero, List.drop_succ_cons, List.drop_zero]
        repeat still_step
        refine wpStill_nil ?_
        go_wp2_with fail
        go_roundw
        case rel => exact ⟨4, by omega, rfl, by rw [← HSet.out]; exact HB.out.set_ 0 _, HZ.out.other (by omega) _ _, Hb.out.setCell (Nat.le_refl _) _⟩
        case measure => simp [intOf]
      · simp only [Nat.reduceDiv, Nat.reduceMod, Nat.reduceMul, Nat.reduceAdd, Nat.add_zero, Nat.zero_div, Nat.zero_mod, Nat.mul_zero, Int.reducePow, Int.pow_zero, Int.mul_one] at q0 f0 d9 hfact HSet
        rw [hfact] at hxo
        clear hfact
        have e0 : IntKind.i64.wrap 0 = 0 := by kernel_rfl
        have e1 : IntKind.i64.wrap 1 = 1 := by kernel_rfl
        have e2 : IntKind.i64.wrap 2 = 2 := by kernel_rfl
        have e3 : IntKind.i64.wrap 3 = 3 := by kernel_rfl
        have e8 : IntKind.i64.wrap 8 = 8 := by kernel_rfl
        have e16 : IntKind.i64.wrap 16 = 16 := by kernel_rfl
        have e24 : IntKind.i64.wrap 24 = 24 := by kernel_rfl
        have ex : IntKind.u32.wrap (x * 1) = x * 1 := IntWalk.u32_in _ (by omega)
        have ey : IntKind.u32.wrap x = x := IntWalk.u32_in _ (by omega)
        go_wp2_with fail
        refine wp_region_still_tail 17 (by kernel_rfl) (by kernel_rfl) ?_
        rw [show (({ wr with drawn := wr.drawn + 1 } : World)) = w9 from Hw9.out.symm]
        simp only [List.take_succ_cons, List.take_zero, List.drop_succ_cons, List.drop_zero]
        repeat still_step
        refine wpStill_nil ?_
        go_wp2_with fail
        go_roundw
        case rel => exact ⟨5, by omega, rfl, by rw [← HSet.out]; exact HB.out.set_ 1 _, HZ.out.other (by omega) _ _, Hb.out.setCell (Nat.le_refl _) _⟩
        case measure => simp [intOf]
      · simp only [Nat.reduceDiv, Nat.reduceMod, Nat.reduceMul, Nat.reduceAdd, Nat.add_zero, Nat.zero_div, Nat.zero_mod, Nat.mul_zero, Int.reducePow, Int.pow_zero, Int.mul_one] at q0 f0 d9 hfact HSet
        rw [hfact] at hxo
        clear hfact
        have e0 : IntKind.i64.wrap 0 = 0 := by kernel_rfl
        have e1 : IntKind.i64.wrap 1 = 1 := by kernel_rfl
        have e2 : IntKind.i64.wrap 2 = 2 := by kernel_rfl
        have e3 : IntKind.i64.wrap 3 = 3 := by kernel_rfl
        have e8 : IntKind.i64.wrap 8 = 8 := by kernel_rfl
        have e16 : IntKind.i64.wrap 16 = 16 := by kernel_rfl
        have e24 : IntKind.i64.wrap 24 = 24 := by kernel_rfl
        have ex : IntKind.u32.wrap (x * 256) = x * 256 := IntWalk.u32_in _ (by omega)
        have ey : IntKind.u32.wrap x = x := IntWalk.u32_in _ (by omega)
        go_wp2_with fail
        refine wp_region_still_tail 17 (by kernel_rfl) (by kernel_rfl) ?_
        rw [show (({ wr with drawn := wr.drawn + 1 } : World)) = w9 from Hw9.out.symm]
        simp only [List.take_succ_cons, List.take_zero, List.drop_succ_cons, List.drop_zero]
        repeat still_step
        refine wpStill_nil ?_
        go_wp2_with fail
        go_roundw
        case rel => exact ⟨6, by omega, rfl, by rw [← HSet.out]; exact HB.out.set_ 1 _, HZ.out.other (by omega) _ _, Hb.out.setCell (Nat.le_refl _) _⟩
        case measure => simp [intOf]
      · simp only [Nat.reduceDiv, Nat.reduceMod, Nat.reduceMul, Nat.reduceAdd, Nat.add_zero, Nat.zero_div, Nat.zero_mod, Nat.mul_zero, Int.reducePow, Int.pow_zero, Int.mul_one] at q0 f0 d9 hfact HSet
        rw [hfact] at hxo
        clear hfact
        have e0 : IntKind.i64.wrap 0 = 0 := by kernel_rfl
        have e1 : IntKind.i64.wrap 1 = 1 := by kernel_rfl
        have e2 : IntKind.i64.wrap 2 = 2 := by kernel_rfl
        have e3 : IntKind.i64.wrap 3 = 3 := by kernel_rfl
        have e8 : IntKind.i64.wrap 8 = 8 := by kernel_rfl
        have e16 : IntKind.i64.wrap 16 = 16 := by kernel_rfl
        have e24 : IntKind.i64.wrap 24 = 24 := by kernel_rfl
        have ex : IntKind.u32.wrap (x * 65536) = x * 65536 := IntWalk.u32_in _ (by omega)
        have ey : IntKind.u32.wrap x = x := IntWalk.u32_in _ (by omega)
        go_wp2_with fail
        refine wp_region_still_tail 17 (by kernel_rfl) (by kernel_rfl) ?_
        rw [show (({ wr with drawn := wr.drawn + 1 } : World)) = w9 from Hw9.out.symm]
        simp only [List.take_succ_cons, List.take_zero, List.drop_succ_cons, List.drop_zero]
        repeat still_step
        refine wpStill_nil ?_
        go_wp2_with fail
        go_roundw
        case rel => exact ⟨7, by omega, rfl, by rw [← HSet.out]; exact HB.out.set_ 1 _, HZ.out.other (by omega) _ _, Hb.out.setCell (Nat.le_refl _) _⟩
        case measure => simp [intOf]
      · simp only [Nat.reduceDiv, Nat.reduceMod, Nat.reduceMul, Nat.reduceAdd, Nat.add_zero, Nat.zero_div, Nat.zero_mod, Nat.mul_zero, Int.reducePow, Int.pow_zero, Int.mul_one] at q0 f0 d9 hfact HSet
        rw [hfact] at hxo
        clear hfact
        have e0 : IntKind.i64.wrap 0 = 0 := by kernel_rfl
        have e1 : IntKind.i64.wrap 1 = 1 := by kernel_rfl
        have e2 : IntKind.i64.wrap 2 = 2 := by kernel_rfl
        have e3 : IntKind.i64.wrap 3 = 3 := by kernel_rfl
        have e8 : IntKind.i64.wrap 8 = 8 := by kernel_rfl
        have e16 : IntKind.i64.wrap 16 = 16 := by kernel_rfl
        have e24 : IntKind.i64.wrap 24 = 24 := by kernel_rfl
        have ex : IntKind.u32.wrap (x * 16777216) = x * 16777216 := IntWalk.u32_in _ (by omega)
        have ey : IntKind.u32.wrap x = x := IntWalk.u32_in _ (by omega)
        go_wp2_with fail
        refine wp_region_still_tail 17 (by kernel_rfl) (by kernel_rfl) ?_
        rw [show (({ wr with drawn := wr.drawn + 1 } : World)) = w9 from Hw9.out.symm]
        simp only [List.take_succ_cons, List.take_zero, List.drop_succ_cons, List.drop_zero]
        repeat still_step
        refine wpStill_nil ?_
        go_wp2_with fail
        go_roundw
        case rel => exact ⟨8, by omega, rfl, by rw [← HSet.out]; exact HB.out.set_ 1 _, HZ.out.other (by omega) _ _, Hb.out.setCell (Nat.le_refl _) _⟩
        case measure => simp [intOf]
      · simp only [Nat.reduceDiv, Nat.reduceMod, Nat.reduceMul, Nat.reduceAdd, Nat.add_zero, Nat.zero_div, Nat.zero_mod, Nat.mul_zero, Int.reducePow, Int.pow_zero, Int.mul_one] at q0 f0 d9 hfact HSet
        rw [hfact] at hxo
        clear hfact
        have e0 : IntKind.i64.wrap 0 = 0 := by kernel_rfl
        have e1 : IntKind.i64.wrap 1 = 1 := by kernel_rfl
        have e2 : IntKind.i64.wrap 2 = 2 := by kernel_rfl
        have e3 : IntKind.i64.wrap 3 = 3 := by kernel_rfl
        have e8 : IntKind.i64.wrap 8 = 8 := by kernel_rfl
        have e16 : IntKind.i64.wrap 16 = 16 := by kernel_rfl
        have e24 : IntKind.i64.wrap 24 = 24 := by kernel_rfl
        have ex : IntKind.u32.wrap (x * 1) = x * 1 := IntWalk.u32_in _ (by omega)
        have ey : IntKind.u32.wrap x = x := IntWalk.u32_in _ (by omega)
        go_wp2_with fail
        refine wp_region_still_tail 17 (by kernel_rfl) (by kernel_rfl) ?_
        rw [show (({ wr with drawn := wr.drawn + 1 } : World)) = w9 from Hw9.out.symm]
        simp only [List.take_succ_cons, List.take_zero, List.drop_succ_cons, List.drop_zero]
        repeat still_step
        refine wpStill_nil ?_
        go_wp2_with fail
        go_roundw
        case rel => exact ⟨9, by omega, rfl, by rw [← HSet.out]; exact HB.out.set_ 2 _, HZ.out.other (by omega) _ _, Hb.out.setCell (Nat.le_refl _) _⟩
        case measure => simp [intOf]
      · simp only [Nat.reduceDiv, Nat.reduceMod, Nat.reduceMul, Nat.reduceAdd, Nat.add_zero, Nat.zero_div, Nat.zero_mod, Nat.mul_zero, Int.reducePow, Int.pow_zero, Int.mul_one] at q0 f0 d9 hfact HSet
        rw [hfact] at hxo
        clear hfact
        have e0 : IntKind.i64.wrap 0 = 0 := by kernel_rfl
        have e1 : IntKind.i64.wrap 1 = 1 := by kernel_rfl
        have e2 : IntKind.i64.wrap 2 = 2 := by kernel_rfl
        have e3 : IntKind.i64.wrap 3 = 3 := by kernel_rfl
        have e8 : IntKind.i64.wrap 8 = 8 := by kernel_rfl
        have e16 : IntKind.i64.wrap 16 = 16 := by kernel_rfl
        have e24 : IntKind.i64.wrap 24 = 24 := by kernel_rfl
        have ex : IntKind.u32.wrap (x * 256) = x * 256 := IntWalk.u32_in _ (by omega)
        have ey : IntKind.u32.wrap x = x := IntWalk.u32_in _ (by omega)
        go_wp2_with fail
        refine wp_region_still_tail 17 (by kernel_rfl) (by kernel_rfl) ?_
        rw [show (({ wr with drawn := wr.drawn + 1 } : World)) = w9 from Hw9.out.symm]
        simp only [List.take_succ_cons, List.take_zero, List.drop_succ_cons, List.drop_zero]
        repeat still_step
        refine wpStill_nil ?_
        go_wp2_with fail
        go_roundw
        case rel => exact ⟨10, by omega, rfl, by rw [← HSet.out]; exact HB.out.set_ 2 _, HZ.out.other (by omega) _ _, Hb.out.setCell (Nat.le_refl _) _⟩
        case measure => simp [intOf]
      · simp only [Nat.reduceDiv, Nat.reduceMod, Nat.reduceMul, Nat.reduceAdd, Nat.add_zero, Nat.zero_div, Nat.zero_mod, Nat.mul_zero, Int.reducePow, Int.pow_zero, Int.mul_one] at q0 f0 d9 hfact HSet
        rw [hfact] at hxo
        clear hfact
        have e0 : IntKind.i64.wrap 0 = 0 := by kernel_rfl
        have e1 : IntKind.i64.wrap 1 = 1 := by kernel_rfl
        have e2 : IntKind.i64.wrap 2 = 2 := by kernel_rfl
        have e3 : IntKind.i64.wrap 3 = 3 := by kernel_rfl
        have e8 : IntKind.i64.wrap 8 = 8 := by kernel_rfl
        have e16 : IntKind.i64.wrap 16 = 16 := by kernel_rfl
        have e24 : IntKind.i64.wrap 24 = 24 := by kernel_rfl
        have ex : IntKind.u32.wrap (x * 65536) = x * 65536 := IntWalk.u32_in _ (by omega)
        have ey : IntKind.u32.wrap x = x := IntWalk.u32_in _ (by omega)
        go_wp2_with fail
        refine wp_region_still_tail 17 (by kernel_rfl) (by kernel_rfl) ?_
        rw [show (({ wr with drawn := wr.drawn + 1 } : World)) = w9 from Hw9.out.symm]
        simp only [List.take_succ_cons, List.take_zero, List.drop_succ_cons, List.drop_zero]
        repeat still_step
        refine wpStill_nil ?_
        go_wp2_with fail
        go_roundw
        case rel => exact ⟨11, by omega, rfl, by rw [← HSet.out]; exact HB.out.set_ 2 _, HZ.out.other (by omega) _ _, Hb.out.setCell (Nat.le_refl _) _⟩
        case measure => simp [intOf]
      · simp only [Nat.reduceDiv, Nat.reduceMod, Nat.reduceMul, Nat.reduceAdd, Nat.add_zero, Nat.zero_div, Nat.zero_mod, Nat.mul_zero, Int.reducePow, Int.pow_zero, Int.mul_one] at q0 f0 d9 hfact HSet
        rw [hfact] at hxo
        clear hfact
        have e0 : IntKind.i64.wrap 0 = 0 := by kernel_rfl
        have e1 : IntKind.i64.wrap 1 = 1 := by kernel_rfl
        have e2 : IntKind.i64.wrap 2 = 2 := by kernel_rfl
        have e3 : IntKind.i64.wrap 3 = 3 := by kernel_rfl
        have e8 : IntKind.i64.wrap 8 = 8 := by kernel_rfl
        have e16 : IntKind.i64.wrap 16 = 16 := by kernel_rfl
        have e24 : IntKind.i64.wrap 24 = 24 := by kernel_rfl
        have ex : IntKind.u32.wrap (x * 16777216) = x * 16777216 := IntWalk.u32_in _ (by omega)
        have ey : IntKind.u32.wrap x = x := IntWalk.u32_in _ (by omega)
        go_wp2_with fail
        refine wp_region_still_tail 17 (by kernel_rfl) (by kernel_rfl) ?_
        rw [show (({ wr with drawn := wr.drawn + 1 } : World)) = w9 from Hw9.out.symm]
        simp only [List.take_succ_cons, List.take_zero, List.drop_succ_cons, List.drop_zero]
        repeat still_step
        refine wpStill_nil ?_
        go_wp2_with fail
        go_roundw
        case rel => exact ⟨12, by omega, rfl, by rw [← HSet.out]; exact HB.out.set_ 2 _, HZ.out.other (by omega) _ _, Hb.out.setCell (Nat.le_refl _) _⟩
        case measure => simp [intOf]
      · simp only [Nat.reduceDiv, Nat.reduceMod, Nat.reduceMul, Nat.reduceAdd, Nat.add_zero, Nat.zero_div, Nat.zero_mod, Nat.mul_zero, Int.reducePow, Int.pow_zero, Int.mul_one] at q0 f0 d9 hfact HSet
        rw [hfact] at hxo
        clear hfact
        have e0 : IntKind.i64.wrap 0 = 0 := by kernel_rfl
        have e1 : IntKind.i64.wrap 1 = 1 := by kernel_rfl
        have e2 : IntKind.i64.wrap 2 = 2 := by kernel_rfl
        have e3 : IntKind.i64.wrap 3 = 3 := by kernel_rfl
        have e8 : IntKind.i64.wrap 8 = 8 := by kernel_rfl
        have e16 : IntKind.i64.wrap 16 = 16 := by kernel_rfl
        have e24 : IntKind.i64.wrap 24 = 24 := by kernel_rfl
        have ex : IntKind.u32.wrap (x * 1) = x * 1 := IntWalk.u32_in _ (by omega)
        have ey : IntKind.u32.wrap x = x := IntWalk.u32_in _ (by omega)
        go_wp2_with fail
        refine wp_region_still_tail 17 (by kernel_rfl) (by kernel_rfl) ?_
        rw [show (({ wr with drawn := wr.drawn + 1 } : World)) = w9 from Hw9.out.symm]
        simp only [List.take_succ_cons, List.take_zero, List.drop_succ_cons, List.drop_zero]
        repeat still_step
        refine wpStill_nil ?_
        go_wp2_with fail
        go_roundw
        case rel => exact ⟨13, by omega, rfl, by rw [← HSet.out]; exact HB.out.set_ 3 _, HZ.out.other (by omega) _ _, Hb.out.setCell (Nat.le_refl _) _⟩
        case measure => simp [intOf]
      · simp only [Nat.reduceDiv, Nat.reduceMod, Nat.reduceMul, Nat.reduceAdd, Nat.add_zero, Nat.zero_div, Nat.zero_mod, Nat.mul_zero, Int.reducePow, Int.pow_zero, Int.mul_one] at q0 f0 d9 hfact HSet
        rw [hfact] at hxo
        clear hfact
        have e0 : IntKind.i64.wrap 0 = 0 := by kernel_rfl
        have e1 : IntKind.i64.wrap 1 = 1 := by kernel_rfl
        have e2 : IntKind.i64.wrap 2 = 2 := by kernel_rfl
        have e3 : IntKind.i64.wrap 3 = 3 := by kernel_rfl
        have e8 : IntKind.i64.wrap 8 = 8 := by kernel_rfl
        have e16 : IntKind.i64.wrap 16 = 16 := by kernel_rfl
        have e24 : IntKind.i64.wrap 24 = 24 := by kernel_rfl
        have ex : IntKind.u32.wrap (x * 256) = x * 256 := IntWalk.u32_in _ (by omega)
        have ey : IntKind.u32.wrap x = x := IntWalk.u32_in _ (by omega)
        go_wp2_with fail
        refine wp_region_still_tail 17 (by kernel_rfl) (by kernel_rfl) ?_
        rw [show (({ wr with drawn := wr.drawn + 1 } : World)) = w9 from Hw9.out.symm]
        simp only [List.take_succ_cons, List.take_zero, List.drop_succ_cons, List.drop_zero]
        repeat still_step
        refine wpStill_nil ?_
        go_wp2_with fail
        go_roundw
        case rel => exact ⟨14, by omega, rfl, by rw [← HSet.out]; exact HB.out.set_ 3 _, HZ.out.other (by omega) _ _, Hb.out.setCell (Nat.le_refl _) _⟩
        case measure => simp [intOf]
      · simp only [Nat.reduceDiv, Nat.reduceMod, Nat.reduceMul, Nat.reduceAdd, Nat.add_zero, Nat.zero_div, Nat.zero_mod, Nat.mul_zero, Int.reducePow, Int.pow_zero, Int.mul_one] at q0 f0 d9 hfact HSet
        rw [hfact] at hxo
        clear hfact
        have e0 : IntKind.i64.wrap 0 = 0 := by kernel_rfl
        have e1 : IntKind.i64.wrap 1 = 1 := by kernel_rfl
        have e2 : IntKind.i64.wrap 2 = 2 := by kernel_rfl
        have e3 : IntKind.i64.wrap 3 = 3 := by kernel_rfl
        have e8 : IntKind.i64.wrap 8 = 8 := by kernel_rfl
        have e16 : IntKind.i64.wrap 16 = 16 := by kernel_rfl
        have e24 : IntKind.i64.wrap 24 = 24 := by kernel_rfl
        have ex : IntKind.u32.wrap (x * 65536) = x * 65536 := IntWalk.u32_in _ (by omega)
        have ey : IntKind.u32.wrap x = x := IntWalk.u32_in _ (by omega)
        go_wp2_with fail
        refine wp_region_still_tail 17 (by kernel_rfl) (by kernel_rfl) ?_
        rw [show (({ wr with drawn := wr.drawn + 1 } : World)) = w9 from Hw9.out.symm]
        simp only [List.take_succ_cons, List.take_zero, List.drop_succ_cons, List.drop_zero]
        repeat still_step
        refine wpStill_nil ?_
        go_wp2_with fail
        go_roundw
        case rel => exact ⟨15, by omega, rfl, by rw [← HSet.out]; exact HB.out.set_ 3 _, HZ.out.other (by omega) _ _, Hb.out.setCell (Nat.le_refl _) _⟩
        case measure => simp [intOf]
      · simp only [Nat.reduceDiv, Nat.reduceMod, Nat.reduceMul, Nat.reduceAdd, Nat.add_zero, Nat.zero_div, Nat.zero_mod, Nat.mul_zero, Int.reducePow, Int.pow_zero, Int.mul_one] at q0 f0 d9 hfact HSet
        rw [hfact] at hxo
        clear hfact
        have e0 : IntKind.i64.wrap 0 = 0 := by kernel_rfl
        have e1 : IntKind.i64.wrap 1 = 1 := by kernel_rfl
        have e2 : IntKind.i64.wrap 2 = 2 := by kernel_rfl
        have e3 : IntKind.i64.wrap 3 = 3 := by kernel_rfl
        have e8 : IntKind.i64.wrap 8 = 8 := by kernel_rfl
        have e16 : IntKind.i64.wrap 16 = 16 := by kernel_rfl
        have e24 : IntKind.i64.wrap 24 = 24 := by kernel_rfl
        have ex : IntKind.u32.wrap (x * 16777216) = x * 16777216 := IntWalk.u32_in _ (by omega)
        have ey : IntKind.u32.wrap x = x := IntWalk.u32_in _ (by omega)
        go_wp2_with fail
        refine wp_region_still_tail 17 (by kernel_rfl) (by kernel_rfl) ?_
        rw [show (({ wr with drawn := wr.drawn + 1 } : World)) = w9 from Hw9.out.symm]
        simp only [List.take_succ_cons, List.take_zero, List.drop_succ_cons, List.drop_zero]
        repeat still_step
        refine wpStill_nil ?_
        go_wp2_with fail
        go_roundw
        case rel => exact ⟨16, by omega, rfl, by rw [← HSet.out]; exact HB.out.set_ 3 _, HZ.out.other (by omega) _ _, Hb.out.setCell (Nat.le_refl _) _⟩
        case measure => simp [intOf]
    · obtain rfl : k = 16 := by omega
      obtain ⟨τ, hτ⟩ : ∃ τ, τ = bxor s xs 16 := ⟨_, rfl⟩
      have hbl := bxor_blk s xs H.out.hb
      rw [← hτ] at hblk hbl
      have HB := Lib.hid hblk
      have HZ := Lib.hid hzero
      have Hb := Lib.hid hb
      have Hbl := Lib.hid hbl
      have z1 := sizeSt τ
      clear hblk hzero hb hbl hτ
      go_wp2_with (refine list_load rfl 41 (.tmp 2) rfl w.heap.size rfl 41 (vals τ) (0, 0) _ HB.out Try.underlying41 rfl z1 ?_)
      refine (rpermute_any τ wr).mono ?_
      rintro e w1 ⟨rfl, hb1⟩
      have HZ1 := Lib.hid (HZ.out.below hb1 HZ.out.lt)
      have Hb1 := Lib.hid (Hb.out.trans (hb1.mono Hb.out.size))
      have z2 := sizeSt (permV τ)
      have z3 := oneSt (permV τ)
      have z4 : (vals (fun _ => 0#32)).size = (vals (permV τ)).size := by rw [vals_size, vals_size]
      clear hb1 z1 HZ HB
      go_wp2_with (refine wpList_store_row rfl 41 (.tmp 4) (.tmp 28) rfl (w.heap.size + 1) (vals (permV τ)) rfl rfl 41 (vals (fun _ => 0#32)) HZ1.out z2 z4 z3 ?_)
      refine bodyPost_ret (v := .agg (vals (permV τ))) ?_ rfl ⟨by rw [Hbl.out], ?_⟩
      · exact results_cell_row rfl _ _ (w.heap.size + 1) 41 (vals (permV τ)) (0, 0) _ rfl (setRow_heap _ _ _ _ _ _ HZ1.out) Try.underlying41 rfl z2
      · exact Hb1.out.trans (below_setRow _ _ _ _ (by omega))
end Go.Proofs.Ytnlblmghhkmbbaa

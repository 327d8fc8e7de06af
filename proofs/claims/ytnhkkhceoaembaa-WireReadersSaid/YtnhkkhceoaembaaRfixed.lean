/- The reference's Width and Fixed, told in plain values. -/
import Derived.Test.YtnhkkhceoaembaaRfits
namespace Go.Proofs.Ytnhkkhceoaembaa
set_option linter.unusedVariables false
open Go.RowKit

set_option maxRecDepth 100000 in
set_option maxHeartbeats 1000000 in
theorem refWidth_any (n : Int) (s : Bool) (w : World) (h1 : -9223372036854775808 ≤ n) (h2 : n ≤ 9223372036854775807) :
    Calls Try.prog 24 #[.int .i64 n, .bool s] w fun e w' => e = .returned (.int .i64 (widthV n s)) ∧ w = w' := by
  have hbd := widthV_bd n s
  obtain ⟨L, hL⟩ : ∃ L, L = widthV n s := ⟨_, rfl⟩
  rw [← hL] at hbd
  have HL := Lib.hid hL
  rw [← hL]
  clear hL
  go_enter Try.func24, Try.ntmps24
  go_wp2_with fail
  go_loopw [5] (fun i wr => ∃ k : Nat, 1 ≤ k ∧ k ≤ 9 ∧ i = .int .i64 k ∧ (L = 0 ∨ (k : Int) ≤ L) ∧ wr = w) (fun i _ => 10 - (intOf i).toNat)
  case atStart => exact ⟨1, by decide, by decide, rfl, by omega, rfl⟩
  case round =>
    obtain ⟨k, k1, k9, rfl, hk, rfl⟩ := hrel
    by_cases h8 : k ≤ 8
    · have e1 : (k : Int) ≤ 8 := by omega
      have e2 : (1 : Int) ≤ (k : Int) := by omega
      go_wp2_with fail
      refine (refFits_any n k s wr h1 h2 e2 e1).mono ?_
      rintro e u1 ⟨rfl, rfl⟩
      by_cases hf : L ≠ 0 ∧ L ≤ (k : Int)
      · have hv : fitsV n k s = true := by unfold fitsV; rw [← HL.out]; exact decide_eq_true hf
        have hLk : L = (k : Int) := by omega
        rw [hv]
        go_wp2_with fail
        go_ret
        exact ⟨ret_int hLk.symm, rfl⟩
      · have hv : fitsV n k s = false := by unfold fitsV; rw [← HL.out]; exact decide_eq_false hf
        rw [hv]
        have hk2 : L = 0 ∨ ((k : Int) + 1) ≤ L := by omega
        have Hk2 := Lib.hid hk2
        clear hf hk hk2
        go_wp2_with fail
        go_roundw
        case rel => exact ⟨k + 1, by omega, by omega, by go_num, by have := Hk2.out; omega, by first | trivial | rfl⟩
        case measure => simp [intOf]; omega
    · obtain rfl : k = 9 := by omega
      have h0 : L = 0 := by omega
      have H0 := Lib.hid h0
      clear h0 hk hbd
      go_wp2_with fail
      go_ret
      exact ⟨ret_int H0.out.symm, rfl⟩
theorem byte_at (n : Int) (h1 : -9223372036854775808 ≤ n) (h2 : n ≤ 9223372036854775807) (i : Nat) (hi : i < 8) : IntKind.u8.wrap (IntKind.u64.wrap n / 2 ^ (8 * i)) = n / 256 ^ i % 256 := by
  have : i = 0 ∨ i = 1 ∨ i = 2 ∨ i = 3 ∨ i = 4 ∨ i = 5 ∨ i = 6 ∨ i = 7 := by omega
  rcases this with rfl | rfl | rfl | rfl | rfl | rfl | rfl | rfl <;> simp only [IntKind.wrap_u64, IntKind.wrap_u8, Nat.reduceMul, Int.reducePow] <;> omega
theorem Own.rdz {w : World} {B : Nat} {v : Value} {xs : List Int} (h : Own w B v xs) {n : Nat} (hn : xs.length = n) : ∃ a cap, v = .slice a n cap ∧ Rd w a n cap xs := by
  subst hn; exact h.rd
set_option maxRecDepth 100000 in
set_option maxHeartbeats 1000000 in
theorem refFixed_any (n k : Int) (s : Bool) (w : World) (h1 : -9223372036854775808 ≤ n) (h2 : n ≤ 9223372036854775807) :
    Calls Try.prog 17 #[.int .i64 n, .int .i64 k, .bool s] w fun e w' => ∃ v, e = .returned (.agg #[v, .int .i64 (fixedB n k s).length, .int .i64 (fixedE n k s)]) ∧ Own w' w.heap.size v (fixedB n k s) ∧ Below w.heap.size w w' := by
  by_cases hw : k < 1 ∨ 8 < k
  · have hE : fixedE n k s = 1 := by unfold fixedE; rw [if_pos hw]
    have hB : fixedB n k s = [] := by unfold fixedB; rw [hE]; rfl
    rw [hE, hB]
    clear hE hB
    have hcase : k < 1 ∨ ¬ k < 1 ∧ 8 < k := by omega
    clear hw
    rcases hcase with hw | ⟨hw, hw2⟩
    · go_enter Try.func17, Try.ntmps17
      go_wp2_with fail
      refine bodyPost_ret (results_cell_row rfl _ _ w.heap.size 28 _ (0, 0) _ rfl (heap_alloc_last w _) Try.underlying28 rfl (Try.sizeRaw _ _ _)) rfl ⟨_, rfl, Own.nil _ _, (Below.refl _ w).alloc (Nat.le_refl _) _⟩
    · go_enter Try.func17, Try.ntmps17
      go_wp2_with fail
      refine bodyPost_ret (results_cell_row rfl _ _ w.heap.size 28 _ (0, 0) _ rfl (heap_alloc_last w _) Try.underlying28 rfl (Try.sizeRaw _ _ _)) rfl ⟨_, rfl, Own.nil _ _, (Below.refl _ w).alloc (Nat.le_refl _) _⟩
  · have e1 : (1 : Int) ≤ k := by omega
    have e2 : k ≤ 8 := by omega
    have e3 : ¬ k < 1 := by omega
    have e4 : ¬ 8 < k := by omega
    by_cases hf : widthV n s ≠ 0 ∧ widthV n s ≤ k
    · have hv : fitsV n k s = true := by unfold fitsV; exact decide_eq_true hf
      have hE : fixedE n k s = 0 := by unfold fixedE; rw [if_neg hw, if_neg (by omega)]
      have hB : fixedB n k s = bytesOf k.toNat n := by unfold fixedB; rw [if_pos hE]
      rw [hE, hB]
      have Hv := Lib.hid hv
      have HI := Lib.hid (info_parts Try.infoB)
      obtain ⟨W0, hW0⟩ : ∃ W0, W0 = w.alloc (.cells #[.slice none 0 0, .int .i64 0, .int .i64 0] 28) := ⟨_, rfl⟩
      have hg0 := heap_alloc_last w (.cells #[.slice none 0 0, .int .i64 0, .int .i64 0] 28)
      have hs0 : W0.heap.size = w.heap.size + 1 := by rw [hW0]; simp
      have Hb0 : Hid (Below w.heap.size w W0) := Lib.hid (by rw [hW0]; exact (Below.refl _ w).alloc (Nat.le_refl _) _)
      rw [← hW0] at hg0
      have Hg := Lib.hid hg0
      have HW0 := Lib.hid hW0
      clear hv hE hB hf hw hg0 hW0
      go_enter Try.func17, Try.ntmps17
      go_wp2_with fail
      rw [← HW0.out]
      clear HW0
      refine (refFits_any n k s W0 h1 h2 e1 e2).mono ?_
      rintro e u1 ⟨rfl, rfl⟩
      rw [Hv.out]
      go_wp2_with fail
      go_loopw [7, 8] (fun v i wr => ∃ (j : Nat), (j : Int) ≤ k ∧ i = .int .i64 j ∧ Own wr W0.heap.size v (bytesOf j n) ∧ Below W0.heap.size W0 wr) (fun _ i _ => 9 - (intOf i).toNat)
      case atStart => exact ⟨0, by omega, rfl, Own.nil _ _, Below.refl _ _⟩
      case round =>
        obtain ⟨j, hj, rfl, hown, hb⟩ := hrel
        have hB := hb.size
        have Hb := Lib.hid hb
        have Ho := Lib.hid hown
        have hal := bytesOf_length j n
        clear hb hown
        by_cases hlt : (j : Int) < k
        · have hby := byte_at n h1 h2 j (by omega)
          have hbd1 : 0 ≤ n / 256 ^ j % 256 := by omega
          have hbd2 : n / 256 ^ j % 256 ≤ 255 := by omega
          go_wp2_with (at_builtin; obtain ⟨i0, hi, hz0, hz1, hz2⟩ := HI.out; refine wpList_append_lies _ rfl _ _ 22 rfl W0.heap.size 5 i0 (.int .u8 0) 1 1 Try.underlying22 hi hz0 hz1 hz2 rfl (by decide) _ _ _ rfl (Ho.out.1.alloc _) ⟨wr.heap.size, 0, none⟩ 1 1 [.int .u8 (n / 256 ^ j % 256)] rfl rfl (World.news_of_block (cs := #[.int .u8 (n / 256 ^ j % 256)]) (t := 5) (fr := (0, 0)) (heap_alloc_new wr _)) (by simp [Value.oneCell']) (by omega) (by unfold maxLen; omega) (by omega) (by simp; omega) (wr.heap.size + 1) (by simp) ?_; clear hi hz0 hz1 hz2; intro g cap w3 hown hgrow hat hlt2; have hb3 := (Hb.out.alloc hB (.cells #[.int .u8 (n / 256 ^ j % 256)] 5)).grown hgrow (by simp; omega) (fun k hk => (Ho.out.1.lt k hk).1); have ho3 := own_snoc Ho.out hbd1 hbd2 hown; rw [← bytesOf_snoc] at ho3; have Hb3 := Lib.hid hb3; have Ho3 := Lib.hid ho3; clear hb3 ho3 hown hgrow)
          go_roundw
          case rel => exact ⟨j + 1, by omega, by go_num, by first | exact Ho3.out | (have h3 := Ho3.out; rw [hal] at h3; exact h3), Hb3.out⟩
          case measure => simp [intOf]; omega
        · obtain rfl : k = (j : Int) := by omega
          obtain ⟨a1, c1, rfl, _⟩ := Ho.out.rdz (n := j) hal
          have Hg3 := Lib.hid ((Hb.out.block w.heap.size (by omega)).trans Hg.out)
          go_wp2_with (refine wpList_store_row rfl 28 (.tmp 6) (.tmp 38) rfl w.heap.size #[.slice a1 j c1, .int .i64 j, .int .i64 0] rfl rfl 28 #[.slice none 0 0, .int .i64 0, .int .i64 0] Hg3.out (Try.sizeRaw _ _ _) rfl (oneRaw _ _ _ _ _) ?_)
          refine bodyPost_ret (results_cell_row rfl _ _ w.heap.size 28 _ (0, 0) _ rfl (setRow_heap _ _ _ _ _ _ Hg3.out) Try.underlying28 rfl (Try.sizeRaw _ _ _)) rfl ⟨.slice a1 j c1, ?_, ?_, (Hb0.out.trans (Hb.out.mono (by omega))).trans (below_setRow' _ _ _ _ (Nat.le_refl _))⟩
          · first | rfl | (rw [Int.toNat_natCast, hal]) | (simp; omega)
          · exact (Ho.out.setRow (by omega) _).mono (by omega)
    · have hv : fitsV n k s = false := by unfold fitsV; exact decide_eq_false hf
      have hE : fixedE n k s = 24 := by unfold fixedE; rw [if_neg hw, if_pos (by omega)]
      have hB : fixedB n k s = [] := by unfold fixedB; rw [hE]; rfl
      rw [hE, hB]
      have Hv := Lib.hid hv
      clear hv hE hB hf hw
      go_enter Try.func17, Try.ntmps17
      go_wp2_with fail
      refine (refFits_any n k s _ h1 h2 e1 e2).mono ?_
      rintro e u1 ⟨rfl, rfl⟩
      rw [Hv.out]
      go_wp2_with fail
      refine bodyPost_ret (results_cell_row rfl _ _ w.heap.size 28 _ (0, 0) _ rfl (heap_alloc_last w _) Try.underlying28 rfl (Try.sizeRaw _ _ _)) rfl ⟨_, rfl, Own.nil _ _, (Below.refl _ w).alloc (Nat.le_refl _) _⟩
end Go.Proofs.Ytnhkkhceoaembaa

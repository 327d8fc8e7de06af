/- The reference's rolling checksum. -/
import Derived.Test.YtjkkjfigoanplaaSroll
import Derived.Test.YtjkkjfigoanplaaSwin
import Derived.Test.YtjkkjfigoanplaaSslid
import Derived.Test.YtjkkjfigoanplaaShand
import Derived.StillTailTactics
import Derived.IntWalk
namespace Go.Proofs.Ytjkkjfigoanplaa
set_option linter.unusedVariables false
open Go.RowKit Go.Shelf

set_option maxRecDepth 100000 in
set_option maxHeartbeats 1000000 in
theorem rsum_any (a : Option Addr) (len cap : Nat) (xs : List Int) (w : World) (h : Rd w a len cap xs) :
    Calls Try.prog 25 #[.slice a len cap] w fun e w' => e = .returned (.agg #[.int .u32 (rollV xs).1, .int .u32 (rollV xs).2, .int .i64 len]) ∧ Below w.heap.size w w' := by
  have hl := h.hl
  have hm := h.hm
  have hc := h.hc
  unfold maxLen at hm
  obtain ⟨W0, hW0⟩ : ∃ W0, W0 = (w.alloc (.cells #[.int .u32 0, .int .u32 0, .int .i64 0] 31)).alloc (.cells #[.int .u32 0, .int .u32 0, .int .i64 (len : Int)] 31) := ⟨_, rfl⟩
  have hg1 : Blk W0 w.heap.size 31 #[.int .u32 0, .int .u32 0, .int .i64 0] := by
    rw [hW0]; exact (Below.heap_alloc _ _ _ (by simp)).trans (heap_new w _)
  have hg2 : Blk W0 (w.heap.size + 1) 31 #[.int .u32 0, .int .u32 0, .int .i64 (len : Int)] := by
    rw [hW0]; exact heap_alloc2_new w _ _
  have hb0 : Below w.heap.size w W0 := by rw [hW0]; exact ((Below.refl _ w).alloc (Nat.le_refl _) _).alloc (by simp) _
  have hs0 : W0.heap.size = w.heap.size + 2 := by rw [hW0]; simp
  have H := Lib.hid h
  have Hl := Lib.hid hl
  have HW0 := Lib.hid hW0
  have Hg1 := Lib.hid hg1
  have Hg2 := Lib.hid hg2
  have Hb0 := Lib.hid hb0
  have Hs0 := Lib.hid hs0
  clear h hl hW0 hg1 hg2 hb0 hs0
  go_enter Try.func25, Try.ntmps25
  go_wp2_with fail
  rw [← HW0.out]
  clear HW0
  go_loopw [4] (fun i wr => ∃ k : Nat, k ≤ len ∧ i = .int .i64 k ∧ Blk wr (w.heap.size + 1) 31 #[.int .u32 (rollV (xs.take k)).1, .int .u32 (rollV (xs.take k)).2, .int .i64 (len : Int)] ∧ Below (w.heap.size + 1) W0 wr) (fun i _ => len - (intOf i).toNat)
  case atStart => exact ⟨0, Nat.zero_le _, rfl, Hg2.out, Below.refl _ _⟩
  case round =>
    obtain ⟨k, hk, rfl, hblk, hb⟩ := hrel
    have hsz := hb.size
    rw [Hs0.out] at hsz
    by_cases hlt : k < len
    · have hl := Hl.out
      have hbw := Hb0.out.trans (hb.mono (by omega))
      have hR := H.out.below hbw (Nat.le_refl _)
      obtain ⟨b, off, rfl, hcell⟩ := hR.hr (by omega)
      have hc' := hcell k hlt
      have hxb := hR.hb (xs.getD k 0) (by rw [getD_at _ _ (by omega)]; exact List.getElem_mem _)
      have hs : rollV (xs.take (k + 1)) = rollS (rollV (xs.take k)) (xs.getD k 0) := by
        rw [take_snoc xs k (by omega), roll_snoc, getD_at _ _ (by omega)]
      have hbd := roll_bd (xs.take k)
      obtain ⟨x, hx⟩ : ∃ x, x = xs.getD k 0 := ⟨_, rfl⟩
      obtain ⟨p, hp⟩ : ∃ p, p = rollV (xs.take k) := ⟨_, rfl⟩
      rw [← hx] at hc' hxb hs
      rw [← hp] at hs hbd hblk
      obtain ⟨A, B⟩ := p
      obtain ⟨w9, hw9⟩ : ∃ w9, w9 = wr.drew := ⟨_, rfl⟩
      have hblk9 : Blk w9 (w.heap.size + 1) 31 #[.int .u32 A, .int .u32 B, .int .i64 (len : Int)] := by rw [hw9]; exact hblk
      have hb9 : Below (w.heap.size + 1) W0 w9 := by rw [hw9]; exact hb.drew
      have hc9 : w9.cell? ⟨b, off + k, none⟩ = some (.int .u8 x) := by rw [hw9]; exact hc'
      have q0 := hblk9.cell 0
      have q1 := hblk9.cell 1
      have q2 := hblk9.cell 2
      have f0 := hblk9.frozen 0
      have f1 := hblk9.frozen 1
      have f2 := hblk9.frozen 2
      simp only [List.getElem?_toArray, List.getElem?_cons_zero, List.getElem?_cons_succ] at q0 q1 q2
      have HS := Lib.hid hs
      have HB := Lib.hid hblk9
      have Hb := Lib.hid hb9
      have hlt2 : w.heap.size + 1 < w9.heap.size := hblk9.lt
      simp only at hbd
      obtain ⟨b1, b2, b3, b4⟩ := hbd
      obtain ⟨x1, x2⟩ := hxb
      have hk0 : (0 : Int) ≤ (k : Int) := by omega
      have hkl : (k : Int) < (len : Int) := by omega
      have Hw9 := Lib.hid hw9
      clear hx hp hcell hs hl hblk hb hbw hR hblk9 hb9 hc' hw9
      go_wp2_with fail
      have hw1 : IntKind.u32.wrap (A + x) = A + x := IntWalk.u32_in _ (by omega)
      refine wp_region_still_tail 10 (by kernel_rfl) (by kernel_rfl) ?_
      rw [show (({ wr with drawn := wr.drawn + 1 } : World)) = w9 from Hw9.out.symm]
      simp only [List.take_succ_cons, List.take_zero, List.drop_succ_cons, List.drop_zero]
      repeat still_step
      refine wpStill_nil ?_
      go_wp2_with fail
      go_roundw
      case rel => exact ⟨k + 1, by omega, by go_num, by rw [HS.out]; exact (HB.out.set_ 0 (.int .u32 ((A + x) % 65521))).set_ 1 (.int .u32 ((B + (A + x)) % 65521)), (Hb.out.setCell (Nat.le_refl _) _).setCell (Nat.le_refl _) _⟩
      case measure => simp [intOf]; omega
    · have ht : xs.take k = xs := List.take_of_length_le (by rw [Hl.out]; omega)
      rw [ht] at hblk
      obtain ⟨p, hp⟩ : ∃ p, p = rollV xs := ⟨_, rfl⟩
      have HP := Lib.hid hp
      rw [← hp] at hblk
      obtain ⟨A, B⟩ := p
      have q0 := hblk.cell 0
      have q1 := hblk.cell 1
      have q2 := hblk.cell 2
      simp only [List.getElem?_toArray, List.getElem?_cons_zero, List.getElem?_cons_succ] at q0 q1 q2
      have hg1 : Blk wr w.heap.size 31 #[.int .u32 0, .int .u32 0, .int .i64 0] := Hg1.out.below hb (by omega)
      have HB := Lib.hid hblk
      have HG := Lib.hid hg1
      have Hbw := Lib.hid (Hb0.out.trans (hb.mono (by omega)))
      clear hblk hb hp ht hg1
      go_wp2_with (refine wpList_store_row rfl 31 (.tmp 2) (.tmp 31) rfl w.heap.size #[.int .u32 A, .int .u32 B, .int .i64 (len : Int)] rfl rfl 31 #[.int .u32 0, .int .u32 0, .int .i64 0] HG.out (Try.sizeRoll _ _ _) rfl (oneRoll _ _ _) ?_)
      refine bodyPost_ret (v := .agg #[.int .u32 A, .int .u32 B, .int .i64 (len : Int)]) ?_ rfl ?_
      · exact results_cell_row rfl _ _ w.heap.size 31 #[.int .u32 A, .int .u32 B, .int .i64 (len : Int)] (0, 0) _ rfl (setRow_heap _ _ _ _ _ _ HG.out) Try.underlying31 rfl (Try.sizeRoll _ _ _)
      · rw [← HP.out]
        exact ⟨rfl, Hbw.out.trans (below_setRow _ _ _ _ (Nat.le_refl _))⟩
set_option maxRecDepth 100000 in
set_option maxHeartbeats 1000000 in
theorem rvalue_any (A B N : Int) (w : World) (a1 : 0 ≤ A) (a2 : A ≤ 4294967295) (b1 : 0 ≤ B) (b2 : B ≤ 4294967295) :
    Calls Try.prog 27 #[.agg #[.int .u32 A, .int .u32 B, .int .i64 N]] w fun e w' => e = .returned (.int .u32 (valueV A B)) ∧ Below w.heap.size w w' := by
  go_enter Try.func27, Try.ntmps27
  go_wp2
  go_ret
  exact ⟨ret_int_ (by unfold valueV; omega), (Below.refl _ w).alloc (Nat.le_refl _) _⟩
set_option maxRecDepth 100000 in
set_option maxHeartbeats 1000000 in
theorem vroll_yes (A B N : Int) (w : World) (a2 : A < 65521) (b2 : B < 65521) (n1 : 0 ≤ N) (n2 : N ≤ 2147483647) :
    Calls Try.prog 59 #[.agg #[.int .u32 A, .int .u32 B, .int .i64 N]] w fun e w' => e = .returned (.bool true) ∧ Below w.heap.size w w' := by
  go_enter Try.func59, Try.ntmps59
  go_wp2
  go_ret
  exact ⟨rfl, (Below.refl _ w).alloc (Nat.le_refl _) _⟩
set_option maxRecDepth 100000 in
set_option maxHeartbeats 1000000 in
theorem vroll_no (A B N : Int) (w : World) (h : ¬ (A < 65521 ∧ B < 65521 ∧ 0 ≤ N ∧ N ≤ 2147483647)) :
    Calls Try.prog 59 #[.agg #[.int .u32 A, .int .u32 B, .int .i64 N]] w fun e w' => e = .returned (.bool false) ∧ Below w.heap.size w w' := by
  have hc : ¬ A < 65521 ∨ (A < 65521 ∧ ¬ B < 65521) ∨ (A < 65521 ∧ B < 65521 ∧ ¬ 0 ≤ N) ∨ (A < 65521 ∧ B < 65521 ∧ 0 ≤ N ∧ ¬ N ≤ 2147483647) := by omega
  clear h
  rcases hc with g1 | ⟨g1, g2⟩ | ⟨g1, g2, g3⟩ | ⟨g1, g2, g3, g4⟩
  all_goals
    go_enter Try.func59, Try.ntmps59
    go_wp2
    go_ret
    exact ⟨rfl, (Below.refl _ w).alloc (Nat.le_refl _) _⟩
set_option maxRecDepth 100000 in
set_option maxHeartbeats 2000000 in
theorem rslide_bad (A B N out in_ : Int) (w : World) (a1 : 0 ≤ A) (a2 : A ≤ 4294967295) (b1 : 0 ≤ B) (b2 : B ≤ 4294967295) (h : rollOk A B N = false) :
    Calls Try.prog 21 #[.agg #[.int .u32 A, .int .u32 B, .int .i64 N], .int .u8 out, .int .u8 in_] w fun e w' => e = .returned (.tuple #[.agg #[.int .u32 0, .int .u32 0, .int .i64 0], .int .i64 1]) ∧ Below w.heap.size w w' := by
  unfold rollOk at h
  rw [decide_eq_false_iff_not] at h
  obtain ⟨W0, hW0⟩ : ∃ W0, W0 = (w.alloc (.cells #[.int .u32 A, .int .u32 B, .int .i64 N] 31)).alloc (.cells #[.int .u32 0, .int .u32 0, .int .i64 0] 31) := ⟨_, rfl⟩
  have hg1 : Blk W0 w.heap.size 31 #[.int .u32 A, .int .u32 B, .int .i64 N] := by rw [hW0]; exact (Below.heap_alloc _ _ _ (by simp)).trans (heap_new w _)
  have hg2 : Blk W0 (w.heap.size + 1) 31 #[.int .u32 0, .int .u32 0, .int .i64 0] := by rw [hW0]; exact heap_alloc2_new w _ _
  have hb0 : Below w.heap.size w W0 := by rw [hW0]; exact ((Below.refl _ w).alloc (Nat.le_refl _) _).alloc (by simp) _
  have hs0 : W0.heap.size = w.heap.size + 2 := by rw [hW0]; simp
  have p0 := hg1.cell 0
  have p1 := hg1.cell 1
  have p2 := hg1.cell 2
  simp only [List.getElem?_toArray, List.getElem?_cons_zero, List.getElem?_cons_succ] at p0 p1 p2
  have HW0 := Lib.hid hW0
  have Hg1 := Lib.hid hg1
  have Hg2 := Lib.hid hg2
  have Hb0 := Lib.hid hb0
  have Hs0 := Lib.hid hs0
  have h2 : w.heap.size + 1 < W0.heap.size := by omega
  clear hW0 hg1 hg2 hb0 hs0
  by_cases hv : A < 65521 ∧ B < 65521 ∧ 0 ≤ N ∧ N ≤ 2147483647
  · obtain rfl : N = 0 := by omega
    clear h
    go_enter Try.func21, Try.ntmps21
    go_upto_region 1 with fail
    rw [← HW0.out]
    go_wp2_with fail
    refine (vroll_yes A B 0 W0 hv.1 hv.2.1 hv.2.2.1 hv.2.2.2).mono ?_
    rintro e w1 ⟨rfl, hb⟩
    have hg3 := Hg2.out.below hb Hg2.out.lt
    have Hg3 := Lib.hid hg3
    have hq2 := (Hg1.out.below hb Hg1.out.lt).cell 2
    simp only [List.getElem?_toArray, List.getElem?_cons_zero, List.getElem?_cons_succ] at hq2
    have Hb := Lib.hid (Hb0.out.trans (hb.mono Hb0.out.size))
    have hs1 := hb.size
    clear hb hg3 HW0
    go_wp2_with (refine wpList_store_row rfl 31 (.tmp 6) (.tmp 19) rfl (w.heap.size + 1) #[.int .u32 0, .int .u32 0, .int .i64 0] rfl rfl 31 #[.int .u32 0, .int .u32 0, .int .i64 0] Hg3.out (Try.sizeRoll _ _ _) rfl (oneRoll _ _ _) ?_)
    have hg4 := setRow_heap w1 (w.heap.size + 1) _ #[.int .u32 0, .int .u32 0, .int .i64 0] _ _ Hg3.out
    have hb3 := Hb.out.trans (below_setRow w1 w.heap.size (w.heap.size + 1) #[.int .u32 0, .int .u32 0, .int .i64 0] (by omega))
    generalize w1.setRow (w.heap.size + 1) #[.int .u32 0, .int .u32 0, .int .i64 0] = w2 at *
    have q0 := cell_of_row w2 (w.heap.size + 1) 0 _ _ _ hg4
    have q1 := cell_of_row w2 (w.heap.size + 1) 1 _ _ _ hg4
    have q2 := cell_of_row w2 (w.heap.size + 1) 2 _ _ _ hg4
    simp only [List.getElem?_toArray, List.getElem?_cons_zero, List.getElem?_cons_succ] at q0 q1 q2
    refine bodyPost_ret (v := .tuple #[.agg #[.int .u32 0, .int .u32 0, .int .i64 0], .int .i64 1]) ?_ rfl ⟨rfl, hb3⟩
    simp [results, Try.results21, go_sem, q0, q1, q2]
  · clear h
    go_enter Try.func21, Try.ntmps21
    go_upto_region 1 with fail
    rw [← HW0.out]
    go_wp2_with fail
    refine (vroll_no A B N W0 hv).mono ?_
    rintro e w1 ⟨rfl, hb⟩
    have hg3 := Hg2.out.below hb Hg2.out.lt
    have Hg3 := Lib.hid hg3
    have Hb := Lib.hid (Hb0.out.trans (hb.mono Hb0.out.size))
    have hs1 := hb.size
    clear hb hg3 HW0 hv
    go_wp2_with (refine wpList_store_row rfl 31 (.tmp 6) (.tmp 19) rfl (w.heap.size + 1) #[.int .u32 0, .int .u32 0, .int .i64 0] rfl rfl 31 #[.int .u32 0, .int .u32 0, .int .i64 0] Hg3.out (Try.sizeRoll _ _ _) rfl (oneRoll _ _ _) ?_)
    have hg4 := setRow_heap w1 (w.heap.size + 1) _ #[.int .u32 0, .int .u32 0, .int .i64 0] _ _ Hg3.out
    have hb3 := Hb.out.trans (below_setRow w1 w.heap.size (w.heap.size + 1) #[.int .u32 0, .int .u32 0, .int .i64 0] (by omega))
    generalize w1.setRow (w.heap.size + 1) #[.int .u32 0, .int .u32 0, .int .i64 0] = w2 at *
    have q0 := cell_of_row w2 (w.heap.size + 1) 0 _ _ _ hg4
    have q1 := cell_of_row w2 (w.heap.size + 1) 1 _ _ _ hg4
    have q2 := cell_of_row w2 (w.heap.size + 1) 2 _ _ _ hg4
    simp only [List.getElem?_toArray, List.getElem?_cons_zero, List.getElem?_cons_succ] at q0 q1 q2
    refine bodyPost_ret (v := .tuple #[.agg #[.int .u32 0, .int .u32 0, .int .i64 0], .int .i64 1]) ?_ rfl ⟨rfl, hb3⟩
    simp [results, Try.results21, go_sem, q0, q1, q2]
set_option maxRecDepth 100000 in
set_option maxHeartbeats 2000000 in
theorem rslide_ok (A B N out in_ : Int) (w : World) (a1 : 0 ≤ A) (b1 : 0 ≤ B) (o1 : 0 ≤ out) (o2 : out ≤ 255) (i1 : 0 ≤ in_) (i2 : in_ ≤ 255) (h : rollOk A B N = true) :
    Calls Try.prog 21 #[.agg #[.int .u32 A, .int .u32 B, .int .i64 N], .int .u8 out, .int .u8 in_] w fun e w' => e = .returned (.tuple #[.agg #[.int .u32 (slideA A out in_), .int .u32 (slideB A B N out in_), .int .i64 N], .int .i64 0]) ∧ Below w.heap.size w w' := by
  unfold rollOk at h
  rw [decide_eq_true_eq] at h
  obtain ⟨g1, g2, g3, g4⟩ := h
  obtain ⟨W0, hW0⟩ : ∃ W0, W0 = (w.alloc (.cells #[.int .u32 A, .int .u32 B, .int .i64 N] 31)).alloc (.cells #[.int .u32 0, .int .u32 0, .int .i64 0] 31) := ⟨_, rfl⟩
  have hg1 : Blk W0 w.heap.size 31 #[.int .u32 A, .int .u32 B, .int .i64 N] := by rw [hW0]; exact (Below.heap_alloc _ _ _ (by simp)).trans (heap_new w _)
  have hg2 : Blk W0 (w.heap.size + 1) 31 #[.int .u32 0, .int .u32 0, .int .i64 0] := by rw [hW0]; exact heap_alloc2_new w _ _
  have hb0 : Below w.heap.size w W0 := by rw [hW0]; exact ((Below.refl _ w).alloc (Nat.le_refl _) _).alloc (by simp) _
  have hs0 : W0.heap.size = w.heap.size + 2 := by rw [hW0]; simp
  have p0 := hg1.cell 0
  have p1 := hg1.cell 1
  have p2 := hg1.cell 2
  simp only [List.getElem?_toArray, List.getElem?_cons_zero, List.getElem?_cons_succ] at p0 p1 p2
  have hp1 : 0 ≤ N % 65521 * out := Int.mul_nonneg (by omega) o1
  have hp2 : N % 65521 * out ≤ 65521 * 255 := Int.mul_le_mul (by omega) o2 o1 (by omega)
  have hmm : N % 65521 * out % 65521 = N * out % 65521 := by rw [Int.mul_emod, Int.emod_emod_of_dvd _ (Int.dvd_refl _), ← Int.mul_emod]
  have hA : 0 ≤ slideA A out in_ ∧ slideA A out in_ < 65521 := by unfold slideA; omega
  have hB : 0 ≤ slideB A B N out in_ ∧ slideB A B N out in_ < 65521 := by unfold slideB; omega
  obtain ⟨M, hM⟩ : ∃ M, M = N % 65521 * out := ⟨_, rfl⟩
  obtain ⟨R, hR⟩ : ∃ R, R = N * out % 65521 := ⟨_, rfl⟩
  rw [← hM] at hp1 hp2 hmm
  rw [← hR] at hmm
  have hRb : 0 ≤ R ∧ R < 65521 := by omega
  have eA : (A + 65521 - out + in_) % 65521 = slideA A out in_ := by unfold slideA; omega
  obtain ⟨sA, hsA⟩ : ∃ s, s = slideA A out in_ := ⟨_, rfl⟩
  have eB : (B + 65521 - R + slideA A out in_) % 65521 = slideB A B N out in_ := by unfold slideB; rw [← hR]; omega
  obtain ⟨sB, hsB⟩ : ∃ s, s = slideB A B N out in_ := ⟨_, rfl⟩
  rw [← hsA] at eA eB hA ⊢
  rw [← hsB] at eB hB ⊢
  have hM' := hM.symm
  have HW0 := Lib.hid hW0
  have Hg1 := Lib.hid hg1
  have Hg2 := Lib.hid hg2
  have Hb0 := Lib.hid hb0
  have Hs0 := Lib.hid hs0
  have h2 : w.heap.size + 1 < W0.heap.size := by omega
  have g5 : (N == 0) = false := by simp; omega
  clear hW0 hg1 hg2 hb0 hs0 hM hR hsA hsB
  go_enter Try.func21, Try.ntmps21
  go_upto_region 1 with fail
  rw [← HW0.out]
  go_wp2_with fail
  refine (vroll_yes A B N W0 g1 g2 (by omega) g4).mono ?_
  rintro e w1 ⟨rfl, hb⟩
  have hg3 := Hg2.out.below hb Hg2.out.lt
  have Hg3 := Lib.hid hg3
  have hq := Hg1.out.below hb Hg1.out.lt
  have q0 := hq.cell 0
  have q1 := hq.cell 1
  have q2 := hq.cell 2
  simp only [List.getElem?_toArray, List.getElem?_cons_zero, List.getElem?_cons_succ] at q0 q1 q2
  have Hb := Lib.hid (Hb0.out.trans (hb.mono Hb0.out.size))
  have hs1 := hb.size
  clear hb hg3 HW0 hq p0 p1 p2
  go_wp2_with (refine wpList_store_row rfl 31 (.tmp 6) (.tmp 53) rfl (w.heap.size + 1) #[.int .u32 sA, .int .u32 sB, .int .i64 N] rfl rfl 31 #[.int .u32 0, .int .u32 0, .int .i64 0] Hg3.out (Try.sizeRoll _ _ _) rfl (oneRoll _ _ _) ?_)
  have hg4 := setRow_heap w1 (w.heap.size + 1) _ #[.int .u32 sA, .int .u32 sB, .int .i64 N] _ _ Hg3.out
  have hb3 := Hb.out.trans (below_setRow w1 w.heap.size (w.heap.size + 1) #[.int .u32 sA, .int .u32 sB, .int .i64 N] (by omega))
  clear q0 q1 q2
  generalize w1.setRow (w.heap.size + 1) #[.int .u32 sA, .int .u32 sB, .int .i64 N] = w2 at *
  have q0 := cell_of_row w2 (w.heap.size + 1) 0 _ _ _ hg4
  have q1 := cell_of_row w2 (w.heap.size + 1) 1 _ _ _ hg4
  have q2 := cell_of_row w2 (w.heap.size + 1) 2 _ _ _ hg4
  simp only [List.getElem?_toArray, List.getElem?_cons_zero, List.getElem?_cons_succ] at q0 q1 q2
  refine bodyPost_ret (v := .tuple #[.agg #[.int .u32 sA, .int .u32 sB, .int .i64 N], .int .i64 0]) ?_ rfl ⟨rfl, hb3⟩
  simp [results, Try.results21, go_sem, q0, q1, q2]
end Go.Proofs.Ytjkkjfigoanplaa

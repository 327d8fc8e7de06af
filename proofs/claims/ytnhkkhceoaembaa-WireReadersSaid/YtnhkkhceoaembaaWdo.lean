/- The model's do. -/
import Derived.Test.YtnhkkhceoaembaaWmodel
import Derived.Test.YtnhkkhceoaembaaRread2
import Derived.Test.YtnhkkhceoaembaaRtovar
import Derived.Test.YtnhkkhceoaembaaRtotext
import Derived.Deep.DeepCutAuto
namespace Go.Proofs.Ytnhkkhceoaembaa
set_option linter.unusedVariables false
open Go.RowKit

set_option maxRecDepth 100000 in
set_option maxHeartbeats 4000000 in
theorem do_0lt {w : World} {M p len cap : Nat} {a : Option Addr} {xs : List Int} (h : IsM w M p a len cap xs) (wd : Int) (hw1 : -9223372036854775808 ≤ wd) (hw2 : wd ≤ 9223372036854775807) (hbig : len ≤ 140737488355328) (hk : wd < 1) :
    Calls Try.prog 55 #[.pointer (some ⟨M, 0, none⟩), .agg #[.int .i64 0, .int .i64 wd]] w (ToldM w M a len cap xs (0) ([]) (1) (p)) := by
  obtain ⟨W0, hW0⟩ : ∃ W0, W0 = (w.alloc (.cells #[.int .i64 0, .int .i64 wd] 87)).alloc (.cells #[.int .i64 0, .slice none 0 0, .int .i64 0] 83) := ⟨_, rfl⟩
  have hs0 : W0.heap.size = w.heap.size + 2 := by rw [hW0]; simp
  have hF0 : W0.heap[w.heap.size]? = some (.cells #[.int .i64 0, .int .i64 wd] 87 (0, 0)) := by rw [hW0, heap_alloc_old _ _ _ (by simp), heap_alloc_last]
  have h40 : W0.heap[w.heap.size + 1]? = some (.cells #[.int .i64 0, .slice none 0 0, .int .i64 0] 83 (0, 0)) := by
    rw [hW0]; have := heap_alloc_last (w.alloc (.cells #[.int .i64 0, .int .i64 wd] 87)) (.cells #[.int .i64 0, .slice none 0 0, .int .i64 0] 83); simpa using this
  have hb0 : Below w.heap.size w W0 := by rw [hW0]; exact ((Below.refl _ w).alloc (Nat.le_refl _) _).alloc (by simp) _
  have H := Lib.hid h
  have H0 := Lib.hid (h.below hb0 (Nat.le_refl _))
  have HW0 := Lib.hid hW0
  have HF0 := Lib.hid hF0
  have H40 := Lib.hid h40
  have Hb0 := Lib.hid hb0
  have Hs0 := Lib.hid hs0
  have hcc := h.rd.hc
  have hcm := h.rd.hm
  have hpl := h.hp
  have hl := h.rd.hl
  have Hl := Lib.hid hl
  unfold maxLen at hcm
  have c0 := H0.out.c0
  have c1 := H0.out.c1
  clear hW0 hs0 hF0 h40 hb0 h hl
  by_cases hck : p = cap
  · subst hck
    go_enter Try.func55, Try.ntmps55
    go_upto_region 1 with fail
    rw [← HW0.out]
    clear HW0
    go_wp2
    go_quiet (fail)
    obtain ⟨w1, hw1e⟩ : ∃ w1, w1 = W0.drewN nq := ⟨_, rfl⟩
    rw [← hw1e]
    have hB01 : Below W0.heap.size W0 w1 := by rw [hw1e]; exact ⟨rfl, rfl, rfl, Nat.le_refl _, fun _ _ => rfl⟩
    have hs1 : w1.heap.size = w.heap.size + 2 := by rw [hw1e]; exact Hs0.out
    have hF1 : w1.heap[w.heap.size]? = some (.cells #[.int .i64 0, .int .i64 wd] 87 (0, 0)) := by rw [hw1e]; exact HF0.out
    have h41 : w1.heap[w.heap.size + 1]? = some (.cells #[.int .i64 0, .slice none 0 0, .int .i64 0] 83 (0, 0)) := by rw [hw1e]; exact H40.out
    have kc : w1.cell? ⟨w.heap.size, 0, none⟩ = some (.int .i64 0) := by rw [cell_of_row _ _ _ _ _ _ hF1]; rfl
    have wc : w1.cell? ⟨w.heap.size, 1, none⟩ = some (.int .i64 wd) := by rw [cell_of_row _ _ _ _ _ _ hF1]; rfl
    have Im1 := Lib.hid (H0.out.below hB01 (Nat.le_refl _))
    have Bw1 := Lib.hid (Hb0.out.trans (hB01.mono Hb0.out.size))
    have H41 := Lib.hid h41
    have Hs1 := Lib.hid hs1
    have h0p : len - p = 0 := by omega
    have RR : Hid (Rd w1 a (len - p) 0 (xs.drop p)) := Lib.hid (by rw [h0p, List.drop_eq_nil_of_le (by rw [Hl.out]; omega)]; exact Im1.out.rd.cut0)
    clear hw1e hB01 hs1 hF1 h41 c0 c1 HF0 H40 Hb0 Hs0 H0
    go_wp2_with (refine wpList_store_row rfl 83 (.tmp 4) (.tmp 31) rfl (w.heap.size + 1) #[.int .i64 0, .slice none 0 0, .int .i64 1] rfl rfl 83 #[.int .i64 0, .slice none 0 0, .int .i64 0] H41.out (Try.sizeTold _ _ _) rfl (oneTold _ _ _ _ _) ?_)
    refine bodyPost_ret (v := .agg #[.int .i64 0, .slice none 0 0, .int .i64 1]) ?_ rfl ?_
    · exact results_cell_row rfl _ _ (w.heap.size + 1) 83 #[.int .i64 0, .slice none 0 0, .int .i64 1] (0, 0) _ rfl (setRow_heap _ _ _ _ _ _ H41.out) Try.underlying83 rfl (Try.sizeTold _ _ _)
    · exact ⟨_, _, _, rfl, Own.nil _ _, MovedM.low H.out (MovedM.of_below H.out Bw1.out) (below_setRow' _ _ _ _ (by omega))⟩
  · have hcf : (cap = p) = False := eq_false (fun e => hck e.symm)
    go_enter Try.func55, Try.ntmps55
    go_upto_region 1 with fail
    rw [← HW0.out]
    clear HW0
    go_wp2
    go_quiet (fail)
    obtain ⟨w1, hw1e⟩ : ∃ w1, w1 = W0.drewN nq := ⟨_, rfl⟩
    rw [← hw1e]
    have hB01 : Below W0.heap.size W0 w1 := by rw [hw1e]; exact ⟨rfl, rfl, rfl, Nat.le_refl _, fun _ _ => rfl⟩
    have hs1 : w1.heap.size = w.heap.size + 2 := by rw [hw1e]; exact Hs0.out
    have hF1 : w1.heap[w.heap.size]? = some (.cells #[.int .i64 0, .int .i64 wd] 87 (0, 0)) := by rw [hw1e]; exact HF0.out
    have h41 : w1.heap[w.heap.size + 1]? = some (.cells #[.int .i64 0, .slice none 0 0, .int .i64 0] 83 (0, 0)) := by rw [hw1e]; exact H40.out
    have kc : w1.cell? ⟨w.heap.size, 0, none⟩ = some (.int .i64 0) := by rw [cell_of_row _ _ _ _ _ _ hF1]; rfl
    have wc : w1.cell? ⟨w.heap.size, 1, none⟩ = some (.int .i64 wd) := by rw [cell_of_row _ _ _ _ _ _ hF1]; rfl
    have Im1 := Lib.hid (H0.out.below hB01 (Nat.le_refl _))
    have Bw1 := Lib.hid (Hb0.out.trans (hB01.mono Hb0.out.size))
    have H41 := Lib.hid h41
    have Hs1 := Lib.hid hs1
    have RR : Hid (Rd w1 (a.map (fun x => x.add p)) (len - p) (cap - p) (xs.drop p)) := Lib.hid (by have := Im1.out.rd.cut2 p (len - p) (by omega); rw [List.take_of_length_le (by rw [List.length_drop, Hl.out]; exact Nat.le_refl _)] at this; exact this)
    clear hw1e hB01 hs1 hF1 h41 c0 c1 HF0 H40 Hb0 Hs0 H0
    go_wp2_with (refine wpList_store_row rfl 83 (.tmp 4) (.tmp 31) rfl (w.heap.size + 1) #[.int .i64 0, .slice none 0 0, .int .i64 1] rfl rfl 83 #[.int .i64 0, .slice none 0 0, .int .i64 0] H41.out (Try.sizeTold _ _ _) rfl (oneTold _ _ _ _ _) ?_)
    refine bodyPost_ret (v := .agg #[.int .i64 0, .slice none 0 0, .int .i64 1]) ?_ rfl ?_
    · exact results_cell_row rfl _ _ (w.heap.size + 1) 83 #[.int .i64 0, .slice none 0 0, .int .i64 1] (0, 0) _ rfl (setRow_heap _ _ _ _ _ _ H41.out) Try.underlying83 rfl (Try.sizeTold _ _ _)
    · exact ⟨_, _, _, rfl, Own.nil _ _, MovedM.low H.out (MovedM.of_below H.out Bw1.out) (below_setRow' _ _ _ _ (by omega))⟩
set_option maxRecDepth 100000 in
set_option maxHeartbeats 4000000 in
theorem do_0gt {w : World} {M p len cap : Nat} {a : Option Addr} {xs : List Int} (h : IsM w M p a len cap xs) (wd : Int) (hw1 : -9223372036854775808 ≤ wd) (hw2 : wd ≤ 9223372036854775807) (hbig : len ≤ 140737488355328) (hk : ¬ wd < 1 ∧ 8 < wd) :
    Calls Try.prog 55 #[.pointer (some ⟨M, 0, none⟩), .agg #[.int .i64 0, .int .i64 wd]] w (ToldM w M a len cap xs (0) ([]) (1) (p)) := by
  obtain ⟨W0, hW0⟩ : ∃ W0, W0 = (w.alloc (.cells #[.int .i64 0, .int .i64 wd] 87)).alloc (.cells #[.int .i64 0, .slice none 0 0, .int .i64 0] 83) := ⟨_, rfl⟩
  have hs0 : W0.heap.size = w.heap.size + 2 := by rw [hW0]; simp
  have hF0 : W0.heap[w.heap.size]? = some (.cells #[.int .i64 0, .int .i64 wd] 87 (0, 0)) := by rw [hW0, heap_alloc_old _ _ _ (by simp), heap_alloc_last]
  have h40 : W0.heap[w.heap.size + 1]? = some (.cells #[.int .i64 0, .slice none 0 0, .int .i64 0] 83 (0, 0)) := by
    rw [hW0]; have := heap_alloc_last (w.alloc (.cells #[.int .i64 0, .int .i64 wd] 87)) (.cells #[.int .i64 0, .slice none 0 0, .int .i64 0] 83); simpa using this
  have hb0 : Below w.heap.size w W0 := by rw [hW0]; exact ((Below.refl _ w).alloc (Nat.le_refl _) _).alloc (by simp) _
  have H := Lib.hid h
  have H0 := Lib.hid (h.below hb0 (Nat.le_refl _))
  have HW0 := Lib.hid hW0
  have HF0 := Lib.hid hF0
  have H40 := Lib.hid h40
  have Hb0 := Lib.hid hb0
  have Hs0 := Lib.hid hs0
  have hcc := h.rd.hc
  have hcm := h.rd.hm
  have hpl := h.hp
  have hl := h.rd.hl
  have Hl := Lib.hid hl
  unfold maxLen at hcm
  have c0 := H0.out.c0
  have c1 := H0.out.c1
  clear hW0 hs0 hF0 h40 hb0 h hl
  obtain ⟨hk, hk2⟩ := hk
  by_cases hck : p = cap
  · subst hck
    go_enter Try.func55, Try.ntmps55
    go_upto_region 1 with fail
    rw [← HW0.out]
    clear HW0
    go_wp2
    go_quiet (fail)
    obtain ⟨w1, hw1e⟩ : ∃ w1, w1 = W0.drewN nq := ⟨_, rfl⟩
    rw [← hw1e]
    have hB01 : Below W0.heap.size W0 w1 := by rw [hw1e]; exact ⟨rfl, rfl, rfl, Nat.le_refl _, fun _ _ => rfl⟩
    have hs1 : w1.heap.size = w.heap.size + 2 := by rw [hw1e]; exact Hs0.out
    have hF1 : w1.heap[w.heap.size]? = some (.cells #[.int .i64 0, .int .i64 wd] 87 (0, 0)) := by rw [hw1e]; exact HF0.out
    have h41 : w1.heap[w.heap.size + 1]? = some (.cells #[.int .i64 0, .slice none 0 0, .int .i64 0] 83 (0, 0)) := by rw [hw1e]; exact H40.out
    have kc : w1.cell? ⟨w.heap.size, 0, none⟩ = some (.int .i64 0) := by rw [cell_of_row _ _ _ _ _ _ hF1]; rfl
    have wc : w1.cell? ⟨w.heap.size, 1, none⟩ = some (.int .i64 wd) := by rw [cell_of_row _ _ _ _ _ _ hF1]; rfl
    have Im1 := Lib.hid (H0.out.below hB01 (Nat.le_refl _))
    have Bw1 := Lib.hid (Hb0.out.trans (hB01.mono Hb0.out.size))
    have H41 := Lib.hid h41
    have Hs1 := Lib.hid hs1
    have h0p : len - p = 0 := by omega
    have RR : Hid (Rd w1 a (len - p) 0 (xs.drop p)) := Lib.hid (by rw [h0p, List.drop_eq_nil_of_le (by rw [Hl.out]; omega)]; exact Im1.out.rd.cut0)
    clear hw1e hB01 hs1 hF1 h41 c0 c1 HF0 H40 Hb0 Hs0 H0
    go_wp2_with (refine wpList_store_row rfl 83 (.tmp 4) (.tmp 31) rfl (w.heap.size + 1) #[.int .i64 0, .slice none 0 0, .int .i64 1] rfl rfl 83 #[.int .i64 0, .slice none 0 0, .int .i64 0] H41.out (Try.sizeTold _ _ _) rfl (oneTold _ _ _ _ _) ?_)
    refine bodyPost_ret (v := .agg #[.int .i64 0, .slice none 0 0, .int .i64 1]) ?_ rfl ?_
    · exact results_cell_row rfl _ _ (w.heap.size + 1) 83 #[.int .i64 0, .slice none 0 0, .int .i64 1] (0, 0) _ rfl (setRow_heap _ _ _ _ _ _ H41.out) Try.underlying83 rfl (Try.sizeTold _ _ _)
    · exact ⟨_, _, _, rfl, Own.nil _ _, MovedM.low H.out (MovedM.of_below H.out Bw1.out) (below_setRow' _ _ _ _ (by omega))⟩
  · have hcf : (cap = p) = False := eq_false (fun e => hck e.symm)
    go_enter Try.func55, Try.ntmps55
    go_upto_region 1 with fail
    rw [← HW0.out]
    clear HW0
    go_wp2
    go_quiet (fail)
    obtain ⟨w1, hw1e⟩ : ∃ w1, w1 = W0.drewN nq := ⟨_, rfl⟩
    rw [← hw1e]
    have hB01 : Below W0.heap.size W0 w1 := by rw [hw1e]; exact ⟨rfl, rfl, rfl, Nat.le_refl _, fun _ _ => rfl⟩
    have hs1 : w1.heap.size = w.heap.size + 2 := by rw [hw1e]; exact Hs0.out
    have hF1 : w1.heap[w.heap.size]? = some (.cells #[.int .i64 0, .int .i64 wd] 87 (0, 0)) := by rw [hw1e]; exact HF0.out
    have h41 : w1.heap[w.heap.size + 1]? = some (.cells #[.int .i64 0, .slice none 0 0, .int .i64 0] 83 (0, 0)) := by rw [hw1e]; exact H40.out
    have kc : w1.cell? ⟨w.heap.size, 0, none⟩ = some (.int .i64 0) := by rw [cell_of_row _ _ _ _ _ _ hF1]; rfl
    have wc : w1.cell? ⟨w.heap.size, 1, none⟩ = some (.int .i64 wd) := by rw [cell_of_row _ _ _ _ _ _ hF1]; rfl
    have Im1 := Lib.hid (H0.out.below hB01 (Nat.le_refl _))
    have Bw1 := Lib.hid (Hb0.out.trans (hB01.mono Hb0.out.size))
    have H41 := Lib.hid h41
    have Hs1 := Lib.hid hs1
    have RR : Hid (Rd w1 (a.map (fun x => x.add p)) (len - p) (cap - p) (xs.drop p)) := Lib.hid (by have := Im1.out.rd.cut2 p (len - p) (by omega); rw [List.take_of_length_le (by rw [List.length_drop, Hl.out]; exact Nat.le_refl _)] at this; exact this)
    clear hw1e hB01 hs1 hF1 h41 c0 c1 HF0 H40 Hb0 Hs0 H0
    go_wp2_with (refine wpList_store_row rfl 83 (.tmp 4) (.tmp 31) rfl (w.heap.size + 1) #[.int .i64 0, .slice none 0 0, .int .i64 1] rfl rfl 83 #[.int .i64 0, .slice none 0 0, .int .i64 0] H41.out (Try.sizeTold _ _ _) rfl (oneTold _ _ _ _ _) ?_)
    refine bodyPost_ret (v := .agg #[.int .i64 0, .slice none 0 0, .int .i64 1]) ?_ rfl ?_
    · exact results_cell_row rfl _ _ (w.heap.size + 1) 83 #[.int .i64 0, .slice none 0 0, .int .i64 1] (0, 0) _ rfl (setRow_heap _ _ _ _ _ _ H41.out) Try.underlying83 rfl (Try.sizeTold _ _ _)
    · exact ⟨_, _, _, rfl, Own.nil _ _, MovedM.low H.out (MovedM.of_below H.out Bw1.out) (below_setRow' _ _ _ _ (by omega))⟩
set_option maxRecDepth 100000 in
set_option maxHeartbeats 4000000 in
theorem do_0few {w : World} {M p len cap : Nat} {a : Option Addr} {xs : List Int} (h : IsM w M p a len cap xs) (wd : Int) (hw1 : -9223372036854775808 ≤ wd) (hw2 : wd ≤ 9223372036854775807) (hbig : len ≤ 140737488355328) (hk : ¬ wd < 1 ∧ ¬ 8 < wd ∧ (len : Int) - p < wd) :
    Calls Try.prog 55 #[.pointer (some ⟨M, 0, none⟩), .agg #[.int .i64 0, .int .i64 wd]] w (ToldM w M a len cap xs (0) ([]) (4) (p)) := by
  obtain ⟨W0, hW0⟩ : ∃ W0, W0 = (w.alloc (.cells #[.int .i64 0, .int .i64 wd] 87)).alloc (.cells #[.int .i64 0, .slice none 0 0, .int .i64 0] 83) := ⟨_, rfl⟩
  have hs0 : W0.heap.size = w.heap.size + 2 := by rw [hW0]; simp
  have hF0 : W0.heap[w.heap.size]? = some (.cells #[.int .i64 0, .int .i64 wd] 87 (0, 0)) := by rw [hW0, heap_alloc_old _ _ _ (by simp), heap_alloc_last]
  have h40 : W0.heap[w.heap.size + 1]? = some (.cells #[.int .i64 0, .slice none 0 0, .int .i64 0] 83 (0, 0)) := by
    rw [hW0]; have := heap_alloc_last (w.alloc (.cells #[.int .i64 0, .int .i64 wd] 87)) (.cells #[.int .i64 0, .slice none 0 0, .int .i64 0] 83); simpa using this
  have hb0 : Below w.heap.size w W0 := by rw [hW0]; exact ((Below.refl _ w).alloc (Nat.le_refl _) _).alloc (by simp) _
  have H := Lib.hid h
  have H0 := Lib.hid (h.below hb0 (Nat.le_refl _))
  have HW0 := Lib.hid hW0
  have HF0 := Lib.hid hF0
  have H40 := Lib.hid h40
  have Hb0 := Lib.hid hb0
  have Hs0 := Lib.hid hs0
  have hcc := h.rd.hc
  have hcm := h.rd.hm
  have hpl := h.hp
  have hl := h.rd.hl
  have Hl := Lib.hid hl
  unfold maxLen at hcm
  have c0 := H0.out.c0
  have c1 := H0.out.c1
  clear hW0 hs0 hF0 h40 hb0 h hl
  obtain ⟨hk, hk2, hk3⟩ := hk
  have hlp : ((len - p : Nat) : Int) < wd := by omega
  by_cases hck : p = cap
  · subst hck
    go_enter Try.func55, Try.ntmps55
    go_upto_region 1 with fail
    rw [← HW0.out]
    clear HW0
    go_wp2
    go_quiet (fail)
    obtain ⟨w1, hw1e⟩ : ∃ w1, w1 = W0.drewN nq := ⟨_, rfl⟩
    rw [← hw1e]
    have hB01 : Below W0.heap.size W0 w1 := by rw [hw1e]; exact ⟨rfl, rfl, rfl, Nat.le_refl _, fun _ _ => rfl⟩
    have hs1 : w1.heap.size = w.heap.size + 2 := by rw [hw1e]; exact Hs0.out
    have hF1 : w1.heap[w.heap.size]? = some (.cells #[.int .i64 0, .int .i64 wd] 87 (0, 0)) := by rw [hw1e]; exact HF0.out
    have h41 : w1.heap[w.heap.size + 1]? = some (.cells #[.int .i64 0, .slice none 0 0, .int .i64 0] 83 (0, 0)) := by rw [hw1e]; exact H40.out
    have kc : w1.cell? ⟨w.heap.size, 0, none⟩ = some (.int .i64 0) := by rw [cell_of_row _ _ _ _ _ _ hF1]; rfl
    have wc : w1.cell? ⟨w.heap.size, 1, none⟩ = some (.int .i64 wd) := by rw [cell_of_row _ _ _ _ _ _ hF1]; rfl
    have Im1 := Lib.hid (H0.out.below hB01 (Nat.le_refl _))
    have Bw1 := Lib.hid (Hb0.out.trans (hB01.mono Hb0.out.size))
    have H41 := Lib.hid h41
    have Hs1 := Lib.hid hs1
    have h0p : len - p = 0 := by omega
    have RR : Hid (Rd w1 a (len - p) 0 (xs.drop p)) := Lib.hid (by rw [h0p, List.drop_eq_nil_of_le (by rw [Hl.out]; omega)]; exact Im1.out.rd.cut0)
    clear hw1e hB01 hs1 hF1 h41 c0 c1 HF0 H40 Hb0 Hs0 H0
    go_wp2_with (refine wpList_store_row rfl 83 (.tmp 4) (.tmp 37) rfl (w.heap.size + 1) #[.int .i64 0, .slice none 0 0, .int .i64 4] rfl rfl 83 #[.int .i64 0, .slice none 0 0, .int .i64 0] H41.out (Try.sizeTold _ _ _) rfl (oneTold _ _ _ _ _) ?_)
    refine bodyPost_ret (v := .agg #[.int .i64 0, .slice none 0 0, .int .i64 4]) ?_ rfl ?_
    · exact results_cell_row rfl _ _ (w.heap.size + 1) 83 #[.int .i64 0, .slice none 0 0, .int .i64 4] (0, 0) _ rfl (setRow_heap _ _ _ _ _ _ H41.out) Try.underlying83 rfl (Try.sizeTold _ _ _)
    · exact ⟨_, _, _, rfl, Own.nil _ _, MovedM.low H.out (MovedM.of_below H.out Bw1.out) (below_setRow' _ _ _ _ (by omega))⟩
  · have hcf : (cap = p) = False := eq_false (fun e => hck e.symm)
    go_enter Try.func55, Try.ntmps55
    go_upto_region 1 with fail
    rw [← HW0.out]
    clear HW0
    go_wp2
    go_quiet (fail)
    obtain ⟨w1, hw1e⟩ : ∃ w1, w1 = W0.drewN nq := ⟨_, rfl⟩
    rw [← hw1e]
    have hB01 : Below W0.heap.size W0 w1 := by rw [hw1e]; exact ⟨rfl, rfl, rfl, Nat.le_refl _, fun _ _ => rfl⟩
    have hs1 : w1.heap.size = w.heap.size + 2 := by rw [hw1e]; exact Hs0.out
    have hF1 : w1.heap[w.heap.size]? = some (.cells #[.int .i64 0, .int .i64 wd] 87 (0, 0)) := by rw [hw1e]; exact HF0.out
    have h41 : w1.heap[w.heap.size + 1]? = some (.cells #[.int .i64 0, .slice none 0 0, .int .i64 0] 83 (0, 0)) := by rw [hw1e]; exact H40.out
    have kc : w1.cell? ⟨w.heap.size, 0, none⟩ = some (.int .i64 0) := by rw [cell_of_row _ _ _ _ _ _ hF1]; rfl
    have wc : w1.cell? ⟨w.heap.size, 1, none⟩ = some (.int .i64 wd) := by rw [cell_of_row _ _ _ _ _ _ hF1]; rfl
    have Im1 := Lib.hid (H0.out.below hB01 (Nat.le_refl _))
    have Bw1 := Lib.hid (Hb0.out.trans (hB01.mono Hb0.out.size))
    have H41 := Lib.hid h41
    have Hs1 := Lib.hid hs1
    have RR : Hid (Rd w1 (a.map (fun x => x.add p)) (len - p) (cap - p) (xs.drop p)) := Lib.hid (by have := Im1.out.rd.cut2 p (len - p) (by omega); rw [List.take_of_length_le (by rw [List.length_drop, Hl.out]; exact Nat.le_refl _)] at this; exact this)
    clear hw1e hB01 hs1 hF1 h41 c0 c1 HF0 H40 Hb0 Hs0 H0
    go_wp2_with (refine wpList_store_row rfl 83 (.tmp 4) (.tmp 37) rfl (w.heap.size + 1) #[.int .i64 0, .slice none 0 0, .int .i64 4] rfl rfl 83 #[.int .i64 0, .slice none 0 0, .int .i64 0] H41.out (Try.sizeTold _ _ _) rfl (oneTold _ _ _ _ _) ?_)
    refine bodyPost_ret (v := .agg #[.int .i64 0, .slice none 0 0, .int .i64 4]) ?_ rfl ?_
    · exact results_cell_row rfl _ _ (w.heap.size + 1) 83 #[.int .i64 0, .slice none 0 0, .int .i64 4] (0, 0) _ rfl (setRow_heap _ _ _ _ _ _ H41.out) Try.underlying83 rfl (Try.sizeTold _ _ _)
    · exact ⟨_, _, _, rfl, Own.nil _ _, MovedM.low H.out (MovedM.of_below H.out Bw1.out) (below_setRow' _ _ _ _ (by omega))⟩
set_option maxRecDepth 100000 in
set_option maxHeartbeats 4000000 in
theorem do_1lt {w : World} {M p len cap : Nat} {a : Option Addr} {xs : List Int} (h : IsM w M p a len cap xs) (wd : Int) (hw1 : -9223372036854775808 ≤ wd) (hw2 : wd ≤ 9223372036854775807) (hbig : len ≤ 140737488355328) (hk : wd < 1) :
    Calls Try.prog 55 #[.pointer (some ⟨M, 0, none⟩), .agg #[.int .i64 1, .int .i64 wd]] w (ToldM w M a len cap xs (0) ([]) (1) (p)) := by
  obtain ⟨W0, hW0⟩ : ∃ W0, W0 = (w.alloc (.cells #[.int .i64 1, .int .i64 wd] 87)).alloc (.cells #[.int .i64 0, .slice none 0 0, .int .i64 0] 83) := ⟨_, rfl⟩
  have hs0 : W0.heap.size = w.heap.size + 2 := by rw [hW0]; simp
  have hF0 : W0.heap[w.heap.size]? = some (.cells #[.int .i64 1, .int .i64 wd] 87 (0, 0)) := by rw [hW0, heap_alloc_old _ _ _ (by simp), heap_alloc_last]
  have h40 : W0.heap[w.heap.size + 1]? = some (.cells #[.int .i64 0, .slice none 0 0, .int .i64 0] 83 (0, 0)) := by
    rw [hW0]; have := heap_alloc_last (w.alloc (.cells #[.int .i64 1, .int .i64 wd] 87)) (.cells #[.int .i64 0, .slice none 0 0, .int .i64 0] 83); simpa using this
  have hb0 : Below w.heap.size w W0 := by rw [hW0]; exact ((Below.refl _ w).alloc (Nat.le_refl _) _).alloc (by simp) _
  have H := Lib.hid h
  have H0 := Lib.hid (h.below hb0 (Nat.le_refl _))
  have HW0 := Lib.hid hW0
  have HF0 := Lib.hid hF0
  have H40 := Lib.hid h40
  have Hb0 := Lib.hid hb0
  have Hs0 := Lib.hid hs0
  have hcc := h.rd.hc
  have hcm := h.rd.hm
  have hpl := h.hp
  have hl := h.rd.hl
  have Hl := Lib.hid hl
  unfold maxLen at hcm
  have c0 := H0.out.c0
  have c1 := H0.out.c1
  clear hW0 hs0 hF0 h40 hb0 h hl
  by_cases hck : p = cap
  · subst hck
    go_enter Try.func55, Try.ntmps55
    go_upto_region 1 with fail
    rw [← HW0.out]
    clear HW0
    go_wp2
    go_quiet (fail)
    obtain ⟨w1, hw1e⟩ : ∃ w1, w1 = W0.drewN nq := ⟨_, rfl⟩
    rw [← hw1e]
    have hB01 : Below W0.heap.size W0 w1 := by rw [hw1e]; exact ⟨rfl, rfl, rfl, Nat.le_refl _, fun _ _ => rfl⟩
    have hs1 : w1.heap.size = w.heap.size + 2 := by rw [hw1e]; exact Hs0.out
    have hF1 : w1.heap[w.heap.size]? = some (.cells #[.int .i64 1, .int .i64 wd] 87 (0, 0)) := by rw [hw1e]; exact HF0.out
    have h41 : w1.heap[w.heap.size + 1]? = some (.cells #[.int .i64 0, .slice none 0 0, .int .i64 0] 83 (0, 0)) := by rw [hw1e]; exact H40.out
    have kc : w1.cell? ⟨w.heap.size, 0, none⟩ = some (.int .i64 1) := by rw [cell_of_row _ _ _ _ _ _ hF1]; rfl
    have wc : w1.cell? ⟨w.heap.size, 1, none⟩ = some (.int .i64 wd) := by rw [cell_of_row _ _ _ _ _ _ hF1]; rfl
    have Im1 := Lib.hid (H0.out.below hB01 (Nat.le_refl _))
    have Bw1 := Lib.hid (Hb0.out.trans (hB01.mono Hb0.out.size))
    have H41 := Lib.hid h41
    have Hs1 := Lib.hid hs1
    have h0p : len - p = 0 := by omega
    have RR : Hid (Rd w1 a (len - p) 0 (xs.drop p)) := Lib.hid (by rw [h0p, List.drop_eq_nil_of_le (by rw [Hl.out]; omega)]; exact Im1.out.rd.cut0)
    clear hw1e hB01 hs1 hF1 h41 c0 c1 HF0 H40 Hb0 Hs0 H0
    go_wp2_with (refine wpList_store_row rfl 83 (.tmp 4) (.tmp 31) rfl (w.heap.size + 1) #[.int .i64 0, .slice none 0 0, .int .i64 1] rfl rfl 83 #[.int .i64 0, .slice none 0 0, .int .i64 0] H41.out (Try.sizeTold _ _ _) rfl (oneTold _ _ _ _ _) ?_)
    refine bodyPost_ret (v := .agg #[.int .i64 0, .slice none 0 0, .int .i64 1]) ?_ rfl ?_
    · exact results_cell_row rfl _ _ (w.heap.size + 1) 83 #[.int .i64 0, .slice none 0 0, .int .i64 1] (0, 0) _ rfl (setRow_heap _ _ _ _ _ _ H41.out) Try.underlying83 rfl (Try.sizeTold _ _ _)
    · exact ⟨_, _, _, rfl, Own.nil _ _, MovedM.low H.out (MovedM.of_below H.out Bw1.out) (below_setRow' _ _ _ _ (by omega))⟩
  · have hcf : (cap = p) = False := eq_false (fun e => hck e.symm)
    go_enter Try.func55, Try.ntmps55
    go_upto_region 1 with fail
    rw [← HW0.out]
    clear HW0
    go_wp2
    go_quiet (fail)
    obtain ⟨w1, hw1e⟩ : ∃ w1, w1 = W0.drewN nq := ⟨_, rfl⟩
    rw [← hw1e]
    have hB01 : Below W0.heap.size W0 w1 := by rw [hw1e]; exact ⟨rfl, rfl, rfl, Nat.le_refl _, fun _ _ => rfl⟩
    have hs1 : w1.heap.size = w.heap.size + 2 := by rw [hw1e]; exact Hs0.out
    have hF1 : w1.heap[w.heap.size]? = some (.cells #[.int .i64 1, .int .i64 wd] 87 (0, 0)) := by rw [hw1e]; exact HF0.out
    have h41 : w1.heap[w.heap.size + 1]? = some (.cells #[.int .i64 0, .slice none 0 0, .int .i64 0] 83 (0, 0)) := by rw [hw1e]; exact H40.out
    have kc : w1.cell? ⟨w.heap.size, 0, none⟩ = some (.int .i64 1) := by rw [cell_of_row _ _ _ _ _ _ hF1]; rfl
    have wc : w1.cell? ⟨w.heap.size, 1, none⟩ = some (.int .i64 wd) := by rw [cell_of_row _ _ _ _ _ _ hF1]; rfl
    have Im1 := Lib.hid (H0.out.below hB01 (Nat.le_refl _))
    have Bw1 := Lib.hid (Hb0.out.trans (hB01.mono Hb0.out.size))
    have H41 := Lib.hid h41
    have Hs1 := Lib.hid hs1
    have RR : Hid (Rd w1 (a.map (fun x => x.add p)) (len - p) (cap - p) (xs.drop p)) := Lib.hid (by have := Im1.out.rd.cut2 p (len - p) (by omega); rw [List.take_of_length_le (by rw [List.length_drop, Hl.out]; exact Nat.le_refl _)] at this; exact this)
    clear hw1e hB01 hs1 hF1 h41 c0 c1 HF0 H40 Hb0 Hs0 H0
    go_wp2_with (refine wpList_store_row rfl 83 (.tmp 4) (.tmp 31) rfl (w.heap.size + 1) #[.int .i64 0, .slice none 0 0, .int .i64 1] rfl rfl 83 #[.int .i64 0, .slice none 0 0, .int .i64 0] H41.out (Try.sizeTold _ _ _) rfl (oneTold _ _ _ _ _) ?_)
    refine bodyPost_ret (v := .agg #[.int .i64 0, .slice none 0 0, .int .i64 1]) ?_ rfl ?_
    · exact results_cell_row rfl _ _ (w.heap.size + 1) 83 #[.int .i64 0, .slice none 0 0, .int .i64 1] (0, 0) _ rfl (setRow_heap _ _ _ _ _ _ H41.out) Try.underlying83 rfl (Try.sizeTold _ _ _)
    · exact ⟨_, _, _, rfl, Own.nil _ _, MovedM.low H.out (MovedM.of_below H.out Bw1.out) (below_setRow' _ _ _ _ (by omega))⟩
set_option maxRecDepth 100000 in
set_option maxHeartbeats 4000000 in
theorem do_1gt {w : World} {M p len cap : Nat} {a : Option Addr} {xs : List Int} (h : IsM w M p a len cap xs) (wd : Int) (hw1 : -9223372036854775808 ≤ wd) (hw2 : wd ≤ 9223372036854775807) (hbig : len ≤ 140737488355328) (hk : ¬ wd < 1 ∧ 8 < wd) :
    Calls Try.prog 55 #[.pointer (some ⟨M, 0, none⟩), .agg #[.int .i64 1, .int .i64 wd]] w (ToldM w M a len cap xs (0) ([]) (1) (p)) := by
  obtain ⟨W0, hW0⟩ : ∃ W0, W0 = (w.alloc (.cells #[.int .i64 1, .int .i64 wd] 87)).alloc (.cells #[.int .i64 0, .slice none 0 0, .int .i64 0] 83) := ⟨_, rfl⟩
  have hs0 : W0.heap.size = w.heap.size + 2 := by rw [hW0]; simp
  have hF0 : W0.heap[w.heap.size]? = some (.cells #[.int .i64 1, .int .i64 wd] 87 (0, 0)) := by rw [hW0, heap_alloc_old _ _ _ (by simp), heap_alloc_last]
  have h40 : W0.heap[w.heap.size + 1]? = some (.cells #[.int .i64 0, .slice none 0 0, .int .i64 0] 83 (0, 0)) := by
    rw [hW0]; have := heap_alloc_last (w.alloc (.cells #[.int .i64 1, .int .i64 wd] 87)) (.cells #[.int .i64 0, .slice none 0 0, .int .i64 0] 83); simpa using this
  have hb0 : Below w.heap.size w W0 := by rw [hW0]; exact ((Below.refl _ w).alloc (Nat.le_refl _) _).alloc (by simp) _
  have H := Lib.hid h
  have H0 := Lib.hid (h.below hb0 (Nat.le_refl _))
  have HW0 := Lib.hid hW0
  have HF0 := Lib.hid hF0
  have H40 := Lib.hid h40
  have Hb0 := Lib.hid hb0
  have Hs0 := Lib.hid hs0
  have hcc := h.rd.hc
  have hcm := h.rd.hm
  have hpl := h.hp
  have hl := h.rd.hl
  have Hl := Lib.hid hl
  unfold maxLen at hcm
  have c0 := H0.out.c0
  have c1 := H0.out.c1
  clear hW0 hs0 hF0 h40 hb0 h hl
  obtain ⟨hk, hk2⟩ := hk
  by_cases hck : p = cap
  · subst hck
    go_enter Try.func55, Try.ntmps55
    go_upto_region 1 with fail
    rw [← HW0.out]
    clear HW0
    go_wp2
    go_quiet (fail)
    obtain ⟨w1, hw1e⟩ : ∃ w1, w1 = W0.drewN nq := ⟨_, rfl⟩
    rw [← hw1e]
    have hB01 : Below W0.heap.size W0 w1 := by rw [hw1e]; exact ⟨rfl, rfl, rfl, Nat.le_refl _, fun _ _ => rfl⟩
    have hs1 : w1.heap.size = w.heap.size + 2 := by rw [hw1e]; exact Hs0.out
    have hF1 : w1.heap[w.heap.size]? = some (.cells #[.int .i64 1, .int .i64 wd] 87 (0, 0)) := by rw [hw1e]; exact HF0.out
    have h41 : w1.heap[w.heap.size + 1]? = some (.cells #[.int .i64 0, .slice none 0 0, .int .i64 0] 83 (0, 0)) := by rw [hw1e]; exact H40.out
    have kc : w1.cell? ⟨w.heap.size, 0, none⟩ = some (.int .i64 1) := by rw [cell_of_row _ _ _ _ _ _ hF1]; rfl
    have wc : w1.cell? ⟨w.heap.size, 1, none⟩ = some (.int .i64 wd) := by rw [cell_of_row _ _ _ _ _ _ hF1]; rfl
    have Im1 := Lib.hid (H0.out.below hB01 (Nat.le_refl _))
    have Bw1 := Lib.hid (Hb0.out.trans (hB01.mono Hb0.out.size))
    have H41 := Lib.hid h41
    have Hs1 := Lib.hid hs1
    have h0p : len - p = 0 := by omega
    have RR : Hid (Rd w1 a (len - p) 0 (xs.drop p)) := Lib.hid (by rw [h0p, List.drop_eq_nil_of_le (by rw [Hl.out]; omega)]; exact Im1.out.rd.cut0)
    clear hw1e hB01 hs1 hF1 h41 c0 c1 HF0 H40 Hb0 Hs0 H0
    go_wp2_with (refine wpList_store_row rfl 83 (.tmp 4) (.tmp 31) rfl (w.heap.size + 1) #[.int .i64 0, .slice none 0 0, .int .i64 1] rfl rfl 83 #[.int .i64 0, .slice none 0 0, .int .i64 0] H41.out (Try.sizeTold _ _ _) rfl (oneTold _ _ _ _ _) ?_)
    refine bodyPost_ret (v := .agg #[.int .i64 0, .slice none 0 0, .int .i64 1]) ?_ rfl ?_
    · exact results_cell_row rfl _ _ (w.heap.size + 1) 83 #[.int .i64 0, .slice none 0 0, .int .i64 1] (0, 0) _ rfl (setRow_heap _ _ _ _ _ _ H41.out) Try.underlying83 rfl (Try.sizeTold _ _ _)
    · exact ⟨_, _, _, rfl, Own.nil _ _, MovedM.low H.out (MovedM.of_below H.out Bw1.out) (below_setRow' _ _ _ _ (by omega))⟩
  · have hcf : (cap = p) = False := eq_false (fun e => hck e.symm)
    go_enter Try.func55, Try.ntmps55
    go_upto_region 1 with fail
    rw [← HW0.out]
    clear HW0
    go_wp2
    go_quiet (fail)
    obtain ⟨w1, hw1e⟩ : ∃ w1, w1 = W0.drewN nq := ⟨_, rfl⟩
    rw [← hw1e]
    have hB01 : Below W0.heap.size W0 w1 := by rw [hw1e]; exact ⟨rfl, rfl, rfl, Nat.le_refl _, fun _ _ => rfl⟩
    have hs1 : w1.heap.size = w.heap.size + 2 := by rw [hw1e]; exact Hs0.out
    have hF1 : w1.heap[w.heap.size]? = some (.cells #[.int .i64 1, .int .i64 wd] 87 (0, 0)) := by rw [hw1e]; exact HF0.out
    have h41 : w1.heap[w.heap.size + 1]? = some (.cells #[.int .i64 0, .slice none 0 0, .int .i64 0] 83 (0, 0)) := by rw [hw1e]; exact H40.out
    have kc : w1.cell? ⟨w.heap.size, 0, none⟩ = some (.int .i64 1) := by rw [cell_of_row _ _ _ _ _ _ hF1]; rfl
    have wc : w1.cell? ⟨w.heap.size, 1, none⟩ = some (.int .i64 wd) := by rw [cell_of_row _ _ _ _ _ _ hF1]; rfl
    have Im1 := Lib.hid (H0.out.below hB01 (Nat.le_refl _))
    have Bw1 := Lib.hid (Hb0.out.trans (hB01.mono Hb0.out.size))
    have H41 := Lib.hid h41
    have Hs1 := Lib.hid hs1
    have RR : Hid (Rd w1 (a.map (fun x => x.add p)) (len - p) (cap - p) (xs.drop p)) := Lib.hid (by have := Im1.out.rd.cut2 p (len - p) (by omega); rw [List.take_of_length_le (by rw [List.length_drop, Hl.out]; exact Nat.le_refl _)] at this; exact this)
    clear hw1e hB01 hs1 hF1 h41 c0 c1 HF0 H40 Hb0 Hs0 H0
    go_wp2_with (refine wpList_store_row rfl 83 (.tmp 4) (.tmp 31) rfl (w.heap.size + 1) #[.int .i64 0, .slice none 0 0, .int .i64 1] rfl rfl 83 #[.int .i64 0, .slice none 0 0, .int .i64 0] H41.out (Try.sizeTold _ _ _) rfl (oneTold _ _ _ _ _) ?_)
    refine bodyPost_ret (v := .agg #[.int .i64 0, .slice none 0 0, .int .i64 1]) ?_ rfl ?_
    · exact results_cell_row rfl _ _ (w.heap.size + 1) 83 #[.int .i64 0, .slice none 0 0, .int .i64 1] (0, 0) _ rfl (setRow_heap _ _ _ _ _ _ H41.out) Try.underlying83 rfl (Try.sizeTold _ _ _)
    · exact ⟨_, _, _, rfl, Own.nil _ _, MovedM.low H.out (MovedM.of_below H.out Bw1.out) (below_setRow' _ _ _ _ (by omega))⟩
set_option maxRecDepth 100000 in
set_option maxHeartbeats 4000000 in
theorem do_1few {w : World} {M p len cap : Nat} {a : Option Addr} {xs : List Int} (h : IsM w M p a len cap xs) (wd : Int) (hw1 : -9223372036854775808 ≤ wd) (hw2 : wd ≤ 9223372036854775807) (hbig : len ≤ 140737488355328) (hk : ¬ wd < 1 ∧ ¬ 8 < wd ∧ (len : Int) - p < wd) :
    Calls Try.prog 55 #[.pointer (some ⟨M, 0, none⟩), .agg #[.int .i64 1, .int .i64 wd]] w (ToldM w M a len cap xs (0) ([]) (4) (p)) := by
  obtain ⟨W0, hW0⟩ : ∃ W0, W0 = (w.alloc (.cells #[.int .i64 1, .int .i64 wd] 87)).alloc (.cells #[.int .i64 0, .slice none 0 0, .int .i64 0] 83) := ⟨_, rfl⟩
  have hs0 : W0.heap.size = w.heap.size + 2 := by rw [hW0]; simp
  have hF0 : W0.heap[w.heap.size]? = some (.cells #[.int .i64 1, .int .i64 wd] 87 (0, 0)) := by rw [hW0, heap_alloc_old _ _ _ (by simp), heap_alloc_last]
  have h40 : W0.heap[w.heap.size + 1]? = some (.cells #[.int .i64 0, .slice none 0 0, .int .i64 0] 83 (0, 0)) := by
    rw [hW0]; have := heap_alloc_last (w.alloc (.cells #[.int .i64 1, .int .i64 wd] 87)) (.cells #[.int .i64 0, .slice none 0 0, .int .i64 0] 83); simpa using this
  have hb0 : Below w.heap.size w W0 := by rw [hW0]; exact ((Below.refl _ w).alloc (Nat.le_refl _) _).alloc (by simp) _
  have H := Lib.hid h
  have H0 := Lib.hid (h.below hb0 (Nat.le_refl _))
  have HW0 := Lib.hid hW0
  have HF0 := Lib.hid hF0
  have H40 := Lib.hid h40
  have Hb0 := Lib.hid hb0
  have Hs0 := Lib.hid hs0
  have hcc := h.rd.hc
  have hcm := h.rd.hm
  have hpl := h.hp
  have hl := h.rd.hl
  have Hl := Lib.hid hl
  unfold maxLen at hcm
  have c0 := H0.out.c0
  have c1 := H0.out.c1
  clear hW0 hs0 hF0 h40 hb0 h hl
  obtain ⟨hk, hk2, hk3⟩ := hk
  have hlp : ((len - p : Nat) : Int) < wd := by omega
  by_cases hck : p = cap
  · subst hck
    go_enter Try.func55, Try.ntmps55
    go_upto_region 1 with fail
    rw [← HW0.out]
    clear HW0
    go_wp2
    go_quiet (fail)
    obtain ⟨w1, hw1e⟩ : ∃ w1, w1 = W0.drewN nq := ⟨_, rfl⟩
    rw [← hw1e]
    have hB01 : Below W0.heap.size W0 w1 := by rw [hw1e]; exact ⟨rfl, rfl, rfl, Nat.le_refl _, fun _ _ => rfl⟩
    have hs1 : w1.heap.size = w.heap.size + 2 := by rw [hw1e]; exact Hs0.out
    have hF1 : w1.heap[w.heap.size]? = some (.cells #[.int .i64 1, .int .i64 wd] 87 (0, 0)) := by rw [hw1e]; exact HF0.out
    have h41 : w1.heap[w.heap.size + 1]? = some (.cells #[.int .i64 0, .slice none 0 0, .int .i64 0] 83 (0, 0)) := by rw [hw1e]; exact H40.out
    have kc : w1.cell? ⟨w.heap.size, 0, none⟩ = some (.int .i64 1) := by rw [cell_of_row _ _ _ _ _ _ hF1]; rfl
    have wc : w1.cell? ⟨w.heap.size, 1, none⟩ = some (.int .i64 wd) := by rw [cell_of_row _ _ _ _ _ _ hF1]; rfl
    have Im1 := Lib.hid (H0.out.below hB01 (Nat.le_refl _))
    have Bw1 := Lib.hid (Hb0.out.trans (hB01.mono Hb0.out.size))
    have H41 := Lib.hid h41
    have Hs1 := Lib.hid hs1
    have h0p : len - p = 0 := by omega
    have RR : Hid (Rd w1 a (len - p) 0 (xs.drop p)) := Lib.hid (by rw [h0p, List.drop_eq_nil_of_le (by rw [Hl.out]; omega)]; exact Im1.out.rd.cut0)
    clear hw1e hB01 hs1 hF1 h41 c0 c1 HF0 H40 Hb0 Hs0 H0
    go_wp2_with (refine wpList_store_row rfl 83 (.tmp 4) (.tmp 37) rfl (w.heap.size + 1) #[.int .i64 0, .slice none 0 0, .int .i64 4] rfl rfl 83 #[.int .i64 0, .slice none 0 0, .int .i64 0] H41.out (Try.sizeTold _ _ _) rfl (oneTold _ _ _ _ _) ?_)
    refine bodyPost_ret (v := .agg #[.int .i64 0, .slice none 0 0, .int .i64 4]) ?_ rfl ?_
    · exact results_cell_row rfl _ _ (w.heap.size + 1) 83 #[.int .i64 0, .slice none 0 0, .int .i64 4] (0, 0) _ rfl (setRow_heap _ _ _ _ _ _ H41.out) Try.underlying83 rfl (Try.sizeTold _ _ _)
    · exact ⟨_, _, _, rfl, Own.nil _ _, MovedM.low H.out (MovedM.of_below H.out Bw1.out) (below_setRow' _ _ _ _ (by omega))⟩
  · have hcf : (cap = p) = False := eq_false (fun e => hck e.symm)
    go_enter Try.func55, Try.ntmps55
    go_upto_region 1 with fail
    rw [← HW0.out]
    clear HW0
    go_wp2
    go_quiet (fail)
    obtain ⟨w1, hw1e⟩ : ∃ w1, w1 = W0.drewN nq := ⟨_, rfl⟩
    rw [← hw1e]
    have hB01 : Below W0.heap.size W0 w1 := by rw [hw1e]; exact ⟨rfl, rfl, rfl, Nat.le_refl _, fun _ _ => rfl⟩
    have hs1 : w1.heap.size = w.heap.size + 2 := by rw [hw1e]; exact Hs0.out
    have hF1 : w1.heap[w.heap.size]? = some (.cells #[.int .i64 1, .int .i64 wd] 87 (0, 0)) := by rw [hw1e]; exact HF0.out
    have h41 : w1.heap[w.heap.size + 1]? = some (.cells #[.int .i64 0, .slice none 0 0, .int .i64 0] 83 (0, 0)) := by rw [hw1e]; exact H40.out
    have kc : w1.cell? ⟨w.heap.size, 0, none⟩ = some (.int .i64 1) := by rw [cell_of_row _ _ _ _ _ _ hF1]; rfl
    have wc : w1.cell? ⟨w.heap.size, 1, none⟩ = some (.int .i64 wd) := by rw [cell_of_row _ _ _ _ _ _ hF1]; rfl
    have Im1 := Lib.hid (H0.out.below hB01 (Nat.le_refl _))
    have Bw1 := Lib.hid (Hb0.out.trans (hB01.mono Hb0.out.size))
    have H41 := Lib.hid h41
    have Hs1 := Lib.hid hs1
    have RR : Hid (Rd w1 (a.map (fun x => x.add p)) (len - p) (cap - p) (xs.drop p)) := Lib.hid (by have := Im1.out.rd.cut2 p (len - p) (by omega); rw [List.take_of_length_le (by rw [List.length_drop, Hl.out]; exact Nat.le_refl _)] at this; exact this)
    clear hw1e hB01 hs1 hF1 h41 c0 c1 HF0 H40 Hb0 Hs0 H0
    go_wp2_with (refine wpList_store_row rfl 83 (.tmp 4) (.tmp 37) rfl (w.heap.size + 1) #[.int .i64 0, .slice none 0 0, .int .i64 4] rfl rfl 83 #[.int .i64 0, .slice none 0 0, .int .i64 0] H41.out (Try.sizeTold _ _ _) rfl (oneTold _ _ _ _ _) ?_)
    refine bodyPost_ret (v := .agg #[.int .i64 0, .slice none 0 0, .int .i64 4]) ?_ rfl ?_
    · exact results_cell_row rfl _ _ (w.heap.size + 1) 83 #[.int .i64 0, .slice none 0 0, .int .i64 4] (0, 0) _ rfl (setRow_heap _ _ _ _ _ _ H41.out) Try.underlying83 rfl (Try.sizeTold _ _ _)
    · exact ⟨_, _, _, rfl, Own.nil _ _, MovedM.low H.out (MovedM.of_below H.out Bw1.out) (below_setRow' _ _ _ _ (by omega))⟩
end Go.Proofs.Ytnhkkhceoaembaa

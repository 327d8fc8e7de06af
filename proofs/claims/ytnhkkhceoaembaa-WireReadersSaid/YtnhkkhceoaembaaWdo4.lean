/- The model's do: Seek, bytes. -/
import Derived.Test.YtnhkkhceoaembaaWmodel
import Derived.Test.YtnhkkhceoaembaaWdo2
import Derived.Test.YtnhkkhceoaembaaWtext
import Derived.Deep.DeepCutAuto
namespace Go.Proofs.Ytnhkkhceoaembaa
set_option linter.unusedVariables false
open Go.RowKit

set_option maxRecDepth 100000 in
set_option maxHeartbeats 4000000 in
theorem do_5lt {w : World} {M p len cap : Nat} {a : Option Addr} {xs : List Int} (h : IsM w M p a len cap xs) (wd : Int) (hw1 : -9223372036854775808 ≤ wd) (hw2 : wd ≤ 9223372036854775807) (hbig : len ≤ 140737488355328) (hk : wd < 0) :
    Calls Try.prog 55 #[.pointer (some ⟨M, 0, none⟩), .agg #[.int .i64 5, .int .i64 wd]] w (ToldM w M a len cap xs (0) ([]) (1) (p)) := by
  obtain ⟨W0, hW0⟩ : ∃ W0, W0 = (w.alloc (.cells #[.int .i64 5, .int .i64 wd] 87)).alloc (.cells #[.int .i64 0, .slice none 0 0, .int .i64 0] 83) := ⟨_, rfl⟩
  have hs0 : W0.heap.size = w.heap.size + 2 := by rw [hW0]; simp
  have hF0 : W0.heap[w.heap.size]? = some (.cells #[.int .i64 5, .int .i64 wd] 87 (0, 0)) := by rw [hW0, heap_alloc_old _ _ _ (by simp), heap_alloc_last]
  have h40 : W0.heap[w.heap.size + 1]? = some (.cells #[.int .i64 0, .slice none 0 0, .int .i64 0] 83 (0, 0)) := by
    rw [hW0]; have := heap_alloc_last (w.alloc (.cells #[.int .i64 5, .int .i64 wd] 87)) (.cells #[.int .i64 0, .slice none 0 0, .int .i64 0] 83); simpa using this
  have hb0 : Below w.heap.size w W0 := by rw [hW0]; exact ((Below.refl _ w).alloc (Nat.le_refl _) _).alloc (by simp) _
  have H := Lib.hid h
  have H0 := Lib.hid (h.below hb0 (Nat.le_refl _))
  have HW0 := Lib.hid hW0
  have HF0 := Lib.hid hF0
  have H40 := Lib.hid h40
  have Hb0 := Lib.hid hb0
  have Hs0 := Lib.hid hs0
  have hcc := h.rd.hc
  have hcm := h.rd.hm
  have hpl := h.hp
  have hl := h.rd.hl
  have Hl := Lib.hid hl
  unfold maxLen at hcm
  have c0 := H0.out.c0
  have c1 := H0.out.c1
  clear hW0 hs0 hF0 h40 hb0 h hl
  by_cases hck : p = cap
  · subst hck
    go_enter Try.func55, Try.ntmps55
    go_upto_region 1 with fail
    rw [← HW0.out]
    clear HW0
    go_wp2
    go_quiet (fail)
    obtain ⟨w1, hw1e⟩ : ∃ w1, w1 = W0.drewN nq := ⟨_, rfl⟩
    rw [← hw1e]
    have hB01 : Below W0.heap.size W0 w1 := by rw [hw1e]; exact ⟨rfl, rfl, rfl, Nat.le_refl _, fun _ _ => rfl⟩
    have hs1 : w1.heap.size = w.heap.size + 2 := by rw [hw1e]; exact Hs0.out
    have hF1 : w1.heap[w.heap.size]? = some (.cells #[.int .i64 5, .int .i64 wd] 87 (0, 0)) := by rw [hw1e]; exact HF0.out
    have h41 : w1.heap[w.heap.size + 1]? = some (.cells #[.int .i64 0, .slice none 0 0, .int .i64 0] 83 (0, 0)) := by rw [hw1e]; exact H40.out
    have kc : w1.cell? ⟨w.heap.size, 0, none⟩ = some (.int .i64 5) := by rw [cell_of_row _ _ _ _ _ _ hF1]; rfl
    have wc : w1.cell? ⟨w.heap.size, 1, none⟩ = some (.int .i64 wd) := by rw [cell_of_row _ _ _ _ _ _ hF1]; rfl
    have Im1 := Lib.hid (H0.out.below hB01 (Nat.le_refl _))
    have Bw1 := Lib.hid (Hb0.out.trans (hB01.mono Hb0.out.size))
    have H41 := Lib.hid h41
    have Hs1 := Lib.hid hs1
    have h0p : len - p = 0 := by omega
    have RR : Hid (Rd w1 a 0 0 (xs.drop p)) := Lib.hid (by rw [List.drop_eq_nil_of_le (by rw [Hl.out]; omega)]; exact Im1.out.rd.cut0)
    clear hw1e hB01 hs1 hF1 h41 c0 c1 HF0 H40 Hb0 Hs0 H0
    have c0 := Im1.out.c0
    have c1 := Im1.out.c1
    go_upto_region 21 with fail
    go_quiet (fail)
    go_wp2_with (refine wpList_store_row rfl 83 (.tmp 4) (.tmp 102) rfl (w.heap.size + 1) #[.int .i64 0, .slice none 0 0, .int .i64 1] rfl rfl 83 #[.int .i64 0, .slice none 0 0, .int .i64 0] H41.out (Try.sizeTold _ _ _) rfl (oneTold _ _ _ _ _) ?_)
    refine bodyPost_ret (v := .agg #[.int .i64 0, .slice none 0 0, .int .i64 1]) ?_ rfl ?_
    · exact results_cell_row rfl _ _ (w.heap.size + 1) 83 #[.int .i64 0, .slice none 0 0, .int .i64 1] (0, 0) _ rfl (setRow_heap _ _ _ _ _ _ H41.out) Try.underlying83 rfl (Try.sizeTold _ _ _)
    · exact ⟨_, _, _, rfl, Own.nil _ _, MovedM.low H.out (MovedM.of_below H.out (show Below w.heap.size w (World.drewN w1 _) from ⟨Bw1.out.os, Bw1.out.tape, Bw1.out.output, Bw1.out.size, Bw1.out.block⟩)) (below_setRow' _ _ _ _ (by omega))⟩
  · have hcf : (cap = p) = False := eq_false (fun e => hck e.symm)
    go_enter Try.func55, Try.ntmps55
    go_upto_region 1 with fail
    rw [← HW0.out]
    clear HW0
    go_wp2
    go_quiet (fail)
    obtain ⟨w1, hw1e⟩ : ∃ w1, w1 = W0.drewN nq := ⟨_, rfl⟩
    rw [← hw1e]
    have hB01 : Below W0.heap.size W0 w1 := by rw [hw1e]; exact ⟨rfl, rfl, rfl, Nat.le_refl _, fun _ _ => rfl⟩
    have hs1 : w1.heap.size = w.heap.size + 2 := by rw [hw1e]; exact Hs0.out
    have hF1 : w1.heap[w.heap.size]? = some (.cells #[.int .i64 5, .int .i64 wd] 87 (0, 0)) := by rw [hw1e]; exact HF0.out
    have h41 : w1.heap[w.heap.size + 1]? = some (.cells #[.int .i64 0, .slice none 0 0, .int .i64 0] 83 (0, 0)) := by rw [hw1e]; exact H40.out
    have kc : w1.cell? ⟨w.heap.size, 0, none⟩ = some (.int .i64 5) := by rw [cell_of_row _ _ _ _ _ _ hF1]; rfl
    have wc : w1.cell? ⟨w.heap.size, 1, none⟩ = some (.int .i64 wd) := by rw [cell_of_row _ _ _ _ _ _ hF1]; rfl
    have Im1 := Lib.hid (H0.out.below hB01 (Nat.le_refl _))
    have Bw1 := Lib.hid (Hb0.out.trans (hB01.mono Hb0.out.size))
    have H41 := Lib.hid h41
    have Hs1 := Lib.hid hs1
    have RR : Hid (Rd w1 (a.map (fun x => x.add p)) (len - p) (cap - p) (xs.drop p)) := Lib.hid (by have := Im1.out.rd.cut2 p (len - p) (by omega); rw [List.take_of_length_le (by rw [List.length_drop, Hl.out]; exact Nat.le_refl _)] at this; exact this)
    clear hw1e hB01 hs1 hF1 h41 c0 c1 HF0 H40 Hb0 Hs0 H0
    have c0 := Im1.out.c0
    have c1 := Im1.out.c1
    go_upto_region 21 with fail
    go_quiet (fail)
    go_wp2_with (refine wpList_store_row rfl 83 (.tmp 4) (.tmp 102) rfl (w.heap.size + 1) #[.int .i64 0, .slice none 0 0, .int .i64 1] rfl rfl 83 #[.int .i64 0, .slice none 0 0, .int .i64 0] H41.out (Try.sizeTold _ _ _) rfl (oneTold _ _ _ _ _) ?_)
    refine bodyPost_ret (v := .agg #[.int .i64 0, .slice none 0 0, .int .i64 1]) ?_ rfl ?_
    · exact results_cell_row rfl _ _ (w.heap.size + 1) 83 #[.int .i64 0, .slice none 0 0, .int .i64 1] (0, 0) _ rfl (setRow_heap _ _ _ _ _ _ H41.out) Try.underlying83 rfl (Try.sizeTold _ _ _)
    · exact ⟨_, _, _, rfl, Own.nil _ _, MovedM.low H.out (MovedM.of_below H.out (show Below w.heap.size w (World.drewN w1 _) from ⟨Bw1.out.os, Bw1.out.tape, Bw1.out.output, Bw1.out.size, Bw1.out.block⟩)) (below_setRow' _ _ _ _ (by omega))⟩
set_option maxRecDepth 100000 in
set_option maxHeartbeats 4000000 in
theorem do_5gt {w : World} {M p len cap : Nat} {a : Option Addr} {xs : List Int} (h : IsM w M p a len cap xs) (wd : Int) (hw1 : -9223372036854775808 ≤ wd) (hw2 : wd ≤ 9223372036854775807) (hbig : len ≤ 140737488355328) (hk : ¬ wd < 0 ∧ (len : Int) < wd) :
    Calls Try.prog 55 #[.pointer (some ⟨M, 0, none⟩), .agg #[.int .i64 5, .int .i64 wd]] w (ToldM w M a len cap xs (0) ([]) (1) (p)) := by
  obtain ⟨W0, hW0⟩ : ∃ W0, W0 = (w.alloc (.cells #[.int .i64 5, .int .i64 wd] 87)).alloc (.cells #[.int .i64 0, .slice none 0 0, .int .i64 0] 83) := ⟨_, rfl⟩
  have hs0 : W0.heap.size = w.heap.size + 2 := by rw [hW0]; simp
  have hF0 : W0.heap[w.heap.size]? = some (.cells #[.int .i64 5, .int .i64 wd] 87 (0, 0)) := by rw [hW0, heap_alloc_old _ _ _ (by simp), heap_alloc_last]
  have h40 : W0.heap[w.heap.size + 1]? = some (.cells #[.int .i64 0, .slice none 0 0, .int .i64 0] 83 (0, 0)) := by
    rw [hW0]; have := heap_alloc_last (w.alloc (.cells #[.int .i64 5, .int .i64 wd] 87)) (.cells #[.int .i64 0, .slice none 0 0, .int .i64 0] 83); simpa using this
  have hb0 : Below w.heap.size w W0 := by rw [hW0]; exact ((Below.refl _ w).alloc (Nat.le_refl _) _).alloc (by simp) _
  have H := Lib.hid h
  have H0 := Lib.hid (h.below hb0 (Nat.le_refl _))
  have HW0 := Lib.hid hW0
  have HF0 := Lib.hid hF0
  have H40 := Lib.hid h40
  have Hb0 := Lib.hid hb0
  have Hs0 := Lib.hid hs0
  have hcc := h.rd.hc
  have hcm := h.rd.hm
  have hpl := h.hp
  have hl := h.rd.hl
  have Hl := Lib.hid hl
  unfold maxLen at hcm
  have c0 := H0.out.c0
  have c1 := H0.out.c1
  clear hW0 hs0 hF0 h40 hb0 h hl
  obtain ⟨hk, hk2⟩ := hk
  by_cases hck : p = cap
  · subst hck
    go_enter Try.func55, Try.ntmps55
    go_upto_region 1 with fail
    rw [← HW0.out]
    clear HW0
    go_wp2
    go_quiet (fail)
    obtain ⟨w1, hw1e⟩ : ∃ w1, w1 = W0.drewN nq := ⟨_, rfl⟩
    rw [← hw1e]
    have hB01 : Below W0.heap.size W0 w1 := by rw [hw1e]; exact ⟨rfl, rfl, rfl, Nat.le_refl _, fun _ _ => rfl⟩
    have hs1 : w1.heap.size = w.heap.size + 2 := by rw [hw1e]; exact Hs0.out
    have hF1 : w1.heap[w.heap.size]? = some (.cells #[.int .i64 5, .int .i64 wd] 87 (0, 0)) := by rw [hw1e]; exact HF0.out
    have h41 : w1.heap[w.heap.size + 1]? = some (.cells #[.int .i64 0, .slice none 0 0, .int .i64 0] 83 (0, 0)) := by rw [hw1e]; exact H40.out
    have kc : w1.cell? ⟨w.heap.size, 0, none⟩ = some (.int .i64 5) := by rw [cell_of_row _ _ _ _ _ _ hF1]; rfl
    have wc : w1.cell? ⟨w.heap.size, 1, none⟩ = some (.int .i64 wd) := by rw [cell_of_row _ _ _ _ _ _ hF1]; rfl
    have Im1 := Lib.hid (H0.out.below hB01 (Nat.le_refl _))
    have Bw1 := Lib.hid (Hb0.out.trans (hB01.mono Hb0.out.size))
    have H41 := Lib.hid h41
    have Hs1 := Lib.hid hs1
    have h0p : len - p = 0 := by omega
    have RR : Hid (Rd w1 a 0 0 (xs.drop p)) := Lib.hid (by rw [List.drop_eq_nil_of_le (by rw [Hl.out]; omega)]; exact Im1.out.rd.cut0)
    clear hw1e hB01 hs1 hF1 h41 c0 c1 HF0 H40 Hb0 Hs0 H0
    have c0 := Im1.out.c0
    have c1 := Im1.out.c1
    go_upto_region 21 with fail
    go_quiet (fail)
    go_wp2_with (refine wpList_store_row rfl 83 (.tmp 4) (.tmp 102) rfl (w.heap.size + 1) #[.int .i64 0, .slice none 0 0, .int .i64 1] rfl rfl 83 #[.int .i64 0, .slice none 0 0, .int .i64 0] H41.out (Try.sizeTold _ _ _) rfl (oneTold _ _ _ _ _) ?_)
    refine bodyPost_ret (v := .agg #[.int .i64 0, .slice none 0 0, .int .i64 1]) ?_ rfl ?_
    · exact results_cell_row rfl _ _ (w.heap.size + 1) 83 #[.int .i64 0, .slice none 0 0, .int .i64 1] (0, 0) _ rfl (setRow_heap _ _ _ _ _ _ H41.out) Try.underlying83 rfl (Try.sizeTold _ _ _)
    · exact ⟨_, _, _, rfl, Own.nil _ _, MovedM.low H.out (MovedM.of_below H.out (show Below w.heap.size w (World.drewN w1 _) from ⟨Bw1.out.os, Bw1.out.tape, Bw1.out.output, Bw1.out.size, Bw1.out.block⟩)) (below_setRow' _ _ _ _ (by omega))⟩
  · have hcf : (cap = p) = False := eq_false (fun e => hck e.symm)
    go_enter Try.func55, Try.ntmps55
    go_upto_region 1 with fail
    rw [← HW0.out]
    clear HW0
    go_wp2
    go_quiet (fail)
    obtain ⟨w1, hw1e⟩ : ∃ w1, w1 = W0.drewN nq := ⟨_, rfl⟩
    rw [← hw1e]
    have hB01 : Below W0.heap.size W0 w1 := by rw [hw1e]; exact ⟨rfl, rfl, rfl, Nat.le_refl _, fun _ _ => rfl⟩
    have hs1 : w1.heap.size = w.heap.size + 2 := by rw [hw1e]; exact Hs0.out
    have hF1 : w1.heap[w.heap.size]? = some (.cells #[.int .i64 5, .int .i64 wd] 87 (0, 0)) := by rw [hw1e]; exact HF0.out
    have h41 : w1.heap[w.heap.size + 1]? = some (.cells #[.int .i64 0, .slice none 0 0, .int .i64 0] 83 (0, 0)) := by rw [hw1e]; exact H40.out
    have kc : w1.cell? ⟨w.heap.size, 0, none⟩ = some (.int .i64 5) := by rw [cell_of_row _ _ _ _ _ _ hF1]; rfl
    have wc : w1.cell? ⟨w.heap.size, 1, none⟩ = some (.int .i64 wd) := by rw [cell_of_row _ _ _ _ _ _ hF1]; rfl
    have Im1 := Lib.hid (H0.out.below hB01 (Nat.le_refl _))
    have Bw1 := Lib.hid (Hb0.out.trans (hB01.mono Hb0.out.size))
    have H41 := Lib.hid h41
    have Hs1 := Lib.hid hs1
    have RR : Hid (Rd w1 (a.map (fun x => x.add p)) (len - p) (cap - p) (xs.drop p)) := Lib.hid (by have := Im1.out.rd.cut2 p (len - p) (by omega); rw [List.take_of_length_le (by rw [List.length_drop, Hl.out]; exact Nat.le_refl _)] at this; exact this)
    clear hw1e hB01 hs1 hF1 h41 c0 c1 HF0 H40 Hb0 Hs0 H0
    have c0 := Im1.out.c0
    have c1 := Im1.out.c1
    go_upto_region 21 with fail
    go_quiet (fail)
    go_wp2_with (refine wpList_store_row rfl 83 (.tmp 4) (.tmp 102) rfl (w.heap.size + 1) #[.int .i64 0, .slice none 0 0, .int .i64 1] rfl rfl 83 #[.int .i64 0, .slice none 0 0, .int .i64 0] H41.out (Try.sizeTold _ _ _) rfl (oneTold _ _ _ _ _) ?_)
    refine bodyPost_ret (v := .agg #[.int .i64 0, .slice none 0 0, .int .i64 1]) ?_ rfl ?_
    · exact results_cell_row rfl _ _ (w.heap.size + 1) 83 #[.int .i64 0, .slice none 0 0, .int .i64 1] (0, 0) _ rfl (setRow_heap _ _ _ _ _ _ H41.out) Try.underlying83 rfl (Try.sizeTold _ _ _)
    · exact ⟨_, _, _, rfl, Own.nil _ _, MovedM.low H.out (MovedM.of_below H.out (show Below w.heap.size w (World.drewN w1 _) from ⟨Bw1.out.os, Bw1.out.tape, Bw1.out.output, Bw1.out.size, Bw1.out.block⟩)) (below_setRow' _ _ _ _ (by omega))⟩
set_option maxRecDepth 100000 in
set_option maxHeartbeats 4000000 in
theorem do_5ok {w : World} {M p len cap : Nat} {a : Option Addr} {xs : List Int} (h : IsM w M p a len cap xs) (t : Nat) (hbig : len ≤ 140737488355328) (htl : t ≤ len) :
    Calls Try.prog 55 #[.pointer (some ⟨M, 0, none⟩), .agg #[.int .i64 5, .int .i64 t]] w (ToldM w M a len cap xs (0) ([]) (0) (t)) := by
  obtain ⟨W0, hW0⟩ : ∃ W0, W0 = (w.alloc (.cells #[.int .i64 5, .int .i64 t] 87)).alloc (.cells #[.int .i64 0, .slice none 0 0, .int .i64 0] 83) := ⟨_, rfl⟩
  have hs0 : W0.heap.size = w.heap.size + 2 := by rw [hW0]; simp
  have hF0 : W0.heap[w.heap.size]? = some (.cells #[.int .i64 5, .int .i64 t] 87 (0, 0)) := by rw [hW0, heap_alloc_old _ _ _ (by simp), heap_alloc_last]
  have h40 : W0.heap[w.heap.size + 1]? = some (.cells #[.int .i64 0, .slice none 0 0, .int .i64 0] 83 (0, 0)) := by
    rw [hW0]; have := heap_alloc_last (w.alloc (.cells #[.int .i64 5, .int .i64 t] 87)) (.cells #[.int .i64 0, .slice none 0 0, .int .i64 0] 83); simpa using this
  have hb0 : Below w.heap.size w W0 := by rw [hW0]; exact ((Below.refl _ w).alloc (Nat.le_refl _) _).alloc (by simp) _
  have H := Lib.hid h
  have H0 := Lib.hid (h.below hb0 (Nat.le_refl _))
  have HW0 := Lib.hid hW0
  have HF0 := Lib.hid hF0
  have H40 := Lib.hid h40
  have Hb0 := Lib.hid hb0
  have Hs0 := Lib.hid hs0
  have hcc := h.rd.hc
  have hcm := h.rd.hm
  have hpl := h.hp
  have hl := h.rd.hl
  have Hl := Lib.hid hl
  unfold maxLen at hcm
  have c0 := H0.out.c0
  have c1 := H0.out.c1
  clear hW0 hs0 hF0 h40 hb0 h hl
  have g1 : ¬ (t : Int) < 0 := by omega
  have g2 : ¬ (len : Int) < (t : Int) := by omega
  by_cases hck : p = cap
  · subst hck
    go_enter Try.func55, Try.ntmps55
    go_upto_region 1 with fail
    rw [← HW0.out]
    clear HW0
    go_wp2
    go_quiet (fail)
    obtain ⟨w1, hw1e⟩ : ∃ w1, w1 = W0.drewN nq := ⟨_, rfl⟩
    rw [← hw1e]
    have hB01 : Below W0.heap.size W0 w1 := by rw [hw1e]; exact ⟨rfl, rfl, rfl, Nat.le_refl _, fun _ _ => rfl⟩
    have hs1 : w1.heap.size = w.heap.size + 2 := by rw [hw1e]; exact Hs0.out
    have hF1 : w1.heap[w.heap.size]? = some (.cells #[.int .i64 5, .int .i64 t] 87 (0, 0)) := by rw [hw1e]; exact HF0.out
    have h41 : w1.heap[w.heap.size + 1]? = some (.cells #[.int .i64 0, .slice none 0 0, .int .i64 0] 83 (0, 0)) := by rw [hw1e]; exact H40.out
    have kc : w1.cell? ⟨w.heap.size, 0, none⟩ = some (.int .i64 5) := by rw [cell_of_row _ _ _ _ _ _ hF1]; rfl
    have wc : w1.cell? ⟨w.heap.size, 1, none⟩ = some (.int .i64 t) := by rw [cell_of_row _ _ _ _ _ _ hF1]; rfl
    have Im1 := Lib.hid (H0.out.below hB01 (Nat.le_refl _))
    have Bw1 := Lib.hid (Hb0.out.trans (hB01.mono Hb0.out.size))
    have H41 := Lib.hid h41
    have Hs1 := Lib.hid hs1
    have h0p : len - p = 0 := by omega
    have RR : Hid (Rd w1 a 0 0 (xs.drop p)) := Lib.hid (by rw [List.drop_eq_nil_of_le (by rw [Hl.out]; omega)]; exact Im1.out.rd.cut0)
    have wc0 := wc
    clear hw1e hB01 hs1 hF1 h41 c0 c1 HF0 H40 Hb0 Hs0 H0
    have c0 := Im1.out.c0
    have c1 := Im1.out.c1
    have f1 := Im1.out.f1
    go_upto_region 21 with fail
    clear nq
    go_quiet (fail)
    obtain ⟨w2, hw2⟩ : ∃ w2, w2 = World.drewN w1 nq := ⟨_, rfl⟩
    rw [← hw2]
    have hb2 : Below w1.heap.size w1 w2 := by rw [hw2]; exact ⟨rfl, rfl, rfl, Nat.le_refl _, fun _ _ => rfl⟩
    have Im2 := Lib.hid (Im1.out.below hb2 (Nat.le_refl _))
    have Bw2 := Lib.hid (Bw1.out.trans (hb2.mono Bw1.out.size))
    have H42 : Hid (w2.heap[w.heap.size + 1]? = some (.cells #[.int .i64 0, .slice none 0 0, .int .i64 0] 83 (0, 0))) := Lib.hid (by rw [hw2]; exact H41.out)
    have h4M : w.heap.size + 1 ≠ M := by rintro rfl; have := Im2.out.blk.symm.trans H42.out; simp at this
    have wc := Im2.out.c1
    have kc2 : w2.cell? ⟨w.heap.size, 1, none⟩ = some (.int .i64 t) := by rw [hw2]; exact wc0
    have g1 := Im2.out.f1
    obtain ⟨w3, hw3⟩ : ∃ w3, w3 = w2.setCell ⟨M, 1, none⟩ (.int .i64 t) := ⟨_, rfl⟩
    have Hm3 : Hid (MovedM w w3 M t a len p xs) := Lib.hid (by rw [hw3]; exact MovedM.pre Bw2.out (Im2.out.move t htl))
    have H43 : Hid (w3.heap[w.heap.size + 1]? = some (.cells #[.int .i64 0, .slice none 0 0, .int .i64 0] 83 (0, 0))) := Lib.hid (by rw [hw3]; exact (heap_setCell_other w2 ⟨M, 1, none⟩ _ _ h4M).trans H42.out)
    have HW3 := Lib.hid hw3
    clear hw2 hb2 hw3 RR Im1 Bw1 H41 c0 c1 f1 H42
    go_upto_region 24 with fail
    rw [← HW3.out]
    go_wp2_with (refine wpList_store_row rfl 83 (.tmp 4) (.tmp 108) rfl (w.heap.size + 1) #[.int .i64 0, .slice none 0 0, .int .i64 0] rfl rfl 83 #[.int .i64 0, .slice none 0 0, .int .i64 0] H43.out (Try.sizeTold _ _ _) rfl (oneTold _ _ _ _ _) ?_)
    refine bodyPost_ret (v := .agg #[.int .i64 0, .slice none 0 0, .int .i64 0]) ?_ rfl ?_
    · exact results_cell_row rfl _ _ (w.heap.size + 1) 83 #[.int .i64 0, .slice none 0 0, .int .i64 0] (0, 0) _ rfl (setRow_heap _ _ _ _ _ _ H43.out) Try.underlying83 rfl (Try.sizeTold _ _ _)
    · exact ⟨_, _, _, rfl, Own.nil _ _, MovedM.low H.out Hm3.out (below_setRow' _ _ _ _ (by omega))⟩
  · have hcf : (cap = p) = False := eq_false (fun e => hck e.symm)
    go_enter Try.func55, Try.ntmps55
    go_upto_region 1 with fail
    rw [← HW0.out]
    clear HW0
    go_wp2
    go_quiet (fail)
    obtain ⟨w1, hw1e⟩ : ∃ w1, w1 = W0.drewN nq := ⟨_, rfl⟩
    rw [← hw1e]
    have hB01 : Below W0.heap.size W0 w1 := by rw [hw1e]; exact ⟨rfl, rfl, rfl, Nat.le_refl _, fun _ _ => rfl⟩
    have hs1 : w1.heap.size = w.heap.size + 2 := by rw [hw1e]; exact Hs0.out
    have hF1 : w1.heap[w.heap.size]? = some (.cells #[.int .i64 5, .int .i64 t] 87 (0, 0)) := by rw [hw1e]; exact HF0.out
    have h41 : w1.heap[w.heap.size + 1]? = some (.cells #[.int .i64 0, .slice none 0 0, .int .i64 0] 83 (0, 0)) := by rw [hw1e]; exact H40.out
    have kc : w1.cell? ⟨w.heap.size, 0, none⟩ = some (.int .i64 5) := by rw [cell_of_row _ _ _ _ _ _ hF1]; rfl
    have wc : w1.cell? ⟨w.heap.size, 1, none⟩ = some (.int .i64 t) := by rw [cell_of_row _ _ _ _ _ _ hF1]; rfl
    have Im1 := Lib.hid (H0.out.below hB01 (Nat.le_refl _))
    have Bw1 := Lib.hid (Hb0.out.trans (hB01.mono Hb0.out.size))
    have H41 := Lib.hid h41
    have Hs1 := Lib.hid hs1
    have RR : Hid (Rd w1 (a.map (fun x => x.add p)) (len - p) (cap - p) (xs.drop p)) := Lib.hid (by have := Im1.out.rd.cut2 p (len - p) (by omega); rw [List.take_of_length_le (by rw [List.length_drop, Hl.out]; exact Nat.le_refl _)] at this; exact this)
    have wc0 := wc
    clear hw1e hB01 hs1 hF1 h41 c0 c1 HF0 H40 Hb0 Hs0 H0
    have c0 := Im1.out.c0
    have c1 := Im1.out.c1
    have f1 := Im1.out.f1
    go_upto_region 21 with fail
    clear nq
    go_quiet (fail)
    obtain ⟨w2, hw2⟩ : ∃ w2, w2 = World.drewN w1 nq := ⟨_, rfl⟩
    rw [← hw2]
    have hb2 : Below w1.heap.size w1 w2 := by rw [hw2]; exact ⟨rfl, rfl, rfl, Nat.le_refl _, fun _ _ => rfl⟩
    have Im2 := Lib.hid (Im1.out.below hb2 (Nat.le_refl _))
    have Bw2 := Lib.hid (Bw1.out.trans (hb2.mono Bw1.out.size))
    have H42 : Hid (w2.heap[w.heap.size + 1]? = some (.cells #[.int .i64 0, .slice none 0 0, .int .i64 0] 83 (0, 0))) := Lib.hid (by rw [hw2]; exact H41.out)
    have h4M : w.heap.size + 1 ≠ M := by rintro rfl; have := Im2.out.blk.symm.trans H42.out; simp at this
    have wc := Im2.out.c1
    have kc2 : w2.cell? ⟨w.heap.size, 1, none⟩ = some (.int .i64 t) := by rw [hw2]; exact wc0
    have g1 := Im2.out.f1
    obtain ⟨w3, hw3⟩ : ∃ w3, w3 = w2.setCell ⟨M, 1, none⟩ (.int .i64 t) := ⟨_, rfl⟩
    have Hm3 : Hid (MovedM w w3 M t a len cap xs) := Lib.hid (by rw [hw3]; exact MovedM.pre Bw2.out (Im2.out.move t htl))
    have H43 : Hid (w3.heap[w.heap.size + 1]? = some (.cells #[.int .i64 0, .slice none 0 0, .int .i64 0] 83 (0, 0))) := Lib.hid (by rw [hw3]; exact (heap_setCell_other w2 ⟨M, 1, none⟩ _ _ h4M).trans H42.out)
    have HW3 := Lib.hid hw3
    clear hw2 hb2 hw3 RR Im1 Bw1 H41 c0 c1 f1 H42
    go_upto_region 24 with fail
    rw [← HW3.out]
    go_wp2_with (refine wpList_store_row rfl 83 (.tmp 4) (.tmp 108) rfl (w.heap.size + 1) #[.int .i64 0, .slice none 0 0, .int .i64 0] rfl rfl 83 #[.int .i64 0, .slice none 0 0, .int .i64 0] H43.out (Try.sizeTold _ _ _) rfl (oneTold _ _ _ _ _) ?_)
    refine bodyPost_ret (v := .agg #[.int .i64 0, .slice none 0 0, .int .i64 0]) ?_ rfl ?_
    · exact results_cell_row rfl _ _ (w.heap.size + 1) 83 #[.int .i64 0, .slice none 0 0, .int .i64 0] (0, 0) _ rfl (setRow_heap _ _ _ _ _ _ H43.out) Try.underlying83 rfl (Try.sizeTold _ _ _)
    · exact ⟨_, _, _, rfl, Own.nil _ _, MovedM.low H.out Hm3.out (below_setRow' _ _ _ _ (by omega))⟩
set_option maxRecDepth 100000 in
set_option maxHeartbeats 4000000 in
theorem do_xlt {w : World} {M p len cap : Nat} {a : Option Addr} {xs : List Int} (h : IsM w M p a len cap xs) (kd wd : Int) (hw1 : -9223372036854775808 ≤ wd) (hw2 : wd ≤ 9223372036854775807) (hbig : len ≤ 140737488355328) (hk : (kd ≠ 0 ∧ kd ≠ 1 ∧ kd ≠ 2 ∧ kd ≠ 3 ∧ kd ≠ 5) ∧ wd < 0) :
    Calls Try.prog 55 #[.pointer (some ⟨M, 0, none⟩), .agg #[.int .i64 kd, .int .i64 wd]] w (ToldM w M a len cap xs (0) ([]) (1) (p)) := by
  obtain ⟨W0, hW0⟩ : ∃ W0, W0 = (w.alloc (.cells #[.int .i64 kd, .int .i64 wd] 87)).alloc (.cells #[.int .i64 0, .slice none 0 0, .int .i64 0] 83) := ⟨_, rfl⟩
  have hs0 : W0.heap.size = w.heap.size + 2 := by rw [hW0]; simp
  have hF0 : W0.heap[w.heap.size]? = some (.cells #[.int .i64 kd, .int .i64 wd] 87 (0, 0)) := by rw [hW0, heap_alloc_old _ _ _ (by simp), heap_alloc_last]
  have h40 : W0.heap[w.heap.size + 1]? = some (.cells #[.int .i64 0, .slice none 0 0, .int .i64 0] 83 (0, 0)) := by
    rw [hW0]; have := heap_alloc_last (w.alloc (.cells #[.int .i64 kd, .int .i64 wd] 87)) (.cells #[.int .i64 0, .slice none 0 0, .int .i64 0] 83); simpa using this
  have hb0 : Below w.heap.size w W0 := by rw [hW0]; exact ((Below.refl _ w).alloc (Nat.le_refl _) _).alloc (by simp) _
  have H := Lib.hid h
  have H0 := Lib.hid (h.below hb0 (Nat.le_refl _))
  have HW0 := Lib.hid hW0
  have HF0 := Lib.hid hF0
  have H40 := Lib.hid h40
  have Hb0 := Lib.hid hb0
  have Hs0 := Lib.hid hs0
  have hcc := h.rd.hc
  have hcm := h.rd.hm
  have hpl := h.hp
  have hl := h.rd.hl
  have Hl := Lib.hid hl
  unfold maxLen at hcm
  have c0 := H0.out.c0
  have c1 := H0.out.c1
  clear hW0 hs0 hF0 h40 hb0 h hl
  obtain ⟨hk, hk2⟩ := hk
  have n0 : (kd == 0) = false := by simp; omega
  have n1 : (kd == 1) = false := by simp; omega
  have n2 : (kd == 2) = false := by simp; omega
  have n3 : (kd == 3) = false := by simp; omega
  have n5 : (kd == 5) = false := by simp; omega
  by_cases hck : p = cap
  · subst hck
    go_enter Try.func55, Try.ntmps55
    go_upto_region 1 with fail
    rw [← HW0.out]
    clear HW0
    go_wp2
    go_quiet (fail)
    obtain ⟨w1, hw1e⟩ : ∃ w1, w1 = W0.drewN nq := ⟨_, rfl⟩
    rw [← hw1e]
    have hB01 : Below W0.heap.size W0 w1 := by rw [hw1e]; exact ⟨rfl, rfl, rfl, Nat.le_refl _, fun _ _ => rfl⟩
    have hs1 : w1.heap.size = w.heap.size + 2 := by rw [hw1e]; exact Hs0.out
    have hF1 : w1.heap[w.heap.size]? = some (.cells #[.int .i64 kd, .int .i64 wd] 87 (0, 0)) := by rw [hw1e]; exact HF0.out
    have h41 : w1.heap[w.heap.size + 1]? = some (.cells #[.int .i64 0, .slice none 0 0, .int .i64 0] 83 (0, 0)) := by rw [hw1e]; exact H40.out
    have kc : w1.cell? ⟨w.heap.size, 0, none⟩ = some (.int .i64 kd) := by rw [cell_of_row _ _ _ _ _ _ hF1]; rfl
    have wc : w1.cell? ⟨w.heap.size, 1, none⟩ = some (.int .i64 wd) := by rw [cell_of_row _ _ _ _ _ _ hF1]; rfl
    have Im1 := Lib.hid (H0.out.below hB01 (Nat.le_refl _))
    have Bw1 := Lib.hid (Hb0.out.trans (hB01.mono Hb0.out.size))
    have H41 := Lib.hid h41
    have Hs1 := Lib.hid hs1
    have h0p : len - p = 0 := by omega
    have RR : Hid (Rd w1 a 0 0 (xs.drop p)) := Lib.hid (by rw [List.drop_eq_nil_of_le (by rw [Hl.out]; omega)]; exact Im1.out.rd.cut0)
    clear hw1e hB01 hs1 hF1 h41 c0 c1 HF0 H40 Hb0 Hs0 H0
    go_wp2_with (refine wpList_store_row rfl 83 (.tmp 4) (.tmp 112) rfl (w.heap.size + 1) #[.int .i64 0, .slice none 0 0, .int .i64 1] rfl rfl 83 #[.int .i64 0, .slice none 0 0, .int .i64 0] H41.out (Try.sizeTold _ _ _) rfl (oneTold _ _ _ _ _) ?_)
    refine bodyPost_ret (v := .agg #[.int .i64 0, .slice none 0 0, .int .i64 1]) ?_ rfl ?_
    · exact results_cell_row rfl _ _ (w.heap.size + 1) 83 #[.int .i64 0, .slice none 0 0, .int .i64 1] (0, 0) _ rfl (setRow_heap _ _ _ _ _ _ H41.out) Try.underlying83 rfl (Try.sizeTold _ _ _)
    · exact ⟨_, _, _, rfl, Own.nil _ _, MovedM.low H.out (MovedM.of_below H.out Bw1.out) (below_setRow' _ _ _ _ (by omega))⟩
  · have hcf : (cap = p) = False := eq_false (fun e => hck e.symm)
    go_enter Try.func55, Try.ntmps55
    go_upto_region 1 with fail
    rw [← HW0.out]
    clear HW0
    go_wp2
    go_quiet (fail)
    obtain ⟨w1, hw1e⟩ : ∃ w1, w1 = W0.drewN nq := ⟨_, rfl⟩
    rw [← hw1e]
    have hB01 : Below W0.heap.size W0 w1 := by rw [hw1e]; exact ⟨rfl, rfl, rfl, Nat.le_refl _, fun _ _ => rfl⟩
    have hs1 : w1.heap.size = w.heap.size + 2 := by rw [hw1e]; exact Hs0.out
    have hF1 : w1.heap[w.heap.size]? = some (.cells #[.int .i64 kd, .int .i64 wd] 87 (0, 0)) := by rw [hw1e]; exact HF0.out
    have h41 : w1.heap[w.heap.size + 1]? = some (.cells #[.int .i64 0, .slice none 0 0, .int .i64 0] 83 (0, 0)) := by rw [hw1e]; exact H40.out
    have kc : w1.cell? ⟨w.heap.size, 0, none⟩ = some (.int .i64 kd) := by rw [cell_of_row _ _ _ _ _ _ hF1]; rfl
    have wc : w1.cell? ⟨w.heap.size, 1, none⟩ = some (.int .i64 wd) := by rw [cell_of_row _ _ _ _ _ _ hF1]; rfl
    have Im1 := Lib.hid (H0.out.below hB01 (Nat.le_refl _))
    have Bw1 := Lib.hid (Hb0.out.trans (hB01.mono Hb0.out.size))
    have H41 := Lib.hid h41
    have Hs1 := Lib.hid hs1
    have RR : Hid (Rd w1 (a.map (fun x => x.add p)) (len - p) (cap - p) (xs.drop p)) := Lib.hid (by have := Im1.out.rd.cut2 p (len - p) (by omega); rw [List.take_of_length_le (by rw [List.length_drop, Hl.out]; exact Nat.le_refl _)] at this; exact this)
    clear hw1e hB01 hs1 hF1 h41 c0 c1 HF0 H40 Hb0 Hs0 H0
    go_wp2_with (refine wpList_store_row rfl 83 (.tmp 4) (.tmp 112) rfl (w.heap.size + 1) #[.int .i64 0, .slice none 0 0, .int .i64 1] rfl rfl 83 #[.int .i64 0, .slice none 0 0, .int .i64 0] H41.out (Try.sizeTold _ _ _) rfl (oneTold _ _ _ _ _) ?_)
    refine bodyPost_ret (v := .agg #[.int .i64 0, .slice none 0 0, .int .i64 1]) ?_ rfl ?_
    · exact results_cell_row rfl _ _ (w.heap.size + 1) 83 #[.int .i64 0, .slice none 0 0, .int .i64 1] (0, 0) _ rfl (setRow_heap _ _ _ _ _ _ H41.out) Try.underlying83 rfl (Try.sizeTold _ _ _)
    · exact ⟨_, _, _, rfl, Own.nil _ _, MovedM.low H.out (MovedM.of_below H.out Bw1.out) (below_setRow' _ _ _ _ (by omega))⟩
set_option maxRecDepth 100000 in
set_option maxHeartbeats 4000000 in
theorem do_xfew {w : World} {M p len cap : Nat} {a : Option Addr} {xs : List Int} (h : IsM w M p a len cap xs) (kd wd : Int) (hw1 : -9223372036854775808 ≤ wd) (hw2 : wd ≤ 9223372036854775807) (hbig : len ≤ 140737488355328) (hk : (kd ≠ 0 ∧ kd ≠ 1 ∧ kd ≠ 2 ∧ kd ≠ 3 ∧ kd ≠ 5) ∧ ¬ wd < 0 ∧ (len : Int) - p < wd) :
    Calls Try.prog 55 #[.pointer (some ⟨M, 0, none⟩), .agg #[.int .i64 kd, .int .i64 wd]] w (ToldM w M a len cap xs (0) ([]) (4) (p)) := by
  obtain ⟨W0, hW0⟩ : ∃ W0, W0 = (w.alloc (.cells #[.int .i64 kd, .int .i64 wd] 87)).alloc (.cells #[.int .i64 0, .slice none 0 0, .int .i64 0] 83) := ⟨_, rfl⟩
  have hs0 : W0.heap.size = w.heap.size + 2 := by rw [hW0]; simp
  have hF0 : W0.heap[w.heap.size]? = some (.cells #[.int .i64 kd, .int .i64 wd] 87 (0, 0)) := by rw [hW0, heap_alloc_old _ _ _ (by simp), heap_alloc_last]
  have h40 : W0.heap[w.heap.size + 1]? = some (.cells #[.int .i64 0, .slice none 0 0, .int .i64 0] 83 (0, 0)) := by
    rw [hW0]; have := heap_alloc_last (w.alloc (.cells #[.int .i64 kd, .int .i64 wd] 87)) (.cells #[.int .i64 0, .slice none 0 0, .int .i64 0] 83); simpa using this
  have hb0 : Below w.heap.size w W0 := by rw [hW0]; exact ((Below.refl _ w).alloc (Nat.le_refl _) _).alloc (by simp) _
  have H := Lib.hid h
  have H0 := Lib.hid (h.below hb0 (Nat.le_refl _))
  have HW0 := Lib.hid hW0
  have HF0 := Lib.hid hF0
  have H40 := Lib.hid h40
  have Hb0 := Lib.hid hb0
  have Hs0 := Lib.hid hs0
  have hcc := h.rd.hc
  have hcm := h.rd.hm
  have hpl := h.hp
  have hl := h.rd.hl
  have Hl := Lib.hid hl
  unfold maxLen at hcm
  have c0 := H0.out.c0
  have c1 := H0.out.c1
  clear hW0 hs0 hF0 h40 hb0 h hl
  obtain ⟨hk, hk2, hk3⟩ := hk
  have hlp : ((len - p : Nat) : Int) < wd := by omega
  have n0 : (kd == 0) = false := by simp; omega
  have n1 : (kd == 1) = false := by simp; omega
  have n2 : (kd == 2) = false := by simp; omega
  have n3 : (kd == 3) = false := by simp; omega
  have n5 : (kd == 5) = false := by simp; omega
  by_cases hck : p = cap
  · subst hck
    go_enter Try.func55, Try.ntmps55
    go_upto_region 1 with fail
    rw [← HW0.out]
    clear HW0
    go_wp2
    go_quiet (fail)
    obtain ⟨w1, hw1e⟩ : ∃ w1, w1 = W0.drewN nq := ⟨_, rfl⟩
    rw [← hw1e]
    have hB01 : Below W0.heap.size W0 w1 := by rw [hw1e]; exact ⟨rfl, rfl, rfl, Nat.le_refl _, fun _ _ => rfl⟩
    have hs1 : w1.heap.size = w.heap.size + 2 := by rw [hw1e]; exact Hs0.out
    have hF1 : w1.heap[w.heap.size]? = some (.cells #[.int .i64 kd, .int .i64 wd] 87 (0, 0)) := by rw [hw1e]; exact HF0.out
    have h41 : w1.heap[w.heap.size + 1]? = some (.cells #[.int .i64 0, .slice none 0 0, .int .i64 0] 83 (0, 0)) := by rw [hw1e]; exact H40.out
    have kc : w1.cell? ⟨w.heap.size, 0, none⟩ = some (.int .i64 kd) := by rw [cell_of_row _ _ _ _ _ _ hF1]; rfl
    have wc : w1.cell? ⟨w.heap.size, 1, none⟩ = some (.int .i64 wd) := by rw [cell_of_row _ _ _ _ _ _ hF1]; rfl
    have Im1 := Lib.hid (H0.out.below hB01 (Nat.le_refl _))
    have Bw1 := Lib.hid (Hb0.out.trans (hB01.mono Hb0.out.size))
    have H41 := Lib.hid h41
    have Hs1 := Lib.hid hs1
    have h0p : len - p = 0 := by omega
    have RR : Hid (Rd w1 a 0 0 (xs.drop p)) := Lib.hid (by rw [List.drop_eq_nil_of_le (by rw [Hl.out]; omega)]; exact Im1.out.rd.cut0)
    clear hw1e hB01 hs1 hF1 h41 c0 c1 HF0 H40 Hb0 Hs0 H0
    go_wp2_with (refine wpList_store_row rfl 83 (.tmp 4) (.tmp 118) rfl (w.heap.size + 1) #[.int .i64 0, .slice none 0 0, .int .i64 4] rfl rfl 83 #[.int .i64 0, .slice none 0 0, .int .i64 0] H41.out (Try.sizeTold _ _ _) rfl (oneTold _ _ _ _ _) ?_)
    refine bodyPost_ret (v := .agg #[.int .i64 0, .slice none 0 0, .int .i64 4]) ?_ rfl ?_
    · exact results_cell_row rfl _ _ (w.heap.size + 1) 83 #[.int .i64 0, .slice none 0 0, .int .i64 4] (0, 0) _ rfl (setRow_heap _ _ _ _ _ _ H41.out) Try.underlying83 rfl (Try.sizeTold _ _ _)
    · exact ⟨_, _, _, rfl, Own.nil _ _, MovedM.low H.out (MovedM.of_below H.out Bw1.out) (below_setRow' _ _ _ _ (by omega))⟩
  · have hcf : (cap = p) = False := eq_false (fun e => hck e.symm)
    go_enter Try.func55, Try.ntmps55
    go_upto_region 1 with fail
    rw [← HW0.out]
    clear HW0
    go_wp2
    go_quiet (fail)
    obtain ⟨w1, hw1e⟩ : ∃ w1, w1 = W0.drewN nq := ⟨_, rfl⟩
    rw [← hw1e]
    have hB01 : Below W0.heap.size W0 w1 := by rw [hw1e]; exact ⟨rfl, rfl, rfl, Nat.le_refl _, fun _ _ => rfl⟩
    have hs1 : w1.heap.size = w.heap.size + 2 := by rw [hw1e]; exact Hs0.out
    have hF1 : w1.heap[w.heap.size]? = some (.cells #[.int .i64 kd, .int .i64 wd] 87 (0, 0)) := by rw [hw1e]; exact HF0.out
    have h41 : w1.heap[w.heap.size + 1]? = some (.cells #[.int .i64 0, .slice none 0 0, .int .i64 0] 83 (0, 0)) := by rw [hw1e]; exact H40.out
    have kc : w1.cell? ⟨w.heap.size, 0, none⟩ = some (.int .i64 kd) := by rw [cell_of_row _ _ _ _ _ _ hF1]; rfl
    have wc : w1.cell? ⟨w.heap.size, 1, none⟩ = some (.int .i64 wd) := by rw [cell_of_row _ _ _ _ _ _ hF1]; rfl
    have Im1 := Lib.hid (H0.out.below hB01 (Nat.le_refl _))
    have Bw1 := Lib.hid (Hb0.out.trans (hB01.mono Hb0.out.size))
    have H41 := Lib.hid h41
    have Hs1 := Lib.hid hs1
    have RR : Hid (Rd w1 (a.map (fun x => x.add p)) (len - p) (cap - p) (xs.drop p)) := Lib.hid (by have := Im1.out.rd.cut2 p (len - p) (by omega); rw [List.take_of_length_le (by rw [List.length_drop, Hl.out]; exact Nat.le_refl _)] at this; exact this)
    clear hw1e hB01 hs1 hF1 h41 c0 c1 HF0 H40 Hb0 Hs0 H0
    go_wp2_with (refine wpList_store_row rfl 83 (.tmp 4) (.tmp 118) rfl (w.heap.size + 1) #[.int .i64 0, .slice none 0 0, .int .i64 4] rfl rfl 83 #[.int .i64 0, .slice none 0 0, .int .i64 0] H41.out (Try.sizeTold _ _ _) rfl (oneTold _ _ _ _ _) ?_)
    refine bodyPost_ret (v := .agg #[.int .i64 0, .slice none 0 0, .int .i64 4]) ?_ rfl ?_
    · exact results_cell_row rfl _ _ (w.heap.size + 1) 83 #[.int .i64 0, .slice none 0 0, .int .i64 4] (0, 0) _ rfl (setRow_heap _ _ _ _ _ _ H41.out) Try.underlying83 rfl (Try.sizeTold _ _ _)
    · exact ⟨_, _, _, rfl, Own.nil _ _, MovedM.low H.out (MovedM.of_below H.out Bw1.out) (below_setRow' _ _ _ _ (by omega))⟩
set_option maxRecDepth 100000 in
set_option maxHeartbeats 4000000 in
theorem do_xok {w : World} {M p len cap : Nat} {a : Option Addr} {xs : List Int} (h : IsM w M p a len cap xs) (kd : Int) (m : Nat) (hbig : len ≤ 140737488355328) (hk : kd ≠ 0 ∧ kd ≠ 1 ∧ kd ≠ 2 ∧ kd ≠ 3 ∧ kd ≠ 5) (hml : p + m ≤ len) :
    Calls Try.prog 55 #[.pointer (some ⟨M, 0, none⟩), .agg #[.int .i64 kd, .int .i64 m]] w (ToldM w M a len cap xs (0) ((xs.drop p).take m) (0) (p + m)) := by
  obtain ⟨W0, hW0⟩ : ∃ W0, W0 = (w.alloc (.cells #[.int .i64 kd, .int .i64 m] 87)).alloc (.cells #[.int .i64 0, .slice none 0 0, .int .i64 0] 83) := ⟨_, rfl⟩
  have hs0 : W0.heap.size = w.heap.size + 2 := by rw [hW0]; simp
  have hF0 : W0.heap[w.heap.size]? = some (.cells #[.int .i64 kd, .int .i64 m] 87 (0, 0)) := by rw [hW0, heap_alloc_old _ _ _ (by simp), heap_alloc_last]
  have h40 : W0.heap[w.heap.size + 1]? = some (.cells #[.int .i64 0, .slice none 0 0, .int .i64 0] 83 (0, 0)) := by
    rw [hW0]; have := heap_alloc_last (w.alloc (.cells #[.int .i64 kd, .int .i64 m] 87)) (.cells #[.int .i64 0, .slice none 0 0, .int .i64 0] 83); simpa using this
  have hb0 : Below w.heap.size w W0 := by rw [hW0]; exact ((Below.refl _ w).alloc (Nat.le_refl _) _).alloc (by simp) _
  have H := Lib.hid h
  have H0 := Lib.hid (h.below hb0 (Nat.le_refl _))
  have HW0 := Lib.hid hW0
  have HF0 := Lib.hid hF0
  have H40 := Lib.hid h40
  have Hb0 := Lib.hid hb0
  have Hs0 := Lib.hid hs0
  have hcc := h.rd.hc
  have hcm := h.rd.hm
  have hpl := h.hp
  have hl := h.rd.hl
  have Hl := Lib.hid hl
  unfold maxLen at hcm
  have c0 := H0.out.c0
  have c1 := H0.out.c1
  clear hW0 hs0 hF0 h40 hb0 h hl
  have g1 : ¬ (m : Int) < 0 := by omega
  have g3 : ¬ ((len - p : Nat) : Int) < (m : Int) := by omega
  have n0 : (kd == 0) = false := by simp; omega
  have n1 : (kd == 1) = false := by simp; omega
  have n2 : (kd == 2) = false := by simp; omega
  have n3 : (kd == 3) = false := by simp; omega
  have n5 : (kd == 5) = false := by simp; omega
  by_cases hck : p = cap
  · subst hck
    go_enter Try.func55, Try.ntmps55
    go_upto_region 1 with fail
    rw [← HW0.out]
    clear HW0
    go_wp2
    go_quiet (fail)
    obtain ⟨w1, hw1e⟩ : ∃ w1, w1 = W0.drewN nq := ⟨_, rfl⟩
    rw [← hw1e]
    have hB01 : Below W0.heap.size W0 w1 := by rw [hw1e]; exact ⟨rfl, rfl, rfl, Nat.le_refl _, fun _ _ => rfl⟩
    have hs1 : w1.heap.size = w.heap.size + 2 := by rw [hw1e]; exact Hs0.out
    have hF1 : w1.heap[w.heap.size]? = some (.cells #[.int .i64 kd, .int .i64 m] 87 (0, 0)) := by rw [hw1e]; exact HF0.out
    have h41 : w1.heap[w.heap.size + 1]? = some (.cells #[.int .i64 0, .slice none 0 0, .int .i64 0] 83 (0, 0)) := by rw [hw1e]; exact H40.out
    have kc : w1.cell? ⟨w.heap.size, 0, none⟩ = some (.int .i64 kd) := by rw [cell_of_row _ _ _ _ _ _ hF1]; rfl
    have wc : w1.cell? ⟨w.heap.size, 1, none⟩ = some (.int .i64 m) := by rw [cell_of_row _ _ _ _ _ _ hF1]; rfl
    have Im1 := Lib.hid (H0.out.below hB01 (Nat.le_refl _))
    have Bw1 := Lib.hid (Hb0.out.trans (hB01.mono Hb0.out.size))
    have H41 := Lib.hid h41
    have Hs1 := Lib.hid hs1
    have h0p : len - p = 0 := by omega
    have RR : Hid (Rd w1 a 0 0 (xs.drop p)) := Lib.hid (by rw [List.drop_eq_nil_of_le (by rw [Hl.out]; omega)]; exact Im1.out.rd.cut0)
    have HF1 := Lib.hid hF1
    clear hw1e hB01 hs1 hF1 h41 c0 c1 HF0 H40 Hb0 Hs0 H0
    have hlm2 : m ≤ 0 := by omega
    have hcm2 : m ≤ 0 := by omega
    go_wp2_with fail
    refine (took_ok Im1.out m hml).mono ?_
    rintro e w2 ⟨rfl, hm⟩
    have h4M : w.heap.size + 1 ≠ M := by rintro rfl; have := Im1.out.blk.symm.trans H41.out; simp at this
    have hFM : w.heap.size ≠ M := by rintro rfl; have := Im1.out.blk.symm.trans HF1.out; simp at this
    have R2 : Hid (Rd w2 a 0 0 ((xs.drop p).take m)) := Lib.hid (by rw [List.take_of_length_le (by have := RR.out.hl; omega)]; exact hm.keeps _ _ _ _ RR.out)
    have H42 := Lib.hid (grown_blk' hm.grown H41.out h4M)
    have wc2 : w2.cell? ⟨w.heap.size, 1, none⟩ = some (.int .i64 m) := by rw [cell_of_row _ _ _ _ _ _ (grown_blk' hm.grown HF1.out hFM)]; rfl
    have hs2 : w.heap.size + 2 ≤ w2.heap.size := by have := hm.grown.size; have := Hs1.out; omega
    have Hm2 := Lib.hid (MovedM.pre Bw1.out hm)
    clear hm RR H41 Im1 Bw1 wc kc HF1
    obtain ⟨W3, hW3⟩ : ∃ W3, W3 = w2.alloc (.cells #[] 5) := ⟨_, rfl⟩
    have HO : Hid (Own W3 w2.heap.size (.slice (some ⟨w2.heap.size, 0, none⟩) 0 0) []) := Lib.hid (by have := World.ownsRow_made (base := w2.heap.size) (e := 5) (size := 1) w2 #[] 0 (Nat.le_refl _) (by decide) rfl; rw [hW3]; exact ⟨this, by simp⟩)
    have hb3 : Below w2.heap.size w2 W3 := by rw [hW3]; exact (Below.refl _ w2).alloc (Nat.le_refl _) _
    have R3 := Lib.hid (R2.out.below hb3 (Nat.le_refl _))
    have wc3 : W3.cell? ⟨w.heap.size, 1, none⟩ = some (.int .i64 m) := (hb3.cell (p := ⟨w.heap.size, 1, none⟩) (by show w.heap.size < w2.heap.size; omega)).trans wc2
    have wc3e : (w2.alloc (.cells #[] 5)).cell? ⟨w.heap.size, 1, none⟩ = some (.int .i64 m) := by rw [← hW3]; exact wc3
    have H43 := Lib.hid ((hb3.block _ (by omega)).trans H42.out)
    have Hm3 := Lib.hid (MovedM.low H.out Hm2.out (hb3.mono (by omega)))
    have HW3 := Lib.hid hW3
    have i1 : ([] : List Int).length + 0 ≤ 140737488355328 := by simp
    have i2 : w2.heap.size ≤ W3.heap.size := hb3.size
    have hlen : ([] ++ (xs.drop p).take m).length = m := by have := R2.out.hl; rw [List.nil_append]; omega
    have Hlen := Lib.hid hlen
    clear hW3 hb3 R2 H42 Hm2 wc2 hlen
    go_upto_region 30 with fail
    go_wp2_with (first
      | (rw [← HW3.out]; refine wpList_append_rd rfl (.tmp 123) (.tmp 127) 22 rfl w2.heap.size Try.infoB Try.underlying22 (.slice (some ⟨w2.heap.size, 0, none⟩) 0 0) [] rfl HO.out _ _ _ _ rfl R3.out i1 i2 ?_; intro v4 w4 ho4 hg4; obtain ⟨va, vc, hv4, hr4⟩ := ho4.rdz Hlen.out; subst hv4; have Ho4 := Lib.hid ho4; have H44 := Lib.hid ((hg4.block _ (Nat.lt_of_lt_of_le (by omega) i2) (by intro e; simp [Value.ownBlock] at e; omega)).trans H43.out); have Hm4 := Lib.hid (MovedM.low H.out Hm3.out (((Below.refl w2.heap.size W3).grown hg4 i2 (fun k hk => (HO.out.1.lt k hk).1)).mono (by omega))); clear ho4 hg4 hr4)
      | (refine wpList_store_row rfl 83 (.tmp 4) (.tmp 129) rfl (w.heap.size + 1) #[.int .i64 0, .slice va m vc, .int .i64 0] rfl rfl 83 #[.int .i64 0, .slice none 0 0, .int .i64 0] H44.out (Try.sizeTold _ _ _) rfl (oneTold _ _ _ _ _) ?_))
    refine bodyPost_ret (v := .agg #[.int .i64 0, .slice va m vc, .int .i64 0]) ?_ rfl ?_
    · exact results_cell_row rfl _ _ (w.heap.size + 1) 83 #[.int .i64 0, .slice va m vc, .int .i64 0] (0, 0) _ rfl (setRow_heap _ _ _ _ _ _ H44.out) Try.underlying83 rfl (Try.sizeTold _ _ _)
    · exact ⟨_, _, _, rfl, ((Ho4.out.setRow (by omega) _).mono (by omega)), MovedM.low H.out Hm4.out (below_setRow' _ _ _ _ (by omega))⟩
  · have hcf : (cap = p) = False := eq_false (fun e => hck e.symm)
    go_enter Try.func55, Try.ntmps55
    go_upto_region 1 with fail
    rw [← HW0.out]
    clear HW0
    go_wp2
    go_quiet (fail)
    obtain ⟨w1, hw1e⟩ : ∃ w1, w1 = W0.drewN nq := ⟨_, rfl⟩
    rw [← hw1e]
    have hB01 : Below W0.heap.size W0 w1 := by rw [hw1e]; exact ⟨rfl, rfl, rfl, Nat.le_refl _, fun _ _ => rfl⟩
    have hs1 : w1.heap.size = w.heap.size + 2 := by rw [hw1e]; exact Hs0.out
    have hF1 : w1.heap[w.heap.size]? = some (.cells #[.int .i64 kd, .int .i64 m] 87 (0, 0)) := by rw [hw1e]; exact HF0.out
    have h41 : w1.heap[w.heap.size + 1]? = some (.cells #[.int .i64 0, .slice none 0 0, .int .i64 0] 83 (0, 0)) := by rw [hw1e]; exact H40.out
    have kc : w1.cell? ⟨w.heap.size, 0, none⟩ = some (.int .i64 kd) := by rw [cell_of_row _ _ _ _ _ _ hF1]; rfl
    have wc : w1.cell? ⟨w.heap.size, 1, none⟩ = some (.int .i64 m) := by rw [cell_of_row _ _ _ _ _ _ hF1]; rfl
    have Im1 := Lib.hid (H0.out.below hB01 (Nat.le_refl _))
    have Bw1 := Lib.hid (Hb0.out.trans (hB01.mono Hb0.out.size))
    have H41 := Lib.hid h41
    have Hs1 := Lib.hid hs1
    have RR : Hid (Rd w1 (a.map (fun x => x.add p)) (len - p) (cap - p) (xs.drop p)) := Lib.hid (by have := Im1.out.rd.cut2 p (len - p) (by omega); rw [List.take_of_length_le (by rw [List.length_drop, Hl.out]; exact Nat.le_refl _)] at this; exact this)
    have HF1 := Lib.hid hF1
    clear hw1e hB01 hs1 hF1 h41 c0 c1 HF0 H40 Hb0 Hs0 H0
    have hlm2 : m ≤ len - p := by omega
    have hcm2 : m ≤ cap - p := by omega
    go_wp2_with fail
    refine (took_ok Im1.out m hml).mono ?_
    rintro e w2 ⟨rfl, hm⟩
    have h4M : w.heap.size + 1 ≠ M := by rintro rfl; have := Im1.out.blk.symm.trans H41.out; simp at this
    have hFM : w.heap.size ≠ M := by rintro rfl; have := Im1.out.blk.symm.trans HF1.out; simp at this
    have R2 := Lib.hid ((hm.keeps _ _ _ _ RR.out).take m hlm2)
    have H42 := Lib.hid (grown_blk' hm.grown H41.out h4M)
    have wc2 : w2.cell? ⟨w.heap.size, 1, none⟩ = some (.int .i64 m) := by rw [cell_of_row _ _ _ _ _ _ (grown_blk' hm.grown HF1.out hFM)]; rfl
    have hs2 : w.heap.size + 2 ≤ w2.heap.size := by have := hm.grown.size; have := Hs1.out; omega
    have Hm2 := Lib.hid (MovedM.pre Bw1.out hm)
    clear hm RR H41 Im1 Bw1 wc kc HF1
    obtain ⟨W3, hW3⟩ : ∃ W3, W3 = w2.alloc (.cells #[] 5) := ⟨_, rfl⟩
    have HO : Hid (Own W3 w2.heap.size (.slice (some ⟨w2.heap.size, 0, none⟩) 0 0) []) := Lib.hid (by have := World.ownsRow_made (base := w2.heap.size) (e := 5) (size := 1) w2 #[] 0 (Nat.le_refl _) (by decide) rfl; rw [hW3]; exact ⟨this, by simp⟩)
    have hb3 : Below w2.heap.size w2 W3 := by rw [hW3]; exact (Below.refl _ w2).alloc (Nat.le_refl _) _
    have R3 := Lib.hid (R2.out.below hb3 (Nat.le_refl _))
    have wc3 : W3.cell? ⟨w.heap.size, 1, none⟩ = some (.int .i64 m) := (hb3.cell (p := ⟨w.heap.size, 1, none⟩) (by show w.heap.size < w2.heap.size; omega)).trans wc2
    have wc3e : (w2.alloc (.cells #[] 5)).cell? ⟨w.heap.size, 1, none⟩ = some (.int .i64 m) := by rw [← hW3]; exact wc3
    have H43 := Lib.hid ((hb3.block _ (by omega)).trans H42.out)
    have Hm3 := Lib.hid (MovedM.low H.out Hm2.out (hb3.mono (by omega)))
    have HW3 := Lib.hid hW3
    have i1 : ([] : List Int).length + m ≤ 140737488355328 := by simp; omega
    have i2 : w2.heap.size ≤ W3.heap.size := hb3.size
    have hlen : ([] ++ (xs.drop p).take m).length = m := by have := R2.out.hl; rw [List.nil_append]; omega
    have Hlen := Lib.hid hlen
    clear hW3 hb3 R2 H42 Hm2 wc2 hlen
    go_upto_region 30 with fail
    go_wp2_with (first
      | (rw [← HW3.out]; refine wpList_append_rd rfl (.tmp 123) (.tmp 127) 22 rfl w2.heap.size Try.infoB Try.underlying22 (.slice (some ⟨w2.heap.size, 0, none⟩) 0 0) [] rfl HO.out _ _ _ _ rfl R3.out i1 i2 ?_; intro v4 w4 ho4 hg4; obtain ⟨va, vc, hv4, hr4⟩ := ho4.rdz Hlen.out; subst hv4; have Ho4 := Lib.hid ho4; have H44 := Lib.hid ((hg4.block _ (Nat.lt_of_lt_of_le (by omega) i2) (by intro e; simp [Value.ownBlock] at e; omega)).trans H43.out); have Hm4 := Lib.hid (MovedM.low H.out Hm3.out (((Below.refl w2.heap.size W3).grown hg4 i2 (fun k hk => (HO.out.1.lt k hk).1)).mono (by omega))); clear ho4 hg4 hr4)
      | (refine wpList_store_row rfl 83 (.tmp 4) (.tmp 129) rfl (w.heap.size + 1) #[.int .i64 0, .slice va m vc, .int .i64 0] rfl rfl 83 #[.int .i64 0, .slice none 0 0, .int .i64 0] H44.out (Try.sizeTold _ _ _) rfl (oneTold _ _ _ _ _) ?_))
    refine bodyPost_ret (v := .agg #[.int .i64 0, .slice va m vc, .int .i64 0]) ?_ rfl ?_
    · exact results_cell_row rfl _ _ (w.heap.size + 1) 83 #[.int .i64 0, .slice va m vc, .int .i64 0] (0, 0) _ rfl (setRow_heap _ _ _ _ _ _ H44.out) Try.underlying83 rfl (Try.sizeTold _ _ _)
    · exact ⟨_, _, _, rfl, ((Ho4.out.setRow (by omega) _).mono (by omega)), MovedM.low H.out Hm4.out (below_setRow' _ _ _ _ (by omega))⟩
end Go.Proofs.Ytnhkkhceoaembaa

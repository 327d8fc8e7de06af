/- The model's do: numbers of a width. -/
import Derived.Test.YtnhkkhceoaembaaWmodel
import Derived.Test.YtnhkkhceoaembaaRread2
import Derived.Deep.DeepCutAuto
import Derived.Deep.CutRange
import Derived.Deep.RegionHeld3
namespace Go.Proofs.Ytnhkkhceoaembaa
set_option linter.unusedVariables false
open Go.RowKit

theorem grown_blk' {w w1 : World} {R g : Nat} {o : Obj} (hg : w.grownBy w1 (some R)) (h : w.heap[g]? = some o) (hne : g ≠ R) : w1.heap[g]? = some o :=
  (hg.block g (Array.getElem?_eq_some_iff.1 h).1 (by intro e; exact hne (by simpa using e))).trans h
theorem Rd.take {w : World} {a : Option Addr} {len cap : Nat} {xs : List Int} (h : Rd w a len cap xs) (m : Nat) (hm : m ≤ len) : Rd w a m cap (xs.take m) := by
  have hl := h.hl
  refine ⟨by rw [List.length_take]; omega, by have := h.hc; omega, h.hm, fun n hn => h.hb n (List.mem_of_mem_take hn), h.hn, fun h0 => ?_⟩
  obtain ⟨b, off, ha, hc⟩ := h.hr (by omega)
  refine ⟨b, off, ha, fun i hi => ?_⟩
  rw [hc i (by omega)]
  congr 2
  rw [getD_at _ _ (by omega), getD_at _ _ (by rw [List.length_take]; omega)]
  simp
set_option maxRecDepth 100000 in
set_option maxHeartbeats 8000000 in
theorem do_0read {w : World} {M p len cap : Nat} {a : Option Addr} {xs : List Int} (h : IsM w M p a len cap xs) (m : Nat) (hm1 : 1 ≤ m) (hm8 : m ≤ 8) (hml : p + m ≤ len) (nn er : Int) (q : Nat) (hnn : nn = (numV false ((xs.drop p).take m)).1) (her : er = (numV false ((xs.drop p).take m)).2) (hq : (er = 0 → q = p + m) ∧ (er ≠ 0 → q = p)) :
    Calls Try.prog 55 #[.pointer (some ⟨M, 0, none⟩), .agg #[.int .i64 0, .int .i64 m]] w (ToldM w M a len cap xs nn [] er q) := by
  obtain ⟨W0, hW0⟩ : ∃ W0, W0 = (w.alloc (.cells #[.int .i64 0, .int .i64 m] 87)).alloc (.cells #[.int .i64 0, .slice none 0 0, .int .i64 0] 83) := ⟨_, rfl⟩
  have hs0 : W0.heap.size = w.heap.size + 2 := by rw [hW0]; simp
  have hF0 : W0.heap[w.heap.size]? = some (.cells #[.int .i64 0, .int .i64 m] 87 (0, 0)) := by rw [hW0, heap_alloc_old _ _ _ (by simp), heap_alloc_last]
  have h40 : W0.heap[w.heap.size + 1]? = some (.cells #[.int .i64 0, .slice none 0 0, .int .i64 0] 83 (0, 0)) := by
    rw [hW0]; have := heap_alloc_last (w.alloc (.cells #[.int .i64 0, .int .i64 m] 87)) (.cells #[.int .i64 0, .slice none 0 0, .int .i64 0] 83); simpa using this
  have hb0 : Below w.heap.size w W0 := by rw [hW0]; exact ((Below.refl _ w).alloc (Nat.le_refl _) _).alloc (by simp) _
  have H := Lib.hid h
  have H0 := Lib.hid (h.below hb0 (Nat.le_refl _))
  have HW0 := Lib.hid hW0
  have HF0 := Lib.hid hF0
  have H40 := Lib.hid h40
  have Hb0 := Lib.hid hb0
  have Hs0 := Lib.hid hs0
  have hcc := h.rd.hc
  have hcm := h.rd.hm
  have hpl := h.hp
  have hl := h.rd.hl
  have Hl := Lib.hid hl
  unfold maxLen at hcm
  have c0 := H0.out.c0
  have c1 := H0.out.c1
  clear hW0 hs0 hF0 h40 hb0 h hl
  have HNN := Lib.hid (And.intro hnn her)
  have HQ := Lib.hid hq
  have g1 : ¬ (m : Int) < 1 := by omega
  have g2 : ¬ (8 : Int) < (m : Int) := by omega
  have g3 : ¬ ((len - p : Nat) : Int) < (m : Int) := by omega
  have g4 : decide (len - p < m) = false := by simp; omega
  clear hnn her hq
  by_cases hck : p = cap
  · subst hck
    go_enter Try.func55, Try.ntmps55
    go_upto_region 1 with fail
    rw [← HW0.out]
    clear HW0
    go_wp2
    go_quiet (fail)
    obtain ⟨w1, hw1e⟩ : ∃ w1, w1 = W0.drewN nq := ⟨_, rfl⟩
    rw [← hw1e]
    have hB01 : Below W0.heap.size W0 w1 := by rw [hw1e]; exact ⟨rfl, rfl, rfl, Nat.le_refl _, fun _ _ => rfl⟩
    have hs1 : w1.heap.size = w.heap.size + 2 := by rw [hw1e]; exact Hs0.out
    have hF1 : w1.heap[w.heap.size]? = some (.cells #[.int .i64 0, .int .i64 m] 87 (0, 0)) := by rw [hw1e]; exact HF0.out
    have h41 : w1.heap[w.heap.size + 1]? = some (.cells #[.int .i64 0, .slice none 0 0, .int .i64 0] 83 (0, 0)) := by rw [hw1e]; exact H40.out
    have kc : w1.cell? ⟨w.heap.size, 0, none⟩ = some (.int .i64 0) := by rw [cell_of_row _ _ _ _ _ _ hF1]; rfl
    have wc : w1.cell? ⟨w.heap.size, 1, none⟩ = some (.int .i64 m) := by rw [cell_of_row _ _ _ _ _ _ hF1]; rfl
    have Im1 := Lib.hid (H0.out.below hB01 (Nat.le_refl _))
    have Bw1 := Lib.hid (Hb0.out.trans (hB01.mono Hb0.out.size))
    have H41 := Lib.hid h41
    have Hs1 := Lib.hid hs1
    have h0p : len - p = 0 := by omega
    have RR : Hid (Rd w1 a (len - p) 0 (xs.drop p)) := Lib.hid (by rw [h0p, List.drop_eq_nil_of_le (by rw [Hl.out]; omega)]; exact Im1.out.rd.cut0)
    clear hw1e hB01 hs1 hF1 h41 c0 c1 HF0 H40 Hb0 Hs0 H0
    exfalso
    omega
  · have hcf : (cap = p) = False := eq_false (fun e => hck e.symm)
    go_enter Try.func55, Try.ntmps55
    go_upto_region 1 with fail
    rw [← HW0.out]
    clear HW0
    go_wp2
    go_quiet (fail)
    obtain ⟨w1, hw1e⟩ : ∃ w1, w1 = W0.drewN nq := ⟨_, rfl⟩
    rw [← hw1e]
    have hB01 : Below W0.heap.size W0 w1 := by rw [hw1e]; exact ⟨rfl, rfl, rfl, Nat.le_refl _, fun _ _ => rfl⟩
    have hs1 : w1.heap.size = w.heap.size + 2 := by rw [hw1e]; exact Hs0.out
    have hF1 : w1.heap[w.heap.size]? = some (.cells #[.int .i64 0, .int .i64 m] 87 (0, 0)) := by rw [hw1e]; exact HF0.out
    have h41 : w1.heap[w.heap.size + 1]? = some (.cells #[.int .i64 0, .slice none 0 0, .int .i64 0] 83 (0, 0)) := by rw [hw1e]; exact H40.out
    have kc : w1.cell? ⟨w.heap.size, 0, none⟩ = some (.int .i64 0) := by rw [cell_of_row _ _ _ _ _ _ hF1]; rfl
    have wc : w1.cell? ⟨w.heap.size, 1, none⟩ = some (.int .i64 m) := by rw [cell_of_row _ _ _ _ _ _ hF1]; rfl
    have Im1 := Lib.hid (H0.out.below hB01 (Nat.le_refl _))
    have Bw1 := Lib.hid (Hb0.out.trans (hB01.mono Hb0.out.size))
    have H41 := Lib.hid h41
    have Hs1 := Lib.hid hs1
    have RR : Hid (Rd w1 (a.map (fun x => x.add p)) (len - p) (cap - p) (xs.drop p)) := Lib.hid (by have := Im1.out.rd.cut2 p (len - p) (by omega); rw [List.take_of_length_le (by rw [List.length_drop, Hl.out]; exact Nat.le_refl _)] at this; exact this)
    clear hw1e hB01 hs1 hF1 h41 c0 c1 HF0 H40 Hb0 Hs0 H0
    have hcm2 : m ≤ cap - p := by omega
    have hlm2 : m ≤ len - p := by omega
    have RM := Lib.hid (RR.out.take m hlm2)
    have KC : Hid (∀ u, Below w1.heap.size w1 u → ∀ x v, w1.cell? x = some v → u.cell? x = some v) := Lib.hid (fun u hu x v h => (hu.cell (p := x) (World.block_lt_of_cell? w1 _ h)).trans h)
    go_upto_region 9 with fail
    go_cut [6] from 38 to 45 (fun xv wx => ∃ g u, xv = .pointer (some ⟨g, 0, none⟩) ∧ wx.heap[g]? = some (.cells #[.int .i64 nn, .int .i64 u, .int .i64 er] 34 (0, 0)) ∧ (er = 0 → u = m) ∧ Below w1.heap.size w1 wx)
    case first =>
      refine wp_region_held_drew (S := Below w1.heap.size w1) (by kernel_rfl) (Below.refl _ _).drew (fun _ => ?_)
      have HS : Hid (Below w1.heap.size w1 w1.drew) := Lib.hid (Below.refl _ _).drew
      refine wpAnyH_take (i := 0) (v := .slice (a.map (fun x => x.add p)) (len - p) (cap - p)) rfl (by kernel_rfl) (by kernel_rfl) (by kernel_rfl) (fun _ _ _ h => h) (Or.inl ⟨by rfl, ?_⟩) HS.out ?_
      · intro u hu; go_simp
      go_simp
      refine wpAnyH_take (i := 1) (v := .pointer (some ⟨w.heap.size, 1, none⟩)) rfl (by kernel_rfl) (by kernel_rfl) (by kernel_rfl) (fun _ _ _ h => h) (Or.inl ⟨by rfl, ?_⟩) HS.out ?_
      · intro u hu; go_simp
      go_simp
      refine wpAnyH_take (i := 2) (v := .int .i64 m) rfl (by kernel_rfl) (by kernel_rfl) (by kernel_rfl) (fun _ _ _ h => h) (Or.inl ⟨by rfl, ?_⟩) HS.out ?_
      · intro u hu; have := KC.out u hu _ _ wc; go_simp
      go_simp
      refine wpAnyH_take (i := 3) (v := .slice (a.map (fun x => x.add p)) m (cap - p)) rfl (by kernel_rfl) (by kernel_rfl) (by kernel_rfl) (fun _ _ _ h => h) (Or.inl ⟨by rfl, ?_⟩) HS.out ?_
      · intro u hu; go_simp; all_goals (intro _; cases a <;> rfl)
      go_simp
      refine wpAnyH_take (i := 4) (v := .pointer (some ⟨w.heap.size, 0, none⟩)) rfl (by kernel_rfl) (by kernel_rfl) (by kernel_rfl) (fun _ _ _ h => h) (Or.inl ⟨by rfl, ?_⟩) HS.out ?_
      · intro u hu; go_simp
      go_simp
      refine wpAnyH_take (i := 5) (v := .int .i64 0) rfl (by kernel_rfl) (by kernel_rfl) (by kernel_rfl) (fun _ _ _ h => h) (Or.inl ⟨by rfl, ?_⟩) HS.out ?_
      · intro u hu; have := KC.out u hu _ _ kc; go_simp
      go_simp
      refine wpAnyH_take (i := 6) (v := .bool false) rfl (by kernel_rfl) (by kernel_rfl) (by kernel_rfl) (fun _ _ _ h => h) (Or.inl ⟨by rfl, ?_⟩) HS.out ?_
      · intro u hu; go_simp
      go_simp
      refine wpAnyH_ready (rs := [7, 8]) (by kernel_rfl) (by simp) ?_
      refine AllReadyH.cons rfl (fun K hK => ?_) (AllReadyH.cons rfl (fun K hK => ?_) AllReadyH.nil)
      · go_simp
        refine (refRead_used (a.map (fun x => x.add p)) m (cap - p) ((xs.drop p).take m) false _ (RM.out.below HS.out (Nat.le_refl _))).mono ?_
        rintro e w3 ⟨⟨u, rfl, hu⟩, hb⟩
        rw [← HNN.out.1, ← HNN.out.2]
        rw [← HNN.out.2] at hu
        have HS' : Hid (Below w1.heap.size w1 w3) := Lib.hid (HS.out.trans (hb.mono HS.out.size))
        clear HS hb
        have HS := HS'
        clear HS'
        refine hK.out _ _ HS.out (fun _ => ?_)
        clear hK K
        refine wpAnyH_ready (rs := [8]) (by kernel_rfl) (by simp) ?_
        refine AllReadyH.cons rfl (fun K hK => ?_) AllReadyH.nil
        go_simp
        obtain ⟨w7, hw7⟩ : ∃ w7, w7 = w3.alloc (.cells #[.int .i64 0, .int .i64 0, .int .i64 0] 34) := ⟨_, rfl⟩
        rw [← hw7]
        have HZ : Hid (w7.heap[w3.heap.size]? = some (.cells #[.int .i64 0, .int .i64 0, .int .i64 0] 34 (0, 0))) := Lib.hid (by rw [hw7]; exact heap_alloc_last w3 _)
        have HS' : Hid (Below w1.heap.size w1 w7) := Lib.hid (by rw [hw7]; exact HS.out.alloc HS.out.size _)
        have hgs : w1.heap.size ≤ w3.heap.size := HS.out.size
        clear HS hw7
        have HS := HS'
        clear HS'
        refine hK.out _ _ HS.out (fun _ => ?_)
        clear hK K
        refine wpAnyH_ready (rs := [9]) (by kernel_rfl) (by simp) ?_
        refine AllReadyH.cons rfl (fun K hK => ?_) AllReadyH.nil
        rw [if_pos (by rfl)]
        refine wp_store_row 34 (.tmp 6) (.tmp 45) rfl w3.heap.size #[.int .i64 nn, .int .i64 u, .int .i64 er] rfl rfl 34 #[.int .i64 0, .int .i64 0, .int .i64 0] HZ.out (Try.sizeNum _ _ _) rfl (oneNum _ _ _) ?_
        have HS' := HS.out.trans (below_setRow' _ w1.heap.size w3.heap.size #[.int .i64 nn, .int .i64 u, .int .i64 er] hgs)
        have HZ8 := setRow_heap _ _ _ #[.int .i64 nn, .int .i64 u, .int .i64 er] _ _ HZ.out
        refine hK.out _ _ HS' (fun _ => ?_)
        clear hK K
        refine wpAnyH_done (by kernel_rfl) ?_ _
        go_wp2_with fail
        go_meet
        exact ⟨w3.heap.size, u, rfl, HZ8, hu, HS'⟩
      · go_simp
        obtain ⟨w7, hw7⟩ : ∃ w7, w7 = (w1.alloc (.cells #[.int .i64 0, .int .i64 0, .int .i64 0] 34)).drew := ⟨_, rfl⟩
        rw [← hw7]
        have HZ0 : Hid (w7.heap[w1.heap.size]? = some (.cells #[.int .i64 0, .int .i64 0, .int .i64 0] 34 (0, 0))) := Lib.hid (by rw [hw7]; exact heap_alloc_last w1 _)
        have hs7 : w1.heap.size < w7.heap.size := by rw [hw7]; show w1.heap.size < (w1.alloc _).heap.size; simp
        have HS' : Hid (Below w1.heap.size w1 w7) := Lib.hid (by rw [hw7]; exact ((Below.refl _ w1).alloc (Nat.le_refl _) _).drew)
        have hgs : w1.heap.size ≤ w1.heap.size := Nat.le_refl _
        clear HS hw7
        have HS := HS'
        clear HS'
        refine hK.out _ _ HS.out (fun _ => ?_)
        clear hK K
        refine wpAnyH_ready (rs := [7]) (by kernel_rfl) (by simp) ?_
        refine AllReadyH.cons rfl (fun K hK => ?_) AllReadyH.nil
        go_simp
        refine (refRead_used (a.map (fun x => x.add p)) m (cap - p) ((xs.drop p).take m) false _ (RM.out.below HS.out (Nat.le_refl _))).mono ?_
        rintro e w3 ⟨⟨u, rfl, hu⟩, hb⟩
        rw [← HNN.out.1, ← HNN.out.2]
        rw [← HNN.out.2] at hu
        have HZ : Hid (w3.heap[w1.heap.size]? = some (.cells #[.int .i64 0, .int .i64 0, .int .i64 0] 34 (0, 0))) := Lib.hid ((hb.block _ hs7).trans HZ0.out)
        have HS' : Hid (Below w1.heap.size w1 w3) := Lib.hid (HS.out.trans (hb.mono HS.out.size))
        clear HS hb HZ0
        have HS := HS'
        clear HS'
        refine hK.out _ _ HS.out (fun _ => ?_)
        clear hK K
        refine wpAnyH_ready (rs := [9]) (by kernel_rfl) (by simp) ?_
        refine AllReadyH.cons rfl (fun K hK => ?_) AllReadyH.nil
        rw [if_pos (by rfl)]
        refine wp_store_row 34 (.tmp 6) (.tmp 45) rfl w1.heap.size #[.int .i64 nn, .int .i64 u, .int .i64 er] rfl rfl 34 #[.int .i64 0, .int .i64 0, .int .i64 0] HZ.out (Try.sizeNum _ _ _) rfl (oneNum _ _ _) ?_
        have HS' := HS.out.trans (below_setRow' _ w1.heap.size w1.heap.size #[.int .i64 nn, .int .i64 u, .int .i64 er] hgs)
        have HZ8 := setRow_heap _ _ _ #[.int .i64 nn, .int .i64 u, .int .i64 er] _ _ HZ.out
        refine hK.out _ _ HS' (fun _ => ?_)
        clear hK K
        refine wpAnyH_done (by kernel_rfl) ?_ _
        go_wp2_with fail
        go_meet
        exact ⟨w1.heap.size, u, rfl, HZ8, hu, HS'⟩
    case rest =>
      obtain ⟨g, u, rfl, hg, hu, hbc⟩ := hcut
      have e0 : wc.cell? ⟨g, 0, none⟩ = some (.int .i64 nn) := by rw [cell_of_row _ _ _ _ _ _ hg]; rfl
      have e1 : wc.cell? ⟨g, 1, none⟩ = some (.int .i64 u) := by rw [cell_of_row _ _ _ _ _ _ hg]; rfl
      have e2 : wc.cell? ⟨g, 2, none⟩ = some (.int .i64 er) := by rw [cell_of_row _ _ _ _ _ _ hg]; rfl
      have Imc := Lib.hid (Im1.out.below hbc (Nat.le_refl _))
      have Bwc := Lib.hid (Bw1.out.trans (hbc.mono Bw1.out.size))
      have H4c := Lib.hid ((hbc.block _ (by have := Hs1.out; omega)).trans H41.out)
      have HU := Lib.hid hu
      have HG := Lib.hid hg
      have hgw : g ≠ M := by rintro rfl; have := Imc.out.blk.symm.trans hg; simp at this
      clear hbc hu hg RM KC RR H41 Im1 Bw1
      go_wp2_with fail
      refine (took_any Imc.out u er q (fun h => ⟨m, HU.out h, by omega, HQ.out.1 h⟩) (fun h => HQ.out.2 h)).mono ?_
      rintro e w4 ⟨rfl, hm⟩
      have hg4 := grown_blk' hm.grown HG.out hgw
      have f0 : w4.cell? ⟨g, 0, none⟩ = some (.int .i64 nn) := by rw [cell_of_row _ _ _ _ _ _ hg4]; rfl
      have f2 : w4.cell? ⟨g, 2, none⟩ = some (.int .i64 er) := by rw [cell_of_row _ _ _ _ _ _ hg4]; rfl
      have H44 := Lib.hid (grown_blk' hm.grown H4c.out (by rintro rfl; have := Imc.out.blk.symm.trans H4c.out; simp at this))
      have Hm4 := Lib.hid (MovedM.pre Bwc.out hm)
      clear hm e0 e1 e2 hg4 H4c
      go_wp2_with (refine wpList_store_row rfl 83 (.tmp 4) (.tmp 56) rfl (w.heap.size + 1) #[.int .i64 nn, .slice none 0 0, .int .i64 er] rfl rfl 83 #[.int .i64 0, .slice none 0 0, .int .i64 0] H44.out (Try.sizeTold _ _ _) rfl (oneTold _ _ _ _ _) ?_)
      refine bodyPost_ret (v := .agg #[.int .i64 nn, .slice none 0 0, .int .i64 er]) ?_ rfl ?_
      · exact results_cell_row rfl _ _ (w.heap.size + 1) 83 #[.int .i64 nn, .slice none 0 0, .int .i64 er] (0, 0) _ rfl (setRow_heap _ _ _ _ _ _ H44.out) Try.underlying83 rfl (Try.sizeTold _ _ _)
      · exact ⟨_, _, _, rfl, Own.nil _ _, MovedM.low H.out Hm4.out (below_setRow' _ _ _ _ (by omega))⟩
set_option maxRecDepth 100000 in
set_option maxHeartbeats 8000000 in
theorem do_1read {w : World} {M p len cap : Nat} {a : Option Addr} {xs : List Int} (h : IsM w M p a len cap xs) (m : Nat) (hm1 : 1 ≤ m) (hm8 : m ≤ 8) (hml : p + m ≤ len) (nn er : Int) (q : Nat) (hnn : nn = (numV true ((xs.drop p).take m)).1) (her : er = (numV true ((xs.drop p).take m)).2) (hq : (er = 0 → q = p + m) ∧ (er ≠ 0 → q = p)) :
    Calls Try.prog 55 #[.pointer (some ⟨M, 0, none⟩), .agg #[.int .i64 1, .int .i64 m]] w (ToldM w M a len cap xs nn [] er q) := by
  obtain ⟨W0, hW0⟩ : ∃ W0, W0 = (w.alloc (.cells #[.int .i64 1, .int .i64 m] 87)).alloc (.cells #[.int .i64 0, .slice none 0 0, .int .i64 0] 83) := ⟨_, rfl⟩
  have hs0 : W0.heap.size = w.heap.size + 2 := by rw [hW0]; simp
  have hF0 : W0.heap[w.heap.size]? = some (.cells #[.int .i64 1, .int .i64 m] 87 (0, 0)) := by rw [hW0, heap_alloc_old _ _ _ (by simp), heap_alloc_last]
  have h40 : W0.heap[w.heap.size + 1]? = some (.cells #[.int .i64 0, .slice none 0 0, .int .i64 0] 83 (0, 0)) := by
    rw [hW0]; have := heap_alloc_last (w.alloc (.cells #[.int .i64 1, .int .i64 m] 87)) (.cells #[.int .i64 0, .slice none 0 0, .int .i64 0] 83); simpa using this
  have hb0 : Below w.heap.size w W0 := by rw [hW0]; exact ((Below.refl _ w).alloc (Nat.le_refl _) _).alloc (by simp) _
  have H := Lib.hid h
  have H0 := Lib.hid (h.below hb0 (Nat.le_refl _))
  have HW0 := Lib.hid hW0
  have HF0 := Lib.hid hF0
  have H40 := Lib.hid h40
  have Hb0 := Lib.hid hb0
  have Hs0 := Lib.hid hs0
  have hcc := h.rd.hc
  have hcm := h.rd.hm
  have hpl := h.hp
  have hl := h.rd.hl
  have Hl := Lib.hid hl
  unfold maxLen at hcm
  have c0 := H0.out.c0
  have c1 := H0.out.c1
  clear hW0 hs0 hF0 h40 hb0 h hl
  have HNN := Lib.hid (And.intro hnn her)
  have HQ := Lib.hid hq
  have g1 : ¬ (m : Int) < 1 := by omega
  have g2 : ¬ (8 : Int) < (m : Int) := by omega
  have g3 : ¬ ((len - p : Nat) : Int) < (m : Int) := by omega
  have g4 : decide (len - p < m) = false := by simp; omega
  clear hnn her hq
  by_cases hck : p = cap
  · subst hck
    go_enter Try.func55, Try.ntmps55
    go_upto_region 1 with fail
    rw [← HW0.out]
    clear HW0
    go_wp2
    go_quiet (fail)
    obtain ⟨w1, hw1e⟩ : ∃ w1, w1 = W0.drewN nq := ⟨_, rfl⟩
    rw [← hw1e]
    have hB01 : Below W0.heap.size W0 w1 := by rw [hw1e]; exact ⟨rfl, rfl, rfl, Nat.le_refl _, fun _ _ => rfl⟩
    have hs1 : w1.heap.size = w.heap.size + 2 := by rw [hw1e]; exact Hs0.out
    have hF1 : w1.heap[w.heap.size]? = some (.cells #[.int .i64 1, .int .i64 m] 87 (0, 0)) := by rw [hw1e]; exact HF0.out
    have h41 : w1.heap[w.heap.size + 1]? = some (.cells #[.int .i64 0, .slice none 0 0, .int .i64 0] 83 (0, 0)) := by rw [hw1e]; exact H40.out
    have kc : w1.cell? ⟨w.heap.size, 0, none⟩ = some (.int .i64 1) := by rw [cell_of_row _ _ _ _ _ _ hF1]; rfl
    have wc : w1.cell? ⟨w.heap.size, 1, none⟩ = some (.int .i64 m) := by rw [cell_of_row _ _ _ _ _ _ hF1]; rfl
    have Im1 := Lib.hid (H0.out.below hB01 (Nat.le_refl _))
    have Bw1 := Lib.hid (Hb0.out.trans (hB01.mono Hb0.out.size))
    have H41 := Lib.hid h41
    have Hs1 := Lib.hid hs1
    have h0p : len - p = 0 := by omega
    have RR : Hid (Rd w1 a (len - p) 0 (xs.drop p)) := Lib.hid (by rw [h0p, List.drop_eq_nil_of_le (by rw [Hl.out]; omega)]; exact Im1.out.rd.cut0)
    clear hw1e hB01 hs1 hF1 h41 c0 c1 HF0 H40 Hb0 Hs0 H0
    exfalso
    omega
  · have hcf : (cap = p) = False := eq_false (fun e => hck e.symm)
    go_enter Try.func55, Try.ntmps55
    go_upto_region 1 with fail
    rw [← HW0.out]
    clear HW0
    go_wp2
    go_quiet (fail)
    obtain ⟨w1, hw1e⟩ : ∃ w1, w1 = W0.drewN nq := ⟨_, rfl⟩
    rw [← hw1e]
    have hB01 : Below W0.heap.size W0 w1 := by rw [hw1e]; exact ⟨rfl, rfl, rfl, Nat.le_refl _, fun _ _ => rfl⟩
    have hs1 : w1.heap.size = w.heap.size + 2 := by rw [hw1e]; exact Hs0.out
    have hF1 : w1.heap[w.heap.size]? = some (.cells #[.int .i64 1, .int .i64 m] 87 (0, 0)) := by rw [hw1e]; exact HF0.out
    have h41 : w1.heap[w.heap.size + 1]? = some (.cells #[.int .i64 0, .slice none 0 0, .int .i64 0] 83 (0, 0)) := by rw [hw1e]; exact H40.out
    have kc : w1.cell? ⟨w.heap.size, 0, none⟩ = some (.int .i64 1) := by rw [cell_of_row _ _ _ _ _ _ hF1]; rfl
    have wc : w1.cell? ⟨w.heap.size, 1, none⟩ = some (.int .i64 m) := by rw [cell_of_row _ _ _ _ _ _ hF1]; rfl
    have Im1 := Lib.hid (H0.out.below hB01 (Nat.le_refl _))
    have Bw1 := Lib.hid (Hb0.out.trans (hB01.mono Hb0.out.size))
    have H41 := Lib.hid h41
    have Hs1 := Lib.hid hs1
    have RR : Hid (Rd w1 (a.map (fun x => x.add p)) (len - p) (cap - p) (xs.drop p)) := Lib.hid (by have := Im1.out.rd.cut2 p (len - p) (by omega); rw [List.take_of_length_le (by rw [List.length_drop, Hl.out]; exact Nat.le_refl _)] at this; exact this)
    clear hw1e hB01 hs1 hF1 h41 c0 c1 HF0 H40 Hb0 Hs0 H0
    have hcm2 : m ≤ cap - p := by omega
    have hlm2 : m ≤ len - p := by omega
    have RM := Lib.hid (RR.out.take m hlm2)
    have KC : Hid (∀ u, Below w1.heap.size w1 u → ∀ x v, w1.cell? x = some v → u.cell? x = some v) := Lib.hid (fun u hu x v h => (hu.cell (p := x) (World.block_lt_of_cell? w1 _ h)).trans h)
    go_upto_region 9 with fail
    go_cut [6] from 38 to 45 (fun xv wx => ∃ g u, xv = .pointer (some ⟨g, 0, none⟩) ∧ wx.heap[g]? = some (.cells #[.int .i64 nn, .int .i64 u, .int .i64 er] 34 (0, 0)) ∧ (er = 0 → u = m) ∧ Below w1.heap.size w1 wx)
    case first =>
      refine wp_region_held_drew (S := Below w1.heap.size w1) (by kernel_rfl) (Below.refl _ _).drew (fun _ => ?_)
      have HS : Hid (Below w1.heap.size w1 w1.drew) := Lib.hid (Below.refl _ _).drew
      refine wpAnyH_take (i := 0) (v := .slice (a.map (fun x => x.add p)) (len - p) (cap - p)) rfl (by kernel_rfl) (by kernel_rfl) (by kernel_rfl) (fun _ _ _ h => h) (Or.inl ⟨by rfl, ?_⟩) HS.out ?_
      · intro u hu; go_simp
      go_simp
      refine wpAnyH_take (i := 1) (v := .pointer (some ⟨w.heap.size, 1, none⟩)) rfl (by kernel_rfl) (by kernel_rfl) (by kernel_rfl) (fun _ _ _ h => h) (Or.inl ⟨by rfl, ?_⟩) HS.out ?_
      · intro u hu; go_simp
      go_simp
      refine wpAnyH_take (i := 2) (v := .int .i64 m) rfl (by kernel_rfl) (by kernel_rfl) (by kernel_rfl) (fun _ _ _ h => h) (Or.inl ⟨by rfl, ?_⟩) HS.out ?_
      · intro u hu; have := KC.out u hu _ _ wc; go_simp
      go_simp
      refine wpAnyH_take (i := 3) (v := .slice (a.map (fun x => x.add p)) m (cap - p)) rfl (by kernel_rfl) (by kernel_rfl) (by kernel_rfl) (fun _ _ _ h => h) (Or.inl ⟨by rfl, ?_⟩) HS.out ?_
      · intro u hu; go_simp; all_goals (intro _; cases a <;> rfl)
      go_simp
      refine wpAnyH_take (i := 4) (v := .pointer (some ⟨w.heap.size, 0, none⟩)) rfl (by kernel_rfl) (by kernel_rfl) (by kernel_rfl) (fun _ _ _ h => h) (Or.inl ⟨by rfl, ?_⟩) HS.out ?_
      · intro u hu; go_simp
      go_simp
      refine wpAnyH_take (i := 5) (v := .int .i64 1) rfl (by kernel_rfl) (by kernel_rfl) (by kernel_rfl) (fun _ _ _ h => h) (Or.inl ⟨by rfl, ?_⟩) HS.out ?_
      · intro u hu; have := KC.out u hu _ _ kc; go_simp
      go_simp
      refine wpAnyH_take (i := 6) (v := .bool true) rfl (by kernel_rfl) (by kernel_rfl) (by kernel_rfl) (fun _ _ _ h => h) (Or.inl ⟨by rfl, ?_⟩) HS.out ?_
      · intro u hu; go_simp
      go_simp
      refine wpAnyH_ready (rs := [7, 8]) (by kernel_rfl) (by simp) ?_
      refine AllReadyH.cons rfl (fun K hK => ?_) (AllReadyH.cons rfl (fun K hK => ?_) AllReadyH.nil)
      · go_simp
        refine (refRead_used (a.map (fun x => x.add p)) m (cap - p) ((xs.drop p).take m) true _ (RM.out.below HS.out (Nat.le_refl _))).mono ?_
        rintro e w3 ⟨⟨u, rfl, hu⟩, hb⟩
        rw [← HNN.out.1, ← HNN.out.2]
        rw [← HNN.out.2] at hu
        have HS' : Hid (Below w1.heap.size w1 w3) := Lib.hid (HS.out.trans (hb.mono HS.out.size))
        clear HS hb
        have HS := HS'
        clear HS'
        refine hK.out _ _ HS.out (fun _ => ?_)
        clear hK K
        refine wpAnyH_ready (rs := [8]) (by kernel_rfl) (by simp) ?_
        refine AllReadyH.cons rfl (fun K hK => ?_) AllReadyH.nil
        go_simp
        obtain ⟨w7, hw7⟩ : ∃ w7, w7 = w3.alloc (.cells #[.int .i64 0, .int .i64 0, .int .i64 0] 34) := ⟨_, rfl⟩
        rw [← hw7]
        have HZ : Hid (w7.heap[w3.heap.size]? = some (.cells #[.int .i64 0, .int .i64 0, .int .i64 0] 34 (0, 0))) := Lib.hid (by rw [hw7]; exact heap_alloc_last w3 _)
        have HS' : Hid (Below w1.heap.size w1 w7) := Lib.hid (by rw [hw7]; exact HS.out.alloc HS.out.size _)
        have hgs : w1.heap.size ≤ w3.heap.size := HS.out.size
        clear HS hw7
        have HS := HS'
        clear HS'
        refine hK.out _ _ HS.out (fun _ => ?_)
        clear hK K
        refine wpAnyH_ready (rs := [9]) (by kernel_rfl) (by simp) ?_
        refine AllReadyH.cons rfl (fun K hK => ?_) AllReadyH.nil
        rw [if_pos (by rfl)]
        refine wp_store_row 34 (.tmp 6) (.tmp 45) rfl w3.heap.size #[.int .i64 nn, .int .i64 u, .int .i64 er] rfl rfl 34 #[.int .i64 0, .int .i64 0, .int .i64 0] HZ.out (Try.sizeNum _ _ _) rfl (oneNum _ _ _) ?_
        have HS' := HS.out.trans (below_setRow' _ w1.heap.size w3.heap.size #[.int .i64 nn, .int .i64 u, .int .i64 er] hgs)
        have HZ8 := setRow_heap _ _ _ #[.int .i64 nn, .int .i64 u, .int .i64 er] _ _ HZ.out
        refine hK.out _ _ HS' (fun _ => ?_)
        clear hK K
        refine wpAnyH_done (by kernel_rfl) ?_ _
        go_wp2_with fail
        go_meet
        exact ⟨w3.heap.size, u, rfl, HZ8, hu, HS'⟩
      · go_simp
        obtain ⟨w7, hw7⟩ : ∃ w7, w7 = (w1.alloc (.cells #[.int .i64 0, .int .i64 0, .int .i64 0] 34)).drew := ⟨_, rfl⟩
        rw [← hw7]
        have HZ0 : Hid (w7.heap[w1.heap.size]? = some (.cells #[.int .i64 0, .int .i64 0, .int .i64 0] 34 (0, 0))) := Lib.hid (by rw [hw7]; exact heap_alloc_last w1 _)
        have hs7 : w1.heap.size < w7.heap.size := by rw [hw7]; show w1.heap.size < (w1.alloc _).heap.size; simp
        have HS' : Hid (Below w1.heap.size w1 w7) := Lib.hid (by rw [hw7]; exact ((Below.refl _ w1).alloc (Nat.le_refl _) _).drew)
        have hgs : w1.heap.size ≤ w1.heap.size := Nat.le_refl _
        clear HS hw7
        have HS := HS'
        clear HS'
        refine hK.out _ _ HS.out (fun _ => ?_)
        clear hK K
        refine wpAnyH_ready (rs := [7]) (by kernel_rfl) (by simp) ?_
        refine AllReadyH.cons rfl (fun K hK => ?_) AllReadyH.nil
        go_simp
        refine (refRead_used (a.map (fun x => x.add p)) m (cap - p) ((xs.drop p).take m) true _ (RM.out.below HS.out (Nat.le_refl _))).mono ?_
        rintro e w3 ⟨⟨u, rfl, hu⟩, hb⟩
        rw [← HNN.out.1, ← HNN.out.2]
        rw [← HNN.out.2] at hu
        have HZ : Hid (w3.heap[w1.heap.size]? = some (.cells #[.int .i64 0, .int .i64 0, .int .i64 0] 34 (0, 0))) := Lib.hid ((hb.block _ hs7).trans HZ0.out)
        have HS' : Hid (Below w1.heap.size w1 w3) := Lib.hid (HS.out.trans (hb.mono HS.out.size))
        clear HS hb HZ0
        have HS := HS'
        clear HS'
        refine hK.out _ _ HS.out (fun _ => ?_)
        clear hK K
        refine wpAnyH_ready (rs := [9]) (by kernel_rfl) (by simp) ?_
        refine AllReadyH.cons rfl (fun K hK => ?_) AllReadyH.nil
        rw [if_pos (by rfl)]
        refine wp_store_row 34 (.tmp 6) (.tmp 45) rfl w1.heap.size #[.int .i64 nn, .int .i64 u, .int .i64 er] rfl rfl 34 #[.int .i64 0, .int .i64 0, .int .i64 0] HZ.out (Try.sizeNum _ _ _) rfl (oneNum _ _ _) ?_
        have HS' := HS.out.trans (below_setRow' _ w1.heap.size w1.heap.size #[.int .i64 nn, .int .i64 u, .int .i64 er] hgs)
        have HZ8 := setRow_heap _ _ _ #[.int .i64 nn, .int .i64 u, .int .i64 er] _ _ HZ.out
        refine hK.out _ _ HS' (fun _ => ?_)
        clear hK K
        refine wpAnyH_done (by kernel_rfl) ?_ _
        go_wp2_with fail
        go_meet
        exact ⟨w1.heap.size, u, rfl, HZ8, hu, HS'⟩
    case rest =>
      obtain ⟨g, u, rfl, hg, hu, hbc⟩ := hcut
      have e0 : wc.cell? ⟨g, 0, none⟩ = some (.int .i64 nn) := by rw [cell_of_row _ _ _ _ _ _ hg]; rfl
      have e1 : wc.cell? ⟨g, 1, none⟩ = some (.int .i64 u) := by rw [cell_of_row _ _ _ _ _ _ hg]; rfl
      have e2 : wc.cell? ⟨g, 2, none⟩ = some (.int .i64 er) := by rw [cell_of_row _ _ _ _ _ _ hg]; rfl
      have Imc := Lib.hid (Im1.out.below hbc (Nat.le_refl _))
      have Bwc := Lib.hid (Bw1.out.trans (hbc.mono Bw1.out.size))
      have H4c := Lib.hid ((hbc.block _ (by have := Hs1.out; omega)).trans H41.out)
      have HU := Lib.hid hu
      have HG := Lib.hid hg
      have hgw : g ≠ M := by rintro rfl; have := Imc.out.blk.symm.trans hg; simp at this
      clear hbc hu hg RM KC RR H41 Im1 Bw1
      go_wp2_with fail
      refine (took_any Imc.out u er q (fun h => ⟨m, HU.out h, by omega, HQ.out.1 h⟩) (fun h => HQ.out.2 h)).mono ?_
      rintro e w4 ⟨rfl, hm⟩
      have hg4 := grown_blk' hm.grown HG.out hgw
      have f0 : w4.cell? ⟨g, 0, none⟩ = some (.int .i64 nn) := by rw [cell_of_row _ _ _ _ _ _ hg4]; rfl
      have f2 : w4.cell? ⟨g, 2, none⟩ = some (.int .i64 er) := by rw [cell_of_row _ _ _ _ _ _ hg4]; rfl
      have H44 := Lib.hid (grown_blk' hm.grown H4c.out (by rintro rfl; have := Imc.out.blk.symm.trans H4c.out; simp at this))
      have Hm4 := Lib.hid (MovedM.pre Bwc.out hm)
      clear hm e0 e1 e2 hg4 H4c
      go_wp2_with (refine wpList_store_row rfl 83 (.tmp 4) (.tmp 56) rfl (w.heap.size + 1) #[.int .i64 nn, .slice none 0 0, .int .i64 er] rfl rfl 83 #[.int .i64 0, .slice none 0 0, .int .i64 0] H44.out (Try.sizeTold _ _ _) rfl (oneTold _ _ _ _ _) ?_)
      refine bodyPost_ret (v := .agg #[.int .i64 nn, .slice none 0 0, .int .i64 er]) ?_ rfl ?_
      · exact results_cell_row rfl _ _ (w.heap.size + 1) 83 #[.int .i64 nn, .slice none 0 0, .int .i64 er] (0, 0) _ rfl (setRow_heap _ _ _ _ _ _ H44.out) Try.underlying83 rfl (Try.sizeTold _ _ _)
      · exact ⟨_, _, _, rfl, Own.nil _ _, MovedM.low H.out Hm4.out (below_setRow' _ _ _ _ (by omega))⟩
end Go.Proofs.Ytnhkkhceoaembaa

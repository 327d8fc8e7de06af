/- The model's do: variable numbers, texts. -/
import Derived.Test.YtnhkkhceoaembaaWmodel
import Derived.Test.YtnhkkhceoaembaaWdo2
import Derived.Test.YtnhkkhceoaembaaRtovar
import Derived.Test.YtnhkkhceoaembaaRtotext
import Derived.Test.YtnhkkhceoaembaaWrtext
import Derived.Deep.DeepCutAuto
namespace Go.Proofs.Ytnhkkhceoaembaa
set_option linter.unusedVariables false
open Go.RowKit

set_option maxRecDepth 100000 in
set_option maxHeartbeats 4000000 in
theorem do_2 {w : World} {M p len cap : Nat} {a : Option Addr} {xs : List Int} (h : IsM w M p a len cap xs) (wd : Int) (hw1 : -9223372036854775808 ≤ wd) (hw2 : wd ≤ 9223372036854775807) (hbig : len ≤ 140737488355328) :
    Calls Try.prog 55 #[.pointer (some ⟨M, 0, none⟩), .agg #[.int .i64 2, .int .i64 wd]] w (ToldM w M a len cap xs ((toVarV (xs.drop p)).1) ([]) ((toVarV (xs.drop p)).2.2) (p + (toVarV (xs.drop p)).2.1.toNat)) := by
  obtain ⟨W0, hW0⟩ : ∃ W0, W0 = (w.alloc (.cells #[.int .i64 2, .int .i64 wd] 87)).alloc (.cells #[.int .i64 0, .slice none 0 0, .int .i64 0] 83) := ⟨_, rfl⟩
  have hs0 : W0.heap.size = w.heap.size + 2 := by rw [hW0]; simp
  have hF0 : W0.heap[w.heap.size]? = some (.cells #[.int .i64 2, .int .i64 wd] 87 (0, 0)) := by rw [hW0, heap_alloc_old _ _ _ (by simp), heap_alloc_last]
  have h40 : W0.heap[w.heap.size + 1]? = some (.cells #[.int .i64 0, .slice none 0 0, .int .i64 0] 83 (0, 0)) := by
    rw [hW0]; have := heap_alloc_last (w.alloc (.cells #[.int .i64 2, .int .i64 wd] 87)) (.cells #[.int .i64 0, .slice none 0 0, .int .i64 0] 83); simpa using this
  have hb0 : Below w.heap.size w W0 := by rw [hW0]; exact ((Below.refl _ w).alloc (Nat.le_refl _) _).alloc (by simp) _
  have H := Lib.hid h
  have H0 := Lib.hid (h.below hb0 (Nat.le_refl _))
  have HW0 := Lib.hid hW0
  have HF0 := Lib.hid hF0
  have H40 := Lib.hid h40
  have Hb0 := Lib.hid hb0
  have Hs0 := Lib.hid hs0
  have hcc := h.rd.hc
  have hcm := h.rd.hm
  have hpl := h.hp
  have hl := h.rd.hl
  have Hl := Lib.hid hl
  unfold maxLen at hcm
  have c0 := H0.out.c0
  have c1 := H0.out.c1
  clear hW0 hs0 hF0 h40 hb0 h hl
  have hbv := toVarV_bd (xs.drop p) (fun x hx => H.out.rd.hb x (List.mem_of_mem_drop hx))
  have hdl : (xs.drop p).length = len - p := by rw [List.length_drop, Hl.out]
  obtain ⟨vn, hvn⟩ : ∃ v, v = (toVarV (xs.drop p)).1 := ⟨_, rfl⟩
  obtain ⟨vu, hvu⟩ : ∃ v, v = (toVarV (xs.drop p)).2.1 := ⟨_, rfl⟩
  obtain ⟨ve, hve⟩ : ∃ v, v = (toVarV (xs.drop p)).2.2 := ⟨_, rfl⟩
  have HT : Hid (num (toVarV (xs.drop p)) = .returned (.agg #[.int .i64 vn, .int .i64 vu, .int .i64 ve])) := Lib.hid (by rw [hvn, hvu, hve]; rfl)
  rw [← hvn, ← hvu, ← hve] at hbv
  rw [← hvn, ← hvu, ← hve]
  obtain ⟨q, hq⟩ : ∃ q, q = p + vu.toNat := ⟨_, rfl⟩
  rw [← hq]
  have HQ : Hid ((ve = 0 → ∃ m : Nat, vu = m ∧ p + m ≤ len ∧ q = p + m) ∧ (ve ≠ 0 → q = p)) := Lib.hid ⟨fun h => ⟨vu.toNat, by omega, by omega, hq⟩, fun h => by omega⟩
  clear hvn hvu hve hbv hdl hq
  by_cases hck : p = cap
  · subst hck
    go_enter Try.func55, Try.ntmps55
    go_upto_region 1 with fail
    rw [← HW0.out]
    clear HW0
    go_wp2
    go_quiet (fail)
    obtain ⟨w1, hw1e⟩ : ∃ w1, w1 = W0.drewN nq := ⟨_, rfl⟩
    rw [← hw1e]
    have hB01 : Below W0.heap.size W0 w1 := by rw [hw1e]; exact ⟨rfl, rfl, rfl, Nat.le_refl _, fun _ _ => rfl⟩
    have hs1 : w1.heap.size = w.heap.size + 2 := by rw [hw1e]; exact Hs0.out
    have hF1 : w1.heap[w.heap.size]? = some (.cells #[.int .i64 2, .int .i64 wd] 87 (0, 0)) := by rw [hw1e]; exact HF0.out
    have h41 : w1.heap[w.heap.size + 1]? = some (.cells #[.int .i64 0, .slice none 0 0, .int .i64 0] 83 (0, 0)) := by rw [hw1e]; exact H40.out
    have kc : w1.cell? ⟨w.heap.size, 0, none⟩ = some (.int .i64 2) := by rw [cell_of_row _ _ _ _ _ _ hF1]; rfl
    have wc : w1.cell? ⟨w.heap.size, 1, none⟩ = some (.int .i64 wd) := by rw [cell_of_row _ _ _ _ _ _ hF1]; rfl
    have Im1 := Lib.hid (H0.out.below hB01 (Nat.le_refl _))
    have Bw1 := Lib.hid (Hb0.out.trans (hB01.mono Hb0.out.size))
    have H41 := Lib.hid h41
    have Hs1 := Lib.hid hs1
    have h0p : len - p = 0 := by omega
    have RR : Hid (Rd w1 a 0 0 (xs.drop p)) := Lib.hid (by rw [List.drop_eq_nil_of_le (by rw [Hl.out]; omega)]; exact Im1.out.rd.cut0)
    clear hw1e hB01 hs1 hF1 h41 c0 c1 HF0 H40 Hb0 Hs0 H0
    go_wp2_with fail
    refine (refToVar_any _ _ _ (xs.drop p) w1 RR.out).mono ?_
    rintro e w2 ⟨rfl, hb⟩
    rw [HT.out]
    obtain ⟨W3, hW3⟩ : ∃ W3, W3 = w2.alloc (.cells #[.int .i64 vn, .int .i64 vu, .int .i64 ve] 34) := ⟨_, rfl⟩
    have hg : W3.heap[w2.heap.size]? = some (.cells #[.int .i64 vn, .int .i64 vu, .int .i64 ve] 34 (0, 0)) := by rw [hW3]; exact heap_alloc_last w2 _
    have hb3 : Below w1.heap.size w1 W3 := by rw [hW3]; exact hb.alloc hb.size _
    have hg2 : w1.heap.size ≤ w2.heap.size := hb.size
    have HW3 := Lib.hid hW3
    have Hg := Lib.hid hg
    have Hb3 := Lib.hid hb3
    clear hb hW3 hg hb3
    go_upto_region 14 with fail
    rw [← HW3.out]
    clear HW3
    obtain ⟨g, hgg⟩ : ∃ g, g = w2.heap.size := ⟨_, rfl⟩
    rw [← hgg] at Hg hg2 ⊢
    clear hgg
    have e0 : W3.cell? ⟨g, 0, none⟩ = some (.int .i64 vn) := by rw [cell_of_row _ _ _ _ _ _ Hg.out]; rfl
    have e1 : W3.cell? ⟨g, 1, none⟩ = some (.int .i64 vu) := by rw [cell_of_row _ _ _ _ _ _ Hg.out]; rfl
    have e2 : W3.cell? ⟨g, 2, none⟩ = some (.int .i64 ve) := by rw [cell_of_row _ _ _ _ _ _ Hg.out]; rfl
    have Imc := Lib.hid (Im1.out.below Hb3.out (Nat.le_refl _))
    have Bwc := Lib.hid (Bw1.out.trans (Hb3.out.mono Bw1.out.size))
    have H4c := Lib.hid ((Hb3.out.block _ (by have := Hs1.out; omega)).trans H41.out)
    have hgw : g ≠ M := by have := Im1.out.lt; omega
    have h4M : w.heap.size + 1 ≠ M := by rintro rfl; have := Imc.out.blk.symm.trans H4c.out; simp at this
    clear RR H41 Im1 Bw1 Hb3
    go_wp2_with fail
    refine (took_any Imc.out vu ve q HQ.out.1 HQ.out.2).mono ?_
    rintro e w4 ⟨rfl, hm⟩
    have hg4 := grown_blk' hm.grown Hg.out hgw
    have f0 : w4.cell? ⟨g, 0, none⟩ = some (.int .i64 vn) := by rw [cell_of_row _ _ _ _ _ _ hg4]; rfl
    have f2 : w4.cell? ⟨g, 2, none⟩ = some (.int .i64 ve) := by rw [cell_of_row _ _ _ _ _ _ hg4]; rfl
    have H44 := Lib.hid (grown_blk' hm.grown H4c.out h4M)
    have Hm4 := Lib.hid (MovedM.pre Bwc.out hm)
    clear hm e0 e1 e2 hg4 H4c
    go_wp2_with (refine wpList_store_row rfl 83 (.tmp 4) (.tmp 71) rfl (w.heap.size + 1) #[.int .i64 vn, .slice none 0 0, .int .i64 ve] rfl rfl 83 #[.int .i64 0, .slice none 0 0, .int .i64 0] H44.out (Try.sizeTold _ _ _) rfl (oneTold _ _ _ _ _) ?_)
    refine bodyPost_ret (v := .agg #[.int .i64 vn, .slice none 0 0, .int .i64 ve]) ?_ rfl ?_
    · exact results_cell_row rfl _ _ (w.heap.size + 1) 83 #[.int .i64 vn, .slice none 0 0, .int .i64 ve] (0, 0) _ rfl (setRow_heap _ _ _ _ _ _ H44.out) Try.underlying83 rfl (Try.sizeTold _ _ _)
    · exact ⟨_, _, _, rfl, Own.nil _ _, MovedM.low H.out Hm4.out (below_setRow' _ _ _ _ (by omega))⟩
  · have hcf : (cap = p) = False := eq_false (fun e => hck e.symm)
    go_enter Try.func55, Try.ntmps55
    go_upto_region 1 with fail
    rw [← HW0.out]
    clear HW0
    go_wp2
    go_quiet (fail)
    obtain ⟨w1, hw1e⟩ : ∃ w1, w1 = W0.drewN nq := ⟨_, rfl⟩
    rw [← hw1e]
    have hB01 : Below W0.heap.size W0 w1 := by rw [hw1e]; exact ⟨rfl, rfl, rfl, Nat.le_refl _, fun _ _ => rfl⟩
    have hs1 : w1.heap.size = w.heap.size + 2 := by rw [hw1e]; exact Hs0.out
    have hF1 : w1.heap[w.heap.size]? = some (.cells #[.int .i64 2, .int .i64 wd] 87 (0, 0)) := by rw [hw1e]; exact HF0.out
    have h41 : w1.heap[w.heap.size + 1]? = some (.cells #[.int .i64 0, .slice none 0 0, .int .i64 0] 83 (0, 0)) := by rw [hw1e]; exact H40.out
    have kc : w1.cell? ⟨w.heap.size, 0, none⟩ = some (.int .i64 2) := by rw [cell_of_row _ _ _ _ _ _ hF1]; rfl
    have wc : w1.cell? ⟨w.heap.size, 1, none⟩ = some (.int .i64 wd) := by rw [cell_of_row _ _ _ _ _ _ hF1]; rfl
    have Im1 := Lib.hid (H0.out.below hB01 (Nat.le_refl _))
    have Bw1 := Lib.hid (Hb0.out.trans (hB01.mono Hb0.out.size))
    have H41 := Lib.hid h41
    have Hs1 := Lib.hid hs1
    have RR : Hid (Rd w1 (a.map (fun x => x.add p)) (len - p) (cap - p) (xs.drop p)) := Lib.hid (by have := Im1.out.rd.cut2 p (len - p) (by omega); rw [List.take_of_length_le (by rw [List.length_drop, Hl.out]; exact Nat.le_refl _)] at this; exact this)
    clear hw1e hB01 hs1 hF1 h41 c0 c1 HF0 H40 Hb0 Hs0 H0
    go_wp2_with fail
    refine (refToVar_any _ _ _ (xs.drop p) w1 RR.out).mono ?_
    rintro e w2 ⟨rfl, hb⟩
    rw [HT.out]
    obtain ⟨W3, hW3⟩ : ∃ W3, W3 = w2.alloc (.cells #[.int .i64 vn, .int .i64 vu, .int .i64 ve] 34) := ⟨_, rfl⟩
    have hg : W3.heap[w2.heap.size]? = some (.cells #[.int .i64 vn, .int .i64 vu, .int .i64 ve] 34 (0, 0)) := by rw [hW3]; exact heap_alloc_last w2 _
    have hb3 : Below w1.heap.size w1 W3 := by rw [hW3]; exact hb.alloc hb.size _
    have hg2 : w1.heap.size ≤ w2.heap.size := hb.size
    have HW3 := Lib.hid hW3
    have Hg := Lib.hid hg
    have Hb3 := Lib.hid hb3
    clear hb hW3 hg hb3
    go_upto_region 14 with fail
    rw [← HW3.out]
    clear HW3
    obtain ⟨g, hgg⟩ : ∃ g, g = w2.heap.size := ⟨_, rfl⟩
    rw [← hgg] at Hg hg2 ⊢
    clear hgg
    have e0 : W3.cell? ⟨g, 0, none⟩ = some (.int .i64 vn) := by rw [cell_of_row _ _ _ _ _ _ Hg.out]; rfl
    have e1 : W3.cell? ⟨g, 1, none⟩ = some (.int .i64 vu) := by rw [cell_of_row _ _ _ _ _ _ Hg.out]; rfl
    have e2 : W3.cell? ⟨g, 2, none⟩ = some (.int .i64 ve) := by rw [cell_of_row _ _ _ _ _ _ Hg.out]; rfl
    have Imc := Lib.hid (Im1.out.below Hb3.out (Nat.le_refl _))
    have Bwc := Lib.hid (Bw1.out.trans (Hb3.out.mono Bw1.out.size))
    have H4c := Lib.hid ((Hb3.out.block _ (by have := Hs1.out; omega)).trans H41.out)
    have hgw : g ≠ M := by have := Im1.out.lt; omega
    have h4M : w.heap.size + 1 ≠ M := by rintro rfl; have := Imc.out.blk.symm.trans H4c.out; simp at this
    clear RR H41 Im1 Bw1 Hb3
    go_wp2_with fail
    refine (took_any Imc.out vu ve q HQ.out.1 HQ.out.2).mono ?_
    rintro e w4 ⟨rfl, hm⟩
    have hg4 := grown_blk' hm.grown Hg.out hgw
    have f0 : w4.cell? ⟨g, 0, none⟩ = some (.int .i64 vn) := by rw [cell_of_row _ _ _ _ _ _ hg4]; rfl
    have f2 : w4.cell? ⟨g, 2, none⟩ = some (.int .i64 ve) := by rw [cell_of_row _ _ _ _ _ _ hg4]; rfl
    have H44 := Lib.hid (grown_blk' hm.grown H4c.out h4M)
    have Hm4 := Lib.hid (MovedM.pre Bwc.out hm)
    clear hm e0 e1 e2 hg4 H4c
    go_wp2_with (refine wpList_store_row rfl 83 (.tmp 4) (.tmp 71) rfl (w.heap.size + 1) #[.int .i64 vn, .slice none 0 0, .int .i64 ve] rfl rfl 83 #[.int .i64 0, .slice none 0 0, .int .i64 0] H44.out (Try.sizeTold _ _ _) rfl (oneTold _ _ _ _ _) ?_)
    refine bodyPost_ret (v := .agg #[.int .i64 vn, .slice none 0 0, .int .i64 ve]) ?_ rfl ?_
    · exact results_cell_row rfl _ _ (w.heap.size + 1) 83 #[.int .i64 vn, .slice none 0 0, .int .i64 ve] (0, 0) _ rfl (setRow_heap _ _ _ _ _ _ H44.out) Try.underlying83 rfl (Try.sizeTold _ _ _)
    · exact ⟨_, _, _, rfl, Own.nil _ _, MovedM.low H.out Hm4.out (below_setRow' _ _ _ _ (by omega))⟩
set_option maxRecDepth 100000 in
set_option maxHeartbeats 4000000 in
theorem do_3 {w : World} {M p len cap : Nat} {a : Option Addr} {xs : List Int} (h : IsM w M p a len cap xs) (wd : Int) (hw1 : -9223372036854775808 ≤ wd) (hw2 : wd ≤ 9223372036854775807) (hbig : len ≤ 140737488355328) :
    Calls Try.prog 55 #[.pointer (some ⟨M, 0, none⟩), .agg #[.int .i64 3, .int .i64 wd]] w (ToldM w M a len cap xs (0) ((toTextV (xs.drop p)).1) ((toTextV (xs.drop p)).2.2) (p + (toTextV (xs.drop p)).2.1.toNat)) := by
  obtain ⟨W0, hW0⟩ : ∃ W0, W0 = (w.alloc (.cells #[.int .i64 3, .int .i64 wd] 87)).alloc (.cells #[.int .i64 0, .slice none 0 0, .int .i64 0] 83) := ⟨_, rfl⟩
  have hs0 : W0.heap.size = w.heap.size + 2 := by rw [hW0]; simp
  have hF0 : W0.heap[w.heap.size]? = some (.cells #[.int .i64 3, .int .i64 wd] 87 (0, 0)) := by rw [hW0, heap_alloc_old _ _ _ (by simp), heap_alloc_last]
  have h40 : W0.heap[w.heap.size + 1]? = some (.cells #[.int .i64 0, .slice none 0 0, .int .i64 0] 83 (0, 0)) := by
    rw [hW0]; have := heap_alloc_last (w.alloc (.cells #[.int .i64 3, .int .i64 wd] 87)) (.cells #[.int .i64 0, .slice none 0 0, .int .i64 0] 83); simpa using this
  have hb0 : Below w.heap.size w W0 := by rw [hW0]; exact ((Below.refl _ w).alloc (Nat.le_refl _) _).alloc (by simp) _
  have H := Lib.hid h
  have H0 := Lib.hid (h.below hb0 (Nat.le_refl _))
  have HW0 := Lib.hid hW0
  have HF0 := Lib.hid hF0
  have H40 := Lib.hid h40
  have Hb0 := Lib.hid hb0
  have Hs0 := Lib.hid hs0
  have hcc := h.rd.hc
  have hcm := h.rd.hm
  have hpl := h.hp
  have hl := h.rd.hl
  have Hl := Lib.hid hl
  unfold maxLen at hcm
  have c0 := H0.out.c0
  have c1 := H0.out.c1
  clear hW0 hs0 hF0 h40 hb0 h hl
  have hbv := toTextV_bd (xs.drop p) (fun x hx => H.out.rd.hb x (List.mem_of_mem_drop hx))
  have hdl : (xs.drop p).length = len - p := by rw [List.length_drop, Hl.out]
  have hzero : (toTextV (xs.drop p)).2.2 ≠ 0 → (toTextV (xs.drop p)).2.1 = 0 := by
    intro h
    unfold toTextV at h ⊢
    split
    · rfl
    · split
      · rfl
      · split
        · rfl
        · rename_i h1 h2 h3; rw [if_neg h1, if_neg h2, if_neg h3] at h; exact absurd rfl h
  obtain ⟨bs, hbs⟩ : ∃ v, v = (toTextV (xs.drop p)).1 := ⟨_, rfl⟩
  obtain ⟨vu, hvu⟩ : ∃ v, v = (toTextV (xs.drop p)).2.1 := ⟨_, rfl⟩
  obtain ⟨ve, hve⟩ : ∃ v, v = (toTextV (xs.drop p)).2.2 := ⟨_, rfl⟩
  have HV := Lib.hid (And.intro hbs (And.intro hvu hve))
  rw [← hvu] at hbv
  rw [← hvu, ← hve] at hzero
  rw [← hbs, ← hvu, ← hve]
  obtain ⟨q, hq⟩ : ∃ q, q = p + vu.toNat := ⟨_, rfl⟩
  rw [← hq]
  have HQ : Hid ((ve = 0 → ∃ m : Nat, vu = m ∧ p + m ≤ len ∧ q = p + m) ∧ (ve ≠ 0 → q = p)) := Lib.hid ⟨fun h => ⟨vu.toNat, by omega, by omega, hq⟩, fun h => by have := hzero h; omega⟩
  clear hbs hvu hve hbv hdl hzero hq
  by_cases hck : p = cap
  · subst hck
    go_enter Try.func55, Try.ntmps55
    go_upto_region 1 with fail
    rw [← HW0.out]
    clear HW0
    go_wp2
    go_quiet (fail)
    obtain ⟨w1, hw1e⟩ : ∃ w1, w1 = W0.drewN nq := ⟨_, rfl⟩
    rw [← hw1e]
    have hB01 : Below W0.heap.size W0 w1 := by rw [hw1e]; exact ⟨rfl, rfl, rfl, Nat.le_refl _, fun _ _ => rfl⟩
    have hs1 : w1.heap.size = w.heap.size + 2 := by rw [hw1e]; exact Hs0.out
    have hF1 : w1.heap[w.heap.size]? = some (.cells #[.int .i64 3, .int .i64 wd] 87 (0, 0)) := by rw [hw1e]; exact HF0.out
    have h41 : w1.heap[w.heap.size + 1]? = some (.cells #[.int .i64 0, .slice none 0 0, .int .i64 0] 83 (0, 0)) := by rw [hw1e]; exact H40.out
    have kc : w1.cell? ⟨w.heap.size, 0, none⟩ = some (.int .i64 3) := by rw [cell_of_row _ _ _ _ _ _ hF1]; rfl
    have wc : w1.cell? ⟨w.heap.size, 1, none⟩ = some (.int .i64 wd) := by rw [cell_of_row _ _ _ _ _ _ hF1]; rfl
    have Im1 := Lib.hid (H0.out.below hB01 (Nat.le_refl _))
    have Bw1 := Lib.hid (Hb0.out.trans (hB01.mono Hb0.out.size))
    have H41 := Lib.hid h41
    have Hs1 := Lib.hid hs1
    have h0p : len - p = 0 := by omega
    have RR : Hid (Rd w1 a 0 0 (xs.drop p)) := Lib.hid (by rw [List.drop_eq_nil_of_le (by rw [Hl.out]; omega)]; exact Im1.out.rd.cut0)
    clear hw1e hB01 hs1 hF1 h41 c0 c1 HF0 H40 Hb0 Hs0 H0
    go_wp2_with fail
    refine (refToText_any _ _ _ (xs.drop p) w1 RR.out).mono ?_
    rintro e w2 ⟨v, rfl, ho, hb⟩
    rw [← HV.out.1] at ho
    rw [← HV.out.2.1, ← HV.out.2.2]
    obtain ⟨va, vc, rfl, hrd⟩ := ho.rd
    obtain ⟨vm, hvm⟩ : ∃ m, m = bs.length := ⟨_, rfl⟩
    rw [← hvm] at ho ⊢
    clear hrd hvm
    obtain ⟨W3, hW3⟩ : ∃ W3, W3 = w2.alloc (.cells #[.slice va vm vc, .int .i64 vu, .int .i64 ve] 28) := ⟨_, rfl⟩
    have hg : W3.heap[w2.heap.size]? = some (.cells #[.slice va vm vc, .int .i64 vu, .int .i64 ve] 28 (0, 0)) := by rw [hW3]; exact heap_alloc_last w2 _
    have hb3 : Below w1.heap.size w1 W3 := by rw [hW3]; exact hb.alloc hb.size _
    have Ho3 : Hid (Own W3 w1.heap.size (.slice va vm vc) bs) := Lib.hid (by rw [hW3]; exact ho.alloc _)
    have hg2 : w1.heap.size ≤ w2.heap.size := hb.size
    have HW3 := Lib.hid hW3
    have Hg := Lib.hid hg
    have Hb3 := Lib.hid hb3
    clear hb hW3 hg hb3 ho
    go_upto_region 18 with fail
    rw [← HW3.out]
    clear HW3
    obtain ⟨g, hgg⟩ : ∃ g, g = w2.heap.size := ⟨_, rfl⟩
    rw [← hgg] at Hg hg2 ⊢
    clear hgg
    have e0 : W3.cell? ⟨g, 0, none⟩ = some (.slice va vm vc) := by rw [cell_of_row _ _ _ _ _ _ Hg.out]; rfl
    have e1 : W3.cell? ⟨g, 1, none⟩ = some (.int .i64 vu) := by rw [cell_of_row _ _ _ _ _ _ Hg.out]; rfl
    have e2 : W3.cell? ⟨g, 2, none⟩ = some (.int .i64 ve) := by rw [cell_of_row _ _ _ _ _ _ Hg.out]; rfl
    have Imc := Lib.hid (Im1.out.below Hb3.out (Nat.le_refl _))
    have Bwc := Lib.hid (Bw1.out.trans (Hb3.out.mono Bw1.out.size))
    have H4c := Lib.hid ((Hb3.out.block _ (by have := Hs1.out; omega)).trans H41.out)
    have hgw : g ≠ M := by have := Im1.out.lt; omega
    have h4M : w.heap.size + 1 ≠ M := by rintro rfl; have := Imc.out.blk.symm.trans H4c.out; simp at this
    clear RR H41 Im1 Bw1 Hb3
    go_wp2_with fail
    refine (took_any Imc.out vu ve q HQ.out.1 HQ.out.2).mono ?_
    rintro e w4 ⟨rfl, hm⟩
    have hg4 := grown_blk' hm.grown Hg.out hgw
    have f0 : w4.cell? ⟨g, 0, none⟩ = some (.slice va vm vc) := by rw [cell_of_row _ _ _ _ _ _ hg4]; rfl
    have f2 : w4.cell? ⟨g, 2, none⟩ = some (.int .i64 ve) := by rw [cell_of_row _ _ _ _ _ _ hg4]; rfl
    have H44 := Lib.hid (grown_blk' hm.grown H4c.out h4M)
    have Hm4 := Lib.hid (MovedM.pre Bwc.out hm)
    have Ho4 := Lib.hid (hm.owns _ _ _ Ho3.out)
    clear hm e0 e1 e2 hg4 H4c
    go_wp2_with (refine wpList_store_row rfl 83 (.tmp 4) (.tmp 86) rfl (w.heap.size + 1) #[.int .i64 0, .slice va vm vc, .int .i64 ve] rfl rfl 83 #[.int .i64 0, .slice none 0 0, .int .i64 0] H44.out (Try.sizeTold _ _ _) rfl (oneTold _ _ _ _ _) ?_)
    refine bodyPost_ret (v := .agg #[.int .i64 0, .slice va vm vc, .int .i64 ve]) ?_ rfl ?_
    · exact results_cell_row rfl _ _ (w.heap.size + 1) 83 #[.int .i64 0, .slice va vm vc, .int .i64 ve] (0, 0) _ rfl (setRow_heap _ _ _ _ _ _ H44.out) Try.underlying83 rfl (Try.sizeTold _ _ _)
    · exact ⟨_, _, _, rfl, ((Ho4.out.setRow (by have := Hs1.out; omega) _).mono (by have := Hs1.out; omega)), MovedM.low H.out Hm4.out (below_setRow' _ _ _ _ (by omega))⟩
  · have hcf : (cap = p) = False := eq_false (fun e => hck e.symm)
    go_enter Try.func55, Try.ntmps55
    go_upto_region 1 with fail
    rw [← HW0.out]
    clear HW0
    go_wp2
    go_quiet (fail)
    obtain ⟨w1, hw1e⟩ : ∃ w1, w1 = W0.drewN nq := ⟨_, rfl⟩
    rw [← hw1e]
    have hB01 : Below W0.heap.size W0 w1 := by rw [hw1e]; exact ⟨rfl, rfl, rfl, Nat.le_refl _, fun _ _ => rfl⟩
    have hs1 : w1.heap.size = w.heap.size + 2 := by rw [hw1e]; exact Hs0.out
    have hF1 : w1.heap[w.heap.size]? = some (.cells #[.int .i64 3, .int .i64 wd] 87 (0, 0)) := by rw [hw1e]; exact HF0.out
    have h41 : w1.heap[w.heap.size + 1]? = some (.cells #[.int .i64 0, .slice none 0 0, .int .i64 0] 83 (0, 0)) := by rw [hw1e]; exact H40.out
    have kc : w1.cell? ⟨w.heap.size, 0, none⟩ = some (.int .i64 3) := by rw [cell_of_row _ _ _ _ _ _ hF1]; rfl
    have wc : w1.cell? ⟨w.heap.size, 1, none⟩ = some (.int .i64 wd) := by rw [cell_of_row _ _ _ _ _ _ hF1]; rfl
    have Im1 := Lib.hid (H0.out.below hB01 (Nat.le_refl _))
    have Bw1 := Lib.hid (Hb0.out.trans (hB01.mono Hb0.out.size))
    have H41 := Lib.hid h41
    have Hs1 := Lib.hid hs1
    have RR : Hid (Rd w1 (a.map (fun x => x.add p)) (len - p) (cap - p) (xs.drop p)) := Lib.hid (by have := Im1.out.rd.cut2 p (len - p) (by omega); rw [List.take_of_length_le (by rw [List.length_drop, Hl.out]; exact Nat.le_refl _)] at this; exact this)
    clear hw1e hB01 hs1 hF1 h41 c0 c1 HF0 H40 Hb0 Hs0 H0
    go_wp2_with fail
    refine (refToText_any _ _ _ (xs.drop p) w1 RR.out).mono ?_
    rintro e w2 ⟨v, rfl, ho, hb⟩
    rw [← HV.out.1] at ho
    rw [← HV.out.2.1, ← HV.out.2.2]
    obtain ⟨va, vc, rfl, hrd⟩ := ho.rd
    obtain ⟨vm, hvm⟩ : ∃ m, m = bs.length := ⟨_, rfl⟩
    rw [← hvm] at ho ⊢
    clear hrd hvm
    obtain ⟨W3, hW3⟩ : ∃ W3, W3 = w2.alloc (.cells #[.slice va vm vc, .int .i64 vu, .int .i64 ve] 28) := ⟨_, rfl⟩
    have hg : W3.heap[w2.heap.size]? = some (.cells #[.slice va vm vc, .int .i64 vu, .int .i64 ve] 28 (0, 0)) := by rw [hW3]; exact heap_alloc_last w2 _
    have hb3 : Below w1.heap.size w1 W3 := by rw [hW3]; exact hb.alloc hb.size _
    have Ho3 : Hid (Own W3 w1.heap.size (.slice va vm vc) bs) := Lib.hid (by rw [hW3]; exact ho.alloc _)
    have hg2 : w1.heap.size ≤ w2.heap.size := hb.size
    have HW3 := Lib.hid hW3
    have Hg := Lib.hid hg
    have Hb3 := Lib.hid hb3
    clear hb hW3 hg hb3 ho
    go_upto_region 18 with fail
    rw [← HW3.out]
    clear HW3
    obtain ⟨g, hgg⟩ : ∃ g, g = w2.heap.size := ⟨_, rfl⟩
    rw [← hgg] at Hg hg2 ⊢
    clear hgg
    have e0 : W3.cell? ⟨g, 0, none⟩ = some (.slice va vm vc) := by rw [cell_of_row _ _ _ _ _ _ Hg.out]; rfl
    have e1 : W3.cell? ⟨g, 1, none⟩ = some (.int .i64 vu) := by rw [cell_of_row _ _ _ _ _ _ Hg.out]; rfl
    have e2 : W3.cell? ⟨g, 2, none⟩ = some (.int .i64 ve) := by rw [cell_of_row _ _ _ _ _ _ Hg.out]; rfl
    have Imc := Lib.hid (Im1.out.below Hb3.out (Nat.le_refl _))
    have Bwc := Lib.hid (Bw1.out.trans (Hb3.out.mono Bw1.out.size))
    have H4c := Lib.hid ((Hb3.out.block _ (by have := Hs1.out; omega)).trans H41.out)
    have hgw : g ≠ M := by have := Im1.out.lt; omega
    have h4M : w.heap.size + 1 ≠ M := by rintro rfl; have := Imc.out.blk.symm.trans H4c.out; simp at this
    clear RR H41 Im1 Bw1 Hb3
    go_wp2_with fail
    refine (took_any Imc.out vu ve q HQ.out.1 HQ.out.2).mono ?_
    rintro e w4 ⟨rfl, hm⟩
    have hg4 := grown_blk' hm.grown Hg.out hgw
    have f0 : w4.cell? ⟨g, 0, none⟩ = some (.slice va vm vc) := by rw [cell_of_row _ _ _ _ _ _ hg4]; rfl
    have f2 : w4.cell? ⟨g, 2, none⟩ = some (.int .i64 ve) := by rw [cell_of_row _ _ _ _ _ _ hg4]; rfl
    have H44 := Lib.hid (grown_blk' hm.grown H4c.out h4M)
    have Hm4 := Lib.hid (MovedM.pre Bwc.out hm)
    have Ho4 := Lib.hid (hm.owns _ _ _ Ho3.out)
    clear hm e0 e1 e2 hg4 H4c
    go_wp2_with (refine wpList_store_row rfl 83 (.tmp 4) (.tmp 86) rfl (w.heap.size + 1) #[.int .i64 0, .slice va vm vc, .int .i64 ve] rfl rfl 83 #[.int .i64 0, .slice none 0 0, .int .i64 0] H44.out (Try.sizeTold _ _ _) rfl (oneTold _ _ _ _ _) ?_)
    refine bodyPost_ret (v := .agg #[.int .i64 0, .slice va vm vc, .int .i64 ve]) ?_ rfl ?_
    · exact results_cell_row rfl _ _ (w.heap.size + 1) 83 #[.int .i64 0, .slice va vm vc, .int .i64 ve] (0, 0) _ rfl (setRow_heap _ _ _ _ _ _ H44.out) Try.underlying83 rfl (Try.sizeTold _ _ _)
    · exact ⟨_, _, _, rfl, ((Ho4.out.setRow (by have := Hs1.out; omega) _).mono (by have := Hs1.out; omega)), MovedM.low H.out Hm4.out (below_setRow' _ _ _ _ (by omega))⟩
end Go.Proofs.Ytnhkkhceoaembaa

/- root: the node of one or more leaves. -/
import Derived.Test.YtnlblmghhkmbbaaSroot0
import Derived.Deep.DeepCutAuto
namespace Go.Proofs.Ytnlblmghhkmbbaa
set_option linter.unusedVariables false
open Go.RowKit Go.Shelf

attribute [local irreducible] digestV rootV halfV
theorem run_field_node (d : List Int) (v : Value) (h : d.length = 16) (w : World) : (Instr.field 92 (.agg (nodeC d v)) 0).run Try.prog w = .ok (.agg (digC d)) w := by
  rw [nodeC_lit d v h, digC_lit d h]
  kernel_rfl
def RootPost (d : List Int) (w : World) (e : Ending) (w' : World) : Prop := ∃ v, e = .returned (.agg (nodeC d v)) ∧ Below w.heap.size w w'
set_option maxRecDepth 100000 in
set_option maxHeartbeats 4000000 in
theorem root_one (a : Option Addr) (cap : Nat) (ps : List Pc) (w : World) (h : RdP w a 1 cap ps) (hs : ∀ p ∈ ps, p.len ≤ 140737488354000) :
    Calls Try.prog 67 #[.slice a 1 cap] w (RootPost (rootV (lvs ps)) w) := by
  obtain ⟨b, off, rfl, hcell⟩ := h.hr (by omega)
  have hl := h.hl
  obtain ⟨p, rfl⟩ : ∃ p, ps = [p] := List.length_eq_one_iff.1 hl
  have hp := h.hb p (by simp)
  have hps := hs p (by simp)
  obtain ⟨pa, pl, pc, px⟩ := p
  have hc0 := hcell 0 (by simp)
  simp only [List.getElem_cons_zero, Nat.add_zero] at hc0
  simp only at hp hps
  have hdv : rootV (lvs [⟨pa, pl, pc, px⟩]) = digestV (0 :: px) := rootV_one px
  rw [hdv]
  obtain ⟨W1, hW1⟩ : ∃ W1, W1 = w.alloc (.cells zeroNode 92) := ⟨_, rfl⟩
  have hs1 : W1.heap.size = w.heap.size + 1 := by rw [hW1]; simp
  have hR1 : Blk W1 w.heap.size 92 zeroNode := by rw [hW1]; exact heap_new w _
  have hb1 : Below w.heap.size w W1 := by rw [hW1]; exact (Below.refl _ w).alloc (Nat.le_refl _) _
  have hlt := World.block_lt_of_cell? w _ hc0
  have hc1 : W1.cell? ⟨b, off, none⟩ = some (.slice pa pl pc) := (hb1.cell (p := ⟨b, off, none⟩) hlt).trans hc0
  rw [zeroNode_lit] at hW1
  have HW1 := Lib.hid hW1
  have Hs1 := Lib.hid hs1
  have HR1 := Lib.hid hR1
  have Hb1 := Lib.hid hb1
  have Hp1 := Lib.hid (hp.below hb1 (Nat.le_refl _))
  clear hW1 hs1 hR1 hb1 hp hc0 hcell hlt h hs hl hdv
  go_enter Try.func67, Try.ntmps67
  go_upto_region 1 with fail
  rw [← HW1.out]
  go_wp2_with fail
  refine (leafNode_any pa pl pc px W1 Hp1.out (by omega)).mono ?_
  rintro e w2 ⟨v, rfl, ho2, hb2⟩
  obtain ⟨d, hd⟩ : ∃ d, d = digestV (0 :: px) := ⟨_, rfl⟩
  rw [← hd]
  have hdl : d.length = 16 := by rw [hd]; exact digestV_len _
  obtain ⟨m, hm⟩ : ∃ m, m = (0 :: px).length := ⟨_, rfl⟩
  obtain ⟨ca, cc, rfl, -, -⟩ := ho2.rdb hm.symm
  have HR2 : Hid (Blk w2 w.heap.size 92 zeroNode) := Lib.hid (HR1.out.below hb2 (by rw [Hs1.out]; omega))
  have Hbw2 : Hid (Below w.heap.size w w2) := Lib.hid (Hb1.out.trans (hb2.mono (by rw [Hs1.out]; omega)))
  have hrw := HR2.out.lt
  have z1 := Try.sizeNode d (.slice ca m cc) hdl
  have z2 : zeroNode.size = (nodeC d (.slice ca m cc)).size := by rw [zeroNode_size, nodeC_size _ _ hdl]
  have z3 := oneNode d ca m cc
  have Hd := Lib.hid hd
  clear hb2 hd hdl ho2 hm HR1 Hb1 HW1 Hp1 hc1
  go_wp2_with (refine wpList_store_row rfl 92 (.tmp 2) (.tmp 10) rfl w.heap.size (nodeC d (.slice ca m cc)) rfl rfl 92 zeroNode HR2.out z1 z2 z3 ?_)
  refine bodyPost_ret (v := .agg (nodeC d (.slice ca m cc))) ?_ rfl ?_
  · exact results_cell_row rfl _ _ w.heap.size 92 _ (0, 0) _ rfl (setRow_heap _ _ _ _ _ _ HR2.out) Try.underlying92 rfl z1
  · rw [← Hd.out]
    exact ⟨_, rfl, Hbw2.out.trans (below_setRow _ _ _ _ (Nat.le_refl _))⟩
set_option maxRecDepth 100000 in
set_option maxHeartbeats 4000000 in
theorem root_two (a : Option Addr) (len cap : Nat) (ps : List Pc) (w : World) (h : RdP w a len cap ps) (hs : ∀ p ∈ ps, p.len ≤ 140737488354000) (h2 : 2 ≤ len) (hm : len ≤ 4096)
    (ih : ∀ (a : Option Addr) (len' cap : Nat) (ps : List Pc) (w : World), RdP w a len' cap ps → (∀ p ∈ ps, p.len ≤ 140737488354000) → 1 ≤ len' → len' < len → Calls Try.prog 67 #[.slice a len' cap] w (RootPost (rootV (lvs ps)) w)) :
    Calls Try.prog 67 #[.slice a len cap] w (RootPost (rootV (lvs ps)) w) := by
  obtain ⟨b, off, rfl, -⟩ := h.hr (by omega)
  have hl := h.hl
  have hlc := h.hc
  have hcm := h.hm
  obtain ⟨b1, b2, b3⟩ := halfV_bd len h2 hm
  obtain ⟨k, hk⟩ : ∃ k, k = halfV len := ⟨_, rfl⟩
  rw [← hk] at b1 b2 b3
  have hll : (lvs ps).length = len := by unfold lvs; rw [List.length_map, hl]
  have hdv := rootV_two (lvs ps) (by omega) (by omega)
  rw [hll, ← hk] at hdv
  have ht : (lvs ps).take k = lvs ((ps.drop 0).take k) := by unfold lvs; rw [List.drop_zero, List.map_take]
  have hd' : (lvs ps).drop k = lvs ((ps.drop k).take (len - k)) := by
    unfold lvs; rw [List.take_of_length_le (by rw [List.length_drop]; omega), List.map_drop]
  rw [ht, hd'] at hdv
  have hp1 := fun (w' : World) (hb : Below w.heap.size w w') => (h.below hb (Nat.le_refl _)).part 0 k cap (by omega) (by omega) hcm
  have hp2 := fun (w' : World) (hb : Below w.heap.size w w') => (h.below hb (Nat.le_refl _)).part k (len - k) (cap - k) (by omega) (by omega) (by omega)
  have hs1 : ∀ p ∈ (ps.drop 0).take k, p.len ≤ 140737488354000 := fun p hp => hs p (List.mem_of_mem_drop (List.mem_of_mem_take hp))
  have hs2 : ∀ p ∈ (ps.drop k).take (len - k), p.len ≤ 140737488354000 := fun p hp => hs p (List.mem_of_mem_drop (List.mem_of_mem_take hp))
  obtain ⟨d1, hd1⟩ : ∃ d, d = rootV (lvs ((ps.drop 0).take k)) := ⟨_, rfl⟩
  obtain ⟨d2, hd2⟩ : ∃ d, d = rootV (lvs ((ps.drop k).take (len - k))) := ⟨_, rfl⟩
  have g1 : Dig d1 := by rw [hd1]; exact rootV_dig _
  have g2 : Dig d2 := by rw [hd2]; exact rootV_dig _
  rw [← hd1, ← hd2] at hdv
  have ih1 : ∀ (w' : World), Below w.heap.size w w' → Calls Try.prog 67 #[.slice (some ⟨b, off, none⟩) k cap] w' (RootPost d1 w') := by
    intro w' hb
    rw [hd1]
    exact ih _ k cap _ w' (hp1 w' hb) hs1 b1 b2
  have ih2 : ∀ (w' : World), Below w.heap.size w w' → Calls Try.prog 67 #[.slice (some ⟨b, off + k, none⟩) (len - k) (cap - k)] w' (RootPost d2 w') := by
    intro w' hb
    rw [hd2]
    exact ih _ (len - k) (cap - k) _ w' (hp2 w' hb) hs2 (by omega) (by omega)
  rw [hdv]
  obtain ⟨W1, hW1⟩ : ∃ W1, W1 = w.alloc (.cells zeroNode 92) := ⟨_, rfl⟩
  have hz1 : W1.heap.size = w.heap.size + 1 := by rw [hW1]; simp
  have hR1 : Blk W1 w.heap.size 92 zeroNode := by rw [hW1]; exact heap_new w _
  have hb1 : Below w.heap.size w W1 := by rw [hW1]; exact (Below.refl _ w).alloc (Nat.le_refl _) _
  have hn1 : ((len : Int) == 1) = false := by simp; omega
  have hck : (cap = k) = False := eq_false (by omega)
  have hk0 : (0 : Int) ≤ (k : Int) := by omega
  have hkl : (k : Int) ≤ (len : Int) := by omega
  have hkc : (k : Int) ≤ (cap : Int) := by omega
  rw [zeroNode_lit] at hW1
  have HW1 := Lib.hid hW1
  have Hz1 := Lib.hid hz1
  have HR1 := Lib.hid hR1
  have Hb1 := Lib.hid hb1
  have I1 := Lib.hid ih1
  have I2 := Lib.hid ih2
  have G1 := Lib.hid g1
  have G2 := Lib.hid g2
  have Hk := Lib.hid hk
  clear hW1 hz1 hR1 hb1 ih1 ih2 g1 g2 hd1 hd2 hp1 hp2 hs1 hs2 ht hd' hdv hll hl ih h hs hk
  go_enter Try.func67, Try.ntmps67
  go_upto_region 1 with fail
  rw [← HW1.out]
  go_wp2_with fail
  refine (firstPart_any len W1 h2 hm).mono ?_
  rintro e w2 ⟨rfl, rfl⟩
  rw [← Hk.out]
  go_wp2_with fail
  have lw : Hid (Below w.heap.size w w2.drew) := Lib.hid Hb1.out.drew
  refine wp_region_any (by kernel_rfl) ?_
  change wpAny _ _ _ _ _ _ _ (World.drew _)
  refine wpAny_take (i := 0) (v := .slice (some ⟨b, off, none⟩) len cap) rfl (by kernel_rfl) (by kernel_rfl) (by kernel_rfl) (fun _ _ _ h => h) (Or.inl ⟨by rfl, ?_⟩) ?_
  · intro w; go_simp
  refine wpAny_take (i := 1) (v := .int .i64 k) rfl (by kernel_rfl) (by kernel_rfl) (by kernel_rfl) (fun _ _ _ h => h) (Or.inl ⟨by rfl, ?_⟩) ?_
  · intro w; go_simp
  refine wpAny_take (i := 2) (v := .slice (some ⟨b, off, none⟩) k cap) rfl (by kernel_rfl) (by kernel_rfl) (by kernel_rfl) (fun _ _ _ h => h) (Or.inl ⟨by rfl, ?_⟩) ?_
  · intro w; go_simp
  refine wpAny_take (i := 5) (v := .slice (some ⟨b, off, none⟩) len cap) rfl (by kernel_rfl) (by kernel_rfl) (by kernel_rfl) (fun _ _ _ h => h) (Or.inl ⟨by rfl, ?_⟩) ?_
  · intro w; go_simp
  refine wpAny_take (i := 6) (v := .int .i64 k) rfl (by kernel_rfl) (by kernel_rfl) (by kernel_rfl) (fun _ _ _ h => h) (Or.inl ⟨by rfl, ?_⟩) ?_
  · intro w; go_simp
  refine wpAny_take (i := 7) (v := .slice (some ⟨b, off + k, none⟩) (len - k) (cap - k)) rfl (by kernel_rfl) (by kernel_rfl) (by kernel_rfl) (fun _ _ _ h => h) (Or.inl ⟨by rfl, ?_⟩) ?_
  · intro w; go_simp
  refine wpAny_ready (rs := [3]) (by kernel_rfl) (by simp) ?_
  refine AllReady.cons rfl (fun K hK => ?_) AllReady.nil
  go_simp
  refine (I1.out _ lw.out).mono ?_
  rintro e w3 ⟨v1, rfl, hb3⟩
  refine hK _ _ ?_
  clear hK K
  have lw3 : Hid (Below w.heap.size w w3) := Lib.hid (lw.out.trans (hb3.mono lw.out.size))
  have HR3 : Hid (Blk w3 w.heap.size 92 zeroNode) := Lib.hid ((show Blk w2.drew w.heap.size 92 zeroNode from HR1.out).below hb3 (by show w.heap.size < w2.heap.size; rw [Hz1.out]; omega))
  have hz3 : w.heap.size + 1 ≤ w3.heap.size := by have := hb3.size; rw [← Hz1.out]; exact this
  have hf1 := run_field_node d1 v1 G1.out.1
  clear hb3 lw
  refine wpAny_take (i := 4) (v := .agg (digC d1)) rfl (by kernel_rfl) (by kernel_rfl) (by kernel_rfl) (fun _ _ _ h => h) (Or.inl ⟨by rfl, ?_⟩) ?_
  · intro w; go_simp
  refine wpAny_ready (rs := [8]) (by kernel_rfl) (by simp) ?_
  refine AllReady.cons rfl (fun K hK => ?_) AllReady.nil
  go_simp
  refine (I2.out _ lw3.out).mono ?_
  rintro e w4 ⟨v2, rfl, hb4⟩
  refine hK _ _ ?_
  clear hK K
  have lw4 : Hid (Below w.heap.size w w4) := Lib.hid (lw3.out.trans (hb4.mono lw3.out.size))
  have HR4 : Hid (Blk w4 w.heap.size 92 zeroNode) := Lib.hid (HR3.out.below hb4 (by omega))
  have hz4 : w.heap.size + 1 ≤ w4.heap.size := by have := hb4.size; omega
  have hf2 := run_field_node d2 v2 G2.out.1
  clear hb4 lw3 HR3 HR1 hz3
  refine any_seq (k := 9) (by rfl) (by kernel_rfl) ?_
  simp only [List.drop_succ_cons, List.drop_zero]
  go_wp2_with fail
  refine (innerNode_any d1 d2 w4 G1.out G2.out).mono ?_
  rintro e w5 ⟨v, rfl, ho5, hb5⟩
  obtain ⟨d, hd⟩ : ∃ d, d = digestV (1 :: (d1 ++ d2)) := ⟨_, rfl⟩
  rw [← hd]
  have hdl : d.length = 16 := by rw [hd]; exact digestV_len _
  obtain ⟨m, hm⟩ : ∃ m, m = (1 :: (d1 ++ d2)).length := ⟨_, rfl⟩
  obtain ⟨ca, cc, rfl, -, -⟩ := ho5.rdb hm.symm
  have HR5 : Hid (Blk w5 w.heap.size 92 zeroNode) := Lib.hid (HR4.out.below hb5 (by omega))
  have Hbw5 : Hid (Below w.heap.size w w5) := Lib.hid (lw4.out.trans (hb5.mono lw4.out.size))
  have hrw := HR5.out.lt
  have z1 := Try.sizeNode d (.slice ca m cc) hdl
  have z2 : zeroNode.size = (nodeC d (.slice ca m cc)).size := by rw [zeroNode_size, nodeC_size _ _ hdl]
  have z3 := oneNode d ca m cc
  have Hd := Lib.hid hd
  clear hb5 hd hdl ho5 hm HR4 lw4 HW1 Hb1 I1 I2 G1 G2
  go_wp2_with (refine wpList_store_row rfl 92 (.tmp 2) (.tmp 24) rfl w.heap.size (nodeC d (.slice ca m cc)) rfl rfl 92 zeroNode HR5.out z1 z2 z3 ?_)
  refine bodyPost_ret (v := .agg (nodeC d (.slice ca m cc))) ?_ rfl ?_
  · exact results_cell_row rfl _ _ w.heap.size 92 _ (0, 0) _ rfl (setRow_heap _ _ _ _ _ _ HR5.out) Try.underlying92 rfl z1
  · rw [← Hd.out]
    exact ⟨_, rfl, Hbw5.out.trans (below_setRow _ _ _ _ (Nat.le_refl _))⟩
theorem root_any (n : Nat) : ∀ (a : Option Addr) (len cap : Nat) (ps : List Pc) (w : World), len = n → RdP w a len cap ps → (∀ p ∈ ps, p.len ≤ 140737488354000) → 1 ≤ len → len ≤ 4096 → Calls Try.prog 67 #[.slice a len cap] w (RootPost (rootV (lvs ps)) w) := by
  induction n using Nat.strongRecOn with
  | _ n ih =>
    intro a len cap ps w hn h hs h1 hm
    by_cases h2 : len = 1
    · subst h2; exact root_one a cap ps w h hs
    · exact root_two a len cap ps w h hs (by omega) hm (fun a' len' cap' ps' w' h' hs' h1' hlt => ih len' (by omega) a' len' cap' ps' w' rfl h' hs' h1' (by omega))
end Go.Proofs.Ytnlblmghhkmbbaa

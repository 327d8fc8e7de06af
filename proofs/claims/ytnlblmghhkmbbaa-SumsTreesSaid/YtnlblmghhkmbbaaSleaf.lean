/- The nodes of leaves, and of two nodes. -/
import Derived.Test.YtnlblmghhkmbbaaSnode
import Derived.Deep.RegionHeld3
import Derived.StillTailTactics
import Derived.Deep.DeepCutAuto
namespace Go.Proofs.Ytnlblmghhkmbbaa
set_option linter.unusedVariables false
open Go.RowKit Go.Shelf

/-- What is left of a region that draws its order, where one operation follows the other. -/
theorem any_seq {P : Program} {md : Region.Mode} {Q : Exit → Act → World → Prop} {l : List Oper} {k fuel : Nat} {listed : Array Bool} {a : Act} {w : World} (hf : fuel = l.length - k) (hB : Region.seqB md l.toArray fuel k listed = true) (h : wpList P l.toArray Q (l.drop k) a w) : wpAny P md l.toArray Q fuel listed a w := by
  have := wpAny_of_seq (P := P) (md := md) (ops := l.toArray) (Q' := Q) (l.drop k) k listed a w (fun j => by simp [List.getElem?_drop]) (by rw [List.length_drop, ← hf]; exact hB) h
  rwa [List.length_drop, ← hf] at this
theorem nodeC_one (d : List Int) (v : Value) (h : v.oneCell' = true) : (nodeC d v).all (fun x => x.oneCell') = true := by
  rw [Array.all_eq_true]
  intro i hi
  unfold nodeC at hi ⊢
  rw [Array.getElem_push]
  split
  · simp [digC, Value.oneCell']
  · exact h
theorem byte_rd {w : World} {g : Nat} {t : TypeId} {n : Int} (h : Blk w g t #[.int .u8 n]) (hn : 0 ≤ n ∧ n ≤ 255) : Rd w (some ⟨g, 0, none⟩) 1 1 [n] :=
  Blk.rd (l := [n]) (by exact h) (by simpa using hn) (by simp [maxLen])
/-- Parts that are listed in a block. -/
theorem parts_rd {w : World} {g : Nat} {t : TypeId} {ps : List Pc} (h : Blk w g t (ps.map fun p => Value.slice p.a p.len p.cap).toArray) (hb : ∀ p ∈ ps, Rd w p.a p.len p.cap p.xs) (hm : ps.length ≤ maxLen) : RdP w (some ⟨g, 0, none⟩) ps.length ps.length ps := by
  refine ⟨rfl, Nat.le_refl _, hm, hb, fun _ => ⟨g, 0, rfl, fun i hi => ?_⟩⟩
  rw [Nat.zero_add, h.cell i]
  simp [hi]
attribute [local irreducible] digestV
set_option maxRecDepth 100000 in
set_option maxHeartbeats 4000000 in
theorem leafNode_any (a : Option Addr) (len cap : Nat) (xs : List Int) (w : World) (h : Rd w a len cap xs) (hbig : len ≤ 140737488354000) :
    Calls Try.prog 82 #[.slice a len cap] w fun e w' => ∃ v, e = .returned (.agg (nodeC (digestV (0 :: xs)) v)) ∧ Own w' w.heap.size v (0 :: xs) ∧ Below w.heap.size w w' := by
  obtain ⟨W1, hW1⟩ : ∃ W1, W1 = w.alloc (.cells zeroNode 92) := ⟨_, rfl⟩
  obtain ⟨W2, hW2⟩ : ∃ W2, W2 = W1.alloc (.cells #[.int .u8 0] 5) := ⟨_, rfl⟩
  obtain ⟨W3, hW3⟩ : ∃ W3, W3 = W2.alloc (.cells #[.slice (some ⟨w.heap.size + 1, 0, none⟩) 1 1, .slice a len cap] 22) := ⟨_, rfl⟩
  have hs1 : W1.heap.size = w.heap.size + 1 := by rw [hW1]; simp
  have hs2 : W2.heap.size = w.heap.size + 2 := by rw [hW2]; simp [hs1]
  have hs3 : W3.heap.size = w.heap.size + 3 := by rw [hW3]; simp [hs2]
  have hR1 : Blk W1 w.heap.size 92 zeroNode := by rw [hW1]; exact heap_new w _
  have hb1 : Below w.heap.size w W1 := by rw [hW1]; exact (Below.refl _ w).alloc (Nat.le_refl _) _
  have hb12 : Below W1.heap.size W1 W2 := by rw [hW2]; exact (Below.refl _ W1).alloc (Nat.le_refl _) _
  have hb23 : Below W2.heap.size W2 W3 := by rw [hW3]; exact (Below.refl _ W2).alloc (Nat.le_refl _) _
  have hb3 : Below w.heap.size w W3 := hb1.trans ((hb12.mono (by omega)).trans (hb23.mono (by omega)))
  have hO2 : Blk W2 (w.heap.size + 1) 5 #[.int .u8 0] := by rw [hW2, ← hs1]; exact heap_new W1 _
  have hO3 := hO2.below hb23 (by omega)
  have hR3 := (hR1.below hb12 (by omega)).below hb23 (by omega)
  have hL3 : Blk W3 (w.heap.size + 2) 22 #[.slice (some ⟨w.heap.size + 1, 0, none⟩) 1 1, .slice a len cap] := by rw [hW3, ← hs2]; exact heap_new W2 _
  have hp3 : RdP W3 (some ⟨w.heap.size + 2, 0, none⟩) 2 2 [⟨some ⟨w.heap.size + 1, 0, none⟩, 1, 1, [0]⟩, ⟨a, len, cap, xs⟩] := by
    refine parts_rd (ps := [⟨some ⟨w.heap.size + 1, 0, none⟩, 1, 1, [0]⟩, ⟨a, len, cap, xs⟩]) hL3 ?_ (by simp [maxLen])
    intro p hp
    simp only [List.mem_cons, List.not_mem_nil, or_false] at hp
    rcases hp with rfl | rfl
    · exact byte_rd hO3 (by omega)
    · exact h.below hb3 (Nat.le_refl _)
  have hcat : catV [⟨some ⟨w.heap.size + 1, 0, none⟩, 1, 1, [0]⟩, ⟨a, len, cap, xs⟩] = 0 :: xs := by unfold catV; simp
  have hxl := h.hl
  rw [zeroNode_lit] at hW1
  have HW1 := Lib.hid hW1
  have HW2 := Lib.hid hW2
  have HW3 := Lib.hid hW3
  have Hs1 := Lib.hid hs1
  have Hs2 := Lib.hid hs2
  have Hs3 := Lib.hid hs3
  have HR3 := Lib.hid hR3
  have Hb3 := Lib.hid hb3
  have Hp3 := Lib.hid hp3
  have Hcat := Lib.hid hcat
  have Hxl := Lib.hid hxl
  clear hW1 hW2 hW3 hs1 hs2 hs3 hR1 hb1 hb12 hb23 hb3 hO2 hO3 hR3 hL3 hp3 hcat h hxl
  go_enter Try.func82, Try.ntmps82
  go_wp2_with fail
  rw [← HW1.out, ← HW2.out]
  try rw [Hs1.out]
  rw [← HW3.out]
  refine (newNode_any _ 2 2 _ W3 Hp3.out (by rw [Hcat.out, List.length_cons, Hxl.out]; omega)).mono ?_
  rintro e w4 ⟨v, rfl, ho4, hb4⟩
  rw [Hcat.out] at ho4 ⊢
  obtain ⟨d, hd⟩ : ∃ d, d = digestV (0 :: xs) := ⟨_, rfl⟩
  rw [← hd]
  have hdl : d.length = 16 := by rw [hd]; exact digestV_len _
  obtain ⟨m, hm⟩ : ∃ m, m = (0 :: xs).length := ⟨_, rfl⟩
  obtain ⟨ca, cc, rfl, -, -⟩ := ho4.rdb hm.symm
  clear hm
  have HR4 : Hid (Blk w4 w.heap.size 92 zeroNode) := Lib.hid (HR3.out.below hb4 (by rw [Hs3.out]; omega))
  have Hbw4 : Hid (Below w.heap.size w w4) := Lib.hid (Hb3.out.trans (hb4.mono (by rw [Hs3.out]; omega)))
  have hrw := HR4.out.lt
  have z1 := Try.sizeNode d (.slice ca m cc) hdl
  have z2 : zeroNode.size = (nodeC d (.slice ca m cc)).size := by rw [zeroNode_size, nodeC_size _ _ hdl]
  have z3 := oneNode d ca m cc
  have Hd := Lib.hid hd
  have Ho4 := Lib.hid ho4
  clear hb4 hd hdl ho4 Hp3 HR3 HW1 HW2 HW3
  go_wp2_with (refine wpList_store_row rfl 92 (.tmp 2) (.tmp 6) rfl w.heap.size (nodeC d (.slice ca m cc)) rfl rfl 92 zeroNode HR4.out z1 z2 z3 ?_)
  refine bodyPost_ret (v := .agg (nodeC d (.slice ca m cc))) ?_ rfl ⟨.slice ca m cc, by rw [Hd.out], ?_, Hbw4.out.trans (below_setRow _ _ _ _ (Nat.le_refl _))⟩
  · exact results_cell_row rfl _ _ w.heap.size 92 _ (0, 0) _ rfl (setRow_heap _ _ _ _ _ _ HR4.out) Try.underlying92 rfl z1
  · exact (Ho4.out.but ((But.refl w.heap.size w4).setRow _) (by rw [Hs3.out]; omega)).mono (by rw [Hs3.out]; omega)
theorem digC_lit2 (l : List Int) (h : l.length = 16) : digC l = #[.int .u8 (l[0]?.getD 0), .int .u8 (l[1]?.getD 0), .int .u8 (l[2]?.getD 0), .int .u8 (l[3]?.getD 0), .int .u8 (l[4]?.getD 0), .int .u8 (l[5]?.getD 0), .int .u8 (l[6]?.getD 0), .int .u8 (l[7]?.getD 0), .int .u8 (l[8]?.getD 0), .int .u8 (l[9]?.getD 0), .int .u8 (l[10]?.getD 0), .int .u8 (l[11]?.getD 0), .int .u8 (l[12]?.getD 0), .int .u8 (l[13]?.getD 0), .int .u8 (l[14]?.getD 0), .int .u8 (l[15]?.getD 0)] := by
  have := digC_lit l h
  simp only [List.getD_eq_getElem?_getD] at this
  exact this
/-- Bytes that are a digest. -/
def Dig (d : List Int) : Prop := d.length = 16 ∧ ∀ n ∈ d, 0 ≤ n ∧ n ≤ 255
theorem digestV_dig (l : List Int) : Dig (digestV l) := ⟨digestV_len l, digestV_bd l⟩
set_option maxRecDepth 100000 in
set_option maxHeartbeats 4000000 in
theorem innerNode_any (d1 d2 : List Int) (w : World) (h1 : Dig d1) (h2 : Dig d2) :
    Calls Try.prog 83 #[.agg (digC d1), .agg (digC d2)] w fun e w' => ∃ v, e = .returned (.agg (nodeC (digestV (1 :: (d1 ++ d2))) v)) ∧ Own w' w.heap.size v (1 :: (d1 ++ d2)) ∧ Below w.heap.size w w' := by
  obtain ⟨W0, hW0⟩ : ∃ W0, W0 = ((w.alloc (.cells (digC d1) 47)).alloc (.cells (digC d2) 47)).alloc (.cells zeroNode 92) := ⟨_, rfl⟩
  have hs0 : W0.heap.size = w.heap.size + 3 := by rw [hW0]; simp
  have hb0 : Below w.heap.size w W0 := by rw [hW0]; exact (((Below.refl _ w).alloc (Nat.le_refl _) _).alloc (by simp) _).alloc (by simp; omega) _
  have hA0 : Blk W0 w.heap.size 47 (digC d1) := by
    rw [hW0]; exact (Below.heap_alloc _ _ _ (by simp; omega)).trans ((Below.heap_alloc _ _ _ (by simp)).trans (heap_new w _))
  have hB0 : Blk W0 (w.heap.size + 1) 47 (digC d2) := by
    rw [hW0]; exact (Below.heap_alloc _ _ _ (by simp)).trans (heap_alloc2_new w _ _)
  have hR0 : Blk W0 (w.heap.size + 2) 92 zeroNode := by
    rw [hW0]; have := heap_new ((w.alloc (.cells (digC d1) 47)).alloc (.cells (digC d2) 47)) (.cells zeroNode 92); rw [World.size_alloc, World.size_alloc] at this; exact this
  rw [zeroNode_lit, digC_lit2 d1 h1.1, digC_lit2 d2 h2.1] at hW0
  obtain ⟨W3, hW3⟩ : ∃ W3, W3 = ((W0.alloc (.cells #[.int .u8 1] 5)).alloc (.cells #[.slice (some ⟨W0.heap.size, 0, none⟩) 1 1, .slice (some ⟨w.heap.size, 0, none⟩) 16 16, .slice (some ⟨w.heap.size + 1, 0, none⟩) 16 16] 22)).drew := ⟨_, rfl⟩
  have hb03 : Below W0.heap.size W0 W3 := by rw [hW3]; exact (((Below.refl _ W0).alloc (Nat.le_refl _) _).alloc (by simp) _).drew
  have hs3 : W3.heap.size = w.heap.size + 5 := by
    rw [hW3]
    show ((W0.alloc _).alloc _).heap.size = _
    simp [hs0]
  have hb3 : Below w.heap.size w W3 := hb0.trans (hb03.mono (by omega))
  have hO3 : Blk W3 W0.heap.size 5 #[.int .u8 1] := by
    rw [hW3]; exact (show Blk ((W0.alloc (.cells #[.int .u8 1] 5)).alloc (.cells #[.slice (some ⟨W0.heap.size, 0, none⟩) 1 1, .slice (some ⟨w.heap.size, 0, none⟩) 16 16, .slice (some ⟨w.heap.size + 1, 0, none⟩) 16 16] 22)) W0.heap.size 5 #[.int .u8 1] from (Below.heap_alloc _ _ _ (by simp)).trans (heap_new W0 _))
  have hL3 : Blk W3 (W0.heap.size + 1) 22 #[.slice (some ⟨W0.heap.size, 0, none⟩) 1 1, .slice (some ⟨w.heap.size, 0, none⟩) 16 16, .slice (some ⟨w.heap.size + 1, 0, none⟩) 16 16] := by
    rw [hW3]; exact heap_alloc2_new W0 _ _
  have hr1 : Rd W3 (some ⟨w.heap.size, 0, none⟩) 16 16 d1 := by
    have := (hA0.below hb03 (by omega)).rd h1.2 (by rw [h1.1]; unfold maxLen; omega)
    rw [h1.1] at this; exact this
  have hr2 : Rd W3 (some ⟨w.heap.size + 1, 0, none⟩) 16 16 d2 := by
    have := (hB0.below hb03 (by omega)).rd h2.2 (by rw [h2.1]; unfold maxLen; omega)
    rw [h2.1] at this; exact this
  have hp3 : RdP W3 (some ⟨W0.heap.size + 1, 0, none⟩) 3 3 [⟨some ⟨W0.heap.size, 0, none⟩, 1, 1, [1]⟩, ⟨some ⟨w.heap.size, 0, none⟩, 16, 16, d1⟩, ⟨some ⟨w.heap.size + 1, 0, none⟩, 16, 16, d2⟩] := by
    refine parts_rd (ps := [⟨some ⟨W0.heap.size, 0, none⟩, 1, 1, [1]⟩, ⟨some ⟨w.heap.size, 0, none⟩, 16, 16, d1⟩, ⟨some ⟨w.heap.size + 1, 0, none⟩, 16, 16, d2⟩]) hL3 ?_ (by simp [maxLen])
    intro p hp
    simp only [List.mem_cons, List.not_mem_nil, or_false] at hp
    rcases hp with rfl | rfl | rfl
    · exact byte_rd hO3 (by omega)
    · exact hr1
    · exact hr2
  have hcat : catV [⟨some ⟨W0.heap.size, 0, none⟩, 1, 1, [1]⟩, ⟨some ⟨w.heap.size, 0, none⟩, 16, 16, d1⟩, ⟨some ⟨w.heap.size + 1, 0, none⟩, 16, 16, d2⟩] = 1 :: (d1 ++ d2) := by unfold catV; simp
  have hR3 : Blk W3 (w.heap.size + 2) 92 zeroNode := hR0.below hb03 (by omega)
  have hcl : (1 :: (d1 ++ d2)).length = 33 := by simp [h1.1, h2.1]
  have HW3 := Lib.hid hW3
  have Hs3 := Lib.hid hs3
  have Hb3 := Lib.hid hb3
  have Hp3 := Lib.hid hp3
  have Hcat := Lib.hid hcat
  have HR3 := Lib.hid hR3
  have Hcl := Lib.hid hcl
  clear hW3 hs3 hb3 hp3 hcat hR3 hcl hr1 hr2 hL3 hO3 hb03
  have HW0 := Lib.hid hW0
  have Hs0 := Lib.hid hs0
  have Hb0 := Lib.hid hb0
  have HA0 := Lib.hid hA0
  have HB0 := Lib.hid hB0
  have HR0 := Lib.hid hR0
  have H1 := Lib.hid h1
  have H2 := Lib.hid h2
  clear hW0 hs0 hb0 hA0 hB0 hR0 h1 h2
  rw [digC_lit2 d1 H1.out.1, digC_lit2 d2 H2.out.1]
  go_enter Try.func83, Try.ntmps83
  go_upto_region 1 with fail
  rw [← HW0.out]
  refine wp_region_any (by kernel_rfl) ?_
  change wpAny _ _ _ _ _ _ _ (World.drew _)
  refine wpAny_take (i := 1) (v := .slice (some ⟨w.heap.size, 0, none⟩) 16 16) rfl (by kernel_rfl) (by kernel_rfl) (by kernel_rfl) (fun _ _ _ h => h) (Or.inl ⟨by rfl, ?_⟩) ?_
  · intro w; go_simp
  refine wpAny_take (i := 2) (v := .slice (some ⟨w.heap.size + 1, 0, none⟩) 16 16) rfl (by kernel_rfl) (by kernel_rfl) (by kernel_rfl) (fun _ _ _ h => h) (Or.inl ⟨by rfl, ?_⟩) ?_
  · intro w; go_simp
  refine wpAny_ready (rs := [0]) (by kernel_rfl) (by simp) ?_
  refine AllReady.cons rfl (fun K hK => ?_) AllReady.nil
  go_simp
  refine hK _ _ ?_
  clear hK K
  refine any_seq (k := 3) (by rfl) (by kernel_rfl) ?_
  simp only [List.drop_succ_cons, List.drop_zero]
  go_wp2_with fail
  rw [← HW3.out]
  refine (newNode_any _ 3 3 _ W3 Hp3.out (by rw [Hcat.out, Hcl.out]; omega)).mono ?_
  rintro e w4 ⟨v, rfl, ho4, hb4⟩
  rw [Hcat.out] at ho4 ⊢
  obtain ⟨d, hd⟩ : ∃ d, d = digestV (1 :: (d1 ++ d2)) := ⟨_, rfl⟩
  rw [← hd]
  have hdl : d.length = 16 := by rw [hd]; exact digestV_len _
  obtain ⟨ca, cc, rfl, -, -⟩ := ho4.rdb Hcl.out
  have HR4 : Hid (Blk w4 (w.heap.size + 2) 92 zeroNode) := Lib.hid (HR3.out.below hb4 (by rw [Hs3.out]; omega))
  have Hbw4 : Hid (Below w.heap.size w w4) := Lib.hid (Hb3.out.trans (hb4.mono (by rw [Hs3.out]; omega)))
  have hrw := HR4.out.lt
  have z1 := Try.sizeNode d (.slice ca 33 cc) hdl
  have z2 : zeroNode.size = (nodeC d (.slice ca 33 cc)).size := by rw [zeroNode_size, nodeC_size _ _ hdl]
  have z3 := oneNode d ca 33 cc
  have Hd := Lib.hid hd
  have Ho4 := Lib.hid ho4
  clear hb4 hd hdl ho4 Hp3 HR3 HW0 HW3 HA0 HB0 HR0
  go_wp2_with (refine wpList_store_row rfl 92 (.tmp 4) (.tmp 9) rfl (w.heap.size + 2) (nodeC d (.slice ca 33 cc)) rfl rfl 92 zeroNode HR4.out z1 z2 z3 ?_)
  refine bodyPost_ret (v := .agg (nodeC d (.slice ca 33 cc))) ?_ rfl ⟨.slice ca 33 cc, by rw [Hd.out], ?_, Hbw4.out.trans (below_setRow _ _ _ _ (by omega))⟩
  · exact results_cell_row rfl _ _ (w.heap.size + 2) 92 _ (0, 0) _ rfl (setRow_heap _ _ _ _ _ _ HR4.out) Try.underlying92 rfl z1
  · exact (Ho4.out.but ((But.refl (w.heap.size + 2) w4).setRow _) (by rw [Hs3.out]; omega)).mono (by rw [Hs3.out]; omega)
end Go.Proofs.Ytnlblmghhkmbbaa

/- End answers as the chapter says. -/
import Derived.Test.YtnlblmghhkmbbaaSabe
namespace Go.Proofs.Ytnlblmghhkmbbaa
set_option linter.unusedVariables false
open Go.RowKit Go.Shelf

attribute [local irreducible] digestV endV absS absR startV
theorem endV_len (s : St) (r : List Int) : (endV s r).length = 16 := by rw [endV]; exact bytesV_len _
set_option maxRecDepth 100000 in
set_option maxHeartbeats 4000000 in
theorem endE_ok (s : St) (ra : Option Addr) (rl rc : Nat) (rest : List Int) (w : World) (hr : Rd w ra rl rc rest) (h16 : rl < 16) :
    Calls Try.prog 31 #[.agg (spongeC s (.slice ra rl rc))] w fun e w' => e = .returned (.tuple #[.agg (digC (endV s rest)), .int .i64 0]) ∧ Below w.heap.size w w' := by
  have hg : ¬ ((16 : Int) ≤ (rl : Int)) := by omega
  obtain ⟨W0, hW0⟩ : ∃ W0, W0 = (w.alloc (.cells (spongeC s (.slice ra rl rc)) 43)).alloc (.cells (digC (List.replicate 16 0)) 47) := ⟨_, rfl⟩
  obtain ⟨W1, hW1⟩ : ∃ W1, W1 = W0.alloc (.cells (spongeC s (.slice ra rl rc)) 84) := ⟨_, rfl⟩
  have hs0 : W0.heap.size = w.heap.size + 2 := by rw [hW0]; simp
  have hs1 : W1.heap.size = w.heap.size + 3 := by rw [hW1]; simp [hs0]
  have hP0 : Blk W0 w.heap.size 43 (spongeC s (.slice ra rl rc)) := by rw [hW0]; exact (Below.heap_alloc _ _ _ (by simp)).trans (heap_new w _)
  have hR0 : Blk W0 (w.heap.size + 1) 47 (digC (List.replicate 16 0)) := by rw [hW0]; exact heap_alloc2_new w _ _
  have hb0 : Below w.heap.size w W0 := by rw [hW0]; exact ((Below.refl _ w).alloc (Nat.le_refl _) _).alloc (by simp) _
  have hb01 : Below W0.heap.size W0 W1 := by rw [hW1]; exact (Below.refl _ W0).alloc (Nat.le_refl _) _
  have hb1 : Below w.heap.size w W1 := hb0.trans (hb01.mono (by omega))
  have hG1 : Blk W1 (w.heap.size + 2) 84 (spongeC s (.slice ra rl rc)) := by rw [hW1, ← hs0]; exact heap_new W0 _
  have hR1 := hR0.below hb01 (by omega)
  have hr1 := hr.below hb1 (Nat.le_refl _)
  have p0 : W0.cell? ⟨w.heap.size, 0, none⟩ = some (.int .u32 ((s 0).toNat : Int)) := hP0.cell 0
  have p1 : W0.cell? ⟨w.heap.size, 1, none⟩ = some (.int .u32 ((s 1).toNat : Int)) := hP0.cell 1
  have p2 : W0.cell? ⟨w.heap.size, 2, none⟩ = some (.int .u32 ((s 2).toNat : Int)) := hP0.cell 2
  have p3 : W0.cell? ⟨w.heap.size, 3, none⟩ = some (.int .u32 ((s 3).toNat : Int)) := hP0.cell 3
  have p4 : W0.cell? ⟨w.heap.size, 4, none⟩ = some (.int .u32 ((s 4).toNat : Int)) := hP0.cell 4
  have p5 : W0.cell? ⟨w.heap.size, 5, none⟩ = some (.int .u32 ((s 5).toNat : Int)) := hP0.cell 5
  have p6 : W0.cell? ⟨w.heap.size, 6, none⟩ = some (.int .u32 ((s 6).toNat : Int)) := hP0.cell 6
  have p7 : W0.cell? ⟨w.heap.size, 7, none⟩ = some (.int .u32 ((s 7).toNat : Int)) := hP0.cell 7
  have p8 : W0.cell? ⟨w.heap.size, 8, none⟩ = some (.slice ra rl rc) := hP0.cell 8
  have hdl : digC (List.replicate 16 0) = #[.int .u8 0, .int .u8 0, .int .u8 0, .int .u8 0, .int .u8 0, .int .u8 0, .int .u8 0, .int .u8 0, .int .u8 0, .int .u8 0, .int .u8 0, .int .u8 0, .int .u8 0, .int .u8 0, .int .u8 0, .int .u8 0] := by rfl
  rw [hdl, sponge_lit] at hW0
  rw [sponge_lit] at hW1
  have HW0 := Lib.hid hW0
  have HW1 := Lib.hid hW1
  have Hs0 := Lib.hid hs0
  have HG1 := Lib.hid hG1
  have HR1 := Lib.hid hR1
  have Hr1 := Lib.hid hr1
  have Hb1 := Lib.hid hb1
  have Hs1 := Lib.hid hs1
  have hws : w.heap.size < W0.heap.size := by omega
  clear hW0 hW1 hs0 hs1 hP0 hR0 hb0 hb01 hb1 hG1 hR1 hr1 hr hdl
  rw [sponge_lit]
  go_enter Try.func31, Try.ntmps31
  go_upto_region 1 with fail
  rw [← HW0.out]
  go_wp2_with fail
  rw [← HW1.out, Hs0.out]
  refine (end_any (w.heap.size + 2) s ra rl rc rest W1 HG1.out Hr1.out h16).mono ?_
  rintro e w2 ⟨rfl, hbut2⟩
  obtain ⟨d, hd⟩ : ∃ d, d = endV s rest := ⟨_, rfl⟩
  rw [← hd]
  have hdl : d.length = 16 := by rw [hd]; exact endV_len s rest
  have hR2 := hbut2.blk HR1.out (by omega)
  have hrw := hR2.lt
  have z1 := Try.sizeDig d hdl
  have z2 : (digC (List.replicate 16 0)).size = (digC d).size := by rw [digC_size, digC_size, hdl]; rfl
  have z3 : (digC d).all (fun x => x.oneCell') = true := digC_one d
  have Hb2 : Hid (Below w.heap.size w w2) := Lib.hid (Hb1.out.trans (hbut2.below.mono (by omega)))
  have HR2 := Lib.hid hR2
  have Hd := Lib.hid hd
  have Hlit := Lib.hid (digC_lit d hdl)
  clear hbut2 hR2 hd hdl HG1 HR1 Hr1 Hb1 HW0 HW1 p0 p1 p2 p3 p4 p5 p6 p7 p8 hws
  go_wp2_with (refine wpList_store_row rfl 47 (.tmp 2) (.tmp 12) rfl (w.heap.size + 1) (digC d) rfl rfl 47 (digC (List.replicate 16 0)) HR2.out z1 z2 z3 ?_)
  have hg3 := setRow_heap w2 (w.heap.size + 1) _ (digC d) _ _ HR2.out
  have hb3 := Hb2.out.trans (below_setRow w2 w.heap.size (w.heap.size + 1) (digC d) (by omega))
  have Hg3 := Lib.hid hg3
  have Hb3 := Lib.hid hb3
  generalize w2.setRow (w.heap.size + 1) (digC d) = w3 at *
  rw [Hlit.out] at Hg3
  have r0 : w3.cell? ⟨w.heap.size + 1, 0, none⟩ = some (.int .u8 (d.getD 0 0)) := cell_of_row w3 (w.heap.size + 1) 0 _ _ _ Hg3.out
  have r1 : w3.cell? ⟨w.heap.size + 1, 1, none⟩ = some (.int .u8 (d.getD 1 0)) := cell_of_row w3 (w.heap.size + 1) 1 _ _ _ Hg3.out
  have r2 : w3.cell? ⟨w.heap.size + 1, 2, none⟩ = some (.int .u8 (d.getD 2 0)) := cell_of_row w3 (w.heap.size + 1) 2 _ _ _ Hg3.out
  have r3 : w3.cell? ⟨w.heap.size + 1, 3, none⟩ = some (.int .u8 (d.getD 3 0)) := cell_of_row w3 (w.heap.size + 1) 3 _ _ _ Hg3.out
  have r4 : w3.cell? ⟨w.heap.size + 1, 4, none⟩ = some (.int .u8 (d.getD 4 0)) := cell_of_row w3 (w.heap.size + 1) 4 _ _ _ Hg3.out
  have r5 : w3.cell? ⟨w.heap.size + 1, 5, none⟩ = some (.int .u8 (d.getD 5 0)) := cell_of_row w3 (w.heap.size + 1) 5 _ _ _ Hg3.out
  have r6 : w3.cell? ⟨w.heap.size + 1, 6, none⟩ = some (.int .u8 (d.getD 6 0)) := cell_of_row w3 (w.heap.size + 1) 6 _ _ _ Hg3.out
  have r7 : w3.cell? ⟨w.heap.size + 1, 7, none⟩ = some (.int .u8 (d.getD 7 0)) := cell_of_row w3 (w.heap.size + 1) 7 _ _ _ Hg3.out
  have r8 : w3.cell? ⟨w.heap.size + 1, 8, none⟩ = some (.int .u8 (d.getD 8 0)) := cell_of_row w3 (w.heap.size + 1) 8 _ _ _ Hg3.out
  have r9 : w3.cell? ⟨w.heap.size + 1, 9, none⟩ = some (.int .u8 (d.getD 9 0)) := cell_of_row w3 (w.heap.size + 1) 9 _ _ _ Hg3.out
  have r10 : w3.cell? ⟨w.heap.size + 1, 10, none⟩ = some (.int .u8 (d.getD 10 0)) := cell_of_row w3 (w.heap.size + 1) 10 _ _ _ Hg3.out
  have r11 : w3.cell? ⟨w.heap.size + 1, 11, none⟩ = some (.int .u8 (d.getD 11 0)) := cell_of_row w3 (w.heap.size + 1) 11 _ _ _ Hg3.out
  have r12 : w3.cell? ⟨w.heap.size + 1, 12, none⟩ = some (.int .u8 (d.getD 12 0)) := cell_of_row w3 (w.heap.size + 1) 12 _ _ _ Hg3.out
  have r13 : w3.cell? ⟨w.heap.size + 1, 13, none⟩ = some (.int .u8 (d.getD 13 0)) := cell_of_row w3 (w.heap.size + 1) 13 _ _ _ Hg3.out
  have r14 : w3.cell? ⟨w.heap.size + 1, 14, none⟩ = some (.int .u8 (d.getD 14 0)) := cell_of_row w3 (w.heap.size + 1) 14 _ _ _ Hg3.out
  have r15 : w3.cell? ⟨w.heap.size + 1, 15, none⟩ = some (.int .u8 (d.getD 15 0)) := cell_of_row w3 (w.heap.size + 1) 15 _ _ _ Hg3.out
  refine bodyPost_ret (v := .tuple #[.agg (digC d), .int .i64 0]) ?_ rfl ⟨by rw [Hd.out], Hb3.out⟩
  rw [Hlit.out]
  simp [results, Try.results31, go_sem, r0, r1, r2, r3, r4, r5, r6, r7, r8, r9, r10, r11, r12, r13, r14, r15]
set_option maxRecDepth 100000 in
set_option maxHeartbeats 4000000 in
theorem endE_bad (s : St) (ra : Option Addr) (rl rc : Nat) (w : World) (h16 : 16 ≤ rl) :
    Calls Try.prog 31 #[.agg (spongeC s (.slice ra rl rc))] w fun e w' => e = .returned (.tuple #[.agg (digC (List.replicate 16 0)), .int .i64 1]) ∧ Below w.heap.size w w' := by
  have hg : ((16 : Int) ≤ (rl : Int)) := by omega
  rw [sponge_lit]
  go_enter Try.func31, Try.ntmps31
  go_wp2_with fail
  refine bodyPost_ret (v := .tuple #[.agg #[.int .u8 0, .int .u8 0, .int .u8 0, .int .u8 0, .int .u8 0, .int .u8 0, .int .u8 0, .int .u8 0, .int .u8 0, .int .u8 0, .int .u8 0, .int .u8 0, .int .u8 0, .int .u8 0, .int .u8 0, .int .u8 0], .int .i64 1]) (by simp [results, Try.results31, go_sem]) rfl ⟨rfl, ?_⟩
  exact ((Below.refl _ w).alloc (Nat.le_refl _) _).alloc (by simp) _
end Go.Proofs.Ytnlblmghhkmbbaa

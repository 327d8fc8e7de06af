/- Absorb and End answer as the chapter says. -/
import Derived.Test.YtnlblmghhkmbbaaSdig
namespace Go.Proofs.Ytnlblmghhkmbbaa
set_option linter.unusedVariables false
open Go.RowKit Go.Shelf

theorem sponge_lit (s : St) (v : Value) : spongeC s v = #[.int .u32 ((s 0).toNat : Int), .int .u32 ((s 1).toNat : Int), .int .u32 ((s 2).toNat : Int), .int .u32 ((s 3).toNat : Int), .int .u32 ((s 4).toNat : Int), .int .u32 ((s 5).toNat : Int), .int .u32 ((s 6).toNat : Int), .int .u32 ((s 7).toNat : Int), v] := rfl
attribute [local irreducible] digestV endV absS absR startV
set_option maxRecDepth 100000 in
set_option maxHeartbeats 4000000 in
theorem absorbE_ok (s : St) (ra : Option Addr) (rl rc : Nat) (rest : List Int) (ba : Option Addr) (bl bc : Nat) (bs : List Int) (w : World)
    (hr : Rd w ra rl rc rest) (hb : Rd w ba bl bc bs) (h16 : rl < 16) (hbig : rl + bl ≤ 140737488355000) :
    Calls Try.prog 29 #[.agg (spongeC s (.slice ra rl rc)), .slice ba bl bc] w fun e w' => ∃ v, e = .returned (.tuple #[.agg (spongeC (absS s (rest ++ bs)) v), .int .i64 0]) ∧ Own w' w.heap.size v (absR (rest ++ bs)) ∧ Below w.heap.size w w' := by
  have hg : ¬ ((16 : Int) ≤ (rl : Int)) := by omega
  obtain ⟨W0, hW0⟩ : ∃ W0, W0 = (w.alloc (.cells (spongeC s (.slice ra rl rc)) 43)).alloc (.cells (spongeC (fun _ => 0#32) (.slice none 0 0)) 43) := ⟨_, rfl⟩
  obtain ⟨W1, hW1⟩ : ∃ W1, W1 = W0.alloc (.cells (spongeC s (.slice ra rl rc)) 84) := ⟨_, rfl⟩
  have hs0 : W0.heap.size = w.heap.size + 2 := by rw [hW0]; simp
  have hs1 : W1.heap.size = w.heap.size + 3 := by rw [hW1]; simp [hs0]
  have hP0 : Blk W0 w.heap.size 43 (spongeC s (.slice ra rl rc)) := by rw [hW0]; exact (Below.heap_alloc _ _ _ (by simp)).trans (heap_new w _)
  have hR0 : Blk W0 (w.heap.size + 1) 43 (spongeC (fun _ => 0#32) (.slice none 0 0)) := by rw [hW0]; exact heap_alloc2_new w _ _
  have hb0 : Below w.heap.size w W0 := by rw [hW0]; exact ((Below.refl _ w).alloc (Nat.le_refl _) _).alloc (by simp) _
  have hb01 : Below W0.heap.size W0 W1 := by rw [hW1]; exact (Below.refl _ W0).alloc (Nat.le_refl _) _
  have hb1 : Below w.heap.size w W1 := hb0.trans (hb01.mono (by omega))
  have hG1 : Blk W1 (w.heap.size + 2) 84 (spongeC s (.slice ra rl rc)) := by rw [hW1, ← hs0]; exact heap_new W0 _
  have hR1 := hR0.below hb01 (by omega)
  have hr1 := hr.below hb1 (Nat.le_refl _)
  have hbb1 := hb.below hb1 (Nat.le_refl _)
  have p0 : W0.cell? ⟨w.heap.size, 0, none⟩ = some (.int .u32 ((s 0).toNat : Int)) := hP0.cell 0
  have p1 : W0.cell? ⟨w.heap.size, 1, none⟩ = some (.int .u32 ((s 1).toNat : Int)) := hP0.cell 1
  have p2 : W0.cell? ⟨w.heap.size, 2, none⟩ = some (.int .u32 ((s 2).toNat : Int)) := hP0.cell 2
  have p3 : W0.cell? ⟨w.heap.size, 3, none⟩ = some (.int .u32 ((s 3).toNat : Int)) := hP0.cell 3
  have p4 : W0.cell? ⟨w.heap.size, 4, none⟩ = some (.int .u32 ((s 4).toNat : Int)) := hP0.cell 4
  have p5 : W0.cell? ⟨w.heap.size, 5, none⟩ = some (.int .u32 ((s 5).toNat : Int)) := hP0.cell 5
  have p6 : W0.cell? ⟨w.heap.size, 6, none⟩ = some (.int .u32 ((s 6).toNat : Int)) := hP0.cell 6
  have p7 : W0.cell? ⟨w.heap.size, 7, none⟩ = some (.int .u32 ((s 7).toNat : Int)) := hP0.cell 7
  have p8 : W0.cell? ⟨w.heap.size, 8, none⟩ = some (.slice ra rl rc) := hP0.cell 8
  have hz : spongeC (fun _ => 0#32) (.slice none 0 0) = #[.int .u32 0, .int .u32 0, .int .u32 0, .int .u32 0, .int .u32 0, .int .u32 0, .int .u32 0, .int .u32 0, .slice none 0 0] := by rfl
  rw [hz, sponge_lit] at hW0
  rw [sponge_lit] at hW1
  have HW0 := Lib.hid hW0
  have HW1 := Lib.hid hW1
  have Hs0 := Lib.hid hs0
  have HG1 := Lib.hid hG1
  have HR1 := Lib.hid hR1
  have Hr1 := Lib.hid hr1
  have Hbb1 := Lib.hid hbb1
  have Hb1 := Lib.hid hb1
  have hws : w.heap.size < W0.heap.size := by omega
  clear hW0 hW1 hs0 hs1 hP0 hR0 hb0 hb01 hb1 hG1 hR1 hr1 hbb1 hr hb hz
  rw [sponge_lit]
  go_enter Try.func29, Try.ntmps29
  go_upto_region 1 with fail
  rw [← HW0.out]
  go_wp2_with fail
  rw [← HW1.out, Hs0.out]
  refine (absorb_any (w.heap.size + 2) s ra rl rc rest ba bl bc bs W1 HG1.out Hr1.out Hbb1.out hbig).mono ?_
  rintro e w2 ⟨rfl, hbut2, v, hG2, ho2⟩
  obtain ⟨σ, hσ⟩ : ∃ σ, σ = absS s (rest ++ bs) := ⟨_, rfl⟩
  rw [← hσ] at hG2
  obtain ⟨m, hm⟩ : ∃ m, m = (absR (rest ++ bs)).length := ⟨_, rfl⟩
  obtain ⟨ca, cc, rfl, -, -⟩ := ho2.rdb hm.symm
  have hR2 := hbut2.blk HR1.out (by omega)
  have q0 : w2.cell? ⟨w.heap.size + 2, 0, none⟩ = some (.int .u32 ((σ 0).toNat : Int)) := hG2.cell 0
  have q1 : w2.cell? ⟨w.heap.size + 2, 1, none⟩ = some (.int .u32 ((σ 1).toNat : Int)) := hG2.cell 1
  have q2 : w2.cell? ⟨w.heap.size + 2, 2, none⟩ = some (.int .u32 ((σ 2).toNat : Int)) := hG2.cell 2
  have q3 : w2.cell? ⟨w.heap.size + 2, 3, none⟩ = some (.int .u32 ((σ 3).toNat : Int)) := hG2.cell 3
  have q4 : w2.cell? ⟨w.heap.size + 2, 4, none⟩ = some (.int .u32 ((σ 4).toNat : Int)) := hG2.cell 4
  have q5 : w2.cell? ⟨w.heap.size + 2, 5, none⟩ = some (.int .u32 ((σ 5).toNat : Int)) := hG2.cell 5
  have q6 : w2.cell? ⟨w.heap.size + 2, 6, none⟩ = some (.int .u32 ((σ 6).toNat : Int)) := hG2.cell 6
  have q7 : w2.cell? ⟨w.heap.size + 2, 7, none⟩ = some (.int .u32 ((σ 7).toNat : Int)) := hG2.cell 7
  have q8 : w2.cell? ⟨w.heap.size + 2, 8, none⟩ = some (.slice ca m cc) := hG2.cell 8
  have hgs := hG2.lt
  have z1 := sizeSponge σ (.slice ca m cc)
  have z3 := oneSponge σ ca m cc
  have Hb2 : Hid (Below w.heap.size w w2) := Lib.hid (Hb1.out.trans (hbut2.below.mono (by omega)))
  have HR2 := Lib.hid hR2
  have Hσ := Lib.hid hσ
  have Ho2 := Lib.hid ho2
  have Hsz : Hid (W1.heap.size = w.heap.size + 3) := Lib.hid (by rw [HW1.out]; simp [Hs0.out])
  clear hbut2 hR2 hσ hG2 ho2 hm HG1 HR1 Hr1 Hbb1 Hb1 HW0 HW1 p0 p1 p2 p3 p4 p5 p6 p7 p8 hws
  go_wp2_with (refine wpList_store_row rfl 43 (.tmp 4) (.tmp 21) rfl (w.heap.size + 1) (spongeC σ (.slice ca m cc)) rfl rfl 43 (spongeC (fun _ => 0#32) (.slice none 0 0)) HR2.out z1 rfl z3 ?_)
  have hg3 := setRow_heap w2 (w.heap.size + 1) _ (spongeC σ (.slice ca m cc)) _ _ HR2.out
  have hb3 := Hb2.out.trans (below_setRow w2 w.heap.size (w.heap.size + 1) (spongeC σ (.slice ca m cc)) (by omega))
  have ho3 : Own (w2.setRow (w.heap.size + 1) (spongeC σ (.slice ca m cc))) (w.heap.size + 3) (.slice ca m cc) (absR (rest ++ bs)) := by
    rw [← Hsz.out]; exact Ho2.out.but ((But.refl (w.heap.size + 1) w2).setRow _) (by rw [Hsz.out]; omega)
  have Hg3 := Lib.hid hg3
  have Hb3 := Lib.hid hb3
  have Ho3 := Lib.hid ho3
  generalize w2.setRow (w.heap.size + 1) (spongeC σ (.slice ca m cc)) = w3 at *
  have r0 : w3.cell? ⟨w.heap.size + 1, 0, none⟩ = some (.int .u32 ((σ 0).toNat : Int)) := cell_of_row w3 (w.heap.size + 1) 0 _ _ _ Hg3.out
  have r1 : w3.cell? ⟨w.heap.size + 1, 1, none⟩ = some (.int .u32 ((σ 1).toNat : Int)) := cell_of_row w3 (w.heap.size + 1) 1 _ _ _ Hg3.out
  have r2 : w3.cell? ⟨w.heap.size + 1, 2, none⟩ = some (.int .u32 ((σ 2).toNat : Int)) := cell_of_row w3 (w.heap.size + 1) 2 _ _ _ Hg3.out
  have r3 : w3.cell? ⟨w.heap.size + 1, 3, none⟩ = some (.int .u32 ((σ 3).toNat : Int)) := cell_of_row w3 (w.heap.size + 1) 3 _ _ _ Hg3.out
  have r4 : w3.cell? ⟨w.heap.size + 1, 4, none⟩ = some (.int .u32 ((σ 4).toNat : Int)) := cell_of_row w3 (w.heap.size + 1) 4 _ _ _ Hg3.out
  have r5 : w3.cell? ⟨w.heap.size + 1, 5, none⟩ = some (.int .u32 ((σ 5).toNat : Int)) := cell_of_row w3 (w.heap.size + 1) 5 _ _ _ Hg3.out
  have r6 : w3.cell? ⟨w.heap.size + 1, 6, none⟩ = some (.int .u32 ((σ 6).toNat : Int)) := cell_of_row w3 (w.heap.size + 1) 6 _ _ _ Hg3.out
  have r7 : w3.cell? ⟨w.heap.size + 1, 7, none⟩ = some (.int .u32 ((σ 7).toNat : Int)) := cell_of_row w3 (w.heap.size + 1) 7 _ _ _ Hg3.out
  have r8 : w3.cell? ⟨w.heap.size + 1, 8, none⟩ = some (.slice ca m cc) := cell_of_row w3 (w.heap.size + 1) 8 _ _ _ Hg3.out
  refine bodyPost_ret (v := .tuple #[.agg (spongeC σ (.slice ca m cc)), .int .i64 0]) ?_ rfl ⟨.slice ca m cc, by rw [Hσ.out], Ho3.out.mono (by omega), Hb3.out⟩
  rw [sponge_lit]
  simp [results, Try.results29, go_sem, r0, r1, r2, r3, r4, r5, r6, r7, r8]
set_option maxRecDepth 100000 in
set_option maxHeartbeats 4000000 in
theorem absorbE_bad (s : St) (ra : Option Addr) (rl rc : Nat) (v : Value) (w : World) (h16 : 16 ≤ rl) :
    Calls Try.prog 29 #[.agg (spongeC s (.slice ra rl rc)), v] w fun e w' => e = .returned (.tuple #[.agg (spongeC (fun _ => 0#32) (.slice none 0 0)), .int .i64 1]) ∧ Below w.heap.size w w' := by
  have hg : ((16 : Int) ≤ (rl : Int)) := by omega
  rw [sponge_lit]
  go_enter Try.func29, Try.ntmps29
  go_wp2_with fail
  refine bodyPost_ret (v := .tuple #[.agg #[.int .u32 0, .int .u32 0, .int .u32 0, .int .u32 0, .int .u32 0, .int .u32 0, .int .u32 0, .int .u32 0, .slice none 0 0], .int .i64 1]) (by simp [results, Try.results29, go_sem]) rfl ⟨rfl, ?_⟩
  exact ((Below.refl _ w).alloc (Nat.le_refl _) _).alloc (by simp) _
end Go.Proofs.Ytnlblmghhkmbbaa

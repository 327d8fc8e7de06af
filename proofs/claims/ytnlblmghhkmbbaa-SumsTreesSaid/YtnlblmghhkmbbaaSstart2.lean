/- Start answers as the chapter says. -/
import Derived.Test.YtnlblmghhkmbbaaSstart
namespace Go.Proofs.Ytnlblmghhkmbbaa
set_option linter.unusedVariables false
open Go.RowKit

theorem sizeSponge (s : St) (v : Value) : (Try.prog.info? 43).map (·.size) = some (spongeC s v).size := by kernel_rfl
theorem oneSponge (s : St) (a : Option Addr) (l c : Nat) : (spongeC s (.slice a l c)).all (fun x => x.oneCell') = true := by kernel_rfl
set_option maxRecDepth 100000 in
set_option maxHeartbeats 1000000 in
theorem startS_any (w : World) : Calls Try.prog 34 #[] w fun e w' => e = .returned (.agg (spongeC startV (.slice none 0 0))) ∧ Below w.heap.size w w' := by
  obtain ⟨W0, hW0⟩ : ∃ W0, W0 = w.alloc (.cells (spongeC (fun _ => 0#32) (.slice none 0 0)) 43) := ⟨_, rfl⟩
  have hg0 : Blk W0 w.heap.size 43 (spongeC (fun _ => 0#32) (.slice none 0 0)) := by rw [hW0]; exact heap_new w _
  have hb0 : Below w.heap.size w W0 := by rw [hW0]; exact (Below.refl _ w).alloc (Nat.le_refl _) _
  have hs0 : W0.heap.size = w.heap.size + 1 := by rw [hW0]; simp
  have hz : spongeC (fun _ => 0#32) (.slice none 0 0) = #[.int .u32 0, .int .u32 0, .int .u32 0, .int .u32 0, .int .u32 0, .int .u32 0, .int .u32 0, .int .u32 0, .slice none 0 0] := by rfl
  rw [hz] at hW0
  have HW0 := Lib.hid hW0
  have Hg0 := Lib.hid hg0
  have Hb0 := Lib.hid hb0
  have Hs0 := Lib.hid hs0
  clear hW0 hg0 hb0 hs0 hz
  go_enter Try.func34, Try.ntmps34
  go_wp2_with fail
  rw [← HW0.out]
  clear HW0
  refine (start_any W0).mono ?_
  rintro e w1 ⟨rfl, hB, hb, hs⟩
  have p0 : w1.cell? ⟨W0.heap.size, 0, none⟩ = some (.int .u32 0) := hB.cell 0
  have p1 : w1.cell? ⟨W0.heap.size, 1, none⟩ = some (.int .u32 0) := hB.cell 1
  have p2 : w1.cell? ⟨W0.heap.size, 2, none⟩ = some (.int .u32 0) := hB.cell 2
  have p3 : w1.cell? ⟨W0.heap.size, 3, none⟩ = some (.int .u32 0) := hB.cell 3
  have p4 : w1.cell? ⟨W0.heap.size, 4, none⟩ = some (.int .u32 0) := hB.cell 4
  have p5 : w1.cell? ⟨W0.heap.size, 5, none⟩ = some (.int .u32 0) := hB.cell 5
  have p6 : w1.cell? ⟨W0.heap.size, 6, none⟩ = some (.int .u32 0) := hB.cell 6
  have p7 : w1.cell? ⟨W0.heap.size, 7, none⟩ = some (.int .u32 1634886504) := hB.cell 7
  have p8 : w1.cell? ⟨W0.heap.size, 8, none⟩ = some (.slice none 0 0) := hB.cell 8
  have hg1 := Hg0.out.below hb (by rw [Hs0.out]; omega)
  have hbb := Hb0.out.trans (hb.mono Hb0.out.size)
  have Hg1 := Lib.hid hg1
  have Hbb := Lib.hid hbb
  have z1 := sizeSponge startV (.slice none 0 0)
  have z3 := oneSponge startV none 0 0
  have hsz := hg1.lt
  clear hB hb hs hg1 hbb
  go_wp2_with (refine wpList_store_row rfl 43 (.tmp 0) (.tmp 4) rfl w.heap.size (spongeC startV (.slice none 0 0)) rfl rfl 43 (spongeC (fun _ => 0#32) (.slice none 0 0)) Hg1.out z1 rfl z3 ?_)
  refine bodyPost_ret (v := .agg (spongeC startV (.slice none 0 0))) ?_ rfl ⟨rfl, ?_⟩
  · exact results_cell_row rfl _ _ w.heap.size 43 _ (0, 0) _ rfl (setRow_heap _ _ _ _ _ _ Hg1.out) Try.underlying43 rfl z1
  · exact Hbb.out.trans (below_setRow _ _ _ _ (Nat.le_refl _))
end Go.Proofs.Ytnlblmghhkmbbaa

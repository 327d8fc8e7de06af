/- spare: the bits behind the last one. -/
import Derived.Test.YtknacgdjodmaiaaDoorBbut
import Derived.Deep.DeepCutAuto
import Derived.RegionTactic
import Derived.StillTailTactics
namespace Go.Proofs.YtknacgdjodmaiaaDoor
set_option linter.unusedVariables false
open Go.RowKit Go.Shelf

set_option maxRecDepth 100000 in
set_option maxHeartbeats 1000000 in
theorem spare_any (N : Nat) (a : Option Addr) (len cap : Nat) (w : World) (h1 : N ≤ 8 * len) (h2 : len ≤ 9000) :
    Calls Tryd.prog 65 #[.agg #[.int .i64 N, .slice a len cap]] w fun e w' => e = .returned (.func (.func 87) #[] #[.pointer (some ⟨w.heap.size + 1, 0, none⟩), .pointer (some ⟨w.heap.size + 2, 0, none⟩)]) ∧
      w' = rangeBoxes (w.alloc (.cells #[.int .i64 N, .slice a len cap] 24)) N ((8 * len - N : Nat) : Int) := by
  obtain ⟨W0, hW0⟩ : ∃ W0, W0 = w.alloc (.cells #[.int .i64 N, .slice a len cap] 24) := ⟨_, rfl⟩
  have hB : Blk W0 w.heap.size 24 #[.int .i64 N, .slice a len cap] := by rw [hW0]; exact heap_new w _
  have q0 : W0.cell? ⟨w.heap.size, 0, none⟩ = some (.int .i64 N) := hB.cell 0
  have q1 : W0.cell? ⟨w.heap.size, 1, none⟩ = some (.slice a len cap) := hB.cell 1
  have hs : W0.heap.size = w.heap.size + 1 := by rw [hW0]; simp
  have e1 : (len : Int) * 8 - (N : Int) = ((8 * len - N : Nat) : Int) := by omega
  have HW := Lib.hid hW0
  have Hs := Lib.hid hs
  rw [← hW0]
  clear hW0 hB hs
  go_enter Tryd.func65, Tryd.ntmps65
  go_upto_region 1 with fail
  rw [← HW.out]
  go_wp2_with fail
  refine (parts_any N _ W0).mono ?_
  rintro e w1 ⟨rfl, rfl⟩
  rw [Hs.out]
  go_wp2_with fail
  go_ret
  exact ⟨rfl, rfl⟩
end Go.Proofs.YtknacgdjodmaiaaDoor

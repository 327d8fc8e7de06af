/- The reference's New, and a bitmap of nothing. -/
import Derived.Test.YtknacgdjodmaiaaDoorBright
namespace Go.Proofs.YtknacgdjodmaiaaDoor
set_option linter.unusedVariables false
open Go.RowKit Go.Shelf

set_option maxRecDepth 100000 in
set_option maxHeartbeats 1000000 in
theorem none_zero (w : World) : Calls Tryd.prog 19 #[.agg #[.int .i64 0, .slice none 0 0]] w fun e w' => e = .returned (.bool true) ∧ Below w.heap.size w w' := by
  obtain ⟨W, hW⟩ : ∃ W, W = w.alloc (.cells #[.int .i64 0, .slice none 0 0] 24) := ⟨_, rfl⟩
  have hb : Below w.heap.size w W := by rw [hW]; exact (Below.refl _ w).alloc (Nat.le_refl _) _
  have hB : Blk W w.heap.size 24 #[.int .i64 0, .slice none 0 0] := by rw [hW]; exact heap_new w _
  have q0 : W.cell? ⟨w.heap.size, 0, none⟩ = some (.int .i64 0) := hB.cell 0
  have q1 : W.cell? ⟨w.heap.size, 1, none⟩ = some (.slice none 0 0) := hB.cell 1
  have HW := Lib.hid hW
  have Hb := Lib.hid hb
  clear hW hb hB
  go_enter Tryd.func19, Tryd.ntmps19
  go_upto_region 1 with fail
  rw [← HW.out]
  go_wp2_with fail
  go_ret
  exact ⟨rfl, Hb.out⟩
set_option maxRecDepth 100000 in
set_option maxHeartbeats 2000000 in
theorem rnew_any (N : Int) (m : Nat) (w : World) (h0 : 0 ≤ N) (h1 : N ≤ 65536) (hm : (N + 7) / 8 = (m : Int)) :
    Calls Tryd.prog 27 #[.int .i64 N] w fun e w' => ∃ a', e = .returned (.agg #[.int .i64 N, .slice (some a') m m]) ∧ Own w' w.heap.size (.slice (some a') m m) (List.replicate m 0) ∧ Below w.heap.size w w' := by
  obtain ⟨W0, hW0⟩ : ∃ W0, w.alloc (.cells #[.int .i64 0, .slice none 0 0] 24) = W0 := ⟨_, rfl⟩
  have hR : Blk W0 w.heap.size 24 #[.int .i64 0, .slice none 0 0] := by rw [← hW0]; exact heap_new w _
  have hb0 : Below w.heap.size w W0 := by rw [← hW0]; exact (Below.refl _ w).alloc (Nat.le_refl _) _
  have hs0 : W0.heap.size = w.heap.size + 1 := by rw [← hW0]; simp
  obtain ⟨w1, hmk, ho, hb⟩ := make_bytes m (by omega) W0 (w.heap.size + 1) (by omega)
  have hR1 := hR.below hb hR.lt
  have e8 : (N + 7).tdiv 8 = (m : Int) := by rw [← hm]; exact Int.tdiv_eq_ediv_of_nonneg (by omega)
  have wm : IntKind.i64.wrap (m : Int) = (m : Int) := by simp [IntKind.wrap, IntKind.bits, IntKind.signed]; omega
  have HW := Lib.hid hW0
  have HR := Lib.hid hR1
  have HO := Lib.hid ho
  have Hb := Lib.hid (hb0.trans (hb.mono (by omega)))
  have f0 := hR1.frozen 0
  have f1 := hR1.frozen 1
  have k0 : w1.cell? ⟨w.heap.size, 0, none⟩ = some (.int .i64 0) := hR1.cell 0
  have k1 : w1.cell? ⟨w.heap.size, 1, none⟩ = some (.slice none 0 0) := hR1.cell 1
  have hsz : w.heap.size < w1.heap.size := hR1.lt
  clear hW0 hR hb0 hs0 ho hb hm hR1
  go_enter Tryd.func27, Tryd.ntmps27
  go_upto_region 1 with fail
  rw [HW.out]
  go_wp2_with fail
  rw [cells2 HR.out]
  obtain ⟨V, hV, rV, bV, sV, oV⟩ := filled HR.out #[.int .i64 N, .slice (some ⟨W0.heap.size, 0, none⟩) m m]
  rw [hV]
  clear f0 f1 k0 k1
  have z0 : V.cell? ⟨w.heap.size, 0, none⟩ = some (.int .i64 N) := (show Blk V _ 24 _ from rV).cell 0
  have z1 : V.cell? ⟨w.heap.size, 1, none⟩ = some (.slice (some ⟨W0.heap.size, 0, none⟩) m m) := (show Blk V _ 24 _ from rV).cell 1
  have HZ : Hid (Own V w.heap.size (.slice (some ⟨W0.heap.size, 0, none⟩) m m) (List.replicate m 0) ∧ Below w.heap.size w V) := Lib.hid ⟨(HO.out.other oV (Nat.lt_succ_self _)).mono (Nat.le_succ _), Hb.out.trans bV⟩
  clear HR HO Hb rV bV sV oV hV
  simp [bodyPost, results, Tryd.results27, go_sem, z0, z1]
  exact HZ.out
end Go.Proofs.YtknacgdjodmaiaaDoor

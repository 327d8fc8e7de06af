/- empty: clear bits of the call's own. -/
import Derived.Test.YtknacgdjodmaiaaDoorBclone
import Derived.Laws.OwnMore
namespace Go.Proofs.YtknacgdjodmaiaaDoor
set_option linter.unusedVariables false
open Go.RowKit Go.Shelf

theorem zeros_made (m : Nat) : (madeCells (Value.cells (.int .u8 0)) (m * 1)).toList = (List.replicate m (0 : Int)).map (Value.int .u8) := by
  apply List.ext_getElem
  · simp [madeCells]
  · intro i h1 h2
    simp [madeCells, Value.cells, Nat.mod_one]
theorem make_bytes (m : Nat) (hm : m ≤ 9000) (W : World) (B : Nat) (hB : B ≤ W.heap.size) : ∃ w', (Instr.makeSlice 22 (.int .i64 (m : Int)) (.int .i64 (m : Int))).run Tryd.prog W = .ok (.slice (some ⟨W.heap.size, 0, none⟩) m m) w' ∧ Own w' B (.slice (some ⟨W.heap.size, 0, none⟩) m m) (List.replicate m 0) ∧ Below W.heap.size W w' := by
  obtain ⟨i0, hi, hz0, hz1, hz2⟩ := info_parts Tryd.infoB
  obtain ⟨w', h1, h2, h3⟩ := run_makeSlice_full (w := W) B 22 5 i0 (.int .u8 0) 1 Tryd.underlying22 hi hz0 hz1 .i64 .i64 m (by omega) (by rw [hz2]; omega) (by unfold maxLen; omega) hB
  refine ⟨w', h1, ⟨?_, fun n hn => ?_⟩, ?_⟩
  · rw [zeros_made] at h2
    rw [List.length_replicate]; exact h2
  · have := List.eq_of_mem_replicate hn
    subst this
    exact ⟨by decide, by decide⟩
  · exact ⟨h3.os, h3.tape, h3.output, h3.size, fun k hk => h3.block k hk (by simp)⟩
set_option maxRecDepth 100000 in
set_option maxHeartbeats 2000000 in
theorem empty_any (N : Int) (m : Nat) (w : World) (h0 : 0 ≤ N) (h1 : N ≤ 65536) (hm : (N + 7) / 8 = (m : Int)) :
    Calls Tryd.prog 61 #[.int .i64 N] w fun e w' => ∃ a', e = .returned (.agg #[.int .i64 N, .slice (some a') m m]) ∧ Own w' w.heap.size (.slice (some a') m m) (List.replicate m 0) ∧ Below w.heap.size w w' := by
  obtain ⟨W0, hW0⟩ : ∃ W0, w.alloc (.cells #[.int .i64 0, .slice none 0 0] 24) = W0 := ⟨_, rfl⟩
  have hR : Blk W0 w.heap.size 24 #[.int .i64 0, .slice none 0 0] := by rw [← hW0]; exact heap_new w _
  have hb0 : Below w.heap.size w W0 := by rw [← hW0]; exact (Below.refl _ w).alloc (Nat.le_refl _) _
  have hs0 : W0.heap.size = w.heap.size + 1 := by rw [← hW0]; simp
  obtain ⟨w1, hmk, ho, hb⟩ := make_bytes m (by omega) W0 (w.heap.size + 1) (by omega)
  have C := bytesFor_any N W0 h0 h1
  rw [hm] at C
  have hR1 := hR.below hb hR.lt
  have HC := Lib.hid C
  have HW := Lib.hid hW0
  have HR := Lib.hid hR1
  have HO := Lib.hid ho
  have Hb := Lib.hid (hb0.trans (hb.mono (by omega)))
  have f0 := hR1.frozen 0
  have f1 := hR1.frozen 1
  have k0 : w1.cell? ⟨w.heap.size, 0, none⟩ = some (.int .i64 0) := hR1.cell 0
  have k1 : w1.cell? ⟨w.heap.size, 1, none⟩ = some (.slice none 0 0) := hR1.cell 1
  have hsz : w.heap.size < w1.heap.size := hR1.lt
  clear hW0 hR hb0 hs0 ho hb C hm hR1
  go_enter Tryd.func61, Tryd.ntmps61
  go_upto_region 1 with fail
  rw [HW.out]
  go_wp2_with fail
  refine HC.out.mono ?_
  rintro e u ⟨rfl, rfl⟩
  go_wp2_with fail
  rw [cells2 HR.out]
  obtain ⟨V, hV, rV, bV, sV, oV⟩ := filled HR.out #[.int .i64 N, .slice (some ⟨W0.heap.size, 0, none⟩) m m]
  rw [hV]
  clear f0 f1 k0 k1
  have z0 : V.cell? ⟨w.heap.size, 0, none⟩ = some (.int .i64 N) := (show Blk V _ 24 _ from rV).cell 0
  have z1 : V.cell? ⟨w.heap.size, 1, none⟩ = some (.slice (some ⟨W0.heap.size, 0, none⟩) m m) := (show Blk V _ 24 _ from rV).cell 1
  have HZ : Hid (Own V w.heap.size (.slice (some ⟨W0.heap.size, 0, none⟩) m m) (List.replicate m 0) ∧ Below w.heap.size w V) := Lib.hid ⟨(HO.out.other oV (Nat.lt_succ_self _)).mono (Nat.le_succ _), Hb.out.trans bV⟩
  clear HR HO Hb rV bV sV oV hV HC
  simp [bodyPost, results, Tryd.results61, go_sem, z0, z1]
  exact HZ.out
end Go.Proofs.YtknacgdjodmaiaaDoor

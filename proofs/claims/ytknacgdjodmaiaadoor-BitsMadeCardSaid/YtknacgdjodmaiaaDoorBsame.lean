/- The reference's Same: whether two bitmaps are the same. -/
import Derived.Test.YtknacgdjodmaiaaDoorBsorted
namespace Go.Proofs.YtknacgdjodmaiaaDoor
set_option linter.unusedVariables false
open Go.RowKit Go.Shelf

set_option maxRecDepth 100000 in
set_option maxHeartbeats 2000000 in
theorem same_any (N1 N2 : Int) (a : Option Addr) (l c : Nat) (xs : List Int) (a2 : Option Addr) (l2 c2 : Nat) (ys : List Int) (w : World) (h1 : Rd w a l c xs) (h2 : Rd w a2 l2 c2 ys) :
    Calls Tryd.prog 22 #[.agg #[.int .i64 N1, .slice a l c], .agg #[.int .i64 N2, .slice a2 l2 c2]] w fun e w' => e = .returned (.bool (decide (N1 = N2 ∧ xs = ys))) ∧ Below w.heap.size w w' := by
  obtain ⟨W2, hW2⟩ : ∃ W2, W2 = (w.alloc (.cells #[.int .i64 N1, .slice a l c] 24)).alloc (.cells #[.int .i64 N2, .slice a2 l2 c2] 24) := ⟨_, rfl⟩
  have hb2 : Below w.heap.size w W2 := by rw [hW2]; exact ((Below.refl _ w).alloc (Nat.le_refl _) _).alloc (by simp) _
  have hg1 : Blk W2 w.heap.size 24 #[.int .i64 N1, .slice a l c] := by rw [hW2]; exact (Below.heap_alloc _ _ _ (by simp)).trans (heap_new w _)
  have hg2 : Blk W2 (w.heap.size + 1) 24 #[.int .i64 N2, .slice a2 l2 c2] := by rw [hW2]; have := heap_new (w.alloc (.cells #[.int .i64 N1, .slice a l c] 24)) (.cells #[.int .i64 N2, .slice a2 l2 c2] 24); rw [World.size_alloc] at this; exact this
  have k1 := (h1.below hb2 (Nat.le_refl _)).convAny
  have k2 := (h2.below hb2 (Nat.le_refl _)).convAny
  have He := Lib.hid (str_eq h1.hb h2.hb)
  have p0 : W2.cell? ⟨w.heap.size, 0, none⟩ = some (.int .i64 N1) := hg1.cell 0
  have p1 : W2.cell? ⟨w.heap.size, 1, none⟩ = some (.slice a l c) := hg1.cell 1
  have p2 : W2.cell? ⟨w.heap.size + 1, 0, none⟩ = some (.int .i64 N2) := hg2.cell 0
  have p3 : W2.cell? ⟨w.heap.size + 1, 1, none⟩ = some (.slice a2 l2 c2) := hg2.cell 1
  have HW2 := Lib.hid hW2
  have Hb2 := Lib.hid hb2
  clear hW2 hb2 hg1 hg2 h1 h2
  by_cases hN : N1 = N2
  · subst hN
    go_enter Tryd.func22, Tryd.ntmps22
    go_upto_region 1 with fail
    rw [← HW2.out]
    go_wp2
    go_ret
    refine ⟨?_, Hb2.out⟩
    rw [He.out]
    simp
  · have hN2 : (N1 = N2) = False := eq_false hN
    go_enter Tryd.func22, Tryd.ntmps22
    go_upto_region 1 with fail
    rw [← HW2.out]
    go_wp2
    go_ret
    refine ⟨?_, Hb2.out⟩
    simp [hN]
end Go.Proofs.YtknacgdjodmaiaaDoor

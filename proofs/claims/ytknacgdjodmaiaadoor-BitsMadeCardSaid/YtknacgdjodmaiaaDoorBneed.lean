/- needValid, needRange, needPlace: what they let by, and why they end a call. -/
import Derived.Test.YtknacgdjodmaiaaDoorBvalid
namespace Go.Proofs.YtknacgdjodmaiaaDoor
set_option linter.unusedVariables false
open Go.RowKit Go.Shelf

/-- What Check answers. -/
def chkE (N : Int) (bs : List Int) : Int := if validB N bs then 0 else 9
section
variable (N : Int) (a : Option Addr) (len cap : Nat) (bs : List Int) (w : World) (hr : Rd w a len cap bs) (hN1 : -9223372036854775808 ≤ N) (hN2 : N ≤ 9223372036854775807)
include hr hN1 hN2
set_option maxRecDepth 100000 in
set_option maxHeartbeats 1000000 in
theorem check_any : Calls Tryd.prog 18 #[.agg #[.int .i64 N, .slice a len cap]] w fun e w' => e = .returned (.int .i64 (chkE N bs)) ∧ Below w.heap.size w w' := by
  obtain ⟨W0, hW0⟩ : ∃ W0, W0 = w.alloc (.cells #[.int .i64 N, .slice a len cap] 24) := ⟨_, rfl⟩
  have hb0 : Below w.heap.size w W0 := by rw [hW0]; exact (Below.refl _ w).alloc (Nat.le_refl _) _
  have hB : Blk W0 w.heap.size 24 #[.int .i64 N, .slice a len cap] := by rw [hW0]; exact heap_new w _
  have q0 : W0.cell? ⟨w.heap.size, 0, none⟩ = some (.int .i64 N) := hB.cell 0
  have q1 : W0.cell? ⟨w.heap.size, 1, none⟩ = some (.slice a len cap) := hB.cell 1
  have C := Lib.hid (valid_any N a len cap bs W0 (hr.below hb0 (Nat.le_refl _)) hN1 hN2)
  have HW := Lib.hid hW0
  have Hb := Lib.hid hb0
  clear hW0 hB hb0 hr
  go_enter Tryd.func18, Tryd.ntmps18
  go_upto_region 1 with fail
  rw [← HW.out]
  go_wp2_with fail
  refine C.out.mono ?_
  rintro e w1 ⟨rfl, hb1⟩
  have HZ := Lib.hid (Hb.out.trans (hb1.mono Hb.out.size))
  clear hb1 C
  cases hv : validB N bs with
  | true =>
    go_wp2_with fail
    go_ret
    exact ⟨by unfold chkE; rw [hv]; rfl, HZ.out⟩
  | false =>
    go_wp2_with fail
    go_ret
    exact ⟨by unfold chkE; rw [hv]; rfl, HZ.out⟩
set_option maxRecDepth 100000 in
set_option maxHeartbeats 1000000 in
theorem needValid_yes (hv : validB N bs = true) : Calls Tryd.prog 64 #[.agg #[.int .i64 N, .slice a len cap]] w fun e w' => e = .returned (.tuple #[]) ∧ Below w.heap.size w w' := by
  obtain ⟨W0, hW0⟩ : ∃ W0, W0 = w.alloc (.cells #[.int .i64 N, .slice a len cap] 24) := ⟨_, rfl⟩
  have hb0 : Below w.heap.size w W0 := by rw [hW0]; exact (Below.refl _ w).alloc (Nat.le_refl _) _
  have hB : Blk W0 w.heap.size 24 #[.int .i64 N, .slice a len cap] := by rw [hW0]; exact heap_new w _
  have q0 : W0.cell? ⟨w.heap.size, 0, none⟩ = some (.int .i64 N) := hB.cell 0
  have q1 : W0.cell? ⟨w.heap.size, 1, none⟩ = some (.slice a len cap) := hB.cell 1
  have C := valid_any N a len cap bs W0 (hr.below hb0 (Nat.le_refl _)) hN1 hN2
  rw [hv] at C
  have HC := Lib.hid C
  have HW := Lib.hid hW0
  have Hb := Lib.hid hb0
  clear hW0 hB hb0 hr C hv
  go_enter Tryd.func64, Tryd.ntmps64
  go_upto_region 1 with fail
  rw [← HW.out]
  go_wp2_with fail
  refine HC.out.mono ?_
  rintro e w1 ⟨rfl, hb1⟩
  have HZ := Lib.hid (Hb.out.trans (hb1.mono Hb.out.size))
  clear hb1 HC
  go_wp2_with fail
  refine (need_yes _ _).mono ?_
  rintro e w2 ⟨rfl, rfl⟩
  go_wp2_with fail
  go_end0
  exact ⟨rfl, HZ.out⟩
set_option maxRecDepth 100000 in
set_option maxHeartbeats 1000000 in
theorem needValid_no (hv : validB N bs = false) : Calls Tryd.prog 64 #[.agg #[.int .i64 N, .slice a len cap]] w fun e w' => e = pan 9 ∧ Below w.heap.size w w' := by
  obtain ⟨W0, hW0⟩ : ∃ W0, W0 = w.alloc (.cells #[.int .i64 N, .slice a len cap] 24) := ⟨_, rfl⟩
  have hb0 : Below w.heap.size w W0 := by rw [hW0]; exact (Below.refl _ w).alloc (Nat.le_refl _) _
  have hB : Blk W0 w.heap.size 24 #[.int .i64 N, .slice a len cap] := by rw [hW0]; exact heap_new w _
  have q0 : W0.cell? ⟨w.heap.size, 0, none⟩ = some (.int .i64 N) := hB.cell 0
  have q1 : W0.cell? ⟨w.heap.size, 1, none⟩ = some (.slice a len cap) := hB.cell 1
  have C := valid_any N a len cap bs W0 (hr.below hb0 (Nat.le_refl _)) hN1 hN2
  rw [hv] at C
  have HC := Lib.hid C
  have HW := Lib.hid hW0
  have Hb := Lib.hid hb0
  clear hW0 hB hb0 hr C hv
  go_enter Tryd.func64, Tryd.ntmps64
  go_upto_region 1 with fail
  rw [← HW.out]
  go_wp2_with fail
  refine HC.out.mono ?_
  rintro e w1 ⟨rfl, hb1⟩
  have HZ := Lib.hid (Hb.out.trans (hb1.mono Hb.out.size))
  clear hb1 HC
  go_wp2_with fail
  refine (need_no _ _).mono ?_
  rintro e w2 ⟨rfl, rfl⟩
  exact ⟨rfl, rfl, HZ.out⟩
set_option maxRecDepth 100000 in
set_option maxHeartbeats 1000000 in
theorem needRange_bad (at_ many : Int) (h1 : -9223372036854775808 ≤ at_) (h2 : at_ ≤ 9223372036854775807) (hv : validB N bs = false) : Calls Tryd.prog 46 #[.agg #[.int .i64 N, .slice a len cap], .int .i64 at_, .int .i64 many] w fun e w' => e = pan 9 ∧ Below w.heap.size w w' := by
  obtain ⟨W0, hW0⟩ : ∃ W0, W0 = w.alloc (.cells #[.int .i64 N, .slice a len cap] 24) := ⟨_, rfl⟩
  have hb0 : Below w.heap.size w W0 := by rw [hW0]; exact (Below.refl _ w).alloc (Nat.le_refl _) _
  have hB : Blk W0 w.heap.size 24 #[.int .i64 N, .slice a len cap] := by rw [hW0]; exact heap_new w _
  have q0 : W0.cell? ⟨w.heap.size, 0, none⟩ = some (.int .i64 N) := hB.cell 0
  have q1 : W0.cell? ⟨w.heap.size, 1, none⟩ = some (.slice a len cap) := hB.cell 1
  have HC := Lib.hid (needValid_no N a len cap bs W0 (hr.below hb0 (Nat.le_refl _)) hN1 hN2 hv)
  have HW := Lib.hid hW0
  have Hb := Lib.hid hb0
  have HB := Lib.hid hB
  clear hW0 hB hb0 hr hv
  go_enter Tryd.func46, Tryd.ntmps46
  go_upto_region 1 with fail
  rw [← HW.out]
  go_wp2_with fail
  refine HC.out.mono ?_
  rintro e w1 ⟨rfl, hb1⟩
  have HZ := Lib.hid (Hb.out.trans (hb1.mono Hb.out.size))
  exact ⟨rfl, rfl, HZ.out⟩
set_option maxRecDepth 100000 in
set_option maxHeartbeats 1000000 in
theorem needRange_no (at_ many : Int) (h1 : -9223372036854775808 ≤ at_) (h2 : at_ ≤ 9223372036854775807) (hv : validB N bs = true) (hc : ¬ (0 ≤ at_ ∧ 0 ≤ many ∧ many ≤ N - at_)) : Calls Tryd.prog 46 #[.agg #[.int .i64 N, .slice a len cap], .int .i64 at_, .int .i64 many] w fun e w' => e = pan 1 ∧ Below w.heap.size w w' := by
  obtain ⟨v1, v2, -, -⟩ := (validB_iff N bs).mp hv
  obtain ⟨W0, hW0⟩ : ∃ W0, W0 = w.alloc (.cells #[.int .i64 N, .slice a len cap] 24) := ⟨_, rfl⟩
  have hb0 : Below w.heap.size w W0 := by rw [hW0]; exact (Below.refl _ w).alloc (Nat.le_refl _) _
  have hB : Blk W0 w.heap.size 24 #[.int .i64 N, .slice a len cap] := by rw [hW0]; exact heap_new w _
  have q0 : W0.cell? ⟨w.heap.size, 0, none⟩ = some (.int .i64 N) := hB.cell 0
  have q1 : W0.cell? ⟨w.heap.size, 1, none⟩ = some (.slice a len cap) := hB.cell 1
  have HC := Lib.hid (needValid_yes N a len cap bs W0 (hr.below hb0 (Nat.le_refl _)) hN1 hN2 hv)
  have HW := Lib.hid hW0
  have Hb := Lib.hid hb0
  have HB := Lib.hid hB
  clear hW0 hB hb0 hr hv
  by_cases c1 : 0 ≤ at_
  · skip
    by_cases c2 : 0 ≤ many
    · skip
      have c3 : (many ≤ N - at_) = False := eq_false (fun h => hc ⟨c1, c2, h⟩)
      have c4 : decide (many ≤ N - at_) = false := by simp [c3]
      clear hc
      go_enter Tryd.func46, Tryd.ntmps46
      go_upto_region 1 with fail
      rw [← HW.out]
      go_wp2_with fail
      refine HC.out.mono ?_
      rintro e w1 ⟨rfl, hb1⟩
      have HZ := Lib.hid (Hb.out.trans (hb1.mono Hb.out.size))
      have q0 : w1.cell? ⟨w.heap.size, 0, none⟩ = some (.int .i64 N) := (HB.out.below hb1 HB.out.lt).cell 0
      clear hb1 HC q1
      go_wp2_with fail
      refine (need_no _ _).mono ?_
      rintro e w2 ⟨rfl, rfl⟩
      exact ⟨rfl, rfl, HZ.out⟩
    · clear hc
      go_enter Tryd.func46, Tryd.ntmps46
      go_upto_region 1 with fail
      rw [← HW.out]
      go_wp2_with fail
      refine HC.out.mono ?_
      rintro e w1 ⟨rfl, hb1⟩
      have HZ := Lib.hid (Hb.out.trans (hb1.mono Hb.out.size))
      have q0 : w1.cell? ⟨w.heap.size, 0, none⟩ = some (.int .i64 N) := (HB.out.below hb1 HB.out.lt).cell 0
      clear hb1 HC q1
      go_wp2_with fail
      refine (need_no _ _).mono ?_
      rintro e w2 ⟨rfl, rfl⟩
      exact ⟨rfl, rfl, HZ.out⟩
  · clear hc
    go_enter Tryd.func46, Tryd.ntmps46
    go_upto_region 1 with fail
    rw [← HW.out]
    go_wp2_with fail
    refine HC.out.mono ?_
    rintro e w1 ⟨rfl, hb1⟩
    have HZ := Lib.hid (Hb.out.trans (hb1.mono Hb.out.size))
    have q0 : w1.cell? ⟨w.heap.size, 0, none⟩ = some (.int .i64 N) := (HB.out.below hb1 HB.out.lt).cell 0
    clear hb1 HC q1
    go_wp2_with fail
    refine (need_no _ _).mono ?_
    rintro e w2 ⟨rfl, rfl⟩
    exact ⟨rfl, rfl, HZ.out⟩
set_option maxRecDepth 100000 in
set_option maxHeartbeats 1000000 in
theorem needRange_yes (at_ many : Int) (h1 : -9223372036854775808 ≤ at_) (h2 : at_ ≤ 9223372036854775807) (hv : validB N bs = true) (hc : (0 ≤ at_ ∧ 0 ≤ many ∧ many ≤ N - at_)) : Calls Tryd.prog 46 #[.agg #[.int .i64 N, .slice a len cap], .int .i64 at_, .int .i64 many] w fun e w' => e = .returned (.tuple #[]) ∧ Below w.heap.size w w' := by
  obtain ⟨v1, v2, -, -⟩ := (validB_iff N bs).mp hv
  obtain ⟨W0, hW0⟩ : ∃ W0, W0 = w.alloc (.cells #[.int .i64 N, .slice a len cap] 24) := ⟨_, rfl⟩
  have hb0 : Below w.heap.size w W0 := by rw [hW0]; exact (Below.refl _ w).alloc (Nat.le_refl _) _
  have hB : Blk W0 w.heap.size 24 #[.int .i64 N, .slice a len cap] := by rw [hW0]; exact heap_new w _
  have q0 : W0.cell? ⟨w.heap.size, 0, none⟩ = some (.int .i64 N) := hB.cell 0
  have q1 : W0.cell? ⟨w.heap.size, 1, none⟩ = some (.slice a len cap) := hB.cell 1
  have HC := Lib.hid (needValid_yes N a len cap bs W0 (hr.below hb0 (Nat.le_refl _)) hN1 hN2 hv)
  have HW := Lib.hid hW0
  have Hb := Lib.hid hb0
  have HB := Lib.hid hB
  clear hW0 hB hb0 hr hv
  obtain ⟨c1, c2, c3⟩ := hc
  go_enter Tryd.func46, Tryd.ntmps46
  go_upto_region 1 with fail
  rw [← HW.out]
  go_wp2_with fail
  refine HC.out.mono ?_
  rintro e w1 ⟨rfl, hb1⟩
  have HZ := Lib.hid (Hb.out.trans (hb1.mono Hb.out.size))
  have q0 : w1.cell? ⟨w.heap.size, 0, none⟩ = some (.int .i64 N) := (HB.out.below hb1 HB.out.lt).cell 0
  clear hb1 HC q1
  go_wp2_with fail
  refine (need_yes _ _).mono ?_
  rintro e w2 ⟨rfl, rfl⟩
  go_wp2_with fail
  go_end0
  exact ⟨rfl, HZ.out⟩
set_option maxRecDepth 100000 in
set_option maxHeartbeats 1000000 in
theorem needPlace_bad (many near : Int) (hv : validB N bs = false) : Calls Tryd.prog 78 #[.agg #[.int .i64 N, .slice a len cap], .int .i64 many, .int .i64 near] w fun e w' => e = pan 9 ∧ Below w.heap.size w w' := by
  obtain ⟨W0, hW0⟩ : ∃ W0, W0 = w.alloc (.cells #[.int .i64 N, .slice a len cap] 24) := ⟨_, rfl⟩
  have hb0 : Below w.heap.size w W0 := by rw [hW0]; exact (Below.refl _ w).alloc (Nat.le_refl _) _
  have hB : Blk W0 w.heap.size 24 #[.int .i64 N, .slice a len cap] := by rw [hW0]; exact heap_new w _
  have q0 : W0.cell? ⟨w.heap.size, 0, none⟩ = some (.int .i64 N) := hB.cell 0
  have q1 : W0.cell? ⟨w.heap.size, 1, none⟩ = some (.slice a len cap) := hB.cell 1
  have HC := Lib.hid (needValid_no N a len cap bs W0 (hr.below hb0 (Nat.le_refl _)) hN1 hN2 hv)
  have HW := Lib.hid hW0
  have Hb := Lib.hid hb0
  have HB := Lib.hid hB
  clear hW0 hB hb0 hr hv
  go_enter Tryd.func78, Tryd.ntmps78
  go_upto_region 1 with fail
  rw [← HW.out]
  go_wp2_with fail
  refine HC.out.mono ?_
  rintro e w1 ⟨rfl, hb1⟩
  have HZ := Lib.hid (Hb.out.trans (hb1.mono Hb.out.size))
  exact ⟨rfl, rfl, HZ.out⟩
set_option maxRecDepth 100000 in
set_option maxHeartbeats 1000000 in
theorem needPlace_no (many near : Int) (hv : validB N bs = true) (hc : ¬ (1 ≤ many ∧ 0 ≤ near ∧ near ≤ N)) : Calls Tryd.prog 78 #[.agg #[.int .i64 N, .slice a len cap], .int .i64 many, .int .i64 near] w fun e w' => e = pan 1 ∧ Below w.heap.size w w' := by
  obtain ⟨v1, v2, -, -⟩ := (validB_iff N bs).mp hv
  obtain ⟨W0, hW0⟩ : ∃ W0, W0 = w.alloc (.cells #[.int .i64 N, .slice a len cap] 24) := ⟨_, rfl⟩
  have hb0 : Below w.heap.size w W0 := by rw [hW0]; exact (Below.refl _ w).alloc (Nat.le_refl _) _
  have hB : Blk W0 w.heap.size 24 #[.int .i64 N, .slice a len cap] := by rw [hW0]; exact heap_new w _
  have q0 : W0.cell? ⟨w.heap.size, 0, none⟩ = some (.int .i64 N) := hB.cell 0
  have q1 : W0.cell? ⟨w.heap.size, 1, none⟩ = some (.slice a len cap) := hB.cell 1
  have HC := Lib.hid (needValid_yes N a len cap bs W0 (hr.below hb0 (Nat.le_refl _)) hN1 hN2 hv)
  have HW := Lib.hid hW0
  have Hb := Lib.hid hb0
  have HB := Lib.hid hB
  clear hW0 hB hb0 hr hv
  by_cases c1 : 1 ≤ many
  · skip
    by_cases c2 : 0 ≤ near
    · skip
      have c3 : (near ≤ N) = False := eq_false (fun h => hc ⟨c1, c2, h⟩)
      have c4 : decide (near ≤ N) = false := by simp [c3]
      clear hc
      go_enter Tryd.func78, Tryd.ntmps78
      go_upto_region 1 with fail
      rw [← HW.out]
      go_wp2_with fail
      refine HC.out.mono ?_
      rintro e w1 ⟨rfl, hb1⟩
      have HZ := Lib.hid (Hb.out.trans (hb1.mono Hb.out.size))
      have q0 : w1.cell? ⟨w.heap.size, 0, none⟩ = some (.int .i64 N) := (HB.out.below hb1 HB.out.lt).cell 0
      clear hb1 HC q1
      go_wp2_with fail
      refine (need_no _ _).mono ?_
      rintro e w2 ⟨rfl, rfl⟩
      exact ⟨rfl, rfl, HZ.out⟩
    · clear hc
      go_enter Tryd.func78, Tryd.ntmps78
      go_upto_region 1 with fail
      rw [← HW.out]
      go_wp2_with fail
      refine HC.out.mono ?_
      rintro e w1 ⟨rfl, hb1⟩
      have HZ := Lib.hid (Hb.out.trans (hb1.mono Hb.out.size))
      have q0 : w1.cell? ⟨w.heap.size, 0, none⟩ = some (.int .i64 N) := (HB.out.below hb1 HB.out.lt).cell 0
      clear hb1 HC q1
      go_wp2_with fail
      refine (need_no _ _).mono ?_
      rintro e w2 ⟨rfl, rfl⟩
      exact ⟨rfl, rfl, HZ.out⟩
  · clear hc
    go_enter Tryd.func78, Tryd.ntmps78
    go_upto_region 1 with fail
    rw [← HW.out]
    go_wp2_with fail
    refine HC.out.mono ?_
    rintro e w1 ⟨rfl, hb1⟩
    have HZ := Lib.hid (Hb.out.trans (hb1.mono Hb.out.size))
    have q0 : w1.cell? ⟨w.heap.size, 0, none⟩ = some (.int .i64 N) := (HB.out.below hb1 HB.out.lt).cell 0
    clear hb1 HC q1
    go_wp2_with fail
    refine (need_no _ _).mono ?_
    rintro e w2 ⟨rfl, rfl⟩
    exact ⟨rfl, rfl, HZ.out⟩
set_option maxRecDepth 100000 in
set_option maxHeartbeats 1000000 in
theorem needPlace_yes (many near : Int) (hv : validB N bs = true) (hc : (1 ≤ many ∧ 0 ≤ near ∧ near ≤ N)) : Calls Tryd.prog 78 #[.agg #[.int .i64 N, .slice a len cap], .int .i64 many, .int .i64 near] w fun e w' => e = .returned (.tuple #[]) ∧ Below w.heap.size w w' := by
  obtain ⟨v1, v2, -, -⟩ := (validB_iff N bs).mp hv
  obtain ⟨W0, hW0⟩ : ∃ W0, W0 = w.alloc (.cells #[.int .i64 N, .slice a len cap] 24) := ⟨_, rfl⟩
  have hb0 : Below w.heap.size w W0 := by rw [hW0]; exact (Below.refl _ w).alloc (Nat.le_refl _) _
  have hB : Blk W0 w.heap.size 24 #[.int .i64 N, .slice a len cap] := by rw [hW0]; exact heap_new w _
  have q0 : W0.cell? ⟨w.heap.size, 0, none⟩ = some (.int .i64 N) := hB.cell 0
  have q1 : W0.cell? ⟨w.heap.size, 1, none⟩ = some (.slice a len cap) := hB.cell 1
  have HC := Lib.hid (needValid_yes N a len cap bs W0 (hr.below hb0 (Nat.le_refl _)) hN1 hN2 hv)
  have HW := Lib.hid hW0
  have Hb := Lib.hid hb0
  have HB := Lib.hid hB
  clear hW0 hB hb0 hr hv
  obtain ⟨c1, c2, c3⟩ := hc
  go_enter Tryd.func78, Tryd.ntmps78
  go_upto_region 1 with fail
  rw [← HW.out]
  go_wp2_with fail
  refine HC.out.mono ?_
  rintro e w1 ⟨rfl, hb1⟩
  have HZ := Lib.hid (Hb.out.trans (hb1.mono Hb.out.size))
  have q0 : w1.cell? ⟨w.heap.size, 0, none⟩ = some (.int .i64 N) := (HB.out.below hb1 HB.out.lt).cell 0
  clear hb1 HC q1
  go_wp2_with fail
  refine (need_yes _ _).mono ?_
  rintro e w2 ⟨rfl, rfl⟩
  go_wp2_with fail
  go_end0
  exact ⟨rfl, HZ.out⟩
end
end Go.Proofs.YtknacgdjodmaiaaDoor

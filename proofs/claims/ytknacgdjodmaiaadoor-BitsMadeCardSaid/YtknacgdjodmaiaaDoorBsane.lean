/- The laws' common test holds. -/
import Derived.Test.YtknacgdjodmaiaaDoorBsane0
import Derived.Deep.WholeRow
import Derived.Lib.SlBytesConst
namespace Go.Proofs.YtknacgdjodmaiaaDoor
set_option linter.unusedVariables false
open Go.RowKit Go.Shelf

theorem Rd.lit (w : World) (xs : List Int) (hb : ∀ n ∈ xs, 0 ≤ n ∧ n ≤ 255) (hm : xs.length ≤ 1000) : Rd (w.alloc (.cells (xs.map (fun x => Value.int .u8 x)).toArray 5)) (some ⟨w.heap.size, 0, none⟩) xs.length xs.length xs := by
  have hB : Blk (w.alloc (.cells (xs.map (fun x => Value.int .u8 x)).toArray 5)) w.heap.size 5 (xs.map (fun x => Value.int .u8 x)).toArray := heap_new w _
  refine ⟨rfl, Nat.le_refl _, by unfold maxLen; omega, hb, (fun h => by cases h), fun _ => ⟨w.heap.size, 0, rfl, fun i hi => ?_⟩⟩
  rw [Nat.zero_add, hB.cell i]
  simp [List.getElem?_eq_getElem hi]
theorem OwnR.below {w w' : World} {B : Nat} {v : Value} {l : List (Nat × Nat)} (h : OwnR w B v l) (hb : Below w.heap.size w w') : OwnR w' B v l := by
  refine ⟨⟨h.1.1, ?_⟩, h.2⟩
  rcases h.1.2 with hn | ⟨g', cap, cur, rfl, hg0, hgg, rest⟩
  · exact .inl hn
  · refine .inr ⟨g', cap, cur, rfl, hg0, (hb.block g' ?_).trans hgg, rest⟩
    exact (Array.getElem?_eq_some_iff.1 hgg).1
/-- A bitmap in a box. -/
structure Bx (W : World) (g : Nat) (N : Int) (a : Option Addr) (l c : Nat) (xs : List Int) : Prop where
  blk : Blk W g 24 #[.int .i64 N, .slice a l c]
  rd : Rd W a l c xs
theorem Bx.below {W W' : World} {g : Nat} {N : Int} {a : Option Addr} {l c : Nat} {xs : List Int} (h : Bx W g N a l c xs) (hb : Below W.heap.size W W') : Bx W' g N a l c xs :=
  ⟨h.blk.below hb h.blk.lt, h.rd.below hb (Nat.le_refl _)⟩
/-- What a call made, in a box. -/
theorem boxed {w w1 : World} (h : Below w.heap.size w w1) (N : Int) (a : Option Addr) (l c : Nat) (xs : List Int) (hr : Rd w1 a l c xs) :
    ∃ g W, w1.heap.size = g ∧ w1.alloc (.cells #[.int .i64 N, .slice a l c] 24) = W ∧ Bx W g N a l c xs ∧ Below w.heap.size w W ∧ Below w1.heap.size w1 W :=
  have hb : Below w1.heap.size w1 (w1.alloc (.cells #[.int .i64 N, .slice a l c] 24)) := (Below.refl _ w1).alloc (Nat.le_refl _) _
  ⟨_, _, rfl, rfl, ⟨heap_new w1 _, hr.below hb (Nat.le_refl _)⟩, h.trans (hb.mono h.size), hb⟩
theorem own_read {w : World} {B : Nat} {a : Option Addr} {l c : Nat} {xs : List Int} (h : Own w B (.slice a l c) xs) : Rd w a l c xs := by
  obtain ⟨a', cap, hv, hr, -⟩ := h.rdb rfl
  injection hv with h1 h2 h3
  subst h1 h2 h3
  exact hr
set_option maxRecDepth 100000 in
set_option maxHeartbeats 4000000 in
theorem sane_any (w : World) (ho : Ones w) : Calls Tryd.prog 13 #[] w fun e w' => e = .returned (.bool true) ∧ Below w.heap.size w w' := by
  have HOn := Lib.hid ho
  clear ho
  go_enter Tryd.func13, Tryd.ntmps13
  go_wp2_with fail
  have hb0 : Below w.heap.size w (w.alloc (.cells #[.int .u8 35, .int .u8 8] 5)) := (Below.refl _ w).alloc (Nat.le_refl _) _
  refine (from_s _ _ _ _ (Rd.lit w [35, 8] (by simp) (by simp))).mono ?_
  rintro e w1 ⟨a, l, c, rfl, hw, hb⟩
  have Hb1 : Hid (Below w.heap.size w w1) := Lib.hid (hb0.trans (hb.mono hb0.size))
  have Hr1 := Lib.hid (own_read hw)
  clear hb0 hb hw
  go_upto_region 2 with fail
  obtain ⟨g1, W, e1, e2, hB, hb, hq⟩ := boxed Hb1.out 12 a l c _ Hr1.out
  rw [e2, e1]
  have HX := Lib.hid hB
  have Hb := Lib.hid hb
  have HO := Lib.hid (HOn.out.below hb (Nat.le_refl _))
  clear e1 e2 hB hb hq Hb1 Hr1 HOn
  have q0 : W.cell? ⟨g1, 0, none⟩ = some (.int .i64 12) := HX.out.blk.cell 0
  have q1 : W.cell? ⟨g1, 1, none⟩ = some (.slice a l c) := HX.out.blk.cell 1
  go_wp2_with fail
  refine (runs_s a l c W HX.out.rd).mono ?_
  rintro e W2 ⟨ar, lr, cr, rfl, hr, hb⟩
  have HX' := Lib.hid (HX.out.below hb)
  have HO' := Lib.hid (HO.out.below hb (Nat.le_refl _))
  have Hb' := Lib.hid (Hb.out.trans (hb.mono Hb.out.size))
  clear hb q0 q1 HO Hb HX
  have HX := HX'
  have HO := HO'
  have Hb := Hb'
  clear HX' HO' Hb'
  have HR := Lib.hid hr
  clear hr
  have q0 : W2.cell? ⟨g1, 0, none⟩ = some (.int .i64 12) := HX.out.blk.cell 0
  have q1 : W2.cell? ⟨g1, 1, none⟩ = some (.slice a l c) := HX.out.blk.cell 1
  go_wp2_with fail
  refine (find_s a l c W2 HX.out.rd).mono ?_
  rintro e W3 ⟨rfl, hb⟩
  have HX' := Lib.hid (HX.out.below hb)
  have HR' := Lib.hid (HR.out.below hb)
  have HO' := Lib.hid (HO.out.below hb (Nat.le_refl _))
  have Hb' := Lib.hid (Hb.out.trans (hb.mono Hb.out.size))
  clear hb q0 q1 HO Hb HX HR
  have HX := HX'
  have HR := HR'
  have HO := HO'
  have Hb := Hb'
  clear HX' HR' HO' Hb'
  have q0 : W3.cell? ⟨g1, 0, none⟩ = some (.int .i64 12) := HX.out.blk.cell 0
  have q1 : W3.cell? ⟨g1, 1, none⟩ = some (.slice a l c) := HX.out.blk.cell 1
  go_wp2_with fail
  refine (count_s a l c W3 HX.out.rd HO.out).mono ?_
  rintro e W4 ⟨rfl, hb⟩
  have HX' := Lib.hid (HX.out.below hb)
  have HR' := Lib.hid (HR.out.below hb)
  have HO' := Lib.hid (HO.out.below hb (Nat.le_refl _))
  have Hb' := Lib.hid (Hb.out.trans (hb.mono Hb.out.size))
  clear hb q0 q1 HO Hb HX HR
  have HX := HX'
  have HR := HR'
  have HO := HO'
  have Hb := Hb'
  clear HX' HR' HO' Hb'
  have q0 : W4.cell? ⟨g1, 0, none⟩ = some (.int .i64 12) := HX.out.blk.cell 0
  have q1 : W4.cell? ⟨g1, 1, none⟩ = some (.slice a l c) := HX.out.blk.cell 1
  go_wp2_with fail
  refine (set_s a l c W4 HX.out.rd).mono ?_
  rintro e W5 ⟨a9, l9, c9, rfl, hw, hb⟩
  have HX' := Lib.hid (HX.out.below hb)
  have HR' := Lib.hid (HR.out.below hb)
  have HO' := Lib.hid (HO.out.below hb (Nat.le_refl _))
  have Hb' := Lib.hid (Hb.out.trans (hb.mono Hb.out.size))
  clear hb q0 q1 HO Hb HX HR
  have HX := HX'
  have HR := HR'
  have HO := HO'
  have Hb := Hb'
  clear HX' HR' HO' Hb'
  have H9 := Lib.hid (own_read hw)
  clear hw
  go_upto_region 6 with fail
  obtain ⟨g9, W6, e1, e2, hB, hb, hq⟩ := boxed Hb.out 12 a9 l9 c9 _ H9.out
  rw [e2, e1]
  have HX' := Lib.hid (HX.out.below hq)
  have HR' := Lib.hid (HR.out.below hq)
  have HO' := Lib.hid (HO.out.below hq (Nat.le_refl _))
  have Hb' := Lib.hid hb
  have HS := Lib.hid hB
  clear e1 e2 hb hB hq HO Hb HX HR
  have HX := HX'
  have HR := HR'
  have HO := HO'
  have Hb := Hb'
  clear HX' HR' HO' Hb'
  clear H9
  have q0 : W6.cell? ⟨g1, 0, none⟩ = some (.int .i64 12) := HX.out.blk.cell 0
  have q1 : W6.cell? ⟨g1, 1, none⟩ = some (.slice a l c) := HX.out.blk.cell 1
  go_wp2_with fail
  refine (not_s a l c W6 HX.out.rd).mono ?_
  rintro e W7 ⟨a11, l11, c11, rfl, hw, hb⟩
  have HX' := Lib.hid (HX.out.below hb)
  have HR' := Lib.hid (HR.out.below hb)
  have HS' := Lib.hid (HS.out.below hb)
  have HO' := Lib.hid (HO.out.below hb (Nat.le_refl _))
  have Hb' := Lib.hid (Hb.out.trans (hb.mono Hb.out.size))
  clear hb q0 q1 HO Hb HX HR HS
  have HX := HX'
  have HR := HR'
  have HS := HS'
  have HO := HO'
  have Hb := Hb'
  clear HX' HR' HS' HO' Hb'
  have H11 := Lib.hid (own_read hw)
  clear hw
  go_upto_region 7 with fail
  obtain ⟨g11, W8, e1, e2, hB, hb, hq⟩ := boxed Hb.out 12 a11 l11 c11 _ H11.out
  rw [e2, e1]
  have HX' := Lib.hid (HX.out.below hq)
  have HR' := Lib.hid (HR.out.below hq)
  have HS' := Lib.hid (HS.out.below hq)
  have HO' := Lib.hid (HO.out.below hq (Nat.le_refl _))
  have Hb' := Lib.hid hb
  have HN := Lib.hid hB
  clear e1 e2 hb hB hq HO Hb HX HR HS
  have HX := HX'
  have HR := HR'
  have HS := HS'
  have HO := HO'
  have Hb := Hb'
  clear HX' HR' HS' HO' Hb'
  clear H11
  go_wp2_with fail
  obtain ⟨W9, hW9⟩ : ∃ W9, W9 = W8.alloc (.cells #[.int .u8 8] 5) := ⟨_, rfl⟩
  have hb9 : Below W8.heap.size W8 W9 := by rw [hW9]; exact (Below.refl _ W8).alloc (Nat.le_refl _) _
  have hr9 : Rd W9 (some ⟨W8.heap.size, 0, none⟩) 1 1 [8] := by rw [hW9]; exact Rd.lit W8 [8] (by simp) (by simp)
  rw [← hW9]
  refine (from_n _ _ _ W9 hr9).mono ?_
  rintro e W10 ⟨rfl, hb10⟩
  have hb : Below W8.heap.size W8 W10 := hb9.trans (hb10.mono hb9.size)
  have HX' := Lib.hid (HX.out.below hb)
  have HR' := Lib.hid (HR.out.below hb)
  have HS' := Lib.hid (HS.out.below hb)
  have HN' := Lib.hid (HN.out.below hb)
  have HO' := Lib.hid (HO.out.below hb (Nat.le_refl _))
  have Hb' := Lib.hid (Hb.out.trans (hb.mono Hb.out.size))
  clear hb hb9 hr9 hb10 hW9 HO Hb HX HR HS HN
  have HX := HX'
  have HR := HR'
  have HS := HS'
  have HN := HN'
  have HO := HO'
  have Hb := Hb'
  clear HX' HR' HS' HN' HO' Hb'
  go_upto_region 8 with fail
  obtain ⟨g13, W11, e1, e2, hB, hb, hq⟩ := boxed Hb.out 0 none 0 0 [] (Rd.nil W10)
  rw [e2, e1]
  have HX' := Lib.hid (HX.out.below hq)
  have HR' := Lib.hid (HR.out.below hq)
  have HS' := Lib.hid (HS.out.below hq)
  have HN' := Lib.hid (HN.out.below hq)
  have HO' := Lib.hid (HO.out.below hq (Nat.le_refl _))
  have Hb' := Lib.hid hb
  have H13 := Lib.hid hB
  clear e1 e2 hb hB hq HO Hb HX HR HS HN
  have HX := HX'
  have HR := HR'
  have HS := HS'
  have HN := HN'
  have HO := HO'
  have Hb := Hb'
  clear HX' HR' HS' HN' HO' Hb'
  clear H13
  have q0 : W11.cell? ⟨g1, 0, none⟩ = some (.int .i64 12) := HX.out.blk.cell 0
  have q1 : W11.cell? ⟨g1, 1, none⟩ = some (.slice a l c) := HX.out.blk.cell 1
  go_wp2_with fail
  refine (gather_s a l c W11 HX.out.rd).mono ?_
  rintro e W12 ⟨ag, lg, cg, rfl, hr, hb⟩
  have HX' := Lib.hid (HX.out.below hb)
  have HR' := Lib.hid (HR.out.below hb)
  have HS' := Lib.hid (HS.out.below hb)
  have HN' := Lib.hid (HN.out.below hb)
  have HO' := Lib.hid (HO.out.below hb (Nat.le_refl _))
  have Hb' := Lib.hid (Hb.out.trans (hb.mono Hb.out.size))
  clear hb q0 q1 HO Hb HX HR HS HN
  have HX := HX'
  have HR := HR'
  have HS := HS'
  have HN := HN'
  have HO := HO'
  have Hb := Hb'
  clear HX' HR' HS' HN' HO' Hb'
  have HG := Lib.hid hr
  clear hr
  obtain ⟨gr, rfl⟩ : ∃ g, ar = some ⟨g, 0, none⟩ := by
    rcases HR.out.1.2 with ⟨hv, h0⟩ | ⟨g, cap, cur, hv, -⟩
    · cases h0
    · injection hv with h1 h2 h3; exact ⟨g, h1⟩
  obtain ⟨gg, rfl⟩ : ∃ g, ag = some ⟨g, 0, none⟩ := by
    rcases HG.out.1.2 with ⟨hv, h0⟩ | ⟨g, cap, cur, hv, -⟩
    · cases h0
    · injection hv with h1 h2 h3; exact ⟨g, h1⟩
  obtain rfl : lr = 2 := HR.out.holds.1
  obtain rfl : lg = 2 := HG.out.holds.1
  have q2 : W12.cell? ⟨gr, 2, none⟩ = some (.int .i64 6) := (HR.out.at_ 1 (by decide)).1
  have q3 : W12.cell? ⟨gr, 3, none⟩ = some (.int .i64 5) := (HR.out.at_ 1 (by decide)).2
  have q4 : W12.cell? ⟨gg, 0, none⟩ = some (.int .i64 2) := (HG.out.at_ 0 (by decide)).1
  have q5 : W12.cell? ⟨gg, 1, none⟩ = some (.int .i64 2) := (HG.out.at_ 0 (by decide)).2
  have E1 : ∀ w, (binOp .eql 60 (.agg #[.int .i64 6, .int .i64 5]) (.agg #[.int .i64 6, .int .i64 5])).run Tryd.prog w = .ok (.bool true) w := fun w => by kernel_rfl
  have E2 : ∀ w, (binOp .eql 60 (.agg #[.int .i64 2, .int .i64 2]) (.agg #[.int .i64 2, .int .i64 2])).run Tryd.prog w = .ok (.bool true) w := fun w => by kernel_rfl
  go_upto_region 11 with fail
  have q6 : W12.cell? ⟨g9, 0, none⟩ = some (.int .i64 12) := HS.out.blk.cell 0
  have q7 : W12.cell? ⟨g9, 1, none⟩ = some (.slice a9 l9 c9) := HS.out.blk.cell 1
  go_wp2_with fail
  obtain ⟨V1, hV1⟩ : ∃ V1, V1 = W12.alloc (.cells #[.int .u8 123, .int .u8 8] 5) := ⟨_, rfl⟩
  have hbV : Below W12.heap.size W12 V1 := by rw [hV1]; exact (Below.refl _ W12).alloc (Nat.le_refl _) _
  have hrV : Rd V1 (some ⟨W12.heap.size, 0, none⟩) 2 2 [123, 8] := by rw [hV1]; exact Rd.lit W12 [123, 8] (by simp) (by simp)
  rw [← hV1]
  refine (same_any 12 12 a9 l9 c9 [123, 8] _ _ _ [123, 8] V1 (HS.out.rd.below hbV (Nat.le_refl _)) hrV).mono ?_
  rintro e V2 ⟨rfl, hb2⟩
  have hb := hbV.trans (hb2.mono hbV.size)
  have HN2 := Lib.hid (HN.out.below hb)
  have Hb2 := Lib.hid (Hb.out.trans (hb.mono Hb.out.size))
  clear hb hb2 hbV hrV hV1 q2 q3 q4 q5 q6 q7 HX HS HN HG HR HO Hb
  rw [show decide ((12 : Int) = 12 ∧ ([123, 8] : List Int) = [123, 8]) = true from by decide]
  have q8 : V2.cell? ⟨g11, 0, none⟩ = some (.int .i64 12) := HN2.out.blk.cell 0
  have q9 : V2.cell? ⟨g11, 1, none⟩ = some (.slice a11 l11 c11) := HN2.out.blk.cell 1
  go_wp2_with fail
  obtain ⟨V3, hV3⟩ : ∃ V3, V3 = V2.alloc (.cells #[.int .u8 220, .int .u8 7] 5) := ⟨_, rfl⟩
  have hbV : Below V2.heap.size V2 V3 := by rw [hV3]; exact (Below.refl _ V2).alloc (Nat.le_refl _) _
  have hrV : Rd V3 (some ⟨V2.heap.size, 0, none⟩) 2 2 [220, 7] := by rw [hV3]; exact Rd.lit V2 [220, 7] (by simp) (by simp)
  rw [← hV3]
  refine (same_any 12 12 a11 l11 c11 [220, 7] _ _ _ [220, 7] V3 (HN2.out.rd.below hbV (Nat.le_refl _)) hrV).mono ?_
  rintro e V4 ⟨rfl, hb4⟩
  have hb := hbV.trans (hb4.mono hbV.size)
  have Hb4 := Lib.hid (Hb2.out.trans (hb.mono Hb2.out.size))
  clear hb hb4 hbV hrV hV3 q8 q9 HN2 Hb2
  rw [show decide ((12 : Int) = 12 ∧ ([220, 7] : List Int) = [220, 7]) = true from by decide]
  go_wp2_with fail
  go_ret
  exact ⟨rfl, Hb4.out⟩
end Go.Proofs.YtknacgdjodmaiaaDoor

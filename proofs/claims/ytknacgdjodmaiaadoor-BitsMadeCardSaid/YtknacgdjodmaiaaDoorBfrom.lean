/- New and From. -/
import Derived.Test.YtknacgdjodmaiaaDoorBlift
namespace Go.Proofs.YtknacgdjodmaiaaDoor
set_option linter.unusedVariables false
open Go.RowKit Go.Shelf

theorem Blk.boxed {W : World} {g : Nat} {t : TypeId} {v : Value} (h : Blk W g t #[v]) : Boxed W g t v := h
/-- The result of a function literal: a box of a bitmap, made first. -/
theorem lit_box (W : World) : ∃ W0, W.alloc (.cells #[.int .i64 0, .slice none 0 0] 24) = W0 ∧ Blk W0 W.heap.size 24 #[.int .i64 0, .slice none 0 0] ∧ Below W.heap.size W W0 ∧ W0.heap.size = W.heap.size + 1 :=
  ⟨_, rfl, heap_new W _, (Below.refl _ W).alloc (Nat.le_refl _) _, by simp⟩
set_option maxRecDepth 100000 in
set_option maxHeartbeats 2000000 in
theorem new1_no (g : Nat) (N : Int) (W : World) (hB : Blk W g 3 #[.int .i64 N]) (hs : ¬ (0 ≤ N ∧ N ≤ 65536)) :
    Calls Tryd.prog 58 #[.pointer (some ⟨g, 0, none⟩)] W fun e w' => e = pan 1 ∧ Below W.heap.size W w' := by
  obtain ⟨W0, hW0, hRes, hb0, hs0⟩ := lit_box W
  have q0 := (hB.below hb0 hB.lt).boxed.cell
  have HW := Lib.hid hW0
  have Hb := Lib.hid hb0
  have C := Lib.hid (size_no N hs W0)
  clear hW0 hRes hb0 hs0 hB hs
  go_enter Tryd.func58, Tryd.ntmps58
  go_upto_region 1 with fail
  rw [HW.out]
  go_wp2_with fail
  refine C.out.mono ?_
  rintro e w2 ⟨rfl, rfl⟩
  go_wp2_with fail
  refine (need_no _ _).mono ?_
  rintro e w2 ⟨rfl, rfl⟩
  exact ⟨rfl, rfl, Hb.out⟩
set_option maxRecDepth 100000 in
set_option maxHeartbeats 2000000 in
theorem new1_ok (g : Nat) (N : Int) (m : Nat) (W : World) (hB : Blk W g 3 #[.int .i64 N]) (hs : 0 ≤ N ∧ N ≤ 65536) (hm : (N + 7) / 8 = (m : Int)) :
    Calls Tryd.prog 58 #[.pointer (some ⟨g, 0, none⟩)] W fun e w' => ∃ a l c, e = .returned (.agg #[.int .i64 N, .slice a l c]) ∧ Own w' W.heap.size (.slice a l c) (List.replicate m 0) ∧ Below W.heap.size W w' := by
  obtain ⟨W0, hW0, hRes, hb0, hs0⟩ := lit_box W
  have q0 := (hB.below hb0 hB.lt).boxed.cell
  have HW := Lib.hid hW0
  have Hb := Lib.hid hb0
  have HRes := Lib.hid hRes
  have Hs0 := Lib.hid hs0
  have C := Lib.hid (size_yes N hs W0)
  have C2 := Lib.hid (empty_any N m W0 hs.1 hs.2 hm)
  clear hW0 hRes hb0 hs0 hB hs hm
  go_enter Tryd.func58, Tryd.ntmps58
  go_upto_region 1 with fail
  rw [HW.out]
  go_wp2_with fail
  refine C.out.mono ?_
  rintro e w2 ⟨rfl, rfl⟩
  go_wp2_with fail
  refine (need_yes _ _).mono ?_
  rintro e w2 ⟨rfl, rfl⟩
  go_wp2_with fail
  refine C2.out.mono ?_
  rintro e w1 ⟨a, rfl, ho, hb⟩
  have hR1 : Blk w1 W.heap.size 24 #[.int .i64 0, .slice none 0 0] := HRes.out.below hb HRes.out.lt
  have HO := Lib.hid ho
  have Hb1 := Lib.hid (Hb.out.trans (hb.mono Hb.out.size))
  have HR1 := Lib.hid hR1
  have f0 := hR1.frozen 0
  have f1 := hR1.frozen 1
  have k0 : w1.cell? ⟨W.heap.size, 0, none⟩ = some (.int .i64 0) := hR1.cell 0
  have k1 : w1.cell? ⟨W.heap.size, 1, none⟩ = some (.slice none 0 0) := hR1.cell 1
  clear hb hR1 HRes ho C C2 Hb HW
  go_wp2_with fail
  rw [cells2 HR1.out]
  obtain ⟨V, hV, rV, bV, sV, oV⟩ := filled HR1.out #[.int .i64 N, .slice (some a) m m]
  rw [hV]
  clear f0 f1 k0 k1
  have z0 : V.cell? ⟨W.heap.size, 0, none⟩ = some (.int .i64 N) := (show Blk V _ 24 _ from rV).cell 0
  have z1 : V.cell? ⟨W.heap.size, 1, none⟩ = some (.slice (some a) m m) := (show Blk V _ 24 _ from rV).cell 1
  have HZ : Hid (Own V W.heap.size (.slice (some a) m m) (List.replicate m 0) ∧ Below W.heap.size W V) := Lib.hid ⟨(HO.out.other oV (by have := Hs0.out; omega)).mono (by have := Hs0.out; omega), Hb1.out.trans bV⟩
  clear HR1 Hb1 rV bV sV oV hV HO
  simp [bodyPost, results, Tryd.results58, go_sem, z0, z1]
  exact ⟨_, _, _, ⟨rfl, rfl, rfl⟩, HZ.out.1, HZ.out.2⟩
set_option maxRecDepth 100000 in
set_option maxHeartbeats 2000000 in
theorem from1_no (g h : Nat) (N : Int) (a : Option Addr) (l c : Nat) (bs : List Int) (W : World) (hB : Blk W g 3 #[.int .i64 N]) (hH : Blk W h 22 #[.slice a l c]) (hr : Rd W a l c bs) (hs : ¬ (0 ≤ N ∧ N ≤ 65536)) :
    Calls Tryd.prog 62 #[.pointer (some ⟨g, 0, none⟩), .pointer (some ⟨h, 0, none⟩)] W fun e w' => e = pan 1 ∧ Below W.heap.size W w' := by
  obtain ⟨W0, hW0, hRes, hb0, hs0⟩ := lit_box W
  have q0 := (hB.below hb0 hB.lt).boxed.cell
  have q1 := (hH.below hb0 hH.lt).boxed.cell
  have HW := Lib.hid hW0
  have Hb := Lib.hid hb0
  have C := Lib.hid (size_no N hs W0)
  clear hW0 hRes hb0 hs0 hB hH hs hr
  go_enter Tryd.func62, Tryd.ntmps62
  go_upto_region 1 with fail
  rw [HW.out]
  go_wp2_with fail
  refine C.out.mono ?_
  rintro e w2 ⟨rfl, rfl⟩
  go_wp2_with fail
  refine (need_no _ _).mono ?_
  rintro e w2 ⟨rfl, rfl⟩
  exact ⟨rfl, rfl, Hb.out⟩
set_option maxRecDepth 100000 in
set_option maxHeartbeats 2000000 in
theorem from1_form (g h : Nat) (N : Int) (a : Option Addr) (l c : Nat) (bs : List Int) (W : World) (hB : Blk W g 3 #[.int .i64 N]) (hH : Blk W h 22 #[.slice a l c]) (hr : Rd W a l c bs) (hs : 0 ≤ N ∧ N ≤ 65536) (hv : validB N bs = false) :
    Calls Tryd.prog 62 #[.pointer (some ⟨g, 0, none⟩), .pointer (some ⟨h, 0, none⟩)] W fun e w' => e = pan 4 ∧ Below W.heap.size W w' := by
  obtain ⟨W0, hW0, hRes, hb0, hs0⟩ := lit_box W
  have q0 := (hB.below hb0 hB.lt).boxed.cell
  have q1 := (hH.below hb0 hH.lt).boxed.cell
  have HW := Lib.hid hW0
  have Hb := Lib.hid hb0
  obtain ⟨V, hV⟩ : ∃ V, V = W0.alloc (.cells #[.int .i64 N, .slice a l c] 24) := ⟨_, rfl⟩
  have hbV : Below W0.heap.size W0 V := by rw [hV]; exact (Below.refl _ W0).alloc (Nat.le_refl _) _
  have hBV : Blk V W0.heap.size 24 #[.int .i64 N, .slice a l c] := by rw [hV]; exact heap_new W0 _
  have hbW : Below W.heap.size W V := hb0.trans (hbV.mono hb0.size)
  have CV := valid_any N a l c bs V (hr.below hbW (Nat.le_refl _)) (by omega) (by omega)
  rw [hv] at CV
  have HCV := Lib.hid CV
  have HV := Lib.hid hV
  have HbW := Lib.hid hbW
  have HBV := Lib.hid hBV
  have C := Lib.hid (size_yes N hs W0)
  have u0 : V.cell? ⟨W0.heap.size, 0, none⟩ = some (.int .i64 N) := hBV.cell 0
  have u1 : V.cell? ⟨W0.heap.size, 1, none⟩ = some (.slice a l c) := hBV.cell 1
  clear hW0 hRes hb0 hs0 hB hH hs hr hv hV hbV hBV hbW CV
  go_enter Tryd.func62, Tryd.ntmps62
  go_upto_region 1 with fail
  rw [HW.out]
  go_wp2_with fail
  refine C.out.mono ?_
  rintro e w2 ⟨rfl, rfl⟩
  go_wp2_with fail
  refine (need_yes _ _).mono ?_
  rintro e w2 ⟨rfl, rfl⟩
  go_upto_region 3 with fail
  rw [← HV.out]
  go_wp2_with fail
  refine HCV.out.mono ?_
  rintro e w3 ⟨rfl, hb3⟩
  have HZ := Lib.hid (HbW.out.trans (hb3.mono HbW.out.size))
  clear hb3 HCV
  go_wp2_with fail
  refine (need_no _ _).mono ?_
  rintro e w2 ⟨rfl, rfl⟩
  exact ⟨rfl, rfl, HZ.out⟩
set_option maxRecDepth 100000 in
set_option maxHeartbeats 2000000 in
theorem from1_ok (g h : Nat) (N : Int) (a : Option Addr) (l c : Nat) (bs : List Int) (W : World) (hB : Blk W g 3 #[.int .i64 N]) (hH : Blk W h 22 #[.slice a l c]) (hr : Rd W a l c bs) (hv : validB N bs = true) :
    Calls Tryd.prog 62 #[.pointer (some ⟨g, 0, none⟩), .pointer (some ⟨h, 0, none⟩)] W fun e w' => ∃ a' l' c', e = .returned (.agg #[.int .i64 N, .slice a' l' c']) ∧ Own w' W.heap.size (.slice a' l' c') bs ∧ Below W.heap.size W w' := by
  obtain ⟨W0, hW0, hRes, hb0, hs0⟩ := lit_box W
  have q0 := (hB.below hb0 hB.lt).boxed.cell
  have q1 := (hH.below hb0 hH.lt).boxed.cell
  have HW := Lib.hid hW0
  have Hb := Lib.hid hb0
  obtain ⟨v1, v2, v3, -⟩ := (validB_iff N bs).mp hv
  have hs : 0 ≤ N ∧ N ≤ 65536 := ⟨v1, v2⟩
  have hl := hr.hl
  obtain ⟨V, hV⟩ : ∃ V, V = W0.alloc (.cells #[.int .i64 N, .slice a l c] 24) := ⟨_, rfl⟩
  have hbV : Below W0.heap.size W0 V := by rw [hV]; exact (Below.refl _ W0).alloc (Nat.le_refl _) _
  have hBV : Blk V W0.heap.size 24 #[.int .i64 N, .slice a l c] := by rw [hV]; exact heap_new W0 _
  have hbW : Below W.heap.size W V := hb0.trans (hbV.mono hb0.size)
  have CV := valid_any N a l c bs V (hr.below hbW (Nat.le_refl _)) (by omega) (by omega)
  rw [hv] at CV
  have HCV := Lib.hid CV
  have HV := Lib.hid hV
  have HbW := Lib.hid hbW
  have HBV := Lib.hid hBV
  have C := Lib.hid (size_yes N hs W0)
  have u0 : V.cell? ⟨W0.heap.size, 0, none⟩ = some (.int .i64 N) := hBV.cell 0
  have u1 : V.cell? ⟨W0.heap.size, 1, none⟩ = some (.slice a l c) := hBV.cell 1
  have HR := Lib.hid (hr.below hbW (Nat.le_refl _))
  have HRes := Lib.hid (hRes.below hbV (by omega))
  have Hs0 := Lib.hid hs0
  have hl9 : l ≤ 140737488355328 := by omega
  clear hW0 hRes hb0 hs0 hB hH hs hr hv hV hbV hBV hbW CV v1 v2 v3 hl
  go_enter Tryd.func62, Tryd.ntmps62
  go_upto_region 1 with fail
  rw [HW.out]
  go_wp2_with fail
  refine C.out.mono ?_
  rintro e w2 ⟨rfl, rfl⟩
  go_wp2_with fail
  refine (need_yes _ _).mono ?_
  rintro e w2 ⟨rfl, rfl⟩
  go_upto_region 3 with fail
  rw [← HV.out]
  go_wp2_with fail
  refine HCV.out.mono ?_
  rintro e w3 ⟨rfl, hb3⟩
  have HR3 := Lib.hid (HR.out.below hb3 (Nat.le_refl _))
  have HRes3 := Lib.hid (HRes.out.below hb3 HRes.out.lt)
  have hB3 := HBV.out.below hb3 HBV.out.lt
  have Hb3 := Lib.hid (HbW.out.trans (hb3.mono HbW.out.size))
  have u2 : w3.cell? ⟨W0.heap.size, 0, none⟩ = some (.int .i64 N) := hB3.cell 0
  have u3 : w3.cell? ⟨W0.heap.size, 1, none⟩ = some (.slice a l c) := hB3.cell 1
  have h3 : W0.heap.size < w3.heap.size := hB3.lt
  clear hb3 HCV u0 u1 hB3 HRes HR HBV HbW HV
  go_wp2_with fail
  refine (need_yes _ _).mono ?_
  rintro e w2 ⟨rfl, rfl⟩
  go_wp2_with fail
  refine (cloneB_any N a l c bs w3 HR3.out hl9).mono ?_
  rintro e w1 ⟨a', c', rfl, ho, hb⟩
  have hR1 : Blk w1 W.heap.size 24 #[.int .i64 0, .slice none 0 0] := HRes3.out.below hb HRes3.out.lt
  have HO := Lib.hid ho
  have Hb1 := Lib.hid (Hb3.out.trans (hb.mono Hb3.out.size))
  have HR1 := Lib.hid hR1
  have f0 := hR1.frozen 0
  have f1 := hR1.frozen 1
  have k0 : w1.cell? ⟨W.heap.size, 0, none⟩ = some (.int .i64 0) := hR1.cell 0
  have k1 : w1.cell? ⟨W.heap.size, 1, none⟩ = some (.slice none 0 0) := hR1.cell 1
  clear hb hR1 HRes3 ho C Hb HW u2 u3
  go_wp2_with fail
  rw [cells2 HR1.out]
  obtain ⟨V2, hV, rV, bV, sV, oV⟩ := filled HR1.out #[.int .i64 N, .slice a' l c']
  rw [hV]
  clear f0 f1 k0 k1
  have z0 : V2.cell? ⟨W.heap.size, 0, none⟩ = some (.int .i64 N) := (show Blk V2 _ 24 _ from rV).cell 0
  have z1 : V2.cell? ⟨W.heap.size, 1, none⟩ = some (.slice a' l c') := (show Blk V2 _ 24 _ from rV).cell 1
  have HZ : Hid (Own V2 W.heap.size (.slice a' l c') bs ∧ Below W.heap.size W V2) := Lib.hid ⟨(HO.out.other oV (by have := Hs0.out; omega)).mono (by have := Hs0.out; omega), Hb1.out.trans bV⟩
  clear HR1 Hb1 rV bV sV oV hV HO
  simp [bodyPost, results, Tryd.results62, go_sem, z0, z1]
  exact ⟨_, _, _, ⟨rfl, rfl, rfl⟩, HZ.out.1, HZ.out.2⟩
end Go.Proofs.YtknacgdjodmaiaaDoor

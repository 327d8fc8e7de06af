/- Set. -/
import Derived.Test.YtknacgdjodmaiaaDoorBfrom
namespace Go.Proofs.YtknacgdjodmaiaaDoor
set_option linter.unusedVariables false
open Go.RowKit Go.Shelf

set_option maxRecDepth 100000 in
set_option maxHeartbeats 2000000 in
theorem set1_bad (g0 g1 g2 g3 : Nat) (N : Int) (a : Option Addr) (l c : Nat) (bs : List Int) (at_ m : Int) (on : Bool) (W : World) (hB : Blk W g0 24 #[.int .i64 N, .slice a l c]) (h1 : Blk W g1 3 #[.int .i64 at_]) (h2 : Blk W g2 3 #[.int .i64 m]) (h3 : Blk W g3 4 #[.bool on]) (hr : Rd W a l c bs) (hN1 : -9223372036854775808 ≤ N) (hN2 : N ≤ 9223372036854775807) (ha1 : -9223372036854775808 ≤ at_) (ha2 : at_ ≤ 9223372036854775807) (hv : validB N bs = false) :
    Calls Tryd.prog 48 #[.pointer (some ⟨g0, 0, none⟩), .pointer (some ⟨g1, 0, none⟩), .pointer (some ⟨g2, 0, none⟩), .pointer (some ⟨g3, 0, none⟩)] W fun e w' => e = pan 9 ∧ Below W.heap.size W w' := by
  obtain ⟨W0, hW0, hRes, hb0, hs0⟩ := lit_box W
  have q0 : W0.cell? ⟨g0, 0, none⟩ = some (.int .i64 N) := (hB.below hb0 hB.lt).cell 0
  have q1 : W0.cell? ⟨g0, 1, none⟩ = some (.slice a l c) := (hB.below hb0 hB.lt).cell 1
  have q2 := (h1.below hb0 h1.lt).boxed.cell
  have q3 := (h2.below hb0 h2.lt).boxed.cell
  have HW := Lib.hid hW0
  have Hb := Lib.hid hb0
  have C := Lib.hid (needRange_bad N a l c bs W0 (hr.below hb0 (Nat.le_refl _)) hN1 hN2 at_ m ha1 ha2 hv)
  clear hW0 hRes hb0 hs0 hB h1 h2 h3 hr hv
  go_enter Tryd.func48, Tryd.ntmps48
  go_upto_region 1 with fail
  rw [HW.out]
  go_wp2_with fail
  refine C.out.mono ?_
  rintro e w2 ⟨rfl, hb⟩
  exact ⟨rfl, rfl, Hb.out.trans (hb.mono Hb.out.size)⟩
set_option maxRecDepth 100000 in
set_option maxHeartbeats 2000000 in
theorem set1_rng (g0 g1 g2 g3 : Nat) (N : Int) (a : Option Addr) (l c : Nat) (bs : List Int) (at_ m : Int) (on : Bool) (W : World) (hB : Blk W g0 24 #[.int .i64 N, .slice a l c]) (h1 : Blk W g1 3 #[.int .i64 at_]) (h2 : Blk W g2 3 #[.int .i64 m]) (h3 : Blk W g3 4 #[.bool on]) (hr : Rd W a l c bs) (hN1 : -9223372036854775808 ≤ N) (hN2 : N ≤ 9223372036854775807) (ha1 : -9223372036854775808 ≤ at_) (ha2 : at_ ≤ 9223372036854775807) (hv : validB N bs = true) (hc : ¬ (0 ≤ at_ ∧ 0 ≤ m ∧ m ≤ N - at_)) :
    Calls Tryd.prog 48 #[.pointer (some ⟨g0, 0, none⟩), .pointer (some ⟨g1, 0, none⟩), .pointer (some ⟨g2, 0, none⟩), .pointer (some ⟨g3, 0, none⟩)] W fun e w' => e = pan 1 ∧ Below W.heap.size W w' := by
  obtain ⟨W0, hW0, hRes, hb0, hs0⟩ := lit_box W
  have q0 : W0.cell? ⟨g0, 0, none⟩ = some (.int .i64 N) := (hB.below hb0 hB.lt).cell 0
  have q1 : W0.cell? ⟨g0, 1, none⟩ = some (.slice a l c) := (hB.below hb0 hB.lt).cell 1
  have q2 := (h1.below hb0 h1.lt).boxed.cell
  have q3 := (h2.below hb0 h2.lt).boxed.cell
  have HW := Lib.hid hW0
  have Hb := Lib.hid hb0
  have C := Lib.hid (needRange_no N a l c bs W0 (hr.below hb0 (Nat.le_refl _)) hN1 hN2 at_ m ha1 ha2 hv hc)
  clear hW0 hRes hb0 hs0 hB h1 h2 h3 hr hv hc
  go_enter Tryd.func48, Tryd.ntmps48
  go_upto_region 1 with fail
  rw [HW.out]
  go_wp2_with fail
  refine C.out.mono ?_
  rintro e w2 ⟨rfl, hb⟩
  exact ⟨rfl, rfl, Hb.out.trans (hb.mono Hb.out.size)⟩
set_option maxRecDepth 100000 in
set_option maxHeartbeats 2000000 in
theorem set1_ok (g0 g1 g2 g3 : Nat) (N : Int) (a : Option Addr) (l c : Nat) (bs : List Int) (at_ m e : Nat) (on : Bool) (W : World) (hB : Blk W g0 24 #[.int .i64 N, .slice a l c]) (h1 : Blk W g1 3 #[.int .i64 (at_ : Int)]) (h2 : Blk W g2 3 #[.int .i64 (m : Int)]) (h3 : Blk W g3 4 #[.bool on]) (hr : Rd W a l c bs) (hv : validB N bs = true) (he : e = at_ + m) (hc : (e : Int) ≤ N) :
    Calls Tryd.prog 48 #[.pointer (some ⟨g0, 0, none⟩), .pointer (some ⟨g1, 0, none⟩), .pointer (some ⟨g2, 0, none⟩), .pointer (some ⟨g3, 0, none⟩)] W fun e' w' => ∃ a' l' c', e' = .returned (.agg #[.int .i64 N, .slice a' l' c']) ∧ Own w' W.heap.size (.slice a' l' c') (fillV bs at_ e on) ∧ Below W.heap.size W w' := by
  obtain ⟨W0, hW0, hRes, hb0, hs0⟩ := lit_box W
  have q0 : W0.cell? ⟨g0, 0, none⟩ = some (.int .i64 N) := (hB.below hb0 hB.lt).cell 0
  have q1 : W0.cell? ⟨g0, 1, none⟩ = some (.slice a l c) := (hB.below hb0 hB.lt).cell 1
  have q2 := (h1.below hb0 h1.lt).boxed.cell
  have q3 := (h2.below hb0 h2.lt).boxed.cell
  have HW := Lib.hid hW0
  have Hb := Lib.hid hb0
  obtain ⟨v1, v2, v3, -⟩ := (validB_iff N bs).mp hv
  have hl := hr.hl
  have C := Lib.hid (needRange_yes N a l c bs W0 (hr.below hb0 (Nat.le_refl _)) (by omega) (by omega) at_ m (by omega) (by omega) hv ⟨by omega, by omega, by omega⟩)
  have HR := Lib.hid (hr.below hb0 (Nat.le_refl _))
  have HB := Lib.hid (hB.below hb0 hB.lt)
  have H1 := Lib.hid (h1.below hb0 h1.lt)
  have H2 := Lib.hid (h2.below hb0 h2.lt)
  have H3 := Lib.hid (h3.below hb0 h3.lt)
  have HRes := Lib.hid hRes
  have Hs0 := Lib.hid hs0
  have hl9 : l ≤ 9000 := by omega
  have he8 : e ≤ 8 * l := by omega
  have hlt : g0 < W.heap.size ∧ g1 < W.heap.size ∧ g2 < W.heap.size ∧ g3 < W.heap.size := ⟨hB.lt, h1.lt, h2.lt, h3.lt⟩
  clear hW0 hRes hb0 hB h1 h2 h3 hr hv v1 v2 v3 hc
  go_enter Tryd.func48, Tryd.ntmps48
  go_upto_region 1 with fail
  rw [HW.out]
  go_wp2_with fail
  refine C.out.mono ?_
  rintro e1 w1 ⟨rfl, hb1⟩
  have HR1 := Lib.hid (HR.out.below hb1 (Nat.le_refl _))
  have hB1 := HB.out.below hb1 HB.out.lt
  have H11 := H1.out.below hb1 H1.out.lt
  have H21 := H2.out.below hb1 H2.out.lt
  have H31 := H3.out.below hb1 H3.out.lt
  have HRes1 := Lib.hid (HRes.out.below hb1 HRes.out.lt)
  have p0 : w1.cell? ⟨g0, 0, none⟩ = some (.int .i64 N) := hB1.cell 0
  have p1 : w1.cell? ⟨g0, 1, none⟩ = some (.slice a l c) := hB1.cell 1
  have H11 := Lib.hid H11
  have H21 := Lib.hid H21
  have H31 := Lib.hid H31
  have Hb1 := Lib.hid (Hb.out.trans (hb1.mono Hb.out.size))
  have hs1 : W.heap.size + 1 ≤ w1.heap.size := by have := hb1.size; omega
  clear hb1 hB1 C HW Hb HB H1 H2 H3 HR HRes q0 q1 q2 q3
  go_wp2_with fail
  refine (cloneB_any N a l c bs w1 HR1.out (by omega)).mono ?_
  rintro e2 w2 ⟨a2, c2, rfl, ho, hb2⟩
  obtain ⟨V, hV⟩ : ∃ V, V = w2.alloc (.cells #[.int .i64 N, .slice a2 l c2] 24) := ⟨_, rfl⟩
  have hbV : Below w2.heap.size w2 V := by rw [hV]; exact (Below.refl _ w2).alloc (Nat.le_refl _) _
  have hBV : Blk V w2.heap.size 24 #[.int .i64 N, .slice a2 l c2] := by rw [hV]; exact heap_new w2 _
  have hs2 := hb2.size
  have hb2V : Below w1.heap.size w1 V := hb2.trans (hbV.mono hb2.size)
  have hOV := ho.below hbV (Nat.le_refl _)
  have hsV : w2.heap.size < V.heap.size := hBV.lt
  have hrow : ∀ x, a2 = some x → x.block ≠ w2.heap.size := by
    intro x hx
    subst hx
    rcases ho.1.2 with ⟨h1, _⟩ | ⟨g', cap', cur, h1, _, h2, _⟩
    · cases h1
    · have hx2 := (Value.slice.inj h1).1
      have hlt2 := (Array.getElem?_eq_some_iff.1 h2).1
      simp only [Option.some.injEq] at hx2
      subst hx2
      simp only
      omega
  have HOV := Lib.hid hOV
  have HBV := Lib.hid hBV
  have HbV := Lib.hid (Hb1.out.trans (hb2V.mono (by omega)))
  have HResV := Lib.hid (HRes1.out.below hb2V (by omega))
  have u0 : V.cell? ⟨w2.heap.size, 0, none⟩ = some (.int .i64 N) := hBV.cell 0
  have u1 : V.cell? ⟨w2.heap.size, 1, none⟩ = some (.slice a2 l c2) := hBV.cell 1
  have u2 := (H11.out.below hb2V H11.out.lt).boxed.cell
  have u3 := (H21.out.below hb2V H21.out.lt).boxed.cell
  have u4 := (H31.out.below hb2V H31.out.lt).boxed.cell
  have HV := Lib.hid hV
  have Hrow := Lib.hid hrow
  clear ho hb2 hbV hBV hb2V hOV hV hrow HR1 H11 H21 H31 HRes1 Hb1 p0 p1
  go_upto_region 3 with fail
  rw [← HV.out]
  go_wp2_with fail
  refine (fill_any N w1.heap.size c2 a2 bs l at_ m e on V hl HOV.out he he8 hl9 (by omega)).mono ?_
  rintro e3 w3 ⟨rfl, hO3, hF⟩
  have hB3 : Blk w3 w2.heap.size 24 #[.int .i64 N, .slice a2 l c2] := (hF.others _ hsV Hrow.out).trans HBV.out
  have hR3 : Blk w3 W.heap.size 24 #[.int .i64 0, .slice none 0 0] := HResV.out.below hF.below (by omega)
  have HR1 := Lib.hid hR3
  have HO := Lib.hid hO3
  have Hb3 := Lib.hid (HbV.out.trans (hF.below.mono (by omega)))
  have u0 : w3.cell? ⟨w2.heap.size, 0, none⟩ = some (.int .i64 N) := hB3.cell 0
  have u1 : w3.cell? ⟨w2.heap.size, 1, none⟩ = some (.slice a2 l c2) := hB3.cell 1
  have f0 := hR3.frozen 0
  have f1 := hR3.frozen 1
  have k0 : w3.cell? ⟨W.heap.size, 0, none⟩ = some (.int .i64 0) := hR3.cell 0
  have k1 : w3.cell? ⟨W.heap.size, 1, none⟩ = some (.slice none 0 0) := hR3.cell 1
  clear hB3 hR3 hO3 hF HResV HBV HOV HbV u2 u3 u4 HV Hrow
  go_wp2_with fail
  rw [cells2 HR1.out]
  obtain ⟨V2, hV, rV, bV, sV, oV⟩ := filled HR1.out #[.int .i64 N, .slice a2 l c2]
  rw [hV]
  clear f0 f1 k0 k1 u0 u1
  have z0 : V2.cell? ⟨W.heap.size, 0, none⟩ = some (.int .i64 N) := (show Blk V2 _ 24 _ from rV).cell 0
  have z1 : V2.cell? ⟨W.heap.size, 1, none⟩ = some (.slice a2 l c2) := (show Blk V2 _ 24 _ from rV).cell 1
  have HZ : Hid (Own V2 W.heap.size (.slice a2 l c2) (fillV bs at_ e on) ∧ Below W.heap.size W V2) := Lib.hid ⟨(HO.out.other oV (by omega)).mono (by omega), Hb3.out.trans bV⟩
  clear HR1 Hb3 rV bV sV oV hV HO
  simp [bodyPost, results, Tryd.results48, go_sem, z0, z1]
  exact ⟨_, _, _, ⟨rfl, rfl, rfl⟩, HZ.out.1, HZ.out.2⟩
end Go.Proofs.YtknacgdjodmaiaaDoor

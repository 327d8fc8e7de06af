/- Gather: ranges of clear bits. -/
import Derived.Test.YtknacgdjodmaiaaDoorBfindf
import Derived.Test.YtknacgdjodmaiaaDoorBlongno
import Derived.Great.BuildSlice
namespace Go.Proofs.YtknacgdjodmaiaaDoor
set_option linter.unusedVariables false
open Go.RowKit Go.Shelf

set_option maxRecDepth 100000 in
set_option maxHeartbeats 2000000 in
theorem gather1_bad (g0 g1 g2 : Nat) (N : Int) (a : Option Addr) (l c : Nat) (bs : List Int) (many : Int) (near : Int) (W : World) (hB : Blk W g0 24 #[.int .i64 N, .slice a l c]) (h1 : Blk W g1 3 #[.int .i64 many]) (h2 : Blk W g2 3 #[.int .i64 near]) (hr : Rd W a l c bs) (hN1 : -9223372036854775808 ≤ N) (hN2 : N ≤ 9223372036854775807) (hv : validB N bs = false) :
    Calls Tryd.prog 80 #[.pointer (some ⟨g0, 0, none⟩), .pointer (some ⟨g1, 0, none⟩), .pointer (some ⟨g2, 0, none⟩)] W fun e w' => e = pan 9 ∧ Below W.heap.size W w' := by
  have q0 : W.cell? ⟨g0, 0, none⟩ = some (.int .i64 N) := hB.cell 0
  have q1 : W.cell? ⟨g0, 1, none⟩ = some (.slice a l c) := hB.cell 1
  have q2 := h1.boxed.cell
  have q3 := h2.boxed.cell
  have C := Lib.hid (needPlace_bad N a l c bs W hr hN1 hN2 many near hv)
  clear hB h1 h2 hr hv
  go_enter Tryd.func80, Tryd.ntmps80
  go_wp2_with fail
  refine C.out.mono ?_
  rintro e w2 ⟨rfl, hb⟩
  exact ⟨rfl, rfl, hb⟩
set_option maxRecDepth 100000 in
set_option maxHeartbeats 2000000 in
theorem gather1_rng (g0 g1 g2 : Nat) (N : Int) (a : Option Addr) (l c : Nat) (bs : List Int) (many : Int) (near : Int) (W : World) (hB : Blk W g0 24 #[.int .i64 N, .slice a l c]) (h1 : Blk W g1 3 #[.int .i64 many]) (h2 : Blk W g2 3 #[.int .i64 near]) (hr : Rd W a l c bs) (hN1 : -9223372036854775808 ≤ N) (hN2 : N ≤ 9223372036854775807) (hv : validB N bs = true) (hc : ¬ (1 ≤ many ∧ 0 ≤ near ∧ near ≤ N)) :
    Calls Tryd.prog 80 #[.pointer (some ⟨g0, 0, none⟩), .pointer (some ⟨g1, 0, none⟩), .pointer (some ⟨g2, 0, none⟩)] W fun e w' => e = pan 1 ∧ Below W.heap.size W w' := by
  have q0 : W.cell? ⟨g0, 0, none⟩ = some (.int .i64 N) := hB.cell 0
  have q1 : W.cell? ⟨g0, 1, none⟩ = some (.slice a l c) := hB.cell 1
  have q2 := h1.boxed.cell
  have q3 := h2.boxed.cell
  have C := Lib.hid (needPlace_no N a l c bs W hr hN1 hN2 many near hv hc)
  clear hB h1 h2 hr hv hc
  go_enter Tryd.func80, Tryd.ntmps80
  go_wp2_with fail
  refine C.out.mono ?_
  rintro e w2 ⟨rfl, hb⟩
  exact ⟨rfl, rfl, hb⟩
set_option maxRecDepth 100000 in
set_option maxHeartbeats 2000000 in
theorem gather1_many (g0 g1 g2 : Nat) (M : Nat) (a : Option Addr) (l c : Nat) (bs : List Int) (m : Nat) (near : Nat) (W : World) (hB : Blk W g0 24 #[.int .i64 (M : Int), .slice a l c]) (h1 : Blk W g1 3 #[.int .i64 (m : Int)]) (h2 : Blk W g2 3 #[.int .i64 (near : Int)]) (hr : Rd W a l c bs) (hv : validB (M : Int) bs = true) (hm1 : 1 ≤ m) (hnear : near ≤ M) (k : Nat) (ss us : List (Nat × Nat)) (hm : m ≤ 65536) (hs : StableR (runsV bs M false) ss) (hk : k ≤ ss.length) (hk0 : leftV ss m k = 0) (hlt : ∀ i, i < k → 0 < leftV ss m i) (hu : SortR ((rowI ss m k).take k) us) (hf : findV bs M (m : Int) near none 3 = none) :
    Calls Tryd.prog 80 #[.pointer (some ⟨g0, 0, none⟩), .pointer (some ⟨g1, 0, none⟩), .pointer (some ⟨g2, 0, none⟩)] W fun e w' => ∃ a' l' c', e = .returned (.slice a' l' c') ∧ OwnR w' W.heap.size (.slice a' l' c') us ∧ Below W.heap.size W w' := by
  have q0 : W.cell? ⟨g0, 0, none⟩ = some (.int .i64 (M : Int)) := hB.cell 0
  have q1 : W.cell? ⟨g0, 1, none⟩ = some (.slice a l c) := hB.cell 1
  have q2 := h1.boxed.cell
  have q3 := h2.boxed.cell
  have hM6 : (M : Int) ≤ 65536 := by have := (validB_iff (M : Int) bs).mp hv; omega
  have C := Lib.hid (needPlace_yes M a l c bs W hr (by omega) (by omega) (m : Int) near hv ⟨by omega, by omega, by omega⟩)
  have HB := Lib.hid hB
  have H1 := Lib.hid h1
  have H2 := Lib.hid h2
  have HR := Lib.hid hr
  have Hs := Lib.hid (And.intro hs (And.intro hk (And.intro hk0 (And.intro hlt hu))))
  have Hv := Lib.hid hv
  clear hB h1 h2 hr hv hs hk hk0 hlt hu
  go_enter Tryd.func80, Tryd.ntmps80
  go_wp2_with fail
  refine C.out.mono ?_
  rintro e w1 ⟨rfl, hb1⟩
  have hB1 := HB.out.below hb1 HB.out.lt
  have p0 : w1.cell? ⟨g0, 0, none⟩ = some (.int .i64 (M : Int)) := hB1.cell 0
  have p1 : w1.cell? ⟨g0, 1, none⟩ = some (.slice a l c) := hB1.cell 1
  have p2 := (H1.out.below hb1 H1.out.lt).boxed.cell
  have p3 := (H2.out.below hb1 H2.out.lt).boxed.cell
  have HR1 := Lib.hid (HR.out.below hb1 (Nat.le_refl _))
  have Hb1 := Lib.hid hb1
  have HB2 := Lib.hid hB1
  have H12 := Lib.hid (H1.out.below hb1 H1.out.lt)
  clear hb1 hB1 C HB H1 H2 HR q0 q1 q2 q3
  have C2 := find_any M a l c bs (m : Int) near 3 none w1 HR1.out Hv.out hnear (by omega) (by omega) (fun h => absurd h (by decide))
  rw [hf] at C2
  have HC2 := Lib.hid C2
  clear C2 hf
  go_wp2_with fail
  refine HC2.out.mono ?_
  rintro e w2 ⟨rfl, hb2⟩
  have HZ := Lib.hid (Hb1.out.trans (hb2.mono Hb1.out.size))
  have HR2 := Lib.hid (HR1.out.below hb2 (Nat.le_refl _))
  have r0 : w2.cell? ⟨g0, 0, none⟩ = some (.int .i64 (M : Int)) := (HB2.out.below hb2 HB2.out.lt).cell 0
  have r1 : w2.cell? ⟨g0, 1, none⟩ = some (.slice a l c) := (HB2.out.below hb2 HB2.out.lt).cell 1
  have r2 := (H12.out.below hb2 H12.out.lt).boxed.cell
  clear hb2 HC2 p0 p1 p2 p3 HR1 HB2 H12
  simp only [Option.getD_none, Option.isSome_none, Option.getD_some, Option.isSome_some]
  go_wp2_with fail
  refine (longest_ok M a l c bs m k ss us w2 HR2.out Hv.out (by omega) hm Hs.out.1 Hs.out.2.1 Hs.out.2.2.1 Hs.out.2.2.2.1 Hs.out.2.2.2.2).mono ?_
  rintro e w3 ⟨a', l', c', rfl, hO, hb3⟩
  have HO := Lib.hid (hO.mono (B' := W.heap.size) HZ.out.size)
  have HZ3 := Lib.hid (HZ.out.trans (hb3.mono HZ.out.size))
  clear hO hb3
  go_wp2_with fail
  refine bodyPost_ret (results_tmp rfl _ _ _) rfl ?_
  exact ⟨a', l', c', rfl, HO.out, HZ3.out⟩
set_option maxRecDepth 100000 in
set_option maxHeartbeats 2000000 in
theorem gather1_none (g0 g1 g2 : Nat) (M : Nat) (a : Option Addr) (l c : Nat) (bs : List Int) (m : Nat) (near : Nat) (W : World) (hB : Blk W g0 24 #[.int .i64 (M : Int), .slice a l c]) (h1 : Blk W g1 3 #[.int .i64 (m : Int)]) (h2 : Blk W g2 3 #[.int .i64 (near : Int)]) (hr : Rd W a l c bs) (hv : validB (M : Int) bs = true) (hm1 : 1 ≤ m) (hnear : near ≤ M) (ss : List (Nat × Nat)) (hm : m ≤ 65536) (hs : StableR (runsV bs M false) ss) (hlt : ∀ i, i ≤ ss.length → 0 < leftV ss m i) (hf : findV bs M (m : Int) near none 3 = none) :
    Calls Tryd.prog 80 #[.pointer (some ⟨g0, 0, none⟩), .pointer (some ⟨g1, 0, none⟩), .pointer (some ⟨g2, 0, none⟩)] W fun e w' => e = pan 3 ∧ Below W.heap.size W w' := by
  have q0 : W.cell? ⟨g0, 0, none⟩ = some (.int .i64 (M : Int)) := hB.cell 0
  have q1 : W.cell? ⟨g0, 1, none⟩ = some (.slice a l c) := hB.cell 1
  have q2 := h1.boxed.cell
  have q3 := h2.boxed.cell
  have hM6 : (M : Int) ≤ 65536 := by have := (validB_iff (M : Int) bs).mp hv; omega
  have C := Lib.hid (needPlace_yes M a l c bs W hr (by omega) (by omega) (m : Int) near hv ⟨by omega, by omega, by omega⟩)
  have HB := Lib.hid hB
  have H1 := Lib.hid h1
  have H2 := Lib.hid h2
  have HR := Lib.hid hr
  have Hs := Lib.hid (And.intro hs hlt)
  have Hv := Lib.hid hv
  clear hB h1 h2 hr hv hs hlt
  go_enter Tryd.func80, Tryd.ntmps80
  go_wp2_with fail
  refine C.out.mono ?_
  rintro e w1 ⟨rfl, hb1⟩
  have hB1 := HB.out.below hb1 HB.out.lt
  have p0 : w1.cell? ⟨g0, 0, none⟩ = some (.int .i64 (M : Int)) := hB1.cell 0
  have p1 : w1.cell? ⟨g0, 1, none⟩ = some (.slice a l c) := hB1.cell 1
  have p2 := (H1.out.below hb1 H1.out.lt).boxed.cell
  have p3 := (H2.out.below hb1 H2.out.lt).boxed.cell
  have HR1 := Lib.hid (HR.out.below hb1 (Nat.le_refl _))
  have Hb1 := Lib.hid hb1
  have HB2 := Lib.hid hB1
  have H12 := Lib.hid (H1.out.below hb1 H1.out.lt)
  clear hb1 hB1 C HB H1 H2 HR q0 q1 q2 q3
  have C2 := find_any M a l c bs (m : Int) near 3 none w1 HR1.out Hv.out hnear (by omega) (by omega) (fun h => absurd h (by decide))
  rw [hf] at C2
  have HC2 := Lib.hid C2
  clear C2 hf
  go_wp2_with fail
  refine HC2.out.mono ?_
  rintro e w2 ⟨rfl, hb2⟩
  have HZ := Lib.hid (Hb1.out.trans (hb2.mono Hb1.out.size))
  have HR2 := Lib.hid (HR1.out.below hb2 (Nat.le_refl _))
  have r0 : w2.cell? ⟨g0, 0, none⟩ = some (.int .i64 (M : Int)) := (HB2.out.below hb2 HB2.out.lt).cell 0
  have r1 : w2.cell? ⟨g0, 1, none⟩ = some (.slice a l c) := (HB2.out.below hb2 HB2.out.lt).cell 1
  have r2 := (H12.out.below hb2 H12.out.lt).boxed.cell
  clear hb2 HC2 p0 p1 p2 p3 HR1 HB2 H12
  simp only [Option.getD_none, Option.isSome_none, Option.getD_some, Option.isSome_some]
  go_wp2_with fail
  refine (longest_no M a l c bs m ss w2 HR2.out Hv.out (by omega) hm Hs.out.1 Hs.out.2).mono ?_
  rintro e w3 ⟨rfl, hb3⟩
  exact ⟨rfl, rfl, HZ.out.trans (hb3.mono HZ.out.size)⟩
end Go.Proofs.YtknacgdjodmaiaaDoor

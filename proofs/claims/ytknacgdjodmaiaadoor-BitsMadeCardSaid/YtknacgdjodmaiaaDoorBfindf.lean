/- Find: a place of many clear bits. -/
import Derived.Test.YtknacgdjodmaiaaDoorBfind
namespace Go.Proofs.YtknacgdjodmaiaaDoor
set_option linter.unusedVariables false
open Go.RowKit Go.Shelf

set_option maxRecDepth 100000 in
set_option maxHeartbeats 2000000 in
theorem find1_bad (g0 g1 g2 g3 : Nat) (N : Int) (a : Option Addr) (l c : Nat) (bs : List Int) (many : Int) (near : Int) (how : Int) (W : World) (hB : Blk W g0 24 #[.int .i64 N, .slice a l c]) (h1 : Blk W g1 3 #[.int .i64 many]) (h2 : Blk W g2 3 #[.int .i64 near]) (h3 : Blk W g3 3 #[.int .i64 how]) (hr : Rd W a l c bs) (hN1 : -9223372036854775808 ≤ N) (hN2 : N ≤ 9223372036854775807) (hv : validB N bs = false) :
    Calls Tryd.prog 77 #[.pointer (some ⟨g0, 0, none⟩), .pointer (some ⟨g1, 0, none⟩), .pointer (some ⟨g2, 0, none⟩), .pointer (some ⟨g3, 0, none⟩)] W fun e w' => e = pan 9 ∧ Below W.heap.size W w' := by
  have q0 : W.cell? ⟨g0, 0, none⟩ = some (.int .i64 N) := hB.cell 0
  have q1 : W.cell? ⟨g0, 1, none⟩ = some (.slice a l c) := hB.cell 1
  have q2 := h1.boxed.cell
  have q3 := h2.boxed.cell
  have q4 := h3.boxed.cell
  have C := Lib.hid (needPlace_bad N a l c bs W hr hN1 hN2 many near hv)
  clear hB h1 h2 h3 hr hv
  go_enter Tryd.func77, Tryd.ntmps77
  go_wp2_with fail
  refine C.out.mono ?_
  rintro e w2 ⟨rfl, hb⟩
  exact ⟨rfl, rfl, hb⟩
set_option maxRecDepth 100000 in
set_option maxHeartbeats 2000000 in
theorem find1_rng (g0 g1 g2 g3 : Nat) (N : Int) (a : Option Addr) (l c : Nat) (bs : List Int) (many : Int) (near : Int) (how : Int) (W : World) (hB : Blk W g0 24 #[.int .i64 N, .slice a l c]) (h1 : Blk W g1 3 #[.int .i64 many]) (h2 : Blk W g2 3 #[.int .i64 near]) (h3 : Blk W g3 3 #[.int .i64 how]) (hr : Rd W a l c bs) (hN1 : -9223372036854775808 ≤ N) (hN2 : N ≤ 9223372036854775807) (hv : validB N bs = true) (hc : ¬ (1 ≤ many ∧ 0 ≤ near ∧ near ≤ N)) :
    Calls Tryd.prog 77 #[.pointer (some ⟨g0, 0, none⟩), .pointer (some ⟨g1, 0, none⟩), .pointer (some ⟨g2, 0, none⟩), .pointer (some ⟨g3, 0, none⟩)] W fun e w' => e = pan 1 ∧ Below W.heap.size W w' := by
  have q0 : W.cell? ⟨g0, 0, none⟩ = some (.int .i64 N) := hB.cell 0
  have q1 : W.cell? ⟨g0, 1, none⟩ = some (.slice a l c) := hB.cell 1
  have q2 := h1.boxed.cell
  have q3 := h2.boxed.cell
  have q4 := h3.boxed.cell
  have C := Lib.hid (needPlace_no N a l c bs W hr hN1 hN2 many near hv hc)
  clear hB h1 h2 h3 hr hv hc
  go_enter Tryd.func77, Tryd.ntmps77
  go_wp2_with fail
  refine C.out.mono ?_
  rintro e w2 ⟨rfl, hb⟩
  exact ⟨rfl, rfl, hb⟩
set_option maxRecDepth 100000 in
set_option maxHeartbeats 2000000 in
theorem find1_how (g0 g1 g2 g3 : Nat) (M : Nat) (a : Option Addr) (l c : Nat) (bs : List Int) (many : Int) (near : Nat) (how : Int) (W : World) (hB : Blk W g0 24 #[.int .i64 (M : Int), .slice a l c]) (h1 : Blk W g1 3 #[.int .i64 many]) (h2 : Blk W g2 3 #[.int .i64 (near : Int)]) (h3 : Blk W g3 3 #[.int .i64 how]) (hr : Rd W a l c bs) (hv : validB (M : Int) bs = true) (hm1 : 1 ≤ many) (hnear : near ≤ M) (hc : ¬ (1 ≤ how ∧ how ≤ 3)) :
    Calls Tryd.prog 77 #[.pointer (some ⟨g0, 0, none⟩), .pointer (some ⟨g1, 0, none⟩), .pointer (some ⟨g2, 0, none⟩), .pointer (some ⟨g3, 0, none⟩)] W fun e w' => e = pan 1 ∧ Below W.heap.size W w' := by
  have q0 : W.cell? ⟨g0, 0, none⟩ = some (.int .i64 (M : Int)) := hB.cell 0
  have q1 : W.cell? ⟨g0, 1, none⟩ = some (.slice a l c) := hB.cell 1
  have q2 := h1.boxed.cell
  have q3 := h2.boxed.cell
  have q4 := h3.boxed.cell
  have hM6 : (M : Int) ≤ 65536 := by have := (validB_iff (M : Int) bs).mp hv; omega
  have C := Lib.hid (needPlace_yes M a l c bs W hr (by omega) (by omega) many near hv ⟨hm1, by omega, by omega⟩)
  have HB := Lib.hid hB
  have H1 := Lib.hid h1
  have H2 := Lib.hid h2
  have H3 := Lib.hid h3
  have HR := Lib.hid hr
  have Hv := Lib.hid hv
  clear hB h1 h2 h3 hr hv
  go_enter Tryd.func77, Tryd.ntmps77
  go_wp2_with fail
  refine C.out.mono ?_
  rintro e w1 ⟨rfl, hb1⟩
  have hB1 := HB.out.below hb1 HB.out.lt
  have p0 : w1.cell? ⟨g0, 0, none⟩ = some (.int .i64 (M : Int)) := hB1.cell 0
  have p1 : w1.cell? ⟨g0, 1, none⟩ = some (.slice a l c) := hB1.cell 1
  have p2 := (H1.out.below hb1 H1.out.lt).boxed.cell
  have p3 := (H2.out.below hb1 H2.out.lt).boxed.cell
  have p4 := (H3.out.below hb1 H3.out.lt).boxed.cell
  have HR1 := Lib.hid (HR.out.below hb1 (Nat.le_refl _))
  have Hb1 := Lib.hid hb1
  clear hb1 hB1 C HB H1 H2 H3 HR q0 q1 q2 q3 q4
  by_cases c1 : 1 ≤ how
  · have c2 : (how ≤ 3) = False := eq_false (fun h => hc ⟨c1, h⟩)
    have c3 : decide (how ≤ 3) = false := by simp [c2]
    clear hc
    go_wp2_with fail
    refine (need_no _ _).mono ?_
    rintro e w2 ⟨rfl, rfl⟩
    exact ⟨rfl, rfl, Hb1.out⟩
  · clear hc
    go_wp2_with fail
    refine (need_no _ _).mono ?_
    rintro e w2 ⟨rfl, rfl⟩
    exact ⟨rfl, rfl, Hb1.out⟩
set_option maxRecDepth 100000 in
set_option maxHeartbeats 2000000 in
theorem find1_none (g0 g1 g2 g3 : Nat) (M : Nat) (a : Option Addr) (l c : Nat) (bs : List Int) (many : Int) (near : Nat) (how : Nat) (W : World) (hB : Blk W g0 24 #[.int .i64 (M : Int), .slice a l c]) (h1 : Blk W g1 3 #[.int .i64 many]) (h2 : Blk W g2 3 #[.int .i64 (near : Int)]) (h3 : Blk W g3 3 #[.int .i64 (how : Int)]) (hr : Rd W a l c bs) (hv : validB (M : Int) bs = true) (hm1 : 1 ≤ many) (hnear : near ≤ M) (bst : Option Nat) (hh1 : 1 ≤ how) (hh3 : how ≤ 3)
    (hbest : how = 2 → ∀ V, Below W.heap.size W V → Calls Tryd.prog 103 #[.agg #[.int .i64 (M : Int), .slice a l c], .int .i64 many, .int .i64 (near : Int)] V fun e w' => e = .returned (.tuple #[.int .i64 (bst.getD 0 : Nat), .bool bst.isSome]) ∧ Below V.heap.size V w') (hf : findV bs M many near bst how = none) :
    Calls Tryd.prog 77 #[.pointer (some ⟨g0, 0, none⟩), .pointer (some ⟨g1, 0, none⟩), .pointer (some ⟨g2, 0, none⟩), .pointer (some ⟨g3, 0, none⟩)] W fun e w' => e = pan 3 ∧ Below W.heap.size W w' := by
  have q0 : W.cell? ⟨g0, 0, none⟩ = some (.int .i64 (M : Int)) := hB.cell 0
  have q1 : W.cell? ⟨g0, 1, none⟩ = some (.slice a l c) := hB.cell 1
  have q2 := h1.boxed.cell
  have q3 := h2.boxed.cell
  have q4 := h3.boxed.cell
  have hM6 : (M : Int) ≤ 65536 := by have := (validB_iff (M : Int) bs).mp hv; omega
  have C := Lib.hid (needPlace_yes M a l c bs W hr (by omega) (by omega) many near hv ⟨hm1, by omega, by omega⟩)
  have HB := Lib.hid hB
  have H1 := Lib.hid h1
  have H2 := Lib.hid h2
  have H3 := Lib.hid h3
  have HR := Lib.hid hr
  have Hv := Lib.hid hv
  clear hB h1 h2 h3 hr hv
  go_enter Tryd.func77, Tryd.ntmps77
  go_wp2_with fail
  refine C.out.mono ?_
  rintro e w1 ⟨rfl, hb1⟩
  have hB1 := HB.out.below hb1 HB.out.lt
  have p0 : w1.cell? ⟨g0, 0, none⟩ = some (.int .i64 (M : Int)) := hB1.cell 0
  have p1 : w1.cell? ⟨g0, 1, none⟩ = some (.slice a l c) := hB1.cell 1
  have p2 := (H1.out.below hb1 H1.out.lt).boxed.cell
  have p3 := (H2.out.below hb1 H2.out.lt).boxed.cell
  have p4 := (H3.out.below hb1 H3.out.lt).boxed.cell
  have HR1 := Lib.hid (HR.out.below hb1 (Nat.le_refl _))
  have Hb1 := Lib.hid hb1
  clear hb1 hB1 C HB H1 H2 H3 HR q0 q1 q2 q3 q4
  have hg1 : (1 : Int) ≤ (how : Int) := by omega
  have hg3 : (how : Int) ≤ 3 := by omega
  have C2 := find_any M a l c bs many near how bst w1 HR1.out Hv.out hnear hh1 hh3 (fun h V hV => hbest h V (Hb1.out.trans (hV.mono Hb1.out.size)))
  rw [hf] at C2
  have HC2 := Lib.hid C2
  clear C2 hf hbest
  go_wp2_with fail
  refine (need_yes _ _).mono ?_
  rintro e w2 ⟨rfl, rfl⟩
  go_wp2_with fail
  refine HC2.out.mono ?_
  rintro e w2 ⟨rfl, hb2⟩
  have HZ := Lib.hid (Hb1.out.trans (hb2.mono Hb1.out.size))
  clear hb2 HC2 p0 p1 p2 p3 p4
  simp only [Option.getD_none, Option.isSome_none, Option.getD_some, Option.isSome_some]
  go_wp2_with fail
  refine (need_no _ _).mono ?_
  rintro e w3 ⟨rfl, rfl⟩
  exact ⟨rfl, rfl, HZ.out⟩
set_option maxRecDepth 100000 in
set_option maxHeartbeats 2000000 in
theorem find1_ok (g0 g1 g2 g3 : Nat) (M : Nat) (a : Option Addr) (l c : Nat) (bs : List Int) (many : Int) (near : Nat) (how : Nat) (W : World) (hB : Blk W g0 24 #[.int .i64 (M : Int), .slice a l c]) (h1 : Blk W g1 3 #[.int .i64 many]) (h2 : Blk W g2 3 #[.int .i64 (near : Int)]) (h3 : Blk W g3 3 #[.int .i64 (how : Int)]) (hr : Rd W a l c bs) (hv : validB (M : Int) bs = true) (hm1 : 1 ≤ many) (hnear : near ≤ M) (bst : Option Nat) (hh1 : 1 ≤ how) (hh3 : how ≤ 3)
    (hbest : how = 2 → ∀ V, Below W.heap.size W V → Calls Tryd.prog 103 #[.agg #[.int .i64 (M : Int), .slice a l c], .int .i64 many, .int .i64 (near : Int)] V fun e w' => e = .returned (.tuple #[.int .i64 (bst.getD 0 : Nat), .bool bst.isSome]) ∧ Below V.heap.size V w') (x : Nat) (hf : findV bs M many near bst how = some x) :
    Calls Tryd.prog 77 #[.pointer (some ⟨g0, 0, none⟩), .pointer (some ⟨g1, 0, none⟩), .pointer (some ⟨g2, 0, none⟩), .pointer (some ⟨g3, 0, none⟩)] W fun e w' => e = .returned (.int .i64 (x : Int)) ∧ Below W.heap.size W w' := by
  have q0 : W.cell? ⟨g0, 0, none⟩ = some (.int .i64 (M : Int)) := hB.cell 0
  have q1 : W.cell? ⟨g0, 1, none⟩ = some (.slice a l c) := hB.cell 1
  have q2 := h1.boxed.cell
  have q3 := h2.boxed.cell
  have q4 := h3.boxed.cell
  have hM6 : (M : Int) ≤ 65536 := by have := (validB_iff (M : Int) bs).mp hv; omega
  have C := Lib.hid (needPlace_yes M a l c bs W hr (by omega) (by omega) many near hv ⟨hm1, by omega, by omega⟩)
  have HB := Lib.hid hB
  have H1 := Lib.hid h1
  have H2 := Lib.hid h2
  have H3 := Lib.hid h3
  have HR := Lib.hid hr
  have Hv := Lib.hid hv
  clear hB h1 h2 h3 hr hv
  go_enter Tryd.func77, Tryd.ntmps77
  go_wp2_with fail
  refine C.out.mono ?_
  rintro e w1 ⟨rfl, hb1⟩
  have hB1 := HB.out.below hb1 HB.out.lt
  have p0 : w1.cell? ⟨g0, 0, none⟩ = some (.int .i64 (M : Int)) := hB1.cell 0
  have p1 : w1.cell? ⟨g0, 1, none⟩ = some (.slice a l c) := hB1.cell 1
  have p2 := (H1.out.below hb1 H1.out.lt).boxed.cell
  have p3 := (H2.out.below hb1 H2.out.lt).boxed.cell
  have p4 := (H3.out.below hb1 H3.out.lt).boxed.cell
  have HR1 := Lib.hid (HR.out.below hb1 (Nat.le_refl _))
  have Hb1 := Lib.hid hb1
  clear hb1 hB1 C HB H1 H2 H3 HR q0 q1 q2 q3 q4
  have hg1 : (1 : Int) ≤ (how : Int) := by omega
  have hg3 : (how : Int) ≤ 3 := by omega
  have C2 := find_any M a l c bs many near how bst w1 HR1.out Hv.out hnear hh1 hh3 (fun h V hV => hbest h V (Hb1.out.trans (hV.mono Hb1.out.size)))
  rw [hf] at C2
  have HC2 := Lib.hid C2
  clear C2 hf hbest
  go_wp2_with fail
  refine (need_yes _ _).mono ?_
  rintro e w2 ⟨rfl, rfl⟩
  go_wp2_with fail
  refine HC2.out.mono ?_
  rintro e w2 ⟨rfl, hb2⟩
  have HZ := Lib.hid (Hb1.out.trans (hb2.mono Hb1.out.size))
  clear hb2 HC2 p0 p1 p2 p3 p4
  simp only [Option.getD_none, Option.isSome_none, Option.getD_some, Option.isSome_some]
  go_wp2_with fail
  refine (need_yes _ _).mono ?_
  rintro e w3 ⟨rfl, rfl⟩
  go_wp2_with fail
  refine bodyPost_ret (results_tmp rfl _ _ _) rfl ?_
  exact ⟨rfl, HZ.out⟩
end Go.Proofs.YtknacgdjodmaiaaDoor

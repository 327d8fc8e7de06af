/- Counting all bits, as the laws do. -/
import Derived.Test.YthognmkjoekilaaDoorBfew
namespace Go.Proofs.YthognmkjoekilaaDoor
set_option linter.unusedVariables false
open Go.RowKit Go.Shelf

set_option maxRecDepth 100000 in
set_option maxHeartbeats 1000000 in
theorem lcount_any (M : Nat) (a : Option Addr) (l c : Nat) (bs : List Int) (w : World) (hr : Rd w a l c bs) (hv : Vb M bs) (ho : Ones w) :
    Calls Tryd.prog 36 #[.agg #[.int .i64 (M : Int), .slice a l c]] w fun e w' => e = .returned (.int .i64 (cntV bs 0 M : Int)) ∧ Below w.heap.size w w' := by
  obtain ⟨g, W, e1, e2, hB, hb, -⟩ := boxed (Below.refl _ w) (M : Int) a l c bs hr
  have C : Calls Tryd.prog 16 #[.agg #[.int .i64 (M : Int), .slice a l c], .int .i64 0, .int .i64 (M : Int)] W fun e' w' => e' = .returned (.tuple #[.int .i64 (cntV bs 0 M : Int), .int .i64 0]) ∧ Below W.heap.size W w' :=
    count_ok M a l c bs W hB.rd 0 M M hv (by omega) (Nat.le_refl _) (ho.below hb (Nat.le_refl _))
  have q0 : W.cell? ⟨g, 0, none⟩ = some (.int .i64 (M : Int)) := hB.blk.cell 0
  have q1 : W.cell? ⟨g, 1, none⟩ = some (.slice a l c) := hB.blk.cell 1
  obtain ⟨n, hn⟩ : ∃ n : Nat, n = cntV bs 0 M := ⟨_, rfl⟩
  rw [← hn] at C ⊢
  have HC := Lib.hid C
  have Hb := Lib.hid hb
  have H2 := Lib.hid e2
  have H1 := Lib.hid e1
  clear hr hv ho hB hb C hn e1 e2
  go_enter Tryd.func36, Tryd.ntmps36
  go_upto_region 1 with fail
  rw [H2.out, H1.out]
  go_wp2_with fail
  refine HC.out.mono ?_
  rintro e u ⟨rfl, hb⟩
  have Hb2 := Lib.hid (Hb.out.trans (hb.mono Hb.out.size))
  clear hb Hb HC q0 q1
  go_wp2_with fail
  go_ret
  exact ⟨rfl, Hb2.out⟩
end Go.Proofs.YthognmkjoekilaaDoor

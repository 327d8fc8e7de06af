/- ways: the table of ways to find a place. -/
import Derived.Test.YtknacgdjodmaiaaDoorBnext
import Derived.Laws.EntriesVeiled
import Derived.Laws.ResultCell
import Derived.Deep.WholeRow
import Derived.Great.BuildSlice
namespace Go.Proofs.YtknacgdjodmaiaaDoor
set_option linter.unusedVariables false
open Go.RowKit Go.Shelf

set_option maxRecDepth 100000 in
set_option maxHeartbeats 1000000 in
theorem ways1_any (M : Nat) (a : Option Addr) (l c : Nat) (bs : List Int) (many near : Int) (w : World) (hr : Rd w a l c bs) (hv : validB (M : Int) bs = true) :
    Calls Tryd.prog 101 #[.agg #[.int .i64 (M : Int), .slice a l c], .int .i64 many, .int .i64 near] w fun e w' => e = .returned (.tuple #[.int .i64 ((nextV bs M many 0).getD 0 : Nat), .bool (nextV bs M many 0).isSome]) ∧ Below w.heap.size w w' := by
  obtain ⟨W0, hW0⟩ : ∃ W0, w.alloc (.cells #[.int .i64 (M : Int), .slice a l c] 24) = W0 := ⟨_, rfl⟩
  have hb0 : Below w.heap.size w W0 := by rw [← hW0]; exact (Below.refl _ w).alloc (Nat.le_refl _) _
  have hB : Blk W0 w.heap.size 24 #[.int .i64 (M : Int), .slice a l c] := by rw [← hW0]; exact heap_new w _
  have q0 : W0.cell? ⟨w.heap.size, 0, none⟩ = some (.int .i64 (M : Int)) := hB.cell 0
  have q1 : W0.cell? ⟨w.heap.size, 1, none⟩ = some (.slice a l c) := hB.cell 1
  have C := Lib.hid (next_any M a l c bs many 0 W0 (hr.below hb0 (Nat.le_refl _)) hv (Nat.zero_le _))
  obtain ⟨r, hr'⟩ : ∃ r, r = nextV bs M many 0 := ⟨_, rfl⟩
  rw [← hr'] at C ⊢
  have HW := Lib.hid hW0
  have Hb := Lib.hid hb0
  clear hW0 hB hb0 hr hv hr'
  go_enter Tryd.func101, Tryd.ntmps101
  go_upto_region 1 with fail
  rw [HW.out]
  go_wp2_with fail
  refine C.out.mono ?_
  rintro e w1 ⟨rfl, hb1⟩
  have HZ := Lib.hid (Hb.out.trans (hb1.mono Hb.out.size))
  clear hb1 C
  go_wp2_with fail
  go_ret2
  exact ⟨rfl, HZ.out⟩
theorem wpList_store_new {P : Program} {w : World} {ops : Array Oper} {rest : List Oper} {o : Oper} {a : Act} {Q : Exit → Act → World → Prop} (hgd : o.guard = none) (ty : TypeId) (x y : Operand) (ho : o.op = .store ty x y)
    (cells : Array Value) (hx : a.eval x = .pointer (some ⟨w.heap.size, 0, none⟩)) (hy : a.eval y = .agg cells)
    (t : TypeId) (old : Array Value) (hi : (P.info? ty).map (·.size) = some cells.size) (hold : old.size = cells.size) (h1 : cells.all (·.oneCell') = true)
    (h : wpList P ops Q rest (a.put o.dst undef) (w.alloc (.cells cells t))) : wpList P ops Q (o :: rest) a (w.alloc (.cells old t)) :=
  wpList_plain hgd fun _ hK => wp_store_row ty x y ho w.heap.size cells hx hy t old (heap_alloc_last w _) hi hold h1 (by rw [World.setRow_alloc_new]; exact hK _ _ h)

theorem wpList_store_newAt {P : Program} {w : World} {ops : Array Oper} {rest : List Oper} {o : Oper} {a : Act} {Q : Exit → Act → World → Prop} (hgd : o.guard = none) (ty : TypeId) (x y : Operand) (ho : o.op = .store ty x y)
    (cells : Array Value) (g : Nat) (hN : w.heap.size = g) (hx : a.eval x = .pointer (some ⟨g, 0, none⟩)) (hy : a.eval y = .agg cells)
    (t : TypeId) (old : Array Value) (hi : (P.info? ty).map (·.size) = some cells.size) (hold : old.size = cells.size) (h1 : cells.all (·.oneCell') = true)
    (h : wpList P ops Q rest (a.put o.dst undef) (w.alloc (.cells cells t))) : wpList P ops Q (o :: rest) a (w.alloc (.cells old t)) := by
  subst hN
  exact wpList_store_new hgd ty x y ho cells hx hy t old hi hold h1 h

/-- The table. -/
def wayTab : Array Value := #[.nilFunc, .int .i64 0, .func (.func 101) #[] #[], .int .i64 0, .func (.func 103) #[] #[], .int .i64 0, .func (.func 102) #[] #[], .int .i64 1]
theorem Tryd.sizeWays : (Tryd.prog.info? 110).map (·.size) = some wayTab.size := by kernel_rfl
set_option maxRecDepth 100000 in
set_option maxHeartbeats 2000000 in
theorem ways_any (w : World) : Calls Tryd.prog 94 #[] w fun e w' => e = .returned (.agg wayTab) ∧ w.alloc (.cells wayTab 110) = w' := by
  go_enter Tryd.func94, Tryd.ntmps94
  go_wp2_with (first
    | (refine wpList_store_new (by rfl) 110 (.tmp 0) (.tmp 4) rfl wayTab rfl rfl 110 _ Tryd.sizeWays (by kernel_rfl) (by kernel_rfl) ?_))
  refine bodyPost_ret (v := .agg wayTab) ?_ rfl ⟨rfl, rfl⟩
  exact results_cell_row rfl _ _ w.heap.size 110 wayTab (0, 0) _ rfl (heap_alloc_last w _) Tryd.underlying110 rfl Tryd.sizeWays
end Go.Proofs.YtknacgdjodmaiaaDoor

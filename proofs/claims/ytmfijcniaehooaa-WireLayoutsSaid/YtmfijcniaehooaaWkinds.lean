/- The table of the kinds of fields. -/
import Derived.Test.YtmfijcniaehooaaWtotext
import Derived.Laws.EntriesVeiled
import Derived.Laws.ResultCell
import Derived.Deep.WholeRow
import Derived.Great.BuildSlice
namespace Go.Proofs.Ytmfijcniaehooaa
set_option linter.unusedVariables false
open Go.RowKit

theorem wpList_store_new {P : Program} {w : World} {ops : Array Oper} {rest : List Oper} {o : Oper} {a : Act} {Q : Exit → Act → World → Prop} (hgd : o.guard = none) (ty : TypeId) (x y : Operand) (ho : o.op = .store ty x y)
    (cells : Array Value) (hx : a.eval x = .pointer (some ⟨w.heap.size, 0, none⟩)) (hy : a.eval y = .agg cells)
    (t : TypeId) (old : Array Value) (hi : (P.info? ty).map (·.size) = some cells.size) (hold : old.size = cells.size) (h1 : cells.all (·.oneCell') = true)
    (h : wpList P ops Q rest (a.put o.dst undef) (w.alloc (.cells cells t))) : wpList P ops Q (o :: rest) a (w.alloc (.cells old t)) :=
  wpList_plain hgd fun _ hK => wp_store_row ty x y ho w.heap.size cells hx hy t old (heap_alloc_last w _) hi hold h1 (by rw [World.setRow_alloc_new]; exact hK _ _ h)

theorem wpList_store_newAt {P : Program} {w : World} {ops : Array Oper} {rest : List Oper} {o : Oper} {a : Act} {Q : Exit → Act → World → Prop} (hgd : o.guard = none) (ty : TypeId) (x y : Operand) (ho : o.op = .store ty x y)
    (cells : Array Value) (g : Nat) (hN : w.heap.size = g) (hx : a.eval x = .pointer (some ⟨g, 0, none⟩)) (hy : a.eval y = .agg cells)
    (t : TypeId) (old : Array Value) (hi : (P.info? ty).map (·.size) = some cells.size) (hold : old.size = cells.size) (h1 : cells.all (·.oneCell') = true)
    (h : wpList P ops Q rest (a.put o.dst undef) (w.alloc (.cells cells t))) : wpList P ops Q (o :: rest) a (w.alloc (.cells old t)) := by
  subst hN
  exact wpList_store_new hgd ty x y ho cells hx hy t old hi hold h1 h

def kf (n : Nat) : Value := .func (.func n) #[] #[]
def kr1 : Array Value := #[.int .i64 1, .int .i64 8, .bool false, kf 86, kf 87, kf 88]
def kr2 : Array Value := #[.int .i64 1, .int .i64 8, .bool false, kf 86, kf 90, kf 91]
def kr3 : Array Value := #[.int .i64 0, .int .i64 0, .bool false, kf 92, kf 93, kf 94]
def kr4 : Array Value := #[.int .i64 0, .int .i64 4096, .bool true, kf 86, kf 95, kf 96]
def kr5 : Array Value := #[.int .i64 0, .int .i64 4096, .bool true, kf 98, kf 99, kf 100]
/-- The table of kinds. -/
def kindTab : Array Value := #[.int .i64 0, .int .i64 0, .bool false, .nilFunc, .nilFunc, .nilFunc] ++ kr1 ++ kr2 ++ kr3 ++ kr4 ++ kr5
theorem Try.sizeKinds : (Try.prog.info? 121).map (·.size) = some kindTab.size := by kernel_rfl

set_option maxRecDepth 100000 in
set_option maxHeartbeats 400000 in
theorem kinds_any (w : World) :
    Calls Try.prog 70 #[] w fun e w' => e = .returned (.agg kindTab) ∧ w.alloc (.cells kindTab 121) = w' := by
  go_enter Try.func70, Try.ntmps70
  go_wp2_with (first
    | (refine wpList_buildTo rfl 120 _ rfl (some 1) rfl kr1 (by kernel_rfl) ?_)
    | (refine wpList_buildTo rfl 120 _ rfl (some 2) rfl kr2 (by kernel_rfl) ?_)
    | (refine wpList_buildTo rfl 120 _ rfl (some 3) rfl kr3 (by kernel_rfl) ?_)
    | (refine wpList_buildTo rfl 120 _ rfl (some 4) rfl kr4 (by kernel_rfl) ?_)
    | (refine wpList_buildTo rfl 120 _ rfl (some 5) rfl kr5 (by kernel_rfl) ?_)
    | (refine wpList_buildTo rfl 121 _ rfl (some 6) rfl kindTab (by kernel_rfl) ?_)
    | (refine wpList_store_new (by rfl) 121 (.tmp 0) (.tmp 6) rfl kindTab rfl (by kernel_rfl) 121 _ Try.sizeKinds (by kernel_rfl) (by kernel_rfl) ?_))
  refine bodyPost_ret (v := .agg kindTab) ?_ rfl ⟨rfl, rfl⟩
  exact results_cell_row rfl _ _ w.heap.size 121 kindTab (0, 0) _ rfl (heap_alloc_last w _) Try.underlying121 rfl Try.sizeKinds
end Go.Proofs.Ytmfijcniaehooaa

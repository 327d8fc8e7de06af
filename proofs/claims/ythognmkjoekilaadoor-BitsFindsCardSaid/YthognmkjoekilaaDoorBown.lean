/- What is read in memory, in boxes and out of them. -/
import Derived.Test.YthognmkjoekilaaDoorBmb
import Derived.Test.YthognmkjoekilaaDoorBma
import Derived.Deep.WholeRow
namespace Go.Proofs.YthognmkjoekilaaDoor
set_option linter.unusedVariables false
open Go.RowKit Go.Shelf

theorem Rd.lit (w : World) (xs : List Int) (hb : ∀ n ∈ xs, 0 ≤ n ∧ n ≤ 255) (hm : xs.length ≤ 1000) : Rd (w.alloc (.cells (xs.map (fun x => Value.int .u8 x)).toArray 5)) (some ⟨w.heap.size, 0, none⟩) xs.length xs.length xs := by
  have hB : Blk (w.alloc (.cells (xs.map (fun x => Value.int .u8 x)).toArray 5)) w.heap.size 5 (xs.map (fun x => Value.int .u8 x)).toArray := heap_new w _
  refine ⟨rfl, Nat.le_refl _, by unfold maxLen; omega, hb, (fun h => by cases h), fun _ => ⟨w.heap.size, 0, rfl, fun i hi => ?_⟩⟩
  rw [Nat.zero_add, hB.cell i]
  simp [List.getElem?_eq_getElem hi]
theorem OwnR.below {w w' : World} {B : Nat} {v : Value} {l : List (Nat × Nat)} (h : OwnR w B v l) (hb : Below w.heap.size w w') : OwnR w' B v l := by
  refine ⟨⟨h.1.1, ?_⟩, h.2⟩
  rcases h.1.2 with hn | ⟨g', cap, cur, rfl, hg0, hgg, rest⟩
  · exact .inl hn
  · refine .inr ⟨g', cap, cur, rfl, hg0, (hb.block g' ?_).trans hgg, rest⟩
    exact (Array.getElem?_eq_some_iff.1 hgg).1
/-- A bitmap in a box. -/
structure Bx (W : World) (g : Nat) (N : Int) (a : Option Addr) (l c : Nat) (xs : List Int) : Prop where
  blk : Blk W g 24 #[.int .i64 N, .slice a l c]
  rd : Rd W a l c xs
theorem Bx.below {W W' : World} {g : Nat} {N : Int} {a : Option Addr} {l c : Nat} {xs : List Int} (h : Bx W g N a l c xs) (hb : Below W.heap.size W W') : Bx W' g N a l c xs :=
  ⟨h.blk.below hb h.blk.lt, h.rd.below hb (Nat.le_refl _)⟩
/-- What a call made, in a box. -/
theorem boxed {w w1 : World} (h : Below w.heap.size w w1) (N : Int) (a : Option Addr) (l c : Nat) (xs : List Int) (hr : Rd w1 a l c xs) :
    ∃ g W, w1.heap.size = g ∧ w1.alloc (.cells #[.int .i64 N, .slice a l c] 24) = W ∧ Bx W g N a l c xs ∧ Below w.heap.size w W ∧ Below w1.heap.size w1 W :=
  have hb : Below w1.heap.size w1 (w1.alloc (.cells #[.int .i64 N, .slice a l c] 24)) := (Below.refl _ w1).alloc (Nat.le_refl _) _
  ⟨_, _, rfl, rfl, ⟨heap_new w1 _, hr.below hb (Nat.le_refl _)⟩, h.trans (hb.mono h.size), hb⟩
theorem own_read {w : World} {B : Nat} {a : Option Addr} {l c : Nat} {xs : List Int} (h : Own w B (.slice a l c) xs) : Rd w a l c xs := by
  obtain ⟨a', cap, hv, hr, -⟩ := h.rdb rfl
  injection hv with h1 h2 h3
  subst h1 h2 h3
  exact hr
end Go.Proofs.YthognmkjoekilaaDoor

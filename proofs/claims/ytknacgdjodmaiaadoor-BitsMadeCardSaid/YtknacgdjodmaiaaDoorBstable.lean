/- The library's sorts of a row of ranges: the insertion sort, and the stable sort of fewer than twenty. -/
import Derived.Test.YtknacgdjodmaiaaDoorBsortk
import Derived.Test.YtknacgdjodmaiaaDoorBsortl
namespace Go.Proofs.YtknacgdjodmaiaaDoor
set_option linter.unusedVariables false
open Go.RowKit Go.Shelf Go.Lib Go.Sort

/-- A comparer of two ranges: what it answers. -/
def CmpR (f : FuncId) (cf : Nat × Nat → Nat × Nat → Int) : Prop := ∀ x y W, Calls Tryd.prog f #[.agg #[.int .i64 (x.1 : Int), .int .i64 (x.2 : Int)], .agg #[.int .i64 (y.1 : Int), .int .i64 (y.2 : Int)]] W fun e w' => e = .returned (.int .i64 (cf x y)) ∧ ∃ q os', w' = grow (W.drewN q) os'
theorem CmpR.lays {f : FuncId} {cf : Nat × Nat → Nat × Nat → Int} (h : CmpR f cf) (blk off size : Nat) (w : World) : CmpLays Tryd.prog f #[] encR 2 cf blk off size w := fun _ _ _ _ x y => h x y _
theorem encR_len (x : Nat × Nat) : (encR x).length = 2 := rfl
theorem encR_one (x : Nat × Nat) : ∀ v ∈ encR x, v.oneCell' = true := by
  intro v hv
  simp [encR] at hv
  rcases hv with rfl | rfl <;> rfl
/-- The insertion sort of a part of a row. -/
theorem insertion_any (f : FuncId) (cf : Nat × Nat → Nat × Nat → Int) (hf : CmpR f cf) (hent : ∀ (args : Array Value) (w : World), (callFunc f args).run Tryd.prog w = .ok (.enter f args) w) (g a b cap : Nat) (l : List (Nat × Nat)) (w : World)
    (hH : HoldsK encR 2 w g 0 l.toArray) (hlt : g < w.heap.size) (hab : a ≤ b) (hb : b ≤ l.length) (hsz : l.length < 4611686018427387904) :
    Calls Tryd.prog 108 #[.slice (some ⟨g, 0, none⟩) l.length cap, .int .i64 a, .int .i64 b, .func (.func f) #[] #[]] w fun e w' => e = .returned (.tuple #[]) ∧ ∃ n os, w' = sortWorldK encR 2 w g 0 n (Sort.insertionSort (ltOf cf) l.toArray a b) os :=
  AnyQ.insertionSortCmpFunc (P := Tryd.prog) (ρ := Tryd.sortRange_ren) { Tryd.sortRange with } 2 Tryd.isAgg60 Tryd.sizeOf60 encR encR_len encR_one cf f #[] g 0 cap a b l.toArray w hent (hf.lays g 0 l.toArray.size w) hH hlt hab hb hsz
set_option maxHeartbeats 1600000 in
set_option maxRecDepth 100000 in
/-- Of fewer than twenty: the insertion sort. -/
theorem stable_few (f : FuncId) (cf : Nat × Nat → Nat × Nat → Int) (hf : CmpR f cf) (hent : ∀ (args : Array Value) (w : World), (callFunc f args).run Tryd.prog w = .ok (.enter f args) w) (g cap n : Nat) (l : List (Nat × Nat)) (w : World)
    (hH : HoldsK encR 2 w g 0 l.toArray) (hlt : g < w.heap.size) (hn : l.length = n) (h20 : n < 20) :
    Calls Tryd.prog 104 #[.slice (some ⟨g, 0, none⟩) n cap, .int .i64 n, .func (.func f) #[] #[]] w fun e w' => e = .returned (.tuple #[]) ∧ ∃ n os, w' = sortWorldK encR 2 w g 0 n (Sort.insertionSort (ltOf cf) l.toArray 0 l.length) os := by
  have hc := insertion_any f cf hf hent g 0 l.length cap l w hH hlt (Nat.zero_le _) (Nat.le_refl _) (by omega)
  rw [hn] at hc
  rw [hn]
  generalize Sort.insertionSort (ltOf cf) l.toArray 0 n = r at hc ⊢
  clear hf hH
  go_enter Tryd.func104, Tryd.ntmps104
  go_wp2
  refine wp_loop_rounds 1 ?_
  rw [rounds_succ]
  go_wp2_with (go_at_call 108; refine hc.mono ?_; rintro e w1 ⟨rfl, n, os, rfl⟩)
  refine wp_loop_rounds 1 ?_
  rw [rounds_succ]
  go_wp2
  all_goals first | (exfalso; omega) | (go_end0; exact ⟨rfl, _, _, rfl⟩)
set_option maxHeartbeats 1600000 in
set_option maxRecDepth 100000 in
theorem sortStable_few (f : FuncId) (cf : Nat × Nat → Nat × Nat → Int) (hf : CmpR f cf) (hent : ∀ (args : Array Value) (w : World), (callFunc f args).run Tryd.prog w = .ok (.enter f args) w) (g cap n : Nat) (l : List (Nat × Nat)) (w : World)
    (hH : HoldsK encR 2 w g 0 l.toArray) (hlt : g < w.heap.size) (hn : l.length = n) (h20 : n < 20) :
    Calls Tryd.prog 95 #[.slice (some ⟨g, 0, none⟩) n cap, .func (.func f) #[] #[]] w fun e w' => e = .returned (.tuple #[]) ∧ ∃ n os, w' = sortWorldK encR 2 w g 0 n (Sort.insertionSort (ltOf cf) l.toArray 0 l.length) os := by
  have hc := stable_few f cf hf hent g cap n l w hH hlt hn h20
  generalize Sort.insertionSort (ltOf cf) l.toArray 0 l.length = r at hc ⊢
  clear hf hH
  go_enter Tryd.func95, Tryd.ntmps95
  go_wp2_with (go_at_call 104; refine hc.mono ?_; rintro e w1 ⟨rfl, n, os, rfl⟩)
  go_end0
  exact ⟨rfl, _, _, rfl⟩
end Go.Proofs.YtknacgdjodmaiaaDoor

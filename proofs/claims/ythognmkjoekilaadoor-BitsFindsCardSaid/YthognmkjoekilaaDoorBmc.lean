import Derived.Test.YthognmkjoekilaaDoorBmb
import Derived.Sort.Grow
import Derived.Shelf.SlSortCmp.InsertionK
import Derived.Test.YthognmkjoekilaaDoorBsortl
import Derived.Deep.DeepCutAuto
import Derived.Great.BuildSlice
import Derived.Shelf.SlSortCmp.WholeK
import Derived.Test.YthognmkjoekilaaDoorBma
import Derived.Test.YthognmkjoekilaaDoorBown
import Derived.Deep.WholeRow
import Derived.Lib.SlBytesConst
import Derived.Test.YthognmkjoekilaaDoorRows
import Derived.ProofKit
import Derived.LaidMore
import Derived.OpenShut
import Derived.Stop.Joined
import Derived.Deep.Slices
import Derived.ChangeMaps5
import Derived.SizedLaws
/- The two comparers of longest. -/
namespace Go.Proofs.YthognmkjoekilaaDoor
set_option linter.unusedVariables false
open Go.RowKit Go.Shelf Go.Lib Go.Sort

/-- A range's two cells. -/
def encR (r : Nat × Nat) : List Value := [.int .i64 (r.1 : Int), .int .i64 (r.2 : Int)]
/-- The longer first. -/
def cmpLong (x y : Nat × Nat) : Int := Lib.compareInt (y.2 : Int) (x.2 : Int)
/-- The lower first. -/
def cmpAt (x y : Nat × Nat) : Int := Lib.compareInt (x.1 : Int) (y.1 : Int)
set_option maxHeartbeats 1000000 in
theorem longest1_any (x y : Nat × Nat) (W : World) : Calls Tryd.prog 96 #[.agg #[.int .i64 (x.1 : Int), .int .i64 (x.2 : Int)], .agg #[.int .i64 (y.1 : Int), .int .i64 (y.2 : Int)]] W fun e w' => e = .returned (.int .i64 (cmpLong x y)) ∧ ∃ q os', w' = grow (W.drewN q) os' := by
  have hcon := fun W' => Tryd.cmp_Compare_int (y.2 : Int) (x.2 : Int) W'
  unfold cmpLong
  generalize Lib.compareInt (y.2 : Int) (x.2 : Int) = r at hcon ⊢
  go_enter Tryd.func96, Tryd.ntmps96
  go_wp2_with (go_at_call 97; refine (hcon _).mono ?_; rintro e w' ⟨rfl, rfl⟩)
  go_ret
  exact ⟨rfl, 0, _, by rw [alloc_eq_grow, alloc_eq_grow, grow_grow]; rfl⟩
set_option maxHeartbeats 1000000 in
theorem longest2_any (x y : Nat × Nat) (W : World) : Calls Tryd.prog 99 #[.agg #[.int .i64 (x.1 : Int), .int .i64 (x.2 : Int)], .agg #[.int .i64 (y.1 : Int), .int .i64 (y.2 : Int)]] W fun e w' => e = .returned (.int .i64 (cmpAt x y)) ∧ ∃ q os', w' = grow (W.drewN q) os' := by
  have hcon := fun W' => Tryd.cmp_Compare_int (x.1 : Int) (y.1 : Int) W'
  unfold cmpAt
  generalize Lib.compareInt (x.1 : Int) (y.1 : Int) = r at hcon ⊢
  go_enter Tryd.func99, Tryd.ntmps99
  go_wp2_with (go_at_call 97; refine (hcon _).mono ?_; rintro e w' ⟨rfl, rfl⟩)
  go_ret
  exact ⟨rfl, 0, _, by rw [alloc_eq_grow, alloc_eq_grow, grow_grow]; rfl⟩
end Go.Proofs.YthognmkjoekilaaDoor

/- A row of ranges, in the shelf's words for a sort, and back. -/
namespace Go.Proofs.YthognmkjoekilaaDoor
set_option linter.unusedVariables false
open Go.RowKit Go.Shelf Go.Lib Go.Sort

theorem rangeCells_len (l : List (Nat × Nat)) : (rangeCells l).length = l.length * 2 := by
  induction l with
  | nil => rfl
  | cons r l ih => simp only [rangeCells, List.flatMap_cons, List.length_append, List.length_cons, List.length_nil] at ih ⊢; omega
theorem rangeCells_at (l : List (Nat × Nat)) (t : Nat) (h : t < l.length * 2) : (rangeCells l)[t]? = some ((encR (l.toArray[t / 2]!))[t % 2]!) := by
  induction l generalizing t with
  | nil => simp at h
  | cons r l ih =>
    match t with
    | 0 => simp [rangeCells, encR]
    | 1 => simp [rangeCells, encR]
    | t + 2 =>
      have hh := ih t (by simp only [List.length_cons] at h; omega)
      rw [show (t + 2) / 2 = t / 2 + 1 by omega, show (t + 2) % 2 = t % 2 by omega]
      simp only [rangeCells, List.flatMap_cons] at hh ⊢
      rw [List.getElem?_append_right (by simp)]
      simp only [List.length_cons, List.length_nil, Nat.add_sub_cancel]
      rw [hh]
      simp
theorem flatK_ranges (l : List (Nat × Nat)) : (flatK encR 2 l.toArray).toList = rangeCells l := by
  apply List.ext_getElem?
  intro t
  by_cases h : t < l.length * 2
  · rw [rangeCells_at l t h]
    have h1 := get_flatK encR 2 l.toArray t (by simpa using h)
    have h2 : t < (flatK encR 2 l.toArray).size := by simpa using h
    rw [Array.getElem?_toList, Array.getElem?_eq_getElem h2, ← getElem!_pos (flatK encR 2 l.toArray) t h2, h1]
  · rw [List.getElem?_eq_none (by simp; omega), List.getElem?_eq_none (by rw [rangeCells_len]; omega)]
/-- A row that a call owns, as the shelf's sorts hold one. -/
theorem OwnR.holds {w : World} {B g cap n : Nat} {l : List (Nat × Nat)} (h : OwnR w B (.slice (some ⟨g, 0, none⟩) n cap) l) : n = l.length ∧ B ≤ g ∧ g < w.heap.size ∧ HoldsK encR 2 w g 0 l.toArray := by
  rcases h.1.2 with ⟨hv, h0⟩ | ⟨g', cap', cur, hv, hg0, hg, hnc, hcm, hcs, htake⟩
  · cases hv
  · injection hv with h1 h2 h3
    injection h1 with h1
    injection h1 with h1 _ _
    subst h1 h2 h3
    have hlt : g < w.heap.size := by
      rcases Nat.lt_or_ge g w.heap.size with hlt | hge
      · exact hlt
      · rw [Array.getElem?_eq_none hge] at hg; cases hg
    refine ⟨rfl, hg0, hlt, fun j hj => ⟨?_, ?_⟩⟩
    · have hj' : j < l.length * 2 := by simpa using hj
      have hjs : j < cur.size := by rw [hcs]; have := Nat.mul_le_mul_right 2 hnc; omega
      rw [Nat.zero_add, cell_of_row w g j cur _ (0, 0) hg]
      have e1 : (cur.toList.take (l.length * 2))[j]? = cur[j]? := by rw [List.getElem?_take_of_lt hj', Array.getElem?_toList]
      rw [← e1, htake, rangeCells_at l j hj', get_flatK encR 2 l.toArray j (by simpa using hj)]
      rfl
    · simp [World.frozen?, hg]
/-- .. and back, behind the sort. -/
theorem OwnR.sorted {w : World} {B g cap n m : Nat} {l l' : List (Nat × Nat)} {os : Array Obj} (h : OwnR w B (.slice (some ⟨g, 0, none⟩) n cap) l) (hl : l'.length = l.length) (hb : ∀ r ∈ l', r.1 ≤ 65536 ∧ r.2 ≤ 65536) :
    OwnR (sortWorldK encR 2 w g 0 m l'.toArray os) B (.slice (some ⟨g, 0, none⟩) n cap) l' ∧ But g w (sortWorldK encR 2 w g 0 m l'.toArray os) := by
  obtain ⟨hn, hB, hlt, -⟩ := h.holds
  rcases h.1.2 with ⟨hv, h0⟩ | ⟨g', cap', cur, hv, hg0, hg, hnc, hcm, hcs, htake⟩
  · cases hv
  · injection hv with h1 h2 h3
    injection h1 with h1
    injection h1 with h1 _ _
    subst h1 h2 h3
    have hsz : (putRow id (Sort.ahead w m) g 0 (flatK encR 2 l'.toArray)).heap.size = w.heap.size := size_putRow id _ _ _ _
    have hnew : ∀ k, k < w.heap.size → (sortWorldK encR 2 w g 0 m l'.toArray os).heap[k]? = (putRow id (Sort.ahead w m) g 0 (flatK encR 2 l'.toArray)).heap[k]? := by
      intro k hk
      unfold sortWorldK putRowK grow
      exact Array.getElem?_append_left (by rw [hsz]; exact hk)
    have hoth : ∀ k, k < w.heap.size → k ≠ g → (sortWorldK encR 2 w g 0 m l'.toArray os).heap[k]? = w.heap[k]? := by
      intro k hk hne
      rw [hnew k hk]
      unfold putRow mapBlock Sort.ahead
      simp only [Array.getElem?_modify]
      rw [if_neg (fun e => hne e.symm)]
    have hat : (sortWorldK encR 2 w g 0 m l'.toArray os).heap[g]? = some (.cells (putCells id 0 (flatK encR 2 l'.toArray) cur) 60 (0, 0)) := by
      rw [hnew g hlt]
      unfold putRow mapBlock Sort.ahead
      simp only [Array.getElem?_modify, if_pos, hg]
      rfl
    have hF : (flatK encR 2 l'.toArray).size = l.length * 2 := by simp [hl]
    have hcz : (putCells id 0 (flatK encR 2 l'.toArray) cur).size = cap * 2 := by simp [putCells, hcs]
    refine ⟨⟨⟨by rw [rangeCells_len], .inr ⟨g, cap, _, by rw [hl], hg0, hat, by rw [hl]; exact hnc, hcm, hcz, ?_⟩⟩, hb⟩, ⟨⟨rfl, rfl, rfl, ?_, ?_⟩, hoth⟩⟩
    · rw [← flatK_ranges l', hl]
      have hle := Nat.mul_le_mul_right 2 hnc
      apply List.ext_getElem (by simp only [List.length_take, Array.length_toList, hcz, hF]; omega)
      intro j j1 j2
      have hj : j < l.length * 2 := by simpa [hF] using j2
      have hjs : j < cur.size := by omega
      simp only [List.getElem_take, Array.getElem_toList]
      simp only [putCells, Array.getElem_mapIdx, Nat.zero_le, Nat.zero_add, true_and, hF, hj, if_true, Nat.sub_zero, id]
      exact getElem!_pos _ _ _
    · show _ ≤ (grow _ os).heap.size
      unfold grow
      simp only [Array.size_append]
      have : (putRowK encR 2 (Sort.ahead w m) g 0 l'.toArray).heap.size = w.heap.size := hsz
      omega
    · intro k hk
      exact hoth k (by omega) (by omega)
end Go.Proofs.YthognmkjoekilaaDoor

/- The library's sorts of a row of ranges: the insertion sort, and the stable sort of fewer than twenty. -/
namespace Go.Proofs.YthognmkjoekilaaDoor
set_option linter.unusedVariables false
open Go.RowKit Go.Shelf Go.Lib Go.Sort

/-- A comparer of two ranges: what it answers. -/
def CmpR (f : FuncId) (cf : Nat × Nat → Nat × Nat → Int) : Prop := ∀ x y W, Calls Tryd.prog f #[.agg #[.int .i64 (x.1 : Int), .int .i64 (x.2 : Int)], .agg #[.int .i64 (y.1 : Int), .int .i64 (y.2 : Int)]] W fun e w' => e = .returned (.int .i64 (cf x y)) ∧ ∃ q os', w' = grow (W.drewN q) os'
theorem CmpR.lays {f : FuncId} {cf : Nat × Nat → Nat × Nat → Int} (h : CmpR f cf) (blk off size : Nat) (w : World) : CmpLays Tryd.prog f #[] encR 2 cf blk off size w := fun _ _ _ _ x y => h x y _
theorem encR_len (x : Nat × Nat) : (encR x).length = 2 := rfl
theorem encR_one (x : Nat × Nat) : ∀ v ∈ encR x, v.oneCell' = true := by
  intro v hv
  simp [encR] at hv
  rcases hv with rfl | rfl <;> rfl
/-- The insertion sort of a part of a row. -/
theorem insertion_any (f : FuncId) (cf : Nat × Nat → Nat × Nat → Int) (hf : CmpR f cf) (hent : ∀ (args : Array Value) (w : World), (callFunc f args).run Tryd.prog w = .ok (.enter f args) w) (g a b cap : Nat) (l : List (Nat × Nat)) (w : World)
    (hH : HoldsK encR 2 w g 0 l.toArray) (hlt : g < w.heap.size) (hab : a ≤ b) (hb : b ≤ l.length) (hsz : l.length < 4611686018427387904) :
    Calls Tryd.prog 108 #[.slice (some ⟨g, 0, none⟩) l.length cap, .int .i64 a, .int .i64 b, .func (.func f) #[] #[]] w fun e w' => e = .returned (.tuple #[]) ∧ ∃ n os, w' = sortWorldK encR 2 w g 0 n (Sort.insertionSort (ltOf cf) l.toArray a b) os :=
  AnyQ.insertionSortCmpFunc (P := Tryd.prog) (ρ := Tryd.sortRange_ren) { Tryd.sortRange with } 2 Tryd.isAgg60 Tryd.sizeOf60 encR encR_len encR_one cf f #[] g 0 cap a b l.toArray w hent (hf.lays g 0 l.toArray.size w) hH hlt hab hb hsz
set_option maxHeartbeats 1600000 in
set_option maxRecDepth 100000 in
/-- Of fewer than twenty: the insertion sort. -/
theorem stable_few (f : FuncId) (cf : Nat × Nat → Nat × Nat → Int) (hf : CmpR f cf) (hent : ∀ (args : Array Value) (w : World), (callFunc f args).run Tryd.prog w = .ok (.enter f args) w) (g cap n : Nat) (l : List (Nat × Nat)) (w : World)
    (hH : HoldsK encR 2 w g 0 l.toArray) (hlt : g < w.heap.size) (hn : l.length = n) (h20 : n < 20) :
    Calls Tryd.prog 104 #[.slice (some ⟨g, 0, none⟩) n cap, .int .i64 n, .func (.func f) #[] #[]] w fun e w' => e = .returned (.tuple #[]) ∧ ∃ n os, w' = sortWorldK encR 2 w g 0 n (Sort.insertionSort (ltOf cf) l.toArray 0 l.length) os := by
  have hc := insertion_any f cf hf hent g 0 l.length cap l w hH hlt (Nat.zero_le _) (Nat.le_refl _) (by omega)
  rw [hn] at hc
  rw [hn]
  generalize Sort.insertionSort (ltOf cf) l.toArray 0 n = r at hc ⊢
  clear hf hH
  go_enter Tryd.func104, Tryd.ntmps104
  go_wp2
  refine wp_loop_rounds 1 ?_
  rw [rounds_succ]
  go_wp2_with (go_at_call 108; refine hc.mono ?_; rintro e w1 ⟨rfl, n, os, rfl⟩)
  refine wp_loop_rounds 1 ?_
  rw [rounds_succ]
  go_wp2
  all_goals first | (exfalso; omega) | (go_end0; exact ⟨rfl, _, _, rfl⟩)
set_option maxHeartbeats 1600000 in
set_option maxRecDepth 100000 in
theorem sortStable_few (f : FuncId) (cf : Nat × Nat → Nat × Nat → Int) (hf : CmpR f cf) (hent : ∀ (args : Array Value) (w : World), (callFunc f args).run Tryd.prog w = .ok (.enter f args) w) (g cap n : Nat) (l : List (Nat × Nat)) (w : World)
    (hH : HoldsK encR 2 w g 0 l.toArray) (hlt : g < w.heap.size) (hn : l.length = n) (h20 : n < 20) :
    Calls Tryd.prog 95 #[.slice (some ⟨g, 0, none⟩) n cap, .func (.func f) #[] #[]] w fun e w' => e = .returned (.tuple #[]) ∧ ∃ n os, w' = sortWorldK encR 2 w g 0 n (Sort.insertionSort (ltOf cf) l.toArray 0 l.length) os := by
  have hc := stable_few f cf hf hent g cap n l w hH hlt hn h20
  generalize Sort.insertionSort (ltOf cf) l.toArray 0 l.length = r at hc ⊢
  clear hf hH
  go_enter Tryd.func95, Tryd.ntmps95
  go_wp2_with (go_at_call 104; refine hc.mono ?_; rintro e w1 ⟨rfl, n, os, rfl⟩)
  go_end0
  exact ⟨rfl, _, _, rfl⟩
end Go.Proofs.YthognmkjoekilaaDoor

/- longest: the longest runs of clear bits until they have many bits. -/
namespace Go.Proofs.YthognmkjoekilaaDoor
set_option linter.unusedVariables false
open Go.RowKit Go.Shelf

/-- What is still wanted behind i ranges. -/
def leftV (ss : List (Nat × Nat)) (m : Nat) : Nat → Nat
  | 0 => m
  | i + 1 => leftV ss m i - min (ss.getD i (0, 0)).2 (leftV ss m i)
/-- The row with i ranges cut. -/
def rowI (ss : List (Nat × Nat)) (m : Nat) : Nat → List (Nat × Nat)
  | 0 => ss
  | i + 1 => (rowI ss m i).set i ((ss.getD i (0, 0)).1, min (ss.getD i (0, 0)).2 (leftV ss m i))
theorem leftV_le (ss : List (Nat × Nat)) (m : Nat) : ∀ i, leftV ss m i ≤ m
  | 0 => Nat.le_refl _
  | i + 1 => by have := leftV_le ss m i; unfold leftV; omega
theorem rowI_len (ss : List (Nat × Nat)) (m : Nat) : ∀ i, (rowI ss m i).length = ss.length
  | 0 => rfl
  | i + 1 => by simp [rowI, rowI_len ss m i]
theorem rowI_at (ss : List (Nat × Nat)) (m : Nat) : ∀ i j, i ≤ j → (rowI ss m i).getD j (0, 0) = ss.getD j (0, 0)
  | 0, _, _ => rfl
  | i + 1, j, h => by
    have := rowI_at ss m i j (by omega)
    simp only [List.getD_eq_getElem?_getD] at this ⊢
    simp only [rowI]
    rw [List.getElem?_set_ne (by omega)]
    exact this
theorem rowI_bd (ss : List (Nat × Nat)) (m : Nat) (h : ∀ r ∈ ss, r.1 ≤ 65536 ∧ r.2 ≤ 65536) : ∀ i, i ≤ ss.length → ∀ r ∈ rowI ss m i, r.1 ≤ 65536 ∧ r.2 ≤ 65536
  | 0, _ => h
  | i + 1, hi => fun r hr => by
    rcases List.mem_or_eq_of_mem_set hr with hr | rfl
    · exact rowI_bd ss m h i (by omega) r hr
    · have hm : ss.getD i (0, 0) ∈ ss := by
        rw [List.getD_eq_getElem?_getD, List.getElem?_eq_getElem (by omega)]; exact List.getElem_mem _
      have := h _ hm
      simp only; omega
theorem OwnR.at_ {w : World} {B g n cap : Nat} {l : List (Nat × Nat)} (h : OwnR w B (.slice (some ⟨g, 0, none⟩) n cap) l) (i : Nat) (hi : i < l.length) :
    w.cell? ⟨g, i * 2, none⟩ = some (.int .i64 ((l.getD i (0, 0)).1 : Int)) ∧ w.cell? ⟨g, i * 2 + 1, none⟩ = some (.int .i64 ((l.getD i (0, 0)).2 : Int)) := by
  obtain ⟨rfl, -, -, hH⟩ := h.holds
  have e : (l.toArray)[i]! = l.getD i (0, 0) := by
    rw [getElem!_pos _ _ (by simpa using hi), List.getD_eq_getElem?_getD, List.getElem?_eq_getElem hi]; rfl
  constructor
  · rw [h.1.cellAt (i * 2) (by omega), rangeCells_at l (i * 2) (by omega), show i * 2 / 2 = i by omega, show i * 2 % 2 = 0 by omega, e]; rfl
  · rw [h.1.cellAt (i * 2 + 1) (by omega), rangeCells_at l (i * 2 + 1) (by omega), show (i * 2 + 1) / 2 = i by omega, show (i * 2 + 1) % 2 = 1 by omega, e]; rfl
theorem rangeCells_set (l : List (Nat × Nat)) (i : Nat) (hi : i < l.length) (c : Nat) : (rangeCells l).set (i * 2 + 1) (.int .i64 (c : Int)) = rangeCells (l.set i ((l.getD i (0, 0)).1, c)) := by
  induction l generalizing i with
  | nil => simp at hi
  | cons r l ih =>
    cases i with
    | zero => simp [rangeCells]
    | succ i =>
      have := ih i (by simpa using hi)
      rw [show (i + 1) * 2 + 1 = (i * 2 + 1) + 2 by omega]
      simp only [rangeCells, List.flatMap_cons, List.set_cons_succ, List.cons_append, List.nil_append, List.getD_cons_succ] at this ⊢
      rw [this]
theorem OwnR.stored {w : World} {B g n cap : Nat} {l : List (Nat × Nat)} (h : OwnR w B (.slice (some ⟨g, 0, none⟩) n cap) l) (i : Nat) (hi : i < l.length) (c : Nat) (hc : c ≤ 65536) :
    OwnR (w.setCell ⟨g, i * 2 + 1, none⟩ (.int .i64 (c : Int))) B (.slice (some ⟨g, 0, none⟩) n cap) (l.set i ((l.getD i (0, 0)).1, c)) := by
  obtain ⟨rfl, -, -, -⟩ := h.holds
  refine ⟨?_, fun r hr => ?_⟩
  · rw [List.length_set, ← rangeCells_set l i hi c]
    exact (h.1.stored (i * 2 + 1) (.int .i64 (c : Int))).1
  · rcases List.mem_or_eq_of_mem_set hr with hr | rfl
    · exact h.2 r hr
    · have hm : l.getD i (0, 0) ∈ l := by
        rw [List.getD_eq_getElem?_getD, List.getElem?_eq_getElem hi]; exact List.getElem_mem _
      exact ⟨(h.2 _ hm).1, hc⟩
theorem OwnR.front {w : World} {B g n cap : Nat} {l : List (Nat × Nat)} (h : OwnR w B (.slice (some ⟨g, 0, none⟩) n cap) l) (k : Nat) (hk : k ≤ l.length) :
    OwnR w B (.slice (some ⟨g, 0, none⟩) k cap) (l.take k) := by
  refine ⟨?_, fun r hr => h.2 r (List.mem_of_mem_take hr)⟩
  rcases h.1.2 with ⟨hv, h0⟩ | ⟨g', cap', cur, hv, hg0, hg, hnc, hcm, hcs, htake⟩
  · cases hv
  · injection hv with h1 h2 h3
    injection h1 with h1
    injection h1 with h1 _ _
    subst h1 h2 h3
    have hl : (l.take k).length = k := by simp; omega
    have hf : ∀ (l : List (Nat × Nat)) k, rangeCells (l.take k) = (rangeCells l).take (k * 2) := by
      intro l k
      induction l generalizing k with
      | nil => simp [rangeCells]
      | cons r l ih =>
        cases k with
        | zero => simp [rangeCells]
        | succ k =>
          have := ih k
          rw [show (k + 1) * 2 = k * 2 + 2 by omega]
          simp only [rangeCells, List.take_succ_cons, List.flatMap_cons, List.cons_append, List.nil_append] at this ⊢
          rw [this]
    refine ⟨rangeCells_len _, .inr ⟨g, cap, cur, by rw [hl], hg0, hg, by omega, hcm, hcs, ?_⟩⟩
    rw [hf, ← htake, List.take_take, hl]
    congr 1
    omega
end Go.Proofs.YthognmkjoekilaaDoor

/- longest: the longest runs of clear bits until they have many bits. -/
namespace Go.Proofs.YthognmkjoekilaaDoor
set_option linter.unusedVariables false
open Go.RowKit Go.Shelf

/-- What the stable sort by length makes of these ranges. -/
def StableR (rs ss : List (Nat × Nat)) : Prop := ∀ (W : World) (B : Nat) (a : Option Addr) (n cap : Nat), OwnR W B (.slice a n cap) rs → B ≤ W.heap.size → Calls Tryd.prog 95 #[.slice a n cap, .func (.func 96) #[] #[]] W fun e w' => e = .returned (.tuple #[]) ∧ OwnR w' B (.slice a n cap) ss ∧ Below B W w'
/-- What the sort by place makes of these ranges. -/
def SortR (tk us : List (Nat × Nat)) : Prop := ∀ (W : World) (B g n cap : Nat), OwnR W B (.slice (some ⟨g, 0, none⟩) n cap) tk → B ≤ W.heap.size → Calls Tryd.prog 98 #[.slice (some ⟨g, 0, none⟩) n cap, .func (.func 99) #[] #[]] W fun e w' => e = .returned (.tuple #[]) ∧ OwnR w' B (.slice (some ⟨g, 0, none⟩) n cap) us ∧ Below B W w'
set_option maxRecDepth 100000 in
set_option maxHeartbeats 4000000 in
theorem longest_ok (M : Nat) (a : Option Addr) (l c : Nat) (bs : List Int) (m k : Nat) (ss us : List (Nat × Nat)) (w : World) (hr : Rd w a l c bs) (hv : validB (M : Int) bs = true)
    (hm1 : 1 ≤ m) (hm : m ≤ 65536) (hs : StableR (runsV bs M false) ss) (hk : k ≤ ss.length) (hk0 : leftV ss m k = 0) (hlt : ∀ i, i < k → 0 < leftV ss m i) (hu : SortR ((rowI ss m k).take k) us) :
    Calls Tryd.prog 81 #[.agg #[.int .i64 (M : Int), .slice a l c], .int .i64 (m : Int)] w fun e w' => ∃ a' l' c', e = .returned (.slice a' l' c') ∧ OwnR w' w.heap.size (.slice a' l' c') us ∧ Below w.heap.size w w' := by
  have HR := Lib.hid hr
  have Hv := Lib.hid hv
  have Hs := Lib.hid hs
  have Hk := Lib.hid (And.intro hk (And.intro hk0 hlt))
  have Hu := Lib.hid hu
  clear hr hv hs hk hk0 hlt hu
  go_enter Tryd.func81, Tryd.ntmps81
  go_wp2_with fail
  have HR1 := Lib.hid (HR.out.below ((Below.refl _ w).alloc (Nat.le_refl _) (.cells #[.int .i64 (M : Int), .slice a l c] 24)) (Nat.le_refl _))
  have Hb1 := Lib.hid ((Below.refl _ w).alloc (Nat.le_refl _) (.cells #[.int .i64 (M : Int), .slice a l c] 24))
  obtain ⟨w1, hw1⟩ : ∃ w1, w1 = w.alloc (.cells #[.int .i64 (M : Int), .slice a l c] 24) := ⟨_, rfl⟩
  rw [← hw1] at HR1 Hb1 ⊢
  clear hw1
  refine (runs_any M a l c false w1).mono ?_
  rintro e w2 ⟨rfl, hw2⟩
  have hb2 : Below w1.heap.size w1 w2 := by rw [hw2]; exact ((Below.refl _ w1).alloc (Nat.le_refl _) _).alloc (by simp) _
  have hRA : RunsAt w2 w1.heap.size (w1.heap.size + 1) M a l c bs false := by
    refine ⟨?_, ?_, HR1.out.below hb2 (Nat.le_refl _)⟩
    · rw [hw2]; exact Blk.below (heap_new w1 _ : Blk (w1.alloc _) _ _ _) ((Below.refl _ _).alloc (Nat.le_refl _) _) (by simp)
    · rw [hw2]; have := Boxed.new (w1.alloc (.cells #[.int .i64 (M : Int), .slice a l c] 24)) 4 (.bool false); rw [World.size_alloc] at this; exact this
  have HRA := Lib.hid hRA
  have Hb2 := Lib.hid hb2
  clear hw2 hb2 hRA HR1 HR
  go_wp2_with fail
  refine (collect_any _ _ M a l c bs false w2 HRA.out Hv.out).mono ?_
  rintro e w3 ⟨a', l', c', rfl, hO, hb3⟩
  have HO := Lib.hid (hO.mono (B' := w.heap.size) (by have := Hb1.out.size; have := Hb2.out.size; omega))
  have Hb3 := Lib.hid (Hb1.out.trans ((Hb2.out.trans (hb3.mono Hb2.out.size)).mono Hb1.out.size))
  clear hO hb3 Hb1 Hb2 HRA
  go_wp2_with fail
  refine (Hs.out w3 w.heap.size a' l' c' HO.out Hb3.out.size).mono ?_
  rintro e w4 ⟨rfl, hO, hb⟩
  have HO := Lib.hid hO
  have Hb := Lib.hid (Hb3.out.trans hb)
  clear hO hb Hb3
  have hk1 : 1 ≤ k := by
    rcases Nat.eq_zero_or_pos k with h0 | h0
    · have := Hk.out.2.1; rw [h0] at this; unfold leftV at this; omega
    · exact h0
  obtain ⟨g, rfl⟩ : ∃ g, a' = some ⟨g, 0, none⟩ := by
    rcases HO.out.1.2 with ⟨hv, h0⟩ | ⟨g, cap, cur, hv, -⟩
    · have := Hk.out.1; omega
    · injection hv with h1 h2 h3; exact ⟨g, h1⟩
  obtain ⟨hl', hg0, hg1, -⟩ := HO.out.holds
  have hkl : k ≤ l' := by have := Hk.out.1; omega
  have hl9 : l' ≤ c' ∧ c' ≤ 9223372036854775807 := by
    rcases HO.out.1.2 with ⟨hv, h0⟩ | ⟨g', cap, cur, hv, -, -, h1, h2, -⟩
    · cases hv
    · injection hv with h3 h4 h5; unfold maxLen at h2; rw [hl', h5]; exact ⟨h1, by omega⟩
  have Hl' := Lib.hid hl'
  clear hl'
  go_wp2_with fail
  go_loopw [1, 6] (fun q p wr => ∃ i : Nat, p = .int .i64 (i : Int) ∧ q = .int .i64 (leftV ss m i : Int) ∧ i ≤ k ∧ OwnR wr w.heap.size (.slice (some ⟨g, 0, none⟩) l' c') (rowI ss m i) ∧ Below w.heap.size w wr) (fun _ p _ => k - (intOf p).toNat)
  case atStart => exact ⟨0, rfl, rfl, Nat.zero_le _, HO.out, Hb.out⟩
  case round =>
    obtain ⟨i, rfl, rfl, hik, hOr, hbr⟩ := hrel
    have HOr := Lib.hid hOr
    have Hbr := Lib.hid hbr
    clear hOr hbr HO Hb
    have hlm := leftV_le ss m i
    by_cases hlt : i < k
    · have hpos := Hk.out.2.2 i hlt
      have hil : i < (rowI ss m i).length := by rw [rowI_len, ← Hl'.out]; omega
      obtain ⟨q0, q1⟩ := HOr.out.at_ i hil
      rw [rowI_at ss m i i (Nat.le_refl _)] at q0 q1
      have hfro : wr.frozen? ⟨g, i * 2 + 1, none⟩ = false := by have h1 := HOr.out.1; rw [rowI_len, ← Hl'.out] at h1; exact h1.frozenAt _
      obtain ⟨L, hL⟩ : ∃ L, L = leftV ss m i := ⟨_, rfl⟩
      obtain ⟨C, hC⟩ : ∃ C, C = (ss.getD i (0, 0)).2 := ⟨_, rfl⟩
      have hst := HOr.out.stored i hil (min C L) (by omega)
      rw [rowI_at ss m i i (Nat.le_refl _)] at hst
      have hrow : rowI ss m (i + 1) = (rowI ss m i).set i ((ss.getD i (0, 0)).1, min C L) := by rw [hL, hC]; rfl
      have hleft : leftV ss m (i + 1) = L - min C L := by rw [hL, hC]; rfl
      rw [← hrow] at hst
      rw [← hL] at hpos hlm ⊢
      rw [← hC] at q1
      have hil2 : (i : Int) < (l' : Int) := by omega
      have hpos2 : (0 : Int) < (L : Int) := by omega
      have Hst := Lib.hid hst
      have Hleft := Lib.hid hleft
      clear hst hrow hleft hL hC
      go_wp2_with fail
      refine (need_yes 3 wr).mono ?_
      rintro e u ⟨rfl, rfl⟩
      go_wp2_with fail
      have hmin : (min (C : Int) (L : Int)) = ((min C L : Nat) : Int) := by omega
      refine ⟨⟨i + 1, by push_cast; rfl, ?_, by omega, ?_, ?_⟩, ?_⟩
      · rw [Hleft.out, hmin]; congr 1; omega
      · rw [hmin]; exact Hst.out
      · exact Hbr.out.setCell (by simpa using hg0) _
      · simp only [intOf]; omega
    · have hie : i = k := by omega
      subst hie
      have h0 : leftV ss m i = 0 := Hk.out.2.1
      rw [h0]
      have HF := Lib.hid (HOr.out.front i (by rw [rowI_len]; exact Hk.out.1))
      clear h0 hlm HOr
      go_wp2_with fail
      refine (Hu.out wr w.heap.size g i c' HF.out Hbr.out.size).mono ?_
      rintro e w5 ⟨rfl, hO, hb⟩
      have HO := Lib.hid hO
      have Hb := Lib.hid (Hbr.out.trans hb)
      clear hO hb Hbr HF
      go_wp2_with fail
      refine bodyPost_ret (results_tmp rfl _ _ _) rfl ?_
      exact ⟨_, i, c', rfl, HO.out, Hb.out⟩
end Go.Proofs.YthognmkjoekilaaDoor

/- longest, where the clear bits do not suffice. -/
namespace Go.Proofs.YthognmkjoekilaaDoor
set_option linter.unusedVariables false
open Go.RowKit Go.Shelf

set_option maxRecDepth 100000 in
set_option maxHeartbeats 4000000 in
theorem longest_no (M : Nat) (a : Option Addr) (l c : Nat) (bs : List Int) (m : Nat) (ss : List (Nat × Nat)) (w : World) (hr : Rd w a l c bs) (hv : validB (M : Int) bs = true)
    (hm1 : 1 ≤ m) (hm : m ≤ 65536) (hs : StableR (runsV bs M false) ss) (hlt : ∀ i, i ≤ ss.length → 0 < leftV ss m i) :
    Calls Tryd.prog 81 #[.agg #[.int .i64 (M : Int), .slice a l c], .int .i64 (m : Int)] w fun e w' => e = pan 3 ∧ Below w.heap.size w w' := by
  have HR := Lib.hid hr
  have Hv := Lib.hid hv
  have Hs := Lib.hid hs
  have Hk := Lib.hid hlt
  clear hr hv hs hlt
  go_enter Tryd.func81, Tryd.ntmps81
  go_wp2_with fail
  have HR1 := Lib.hid (HR.out.below ((Below.refl _ w).alloc (Nat.le_refl _) (.cells #[.int .i64 (M : Int), .slice a l c] 24)) (Nat.le_refl _))
  have Hb1 := Lib.hid ((Below.refl _ w).alloc (Nat.le_refl _) (.cells #[.int .i64 (M : Int), .slice a l c] 24))
  obtain ⟨w1, hw1⟩ : ∃ w1, w1 = w.alloc (.cells #[.int .i64 (M : Int), .slice a l c] 24) := ⟨_, rfl⟩
  rw [← hw1] at HR1 Hb1 ⊢
  clear hw1
  refine (runs_any M a l c false w1).mono ?_
  rintro e w2 ⟨rfl, hw2⟩
  have hb2 : Below w1.heap.size w1 w2 := by rw [hw2]; exact ((Below.refl _ w1).alloc (Nat.le_refl _) _).alloc (by simp) _
  have hRA : RunsAt w2 w1.heap.size (w1.heap.size + 1) M a l c bs false := by
    refine ⟨?_, ?_, HR1.out.below hb2 (Nat.le_refl _)⟩
    · rw [hw2]; exact Blk.below (heap_new w1 _ : Blk (w1.alloc _) _ _ _) ((Below.refl _ _).alloc (Nat.le_refl _) _) (by simp)
    · rw [hw2]; have := Boxed.new (w1.alloc (.cells #[.int .i64 (M : Int), .slice a l c] 24)) 4 (.bool false); rw [World.size_alloc] at this; exact this
  have HRA := Lib.hid hRA
  have Hb2 := Lib.hid hb2
  clear hw2 hb2 hRA HR1 HR
  go_wp2_with fail
  refine (collect_any _ _ M a l c bs false w2 HRA.out Hv.out).mono ?_
  rintro e w3 ⟨a', l', c', rfl, hO, hb3⟩
  have HO := Lib.hid (hO.mono (B' := w.heap.size) (by have := Hb1.out.size; have := Hb2.out.size; omega))
  have Hb3 := Lib.hid (Hb1.out.trans ((Hb2.out.trans (hb3.mono Hb2.out.size)).mono Hb1.out.size))
  clear hO hb3 Hb1 Hb2 HRA
  go_wp2_with fail
  refine (Hs.out w3 w.heap.size a' l' c' HO.out Hb3.out.size).mono ?_
  rintro e w4 ⟨rfl, hO, hb⟩
  have HO := Lib.hid hO
  have Hb := Lib.hid (Hb3.out.trans hb)
  clear hO hb Hb3
  rcases HO.out.1.2 with ⟨hv, h0⟩ | ⟨g, cap, cur, hv, -⟩
  · injection hv with h1 h2 h3
    subst h1 h2 h3
    have hm2 : (0 : Int) < (m : Int) := by omega
    go_wp2_with fail
    refine wp_loop_rounds 1 ?_
    rw [rounds_succ]
    go_wp2_with fail
    refine (need_no 3 w4).mono ?_
    rintro e u ⟨rfl, rfl⟩
    exact ⟨rfl, rfl, Hb.out⟩
  obtain rfl : a' = some ⟨g, 0, none⟩ := by injection hv
  clear hv
  obtain ⟨hl', hg0, hg1, -⟩ := HO.out.holds
  have hl9 : l' ≤ c' ∧ c' ≤ 9223372036854775807 := by
    rcases HO.out.1.2 with ⟨hv, h0⟩ | ⟨g', cap, cur, hv, -, -, h1, h2, -⟩
    · cases hv
    · injection hv with h3 h4 h5; unfold maxLen at h2; rw [hl', h5]; exact ⟨h1, by omega⟩
  have Hl' := Lib.hid hl'
  clear hl'
  go_wp2_with fail
  go_loopw [1, 6] (fun q p wr => ∃ i : Nat, p = .int .i64 (i : Int) ∧ q = .int .i64 (leftV ss m i : Int) ∧ i ≤ l' ∧ OwnR wr w.heap.size (.slice (some ⟨g, 0, none⟩) l' c') (rowI ss m i) ∧ Below w.heap.size w wr) (fun _ p _ => l' - (intOf p).toNat)
  case atStart => exact ⟨0, rfl, rfl, Nat.zero_le _, HO.out, Hb.out⟩
  case round =>
    obtain ⟨i, rfl, rfl, hik, hOr, hbr⟩ := hrel
    have HOr := Lib.hid hOr
    have Hbr := Lib.hid hbr
    clear hOr hbr HO Hb
    have hlm := leftV_le ss m i
    by_cases hlt : i < l'
    · have hpos := Hk.out i (by rw [← Hl'.out]; omega)
      have hil : i < (rowI ss m i).length := by rw [rowI_len, ← Hl'.out]; omega
      obtain ⟨q0, q1⟩ := HOr.out.at_ i hil
      rw [rowI_at ss m i i (Nat.le_refl _)] at q0 q1
      have hfro : wr.frozen? ⟨g, i * 2 + 1, none⟩ = false := by have h1 := HOr.out.1; rw [rowI_len, ← Hl'.out] at h1; exact h1.frozenAt _
      obtain ⟨L, hL⟩ : ∃ L, L = leftV ss m i := ⟨_, rfl⟩
      obtain ⟨C, hC⟩ : ∃ C, C = (ss.getD i (0, 0)).2 := ⟨_, rfl⟩
      have hst := HOr.out.stored i hil (min C L) (by omega)
      rw [rowI_at ss m i i (Nat.le_refl _)] at hst
      have hrow : rowI ss m (i + 1) = (rowI ss m i).set i ((ss.getD i (0, 0)).1, min C L) := by rw [hL, hC]; rfl
      have hleft : leftV ss m (i + 1) = L - min C L := by rw [hL, hC]; rfl
      rw [← hrow] at hst
      rw [← hL] at hpos hlm ⊢
      rw [← hC] at q1
      have hil2 : (i : Int) < (l' : Int) := by omega
      have hpos2 : (0 : Int) < (L : Int) := by omega
      have Hst := Lib.hid hst
      have Hleft := Lib.hid hleft
      clear hst hrow hleft hL hC
      go_wp2_with fail
      refine (need_yes 3 wr).mono ?_
      rintro e u ⟨rfl, rfl⟩
      go_wp2_with fail
      have hmin : (min (C : Int) (L : Int)) = ((min C L : Nat) : Int) := by omega
      refine ⟨⟨i + 1, by push_cast; rfl, ?_, by omega, ?_, ?_⟩, ?_⟩
      · rw [Hleft.out, hmin]; congr 1; omega
      · rw [hmin]; exact Hst.out
      · exact Hbr.out.setCell (by simpa using hg0) _
      · simp only [intOf]; omega
    · have hie : i = l' := by omega
      subst hie
      have hpos := Hk.out i (by rw [← Hl'.out]; omega)
      obtain ⟨L, hL⟩ : ∃ L, L = leftV ss m i := ⟨_, rfl⟩
      rw [← hL] at hpos hlm ⊢
      have hpos2 : (0 : Int) < (L : Int) := by omega
      clear hL
      go_wp2_with fail
      refine (need_no 3 wr).mono ?_
      rintro e u ⟨rfl, rfl⟩
      exact ⟨rfl, rfl, Hbr.out⟩
end Go.Proofs.YthognmkjoekilaaDoor

/- Gather: ranges of clear bits. -/
namespace Go.Proofs.YthognmkjoekilaaDoor
set_option linter.unusedVariables false
open Go.RowKit Go.Shelf

set_option maxRecDepth 100000 in
set_option maxHeartbeats 2000000 in
theorem gather1_bad (g0 g1 g2 : Nat) (N : Int) (a : Option Addr) (l c : Nat) (bs : List Int) (many : Int) (near : Int) (W : World) (hB : Blk W g0 24 #[.int .i64 N, .slice a l c]) (h1 : Blk W g1 3 #[.int .i64 many]) (h2 : Blk W g2 3 #[.int .i64 near]) (hr : Rd W a l c bs) (hN1 : -9223372036854775808 ≤ N) (hN2 : N ≤ 9223372036854775807) (hv : validB N bs = false) :
    Calls Tryd.prog 80 #[.pointer (some ⟨g0, 0, none⟩), .pointer (some ⟨g1, 0, none⟩), .pointer (some ⟨g2, 0, none⟩)] W fun e w' => e = pan 9 ∧ Below W.heap.size W w' := by
  have q0 : W.cell? ⟨g0, 0, none⟩ = some (.int .i64 N) := hB.cell 0
  have q1 : W.cell? ⟨g0, 1, none⟩ = some (.slice a l c) := hB.cell 1
  have q2 := h1.boxed.cell
  have q3 := h2.boxed.cell
  have C := Lib.hid (needPlace_bad N a l c bs W hr hN1 hN2 many near hv)
  clear hB h1 h2 hr hv
  go_enter Tryd.func80, Tryd.ntmps80
  go_wp2_with fail
  refine C.out.mono ?_
  rintro e w2 ⟨rfl, hb⟩
  exact ⟨rfl, rfl, hb⟩
set_option maxRecDepth 100000 in
set_option maxHeartbeats 2000000 in
theorem gather1_rng (g0 g1 g2 : Nat) (N : Int) (a : Option Addr) (l c : Nat) (bs : List Int) (many : Int) (near : Int) (W : World) (hB : Blk W g0 24 #[.int .i64 N, .slice a l c]) (h1 : Blk W g1 3 #[.int .i64 many]) (h2 : Blk W g2 3 #[.int .i64 near]) (hr : Rd W a l c bs) (hN1 : -9223372036854775808 ≤ N) (hN2 : N ≤ 9223372036854775807) (hv : validB N bs = true) (hc : ¬ (1 ≤ many ∧ 0 ≤ near ∧ near ≤ N)) :
    Calls Tryd.prog 80 #[.pointer (some ⟨g0, 0, none⟩), .pointer (some ⟨g1, 0, none⟩), .pointer (some ⟨g2, 0, none⟩)] W fun e w' => e = pan 1 ∧ Below W.heap.size W w' := by
  have q0 : W.cell? ⟨g0, 0, none⟩ = some (.int .i64 N) := hB.cell 0
  have q1 : W.cell? ⟨g0, 1, none⟩ = some (.slice a l c) := hB.cell 1
  have q2 := h1.boxed.cell
  have q3 := h2.boxed.cell
  have C := Lib.hid (needPlace_no N a l c bs W hr hN1 hN2 many near hv hc)
  clear hB h1 h2 hr hv hc
  go_enter Tryd.func80, Tryd.ntmps80
  go_wp2_with fail
  refine C.out.mono ?_
  rintro e w2 ⟨rfl, hb⟩
  exact ⟨rfl, rfl, hb⟩
set_option maxRecDepth 100000 in
set_option maxHeartbeats 2000000 in
theorem gather1_many (g0 g1 g2 : Nat) (M : Nat) (a : Option Addr) (l c : Nat) (bs : List Int) (m : Nat) (near : Nat) (W : World) (hB : Blk W g0 24 #[.int .i64 (M : Int), .slice a l c]) (h1 : Blk W g1 3 #[.int .i64 (m : Int)]) (h2 : Blk W g2 3 #[.int .i64 (near : Int)]) (hr : Rd W a l c bs) (hv : validB (M : Int) bs = true) (hm1 : 1 ≤ m) (hnear : near ≤ M) (k : Nat) (ss us : List (Nat × Nat)) (hm : m ≤ 65536) (hs : StableR (runsV bs M false) ss) (hk : k ≤ ss.length) (hk0 : leftV ss m k = 0) (hlt : ∀ i, i < k → 0 < leftV ss m i) (hu : SortR ((rowI ss m k).take k) us) (hf : findV bs M (m : Int) near none 3 = none) :
    Calls Tryd.prog 80 #[.pointer (some ⟨g0, 0, none⟩), .pointer (some ⟨g1, 0, none⟩), .pointer (some ⟨g2, 0, none⟩)] W fun e w' => ∃ a' l' c', e = .returned (.slice a' l' c') ∧ OwnR w' W.heap.size (.slice a' l' c') us ∧ Below W.heap.size W w' := by
  have q0 : W.cell? ⟨g0, 0, none⟩ = some (.int .i64 (M : Int)) := hB.cell 0
  have q1 : W.cell? ⟨g0, 1, none⟩ = some (.slice a l c) := hB.cell 1
  have q2 := h1.boxed.cell
  have q3 := h2.boxed.cell
  have hM6 : (M : Int) ≤ 65536 := by have := (validB_iff (M : Int) bs).mp hv; omega
  have C := Lib.hid (needPlace_yes M a l c bs W hr (by omega) (by omega) (m : Int) near hv ⟨by omega, by omega, by omega⟩)
  have HB := Lib.hid hB
  have H1 := Lib.hid h1
  have H2 := Lib.hid h2
  have HR := Lib.hid hr
  have Hs := Lib.hid (And.intro hs (And.intro hk (And.intro hk0 (And.intro hlt hu))))
  have Hv := Lib.hid hv
  clear hB h1 h2 hr hv hs hk hk0 hlt hu
  go_enter Tryd.func80, Tryd.ntmps80
  go_wp2_with fail
  refine C.out.mono ?_
  rintro e w1 ⟨rfl, hb1⟩
  have hB1 := HB.out.below hb1 HB.out.lt
  have p0 : w1.cell? ⟨g0, 0, none⟩ = some (.int .i64 (M : Int)) := hB1.cell 0
  have p1 : w1.cell? ⟨g0, 1, none⟩ = some (.slice a l c) := hB1.cell 1
  have p2 := (H1.out.below hb1 H1.out.lt).boxed.cell
  have p3 := (H2.out.below hb1 H2.out.lt).boxed.cell
  have HR1 := Lib.hid (HR.out.below hb1 (Nat.le_refl _))
  have Hb1 := Lib.hid hb1
  have HB2 := Lib.hid hB1
  have H12 := Lib.hid (H1.out.below hb1 H1.out.lt)
  clear hb1 hB1 C HB H1 H2 HR q0 q1 q2 q3
  have C2 := find_any M a l c bs (m : Int) near 3 none w1 HR1.out Hv.out hnear (by omega) (by omega) (fun h => absurd h (by decide))
  rw [hf] at C2
  have HC2 := Lib.hid C2
  clear C2 hf
  go_wp2_with fail
  refine HC2.out.mono ?_
  rintro e w2 ⟨rfl, hb2⟩
  have HZ := Lib.hid (Hb1.out.trans (hb2.mono Hb1.out.size))
  have HR2 := Lib.hid (HR1.out.below hb2 (Nat.le_refl _))
  have r0 : w2.cell? ⟨g0, 0, none⟩ = some (.int .i64 (M : Int)) := (HB2.out.below hb2 HB2.out.lt).cell 0
  have r1 : w2.cell? ⟨g0, 1, none⟩ = some (.slice a l c) := (HB2.out.below hb2 HB2.out.lt).cell 1
  have r2 := (H12.out.below hb2 H12.out.lt).boxed.cell
  clear hb2 HC2 p0 p1 p2 p3 HR1 HB2 H12
  simp only [Option.getD_none, Option.isSome_none, Option.getD_some, Option.isSome_some]
  go_wp2_with fail
  refine (longest_ok M a l c bs m k ss us w2 HR2.out Hv.out (by omega) hm Hs.out.1 Hs.out.2.1 Hs.out.2.2.1 Hs.out.2.2.2.1 Hs.out.2.2.2.2).mono ?_
  rintro e w3 ⟨a', l', c', rfl, hO, hb3⟩
  have HO := Lib.hid (hO.mono (B' := W.heap.size) HZ.out.size)
  have HZ3 := Lib.hid (HZ.out.trans (hb3.mono HZ.out.size))
  clear hO hb3
  go_wp2_with fail
  refine bodyPost_ret (results_tmp rfl _ _ _) rfl ?_
  exact ⟨a', l', c', rfl, HO.out, HZ3.out⟩
set_option maxRecDepth 100000 in
set_option maxHeartbeats 2000000 in
theorem gather1_none (g0 g1 g2 : Nat) (M : Nat) (a : Option Addr) (l c : Nat) (bs : List Int) (m : Nat) (near : Nat) (W : World) (hB : Blk W g0 24 #[.int .i64 (M : Int), .slice a l c]) (h1 : Blk W g1 3 #[.int .i64 (m : Int)]) (h2 : Blk W g2 3 #[.int .i64 (near : Int)]) (hr : Rd W a l c bs) (hv : validB (M : Int) bs = true) (hm1 : 1 ≤ m) (hnear : near ≤ M) (ss : List (Nat × Nat)) (hm : m ≤ 65536) (hs : StableR (runsV bs M false) ss) (hlt : ∀ i, i ≤ ss.length → 0 < leftV ss m i) (hf : findV bs M (m : Int) near none 3 = none) :
    Calls Tryd.prog 80 #[.pointer (some ⟨g0, 0, none⟩), .pointer (some ⟨g1, 0, none⟩), .pointer (some ⟨g2, 0, none⟩)] W fun e w' => e = pan 3 ∧ Below W.heap.size W w' := by
  have q0 : W.cell? ⟨g0, 0, none⟩ = some (.int .i64 (M : Int)) := hB.cell 0
  have q1 : W.cell? ⟨g0, 1, none⟩ = some (.slice a l c) := hB.cell 1
  have q2 := h1.boxed.cell
  have q3 := h2.boxed.cell
  have hM6 : (M : Int) ≤ 65536 := by have := (validB_iff (M : Int) bs).mp hv; omega
  have C := Lib.hid (needPlace_yes M a l c bs W hr (by omega) (by omega) (m : Int) near hv ⟨by omega, by omega, by omega⟩)
  have HB := Lib.hid hB
  have H1 := Lib.hid h1
  have H2 := Lib.hid h2
  have HR := Lib.hid hr
  have Hs := Lib.hid (And.intro hs hlt)
  have Hv := Lib.hid hv
  clear hB h1 h2 hr hv hs hlt
  go_enter Tryd.func80, Tryd.ntmps80
  go_wp2_with fail
  refine C.out.mono ?_
  rintro e w1 ⟨rfl, hb1⟩
  have hB1 := HB.out.below hb1 HB.out.lt
  have p0 : w1.cell? ⟨g0, 0, none⟩ = some (.int .i64 (M : Int)) := hB1.cell 0
  have p1 : w1.cell? ⟨g0, 1, none⟩ = some (.slice a l c) := hB1.cell 1
  have p2 := (H1.out.below hb1 H1.out.lt).boxed.cell
  have p3 := (H2.out.below hb1 H2.out.lt).boxed.cell
  have HR1 := Lib.hid (HR.out.below hb1 (Nat.le_refl _))
  have Hb1 := Lib.hid hb1
  have HB2 := Lib.hid hB1
  have H12 := Lib.hid (H1.out.below hb1 H1.out.lt)
  clear hb1 hB1 C HB H1 H2 HR q0 q1 q2 q3
  have C2 := find_any M a l c bs (m : Int) near 3 none w1 HR1.out Hv.out hnear (by omega) (by omega) (fun h => absurd h (by decide))
  rw [hf] at C2
  have HC2 := Lib.hid C2
  clear C2 hf
  go_wp2_with fail
  refine HC2.out.mono ?_
  rintro e w2 ⟨rfl, hb2⟩
  have HZ := Lib.hid (Hb1.out.trans (hb2.mono Hb1.out.size))
  have HR2 := Lib.hid (HR1.out.below hb2 (Nat.le_refl _))
  have r0 : w2.cell? ⟨g0, 0, none⟩ = some (.int .i64 (M : Int)) := (HB2.out.below hb2 HB2.out.lt).cell 0
  have r1 : w2.cell? ⟨g0, 1, none⟩ = some (.slice a l c) := (HB2.out.below hb2 HB2.out.lt).cell 1
  have r2 := (H12.out.below hb2 H12.out.lt).boxed.cell
  clear hb2 HC2 p0 p1 p2 p3 HR1 HB2 H12
  simp only [Option.getD_none, Option.isSome_none, Option.getD_some, Option.isSome_some]
  go_wp2_with fail
  refine (longest_no M a l c bs m ss w2 HR2.out Hv.out (by omega) hm Hs.out.1 Hs.out.2).mono ?_
  rintro e w3 ⟨rfl, hb3⟩
  exact ⟨rfl, rfl, HZ.out.trans (hb3.mono HZ.out.size)⟩
end Go.Proofs.YthognmkjoekilaaDoor

/- Gather: one range. -/
namespace Go.Proofs.YthognmkjoekilaaDoor
set_option linter.unusedVariables false
open Go.RowKit Go.Shelf

theorem info_parts {P : Program} {t : TypeId} {z : Value} {s b : Nat} (h : (P.info? t).map (fun i => (i.zero, i.size, i.bytes)) = some (some z, s, b)) : ∃ i, P.info? t = some i ∧ i.zero = some z ∧ i.size = s ∧ i.bytes = b := by
  cases hi : P.info? t with
  | none => rw [hi] at h; cases h
  | some i =>
    rw [hi] at h
    simp only [Option.map_some, Option.some.injEq, Prod.mk.injEq] at h
    exact ⟨i, rfl, h.1, h.2.1, h.2.2⟩
theorem Tryd.infoRange : (Tryd.prog.info? 60).map (fun i => (i.zero, i.size, i.bytes)) = some (some (.agg #[.int .i64 0, .int .i64 0]), 2, 16) := by kernel_rfl
theorem fill_range (u v : Value) : Instr.fill (fun i => some (i * 2, 2)) ((Array.range (1 * 2)).map ((.agg #[.int .i64 0, .int .i64 0] : Value).cells[· % (.agg #[.int .i64 0, .int .i64 0] : Value).cells.size]!)) [(0, .agg #[u, v])] = some #[u, v] := by kernel_rfl
theorem wpList_build_range {ops : Array Oper} {rest : List Oper} {o : Oper} {a : Act} {w : World} {Q : Exit → Act → World → Prop} (hg : o.guard = none) (x : Operand) (ho : o.op = .buildSlice 54 1 #[(0, x)]) (u v : Value) (hx : a.eval x = .agg #[u, v])
    (h : wpList Tryd.prog ops Q rest (a.put o.dst (.slice (some ⟨w.heap.size, 0, none⟩) 1 1)) (w.alloc (.cells #[u, v] 60))) : wpList Tryd.prog ops Q (o :: rest) a w := by
  obtain ⟨i0, hi, hz0, hz1, hz2⟩ := info_parts Tryd.infoRange
  refine wpList_buildSlice hg 54 60 1 #[(0, x)] ho #[u, v] i0 _ Tryd.underlying54 hi hz0 (by rw [hz1]; omega) (by rw [hz1]; omega) ?_ h
  rw [hz1]
  have : ((#[(0, x)] : Array (Nat × Operand)).map fun (i, x) => (i, a.eval x)).toList = [(0, .agg #[u, v])] := by simp [hx]
  rw [this]
  exact fill_range u v
set_option maxRecDepth 100000 in
set_option maxHeartbeats 2000000 in
theorem gather1_one (g0 g1 g2 : Nat) (M : Nat) (a : Option Addr) (l c : Nat) (bs : List Int) (m : Nat) (near : Nat) (W : World) (hB : Blk W g0 24 #[.int .i64 (M : Int), .slice a l c]) (h1 : Blk W g1 3 #[.int .i64 (m : Int)]) (h2 : Blk W g2 3 #[.int .i64 (near : Int)]) (hr : Rd W a l c bs) (hv : validB (M : Int) bs = true) (hm1 : 1 ≤ m) (hnear : near ≤ M) (x : Nat) (hm : m ≤ 65536) (hx : x ≤ 65536) (hf : findV bs M (m : Int) near none 3 = some x) :
    Calls Tryd.prog 80 #[.pointer (some ⟨g0, 0, none⟩), .pointer (some ⟨g1, 0, none⟩), .pointer (some ⟨g2, 0, none⟩)] W fun e w' => ∃ a' l' c', e = .returned (.slice a' l' c') ∧ OwnR w' W.heap.size (.slice a' l' c') [(x, m)] ∧ Below W.heap.size W w' := by
  have q0 : W.cell? ⟨g0, 0, none⟩ = some (.int .i64 (M : Int)) := hB.cell 0
  have q1 : W.cell? ⟨g0, 1, none⟩ = some (.slice a l c) := hB.cell 1
  have q2 := h1.boxed.cell
  have q3 := h2.boxed.cell
  have hM6 : (M : Int) ≤ 65536 := by have := (validB_iff (M : Int) bs).mp hv; omega
  have C := Lib.hid (needPlace_yes M a l c bs W hr (by omega) (by omega) (m : Int) near hv ⟨by omega, by omega, by omega⟩)
  have HB := Lib.hid hB
  have H1 := Lib.hid h1
  have H2 := Lib.hid h2
  have HR := Lib.hid hr
  have Hv := Lib.hid hv
  clear hB h1 h2 hr hv
  go_enter Tryd.func80, Tryd.ntmps80
  go_wp2_with fail
  refine C.out.mono ?_
  rintro e w1 ⟨rfl, hb1⟩
  have hB1 := HB.out.below hb1 HB.out.lt
  have p0 : w1.cell? ⟨g0, 0, none⟩ = some (.int .i64 (M : Int)) := hB1.cell 0
  have p1 : w1.cell? ⟨g0, 1, none⟩ = some (.slice a l c) := hB1.cell 1
  have p2 := (H1.out.below hb1 H1.out.lt).boxed.cell
  have p3 := (H2.out.below hb1 H2.out.lt).boxed.cell
  have HR1 := Lib.hid (HR.out.below hb1 (Nat.le_refl _))
  have Hb1 := Lib.hid hb1
  have HB2 := Lib.hid hB1
  have H12 := Lib.hid (H1.out.below hb1 H1.out.lt)
  clear hb1 hB1 C HB H1 H2 HR q0 q1 q2 q3
  have C2 := find_any M a l c bs (m : Int) near 3 none w1 HR1.out Hv.out hnear (by omega) (by omega) (fun h => absurd h (by decide))
  rw [hf] at C2
  have HC2 := Lib.hid C2
  clear C2 hf
  go_wp2_with fail
  refine HC2.out.mono ?_
  rintro e w2 ⟨rfl, hb2⟩
  have HZ := Lib.hid (Hb1.out.trans (hb2.mono Hb1.out.size))
  have HR2 := Lib.hid (HR1.out.below hb2 (Nat.le_refl _))
  have r0 : w2.cell? ⟨g0, 0, none⟩ = some (.int .i64 (M : Int)) := (HB2.out.below hb2 HB2.out.lt).cell 0
  have r1 : w2.cell? ⟨g0, 1, none⟩ = some (.slice a l c) := (HB2.out.below hb2 HB2.out.lt).cell 1
  have r2 := (H12.out.below hb2 H12.out.lt).boxed.cell
  clear hb2 HC2 p0 p1 p2 p3 HR1 HB2 H12
  simp only [Option.getD_none, Option.isSome_none, Option.getD_some, Option.isSome_some]
  go_wp2_with (refine wpList_build_range rfl (.tmp 20) rfl (.int .i64 (x : Int)) (.int .i64 (m : Int)) rfl ?_)
  go_ret
  refine ⟨_, 1, 1, rfl, ⟨⟨rfl, .inr ⟨w2.heap.size, 1, #[.int .i64 (x : Int), .int .i64 (m : Int)], rfl, HZ.out.size, heap_new w2 _, Nat.le_refl _, by unfold maxLen; omega, rfl, rfl⟩⟩, ?_⟩, HZ.out.alloc HZ.out.size _⟩
  intro r hr
  rw [List.mem_singleton] at hr
  subst hr
  exact ⟨hx, hm⟩
end Go.Proofs.YthognmkjoekilaaDoor

/- The library's sorts: what they make of a row of ranges. -/
namespace Go.Proofs.YthognmkjoekilaaDoor
set_option linter.unusedVariables false
open Go.RowKit Go.Shelf Go.Lib Go.Sort

theorem ltAt (x y : Nat × Nat) : ltOf cmpAt x y = decide (x.1 < y.1) := by
  unfold ltOf cmpAt Lib.compareInt
  by_cases h1 : (x.1 : Int) < (y.1 : Int)
  · simp [h1]; omega
  · by_cases h2 : (y.1 : Int) < (x.1 : Int) <;> simp [h1, h2] <;> omega
theorem swoAt : SWO (ltOf cmpAt) where
  irrefl x := by rw [ltAt]; simp
  trans x y z h1 h2 := by rw [ltAt] at *; simp at *; omega
  ntrans x y z h1 h2 := by rw [ltAt] at *; simp at *; omega
/-- The sort by place: the ranges in ascending order. -/
theorem sortR_any (tk us : List (Nat × Nat)) (hp : us.Perm tk) (hs : us.Pairwise (fun x y => x.1 < y.1)) (hlen : tk.length < 4611686018427387904) : SortR tk us := by
  intro W B g n cap hO hB
  obtain ⟨rfl, hBg, hlt, hH⟩ := hO.holds
  have eg : ∀ (args : Array Value) (w : World), (callFunc 99 args).run Tryd.prog w = .ok (.enter 99 args) w := enters_of Tryd.func99 (by kernel_rfl) rfl
  have hf : CmpR 99 cmpAt := longest2_any
  refine (AnyQ.slices_SortFunc (P := Tryd.prog) (ρ := Tryd.sortRange_ren) Tryd.sortRange 2 Tryd.isAgg60 Tryd.sizeOf60 encR encR_len encR_one cmpAt swoAt 99 #[] g 0 cap tk.toArray W eg (hf.lays g 0 tk.toArray.size W) hH hlt hlen).mono ?_
  rintro e w' ⟨rfl, d', m, os, hperm, hsort, rfl⟩
  have hz : d'.size = tk.length := hperm.1
  have h1 : d'.toList.Perm tk := by
    have := hperm.2.2
    rw [show (d'.extract 0 tk.toArray.size) = d' by rw [show tk.toArray.size = d'.size by simp [hz]]; simp, show (tk.toArray.extract 0 tk.toArray.size) = tk.toArray by simp] at this
    simpa using this
  have h2 : d'.toList.Pairwise (fun x y => x.1 ≤ y.1) := by
    rw [List.pairwise_iff_getElem]
    intro i j hi hj hij
    have := hsort i j (Nat.zero_le _) hij (by simp; simp at hj; omega)
    rw [ltAt, getElem!_pos d' j (by simpa using hj), getElem!_pos d' i (by simpa using hi)] at this
    simp at this
    simpa using this
  have h3 : us.Pairwise (fun x y => x.1 ≤ y.1) := hs.imp (fun h => Nat.le_of_lt h)
  have he : d'.toList = us := by
    refine List.Perm.eq_of_pairwise (le := fun x y => x.1 ≤ y.1) ?_ h2 h3 (h1.trans hp.symm)
    intro a b ha hb h4 h5
    have hau : a ∈ us := hp.symm.subset (h1.subset ha)
    have heq : a.1 = b.1 := Nat.le_antisymm h4 h5
    obtain ⟨i, hi, rfl⟩ := List.getElem_of_mem hau
    obtain ⟨j, hj, rfl⟩ := List.getElem_of_mem hb
    rw [List.pairwise_iff_getElem] at hs
    rcases Nat.lt_trichotomy i j with h | h | h
    · have := hs i j hi hj h; omega
    · subst h; rfl
    · have := hs j i hj hi h; omega
  obtain rfl : d' = us.toArray := by rw [← he]
  obtain ⟨hO2, hB2⟩ := hO.sorted (m := m) (os := os) (l' := us) hp.length_eq (fun r hr => hO.2 r (hp.subset hr))
  exact ⟨rfl, hO2, hB2.below.mono hBg⟩
/-- The stable sort of few. -/
theorem stableR_few (rs ss : List (Nat × Nat)) (h0 : rs ≠ []) (h20 : rs.length < 20) (hss : Sort.insertionSort (ltOf cmpLong) rs.toArray 0 rs.length = ss.toArray) (hl : ss.length = rs.length) (hb : ∀ r ∈ ss, r.1 ≤ 65536 ∧ r.2 ≤ 65536) : StableR rs ss := by
  intro W B a n cap hO hB
  obtain ⟨g, rfl⟩ : ∃ g, a = some ⟨g, 0, none⟩ := by
    rcases hO.1.2 with ⟨hv, h1⟩ | ⟨g, cap', cur, hv, -⟩
    · exact absurd (List.eq_nil_of_length_eq_zero h1) h0
    · injection hv with h1; exact ⟨g, h1⟩
  obtain ⟨hn, hBg, hlt, hH⟩ := hO.holds
  have eg : ∀ (args : Array Value) (w : World), (callFunc 96 args).run Tryd.prog w = .ok (.enter 96 args) w := enters_of Tryd.func96 (by kernel_rfl) rfl
  refine (sortStable_few 96 cmpLong longest1_any eg g cap n rs W hH hlt hn.symm (by omega)).mono ?_
  rintro e w' ⟨rfl, m, os, rfl⟩
  rw [hss]
  obtain ⟨hO2, hB2⟩ := hO.sorted (m := m) (os := os) (l' := ss) hl hb
  exact ⟨rfl, hO2, hB2.below.mono hBg⟩
end Go.Proofs.YthognmkjoekilaaDoor

/- The reference's Same: whether two bitmaps are the same. -/
namespace Go.Proofs.YthognmkjoekilaaDoor
set_option linter.unusedVariables false
open Go.RowKit Go.Shelf

set_option maxRecDepth 100000 in
set_option maxHeartbeats 2000000 in
theorem same_any (N1 N2 : Int) (a : Option Addr) (l c : Nat) (xs : List Int) (a2 : Option Addr) (l2 c2 : Nat) (ys : List Int) (w : World) (h1 : Rd w a l c xs) (h2 : Rd w a2 l2 c2 ys) :
    Calls Tryd.prog 22 #[.agg #[.int .i64 N1, .slice a l c], .agg #[.int .i64 N2, .slice a2 l2 c2]] w fun e w' => e = .returned (.bool (decide (N1 = N2 ∧ xs = ys))) ∧ Below w.heap.size w w' := by
  obtain ⟨W2, hW2⟩ : ∃ W2, W2 = (w.alloc (.cells #[.int .i64 N1, .slice a l c] 24)).alloc (.cells #[.int .i64 N2, .slice a2 l2 c2] 24) := ⟨_, rfl⟩
  have hb2 : Below w.heap.size w W2 := by rw [hW2]; exact ((Below.refl _ w).alloc (Nat.le_refl _) _).alloc (by simp) _
  have hg1 : Blk W2 w.heap.size 24 #[.int .i64 N1, .slice a l c] := by rw [hW2]; exact (Below.heap_alloc _ _ _ (by simp)).trans (heap_new w _)
  have hg2 : Blk W2 (w.heap.size + 1) 24 #[.int .i64 N2, .slice a2 l2 c2] := by rw [hW2]; have := heap_new (w.alloc (.cells #[.int .i64 N1, .slice a l c] 24)) (.cells #[.int .i64 N2, .slice a2 l2 c2] 24); rw [World.size_alloc] at this; exact this
  have k1 := (h1.below hb2 (Nat.le_refl _)).convAny
  have k2 := (h2.below hb2 (Nat.le_refl _)).convAny
  have He := Lib.hid (str_eq h1.hb h2.hb)
  have p0 : W2.cell? ⟨w.heap.size, 0, none⟩ = some (.int .i64 N1) := hg1.cell 0
  have p1 : W2.cell? ⟨w.heap.size, 1, none⟩ = some (.slice a l c) := hg1.cell 1
  have p2 : W2.cell? ⟨w.heap.size + 1, 0, none⟩ = some (.int .i64 N2) := hg2.cell 0
  have p3 : W2.cell? ⟨w.heap.size + 1, 1, none⟩ = some (.slice a2 l2 c2) := hg2.cell 1
  have HW2 := Lib.hid hW2
  have Hb2 := Lib.hid hb2
  clear hW2 hb2 hg1 hg2 h1 h2
  by_cases hN : N1 = N2
  · subst hN
    go_enter Tryd.func22, Tryd.ntmps22
    go_upto_region 1 with fail
    rw [← HW2.out]
    go_wp2
    go_ret
    refine ⟨?_, Hb2.out⟩
    rw [He.out]
    simp
  · have hN2 : (N1 = N2) = False := eq_false hN
    go_enter Tryd.func22, Tryd.ntmps22
    go_upto_region 1 with fail
    rw [← HW2.out]
    go_wp2
    go_ret
    refine ⟨?_, Hb2.out⟩
    simp [hN]
end Go.Proofs.YthognmkjoekilaaDoor

/- What the laws' common test asks of the package, call by call. -/
namespace Go.Proofs.YthognmkjoekilaaDoor
set_option linter.unusedVariables false
open Go.RowKit Go.Shelf

theorem smp_valid : validB 12 [35, 8] = true := by kernel_rfl
theorem smp_runs : runsV [35, 8] 12 false = [(2, 3), (6, 5)] := by kernel_rfl
theorem smp_next : nextV [35, 8] 12 4 0 = some 6 := by kernel_rfl
theorem smp_next7 : nextV [35, 8] 12 7 0 = none := by kernel_rfl
theorem smp_cnt : cntV [35, 8] 1 6 = 2 := by kernel_rfl
theorem smp_fill : fillV [35, 8] 3 7 true = [123, 8] := by kernel_rfl
theorem smp_not : notV 12 2 [35, 8] = [220, 7] := by kernel_rfl
theorem smp_bad : validB 3 [8] = false := by kernel_rfl
theorem smp_sort : Sort.insertionSort (ltOf cmpLong) [(2, 3), (6, 5)].toArray 0 2 = [(6, 5), (2, 3)].toArray := by kernel_rfl
section
variable (a : Option Addr) (l c : Nat) (w : World)
theorem from_s (hr : Rd w a l c [35, 8]) : Calls Tryd.prog 26 #[.int .i64 12, .slice a l c] w fun e w' => ∃ a l c, e = .returned (.tuple #[.agg #[.int .i64 12, .slice a l c], .int .i64 0]) ∧ Own w' w.heap.size (.slice a l c) [35, 8] ∧ Below w.heap.size w w' :=
  from_lift_ok 12 a l c 12 [35, 8] w (fun W hb h0 h1 => from1_ok _ _ 12 a l c [35, 8] W h0 h1 (hr.below hb (Nat.le_refl _)) smp_valid)
theorem from_n (hr : Rd w a l c [8]) : Calls Tryd.prog 26 #[.int .i64 3, .slice a l c] w fun e w' => e = .returned (.tuple #[.agg #[.int .i64 0, .slice none 0 0], .int .i64 4]) ∧ Below w.heap.size w w' :=
  from_lift_bad 3 a l c 4 w (fun W hb h0 h1 => from1_form _ _ 3 a l c [8] W h0 h1 (hr.below hb (Nat.le_refl _)) (by omega) smp_bad)
variable (hr : Rd w a l c [35, 8])
include hr
theorem runs_s : Calls Tryd.prog 37 #[.agg #[.int .i64 12, .slice a l c], .bool false] w fun e w' => ∃ a l c, e = .returned (.tuple #[.slice a l c, .int .i64 0]) ∧ OwnR w' w.heap.size (.slice a l c) [(2, 3), (6, 5)] ∧ Below w.heap.size w w' := by
  refine runs_lift_ok 12 a l c false [(2, 3), (6, 5)] w (fun W hb h0 h1 => ?_)
  rw [← smp_runs]
  exact runs1_ok _ _ 12 a l c [35, 8] false W h0 h1 (hr.below hb (Nat.le_refl _)) 12 rfl smp_valid
theorem find_s : Calls Tryd.prog 40 #[.agg #[.int .i64 12, .slice a l c], .int .i64 4, .int .i64 1, .int .i64 0] w fun e w' => e = .returned (.tuple #[.int .i64 6, .int .i64 0]) ∧ Below w.heap.size w w' :=
  find_lift_ok 12 a l c 4 1 0 6 w (fun W hb h0 h1 h2 h3 => find1_ok _ _ _ _ 12 a l c [35, 8] 4 0 1 W h0 h1 h3 h2 (hr.below hb (Nat.le_refl _)) smp_valid (by omega) (by omega) none (by omega) (by omega) (fun h => absurd h (by decide)) 6 (by unfold findV; exact smp_next))
theorem count_s (ho : Ones w) : Calls Tryd.prog 16 #[.agg #[.int .i64 12, .slice a l c], .int .i64 1, .int .i64 5] w fun e w' => e = .returned (.tuple #[.int .i64 2, .int .i64 0]) ∧ Below w.heap.size w w' := by
  refine count_lift_ok 12 a l c 1 5 2 w (fun W hb h0 h1 h2 => ?_)
  have := count1_ok _ _ _ 12 a l c [35, 8] 1 5 6 W h0 h1 h2 (hr.below hb (Nat.le_refl _)) smp_valid rfl (by omega) (ho.below hb (Nat.le_refl _))
  rw [smp_cnt] at this
  exact this
theorem set_s : Calls Tryd.prog 15 #[.agg #[.int .i64 12, .slice a l c], .int .i64 3, .int .i64 4, .bool true] w fun e w' => ∃ a l c, e = .returned (.tuple #[.agg #[.int .i64 12, .slice a l c], .int .i64 0]) ∧ Own w' w.heap.size (.slice a l c) [123, 8] ∧ Below w.heap.size w w' := by
  refine set_lift_ok 12 a l c 3 4 true 12 [123, 8] w (fun W hb h0 h1 h2 h3 => ?_)
  rw [← smp_fill]
  exact set1_ok _ _ _ _ 12 a l c [35, 8] 3 4 7 true W h0 h1 h2 h3 (hr.below hb (Nat.le_refl _)) smp_valid rfl (by omega)
theorem not_s : Calls Tryd.prog 33 #[.agg #[.int .i64 12, .slice a l c]] w fun e w' => ∃ a l c, e = .returned (.tuple #[.agg #[.int .i64 12, .slice a l c], .int .i64 0]) ∧ Own w' w.heap.size (.slice a l c) [220, 7] ∧ Below w.heap.size w w' := by
  refine not_lift_ok 12 a l c 12 [220, 7] w (fun W hb h0 => ?_)
  have hl : l = 2 := by have := hr.hl; simpa using this.symm
  subst hl
  rw [← smp_not]
  exact not1_ok _ 12 a 2 c [35, 8] W h0 (hr.below hb (Nat.le_refl _)) smp_valid
theorem gather_s : Calls Tryd.prog 42 #[.agg #[.int .i64 12, .slice a l c], .int .i64 7, .int .i64 0] w fun e w' => ∃ a l c, e = .returned (.tuple #[.slice a l c, .int .i64 0]) ∧ OwnR w' w.heap.size (.slice a l c) [(2, 2), (6, 5)] ∧ Below w.heap.size w w' := by
  refine gather_lift_ok 12 a l c 7 0 [(2, 2), (6, 5)] w (fun W hb h0 h1 h2 => ?_)
  refine gather1_many _ _ _ 12 a l c [35, 8] 7 0 W h0 h1 h2 (hr.below hb (Nat.le_refl _)) smp_valid (by omega) (by omega) 2 [(6, 5), (2, 3)] [(2, 2), (6, 5)] (by omega) ?_ (by decide) (by decide) ?_ ?_ ?_
  · rw [smp_runs]
    exact stableR_few _ _ (by decide) (by decide) smp_sort rfl (by decide)
  · intro i hi
    have : i = 0 ∨ i = 1 := by omega
    rcases this with rfl | rfl <;> decide
  · exact sortR_any _ _ (by decide) (by decide) (by decide)
  · unfold findV; rw [if_pos rfl, show ((7 : Nat) : Int) = 7 from rfl, smp_next7]
end
end Go.Proofs.YthognmkjoekilaaDoor

/- The laws' common test holds. -/
namespace Go.Proofs.YthognmkjoekilaaDoor
set_option linter.unusedVariables false
open Go.RowKit Go.Shelf

set_option maxRecDepth 100000 in
set_option maxHeartbeats 4000000 in
theorem sane_any (w : World) (ho : Ones w) : Calls Tryd.prog 13 #[] w fun e w' => e = .returned (.bool true) ∧ Below w.heap.size w w' := by
  have HOn := Lib.hid ho
  clear ho
  go_enter Tryd.func13, Tryd.ntmps13
  go_wp2_with fail
  have hb0 : Below w.heap.size w (w.alloc (.cells #[.int .u8 35, .int .u8 8] 5)) := (Below.refl _ w).alloc (Nat.le_refl _) _
  refine (from_s _ _ _ _ (Rd.lit w [35, 8] (by simp) (by simp))).mono ?_
  rintro e w1 ⟨a, l, c, rfl, hw, hb⟩
  have Hb1 : Hid (Below w.heap.size w w1) := Lib.hid (hb0.trans (hb.mono hb0.size))
  have Hr1 := Lib.hid (own_read hw)
  clear hb0 hb hw
  go_upto_region 2 with fail
  obtain ⟨g1, W, e1, e2, hB, hb, hq⟩ := boxed Hb1.out 12 a l c _ Hr1.out
  rw [e2, e1]
  have HX := Lib.hid hB
  have Hb := Lib.hid hb
  have HO := Lib.hid (HOn.out.below hb (Nat.le_refl _))
  clear e1 e2 hB hb hq Hb1 Hr1 HOn
  have q0 : W.cell? ⟨g1, 0, none⟩ = some (.int .i64 12) := HX.out.blk.cell 0
  have q1 : W.cell? ⟨g1, 1, none⟩ = some (.slice a l c) := HX.out.blk.cell 1
  go_wp2_with fail
  refine (runs_s a l c W HX.out.rd).mono ?_
  rintro e W2 ⟨ar, lr, cr, rfl, hr, hb⟩
  have HX' := Lib.hid (HX.out.below hb)
  have HO' := Lib.hid (HO.out.below hb (Nat.le_refl _))
  have Hb' := Lib.hid (Hb.out.trans (hb.mono Hb.out.size))
  clear hb q0 q1 HO Hb HX
  have HX := HX'
  have HO := HO'
  have Hb := Hb'
  clear HX' HO' Hb'
  have HR := Lib.hid hr
  clear hr
  have q0 : W2.cell? ⟨g1, 0, none⟩ = some (.int .i64 12) := HX.out.blk.cell 0
  have q1 : W2.cell? ⟨g1, 1, none⟩ = some (.slice a l c) := HX.out.blk.cell 1
  go_wp2_with fail
  refine (find_s a l c W2 HX.out.rd).mono ?_
  rintro e W3 ⟨rfl, hb⟩
  have HX' := Lib.hid (HX.out.below hb)
  have HR' := Lib.hid (HR.out.below hb)
  have HO' := Lib.hid (HO.out.below hb (Nat.le_refl _))
  have Hb' := Lib.hid (Hb.out.trans (hb.mono Hb.out.size))
  clear hb q0 q1 HO Hb HX HR
  have HX := HX'
  have HR := HR'
  have HO := HO'
  have Hb := Hb'
  clear HX' HR' HO' Hb'
  have q0 : W3.cell? ⟨g1, 0, none⟩ = some (.int .i64 12) := HX.out.blk.cell 0
  have q1 : W3.cell? ⟨g1, 1, none⟩ = some (.slice a l c) := HX.out.blk.cell 1
  go_wp2_with fail
  refine (count_s a l c W3 HX.out.rd HO.out).mono ?_
  rintro e W4 ⟨rfl, hb⟩
  have HX' := Lib.hid (HX.out.below hb)
  have HR' := Lib.hid (HR.out.below hb)
  have HO' := Lib.hid (HO.out.below hb (Nat.le_refl _))
  have Hb' := Lib.hid (Hb.out.trans (hb.mono Hb.out.size))
  clear hb q0 q1 HO Hb HX HR
  have HX := HX'
  have HR := HR'
  have HO := HO'
  have Hb := Hb'
  clear HX' HR' HO' Hb'
  have q0 : W4.cell? ⟨g1, 0, none⟩ = some (.int .i64 12) := HX.out.blk.cell 0
  have q1 : W4.cell? ⟨g1, 1, none⟩ = some (.slice a l c) := HX.out.blk.cell 1
  go_wp2_with fail
  refine (set_s a l c W4 HX.out.rd).mono ?_
  rintro e W5 ⟨a9, l9, c9, rfl, hw, hb⟩
  have HX' := Lib.hid (HX.out.below hb)
  have HR' := Lib.hid (HR.out.below hb)
  have HO' := Lib.hid (HO.out.below hb (Nat.le_refl _))
  have Hb' := Lib.hid (Hb.out.trans (hb.mono Hb.out.size))
  clear hb q0 q1 HO Hb HX HR
  have HX := HX'
  have HR := HR'
  have HO := HO'
  have Hb := Hb'
  clear HX' HR' HO' Hb'
  have H9 := Lib.hid (own_read hw)
  clear hw
  go_upto_region 6 with fail
  obtain ⟨g9, W6, e1, e2, hB, hb, hq⟩ := boxed Hb.out 12 a9 l9 c9 _ H9.out
  rw [e2, e1]
  have HX' := Lib.hid (HX.out.below hq)
  have HR' := Lib.hid (HR.out.below hq)
  have HO' := Lib.hid (HO.out.below hq (Nat.le_refl _))
  have Hb' := Lib.hid hb
  have HS := Lib.hid hB
  clear e1 e2 hb hB hq HO Hb HX HR
  have HX := HX'
  have HR := HR'
  have HO := HO'
  have Hb := Hb'
  clear HX' HR' HO' Hb'
  clear H9
  have q0 : W6.cell? ⟨g1, 0, none⟩ = some (.int .i64 12) := HX.out.blk.cell 0
  have q1 : W6.cell? ⟨g1, 1, none⟩ = some (.slice a l c) := HX.out.blk.cell 1
  go_wp2_with fail
  refine (not_s a l c W6 HX.out.rd).mono ?_
  rintro e W7 ⟨a11, l11, c11, rfl, hw, hb⟩
  have HX' := Lib.hid (HX.out.below hb)
  have HR' := Lib.hid (HR.out.below hb)
  have HS' := Lib.hid (HS.out.below hb)
  have HO' := Lib.hid (HO.out.below hb (Nat.le_refl _))
  have Hb' := Lib.hid (Hb.out.trans (hb.mono Hb.out.size))
  clear hb q0 q1 HO Hb HX HR HS
  have HX := HX'
  have HR := HR'
  have HS := HS'
  have HO := HO'
  have Hb := Hb'
  clear HX' HR' HS' HO' Hb'
  have H11 := Lib.hid (own_read hw)
  clear hw
  go_upto_region 7 with fail
  obtain ⟨g11, W8, e1, e2, hB, hb, hq⟩ := boxed Hb.out 12 a11 l11 c11 _ H11.out
  rw [e2, e1]
  have HX' := Lib.hid (HX.out.below hq)
  have HR' := Lib.hid (HR.out.below hq)
  have HS' := Lib.hid (HS.out.below hq)
  have HO' := Lib.hid (HO.out.below hq (Nat.le_refl _))
  have Hb' := Lib.hid hb
  have HN := Lib.hid hB
  clear e1 e2 hb hB hq HO Hb HX HR HS
  have HX := HX'
  have HR := HR'
  have HS := HS'
  have HO := HO'
  have Hb := Hb'
  clear HX' HR' HS' HO' Hb'
  clear H11
  go_wp2_with fail
  obtain ⟨W9, hW9⟩ : ∃ W9, W9 = W8.alloc (.cells #[.int .u8 8] 5) := ⟨_, rfl⟩
  have hb9 : Below W8.heap.size W8 W9 := by rw [hW9]; exact (Below.refl _ W8).alloc (Nat.le_refl _) _
  have hr9 : Rd W9 (some ⟨W8.heap.size, 0, none⟩) 1 1 [8] := by rw [hW9]; exact Rd.lit W8 [8] (by simp) (by simp)
  rw [← hW9]
  refine (from_n _ _ _ W9 hr9).mono ?_
  rintro e W10 ⟨rfl, hb10⟩
  have hb : Below W8.heap.size W8 W10 := hb9.trans (hb10.mono hb9.size)
  have HX' := Lib.hid (HX.out.below hb)
  have HR' := Lib.hid (HR.out.below hb)
  have HS' := Lib.hid (HS.out.below hb)
  have HN' := Lib.hid (HN.out.below hb)
  have HO' := Lib.hid (HO.out.below hb (Nat.le_refl _))
  have Hb' := Lib.hid (Hb.out.trans (hb.mono Hb.out.size))
  clear hb hb9 hr9 hb10 hW9 HO Hb HX HR HS HN
  have HX := HX'
  have HR := HR'
  have HS := HS'
  have HN := HN'
  have HO := HO'
  have Hb := Hb'
  clear HX' HR' HS' HN' HO' Hb'
  go_upto_region 8 with fail
  obtain ⟨g13, W11, e1, e2, hB, hb, hq⟩ := boxed Hb.out 0 none 0 0 [] (Rd.nil W10)
  rw [e2, e1]
  have HX' := Lib.hid (HX.out.below hq)
  have HR' := Lib.hid (HR.out.below hq)
  have HS' := Lib.hid (HS.out.below hq)
  have HN' := Lib.hid (HN.out.below hq)
  have HO' := Lib.hid (HO.out.below hq (Nat.le_refl _))
  have Hb' := Lib.hid hb
  have H13 := Lib.hid hB
  clear e1 e2 hb hB hq HO Hb HX HR HS HN
  have HX := HX'
  have HR := HR'
  have HS := HS'
  have HN := HN'
  have HO := HO'
  have Hb := Hb'
  clear HX' HR' HS' HN' HO' Hb'
  clear H13
  have q0 : W11.cell? ⟨g1, 0, none⟩ = some (.int .i64 12) := HX.out.blk.cell 0
  have q1 : W11.cell? ⟨g1, 1, none⟩ = some (.slice a l c) := HX.out.blk.cell 1
  go_wp2_with fail
  refine (gather_s a l c W11 HX.out.rd).mono ?_
  rintro e W12 ⟨ag, lg, cg, rfl, hr, hb⟩
  have HX' := Lib.hid (HX.out.below hb)
  have HR' := Lib.hid (HR.out.below hb)
  have HS' := Lib.hid (HS.out.below hb)
  have HN' := Lib.hid (HN.out.below hb)
  have HO' := Lib.hid (HO.out.below hb (Nat.le_refl _))
  have Hb' := Lib.hid (Hb.out.trans (hb.mono Hb.out.size))
  clear hb q0 q1 HO Hb HX HR HS HN
  have HX := HX'
  have HR := HR'
  have HS := HS'
  have HN := HN'
  have HO := HO'
  have Hb := Hb'
  clear HX' HR' HS' HN' HO' Hb'
  have HG := Lib.hid hr
  clear hr
  obtain ⟨gr, rfl⟩ : ∃ g, ar = some ⟨g, 0, none⟩ := by
    rcases HR.out.1.2 with ⟨hv, h0⟩ | ⟨g, cap, cur, hv, -⟩
    · cases h0
    · injection hv with h1 h2 h3; exact ⟨g, h1⟩
  obtain ⟨gg, rfl⟩ : ∃ g, ag = some ⟨g, 0, none⟩ := by
    rcases HG.out.1.2 with ⟨hv, h0⟩ | ⟨g, cap, cur, hv, -⟩
    · cases h0
    · injection hv with h1 h2 h3; exact ⟨g, h1⟩
  obtain rfl : lr = 2 := HR.out.holds.1
  obtain rfl : lg = 2 := HG.out.holds.1
  have q2 : W12.cell? ⟨gr, 2, none⟩ = some (.int .i64 6) := (HR.out.at_ 1 (by decide)).1
  have q3 : W12.cell? ⟨gr, 3, none⟩ = some (.int .i64 5) := (HR.out.at_ 1 (by decide)).2
  have q4 : W12.cell? ⟨gg, 0, none⟩ = some (.int .i64 2) := (HG.out.at_ 0 (by decide)).1
  have q5 : W12.cell? ⟨gg, 1, none⟩ = some (.int .i64 2) := (HG.out.at_ 0 (by decide)).2
  have E1 : ∀ w, (binOp .eql 60 (.agg #[.int .i64 6, .int .i64 5]) (.agg #[.int .i64 6, .int .i64 5])).run Tryd.prog w = .ok (.bool true) w := fun w => by kernel_rfl
  have E2 : ∀ w, (binOp .eql 60 (.agg #[.int .i64 2, .int .i64 2]) (.agg #[.int .i64 2, .int .i64 2])).run Tryd.prog w = .ok (.bool true) w := fun w => by kernel_rfl
  go_upto_region 11 with fail
  have q6 : W12.cell? ⟨g9, 0, none⟩ = some (.int .i64 12) := HS.out.blk.cell 0
  have q7 : W12.cell? ⟨g9, 1, none⟩ = some (.slice a9 l9 c9) := HS.out.blk.cell 1
  go_wp2_with fail
  obtain ⟨V1, hV1⟩ : ∃ V1, V1 = W12.alloc (.cells #[.int .u8 123, .int .u8 8] 5) := ⟨_, rfl⟩
  have hbV : Below W12.heap.size W12 V1 := by rw [hV1]; exact (Below.refl _ W12).alloc (Nat.le_refl _) _
  have hrV : Rd V1 (some ⟨W12.heap.size, 0, none⟩) 2 2 [123, 8] := by rw [hV1]; exact Rd.lit W12 [123, 8] (by simp) (by simp)
  rw [← hV1]
  refine (same_any 12 12 a9 l9 c9 [123, 8] _ _ _ [123, 8] V1 (HS.out.rd.below hbV (Nat.le_refl _)) hrV).mono ?_
  rintro e V2 ⟨rfl, hb2⟩
  have hb := hbV.trans (hb2.mono hbV.size)
  have HN2 := Lib.hid (HN.out.below hb)
  have Hb2 := Lib.hid (Hb.out.trans (hb.mono Hb.out.size))
  clear hb hb2 hbV hrV hV1 q2 q3 q4 q5 q6 q7 HX HS HN HG HR HO Hb
  rw [show decide ((12 : Int) = 12 ∧ ([123, 8] : List Int) = [123, 8]) = true from by decide]
  have q8 : V2.cell? ⟨g11, 0, none⟩ = some (.int .i64 12) := HN2.out.blk.cell 0
  have q9 : V2.cell? ⟨g11, 1, none⟩ = some (.slice a11 l11 c11) := HN2.out.blk.cell 1
  go_wp2_with fail
  obtain ⟨V3, hV3⟩ : ∃ V3, V3 = V2.alloc (.cells #[.int .u8 220, .int .u8 7] 5) := ⟨_, rfl⟩
  have hbV : Below V2.heap.size V2 V3 := by rw [hV3]; exact (Below.refl _ V2).alloc (Nat.le_refl _) _
  have hrV : Rd V3 (some ⟨V2.heap.size, 0, none⟩) 2 2 [220, 7] := by rw [hV3]; exact Rd.lit V2 [220, 7] (by simp) (by simp)
  rw [← hV3]
  refine (same_any 12 12 a11 l11 c11 [220, 7] _ _ _ [220, 7] V3 (HN2.out.rd.below hbV (Nat.le_refl _)) hrV).mono ?_
  rintro e V4 ⟨rfl, hb4⟩
  have hb := hbV.trans (hb4.mono hbV.size)
  have Hb4 := Lib.hid (Hb2.out.trans (hb.mono Hb2.out.size))
  clear hb hb4 hbV hrV hV3 q8 q9 HN2 Hb2
  rw [show decide ((12 : Int) = 12 ∧ ([220, 7] : List Int) = [220, 7]) = true from by decide]
  go_wp2_with fail
  go_ret
  exact ⟨rfl, Hb4.out⟩
end Go.Proofs.YthognmkjoekilaaDoor

/- The table of ones as the condition lays it. -/
namespace Go.Proofs.YthognmkjoekilaaDoor
set_option linter.unusedVariables false
open Go.ChangeShapes Go.WideShapes Go.ChangeAt Go.WideMaps Go.WideElems Go.RowKit

theorem gOnes : Tryd.prog.globalNamed "archivolt/bits.ones" = some 0 := by kernel_rfl
theorem tOnes : (Tryd.prog.globals[0]?).map (·.type) = some 78 := by kernel_rfl
theorem cells16 : Tryd.prog.cellsOf 78 = 16 := by kernel_rfl
theorem cellsI : Tryd.prog.cellsOf 3 = 1 := by kernel_rfl
theorem door_met (os : Os) (args : Array Value) : laidMetH Tryd.prog [("archivolt/bits.ones", Rows.laid_archivolt_bits_ones)] ((World.doorLaid Tryd.prog 400 os).forCall (fun _ _ => 0) ⟨#[], args, []⟩).memory :=
  laidMetH_of_parts3 (fuel := 8) (laidMet_of_run' 8 (by kernel_rfl) (by kernel_rfl)) (by kernel_rfl) (by kernel_rfl)
theorem of_laid {W : World} (h : laidMetH Tryd.prog [("archivolt/bits.ones", Rows.laid_archivolt_bits_ones)] W) : Ones W := by
  rw [MakeChecks.laidMetH_plain _ _ _ (by kernel_rfl)] at h
  obtain ⟨ps, ⟨g0, t0, cs0, f0, p0, q0, hg0, ht0, hv0, hd0, hrest⟩, hmore⟩ := h
  obtain rfl := Option.some.inj (gOnes.symm.trans hg0)
  obtain rfl := Option.some.inj (tOnes.symm.trans ht0)
  obtain ⟨xs, m, hf0, hx, hlen, hxl, hf⟩ := DataW.trod_array Tryd.underlying78 hd0
  rw [cellsI] at hf
  rw [cells16, Array.length_toList] at hlen
  have hxs : xs.map (·.1) = onesL.map fun (n : Nat) => (DataW.lit (.int .i64 (n : Int)) : DataW Unit) := by
    have h1 : Rows.laid_archivolt_bits_ones = DataW.agg (xs.map (·.1)) := congrArg Prod.fst hx
    unfold Rows.laid_archivolt_bits_ones at h1
    injection h1 with h2
    rw [← h2]
    rfl
  intro k hk
  have h1 := hf k hk
  have h2 : ((cs0.toList.drop (k * 1)).take 1) = [cs0[k]'(by omega)] := by
    rw [Nat.mul_one, List.drop_eq_getElem_cons (by simpa using (by omega : k < cs0.size))]
    simp
  rw [h2, List.getElem?_eq_getElem (by omega)] at h1
  obtain ⟨z, hz, hz2, -⟩ := DataW.trod_int Tryd.underlying3 h1
  have h3 : (xs.map (·.1))[k]? = some (DataW.lit (.int .i64 z)) := by
    rw [List.getElem?_map, List.getElem?_eq_getElem (by omega), hz2]
    rfl
  rw [hxs, List.getElem?_map] at h3
  have h4 : onesL.getD k 0 = z := by
    rw [List.getElem?_eq_getElem (show k < onesL.length from hk)] at h3
    simp only [Option.map_some, Option.some.injEq, DataW.lit.injEq, Lit.int.injEq, true_and] at h3
    rw [List.getD_eq_getElem?_getD, List.getElem?_eq_getElem (show k < onesL.length from hk)]
    exact h3
  have h5 := World.var?_cell gOnes hv0 k
  rw [h5, Array.getElem?_eq_getElem (by omega)]
  simp only [List.cons.injEq, and_true] at hz
  rw [hz, h4]
end Go.Proofs.YthognmkjoekilaaDoor

/- What an argument reads as (layer 3): bytes and bitmaps out of the form in which a statement hands them in. -/
namespace Go.Proofs.YthognmkjoekilaaDoor
set_option linter.unusedVariables false
open Go.RowKit Go.Deep Go.WideShapes Go.ChangeShapes

theorem Tryd.cellsB : Tryd.prog.cellsOf 5 = 1 := by kernel_rfl
theorem cellsSl : Tryd.prog.cellsOf 22 = 1 := by kernel_rfl
theorem cellsBt : Tryd.prog.cellsOf 24 = 2 := by kernel_rfl
theorem addr_add (b off i : Nat) : (⟨b, off, none⟩ : Addr).add i = ⟨b, off + i, none⟩ := by
  by_cases h0 : i = 0
  · subst h0; rfl
  · simp [Addr.add, h0]
theorem wf_i64 {n : Int} (h : (Lit.int .i64 n).wf = true) : -9223372036854775808 ≤ n ∧ n ≤ 9223372036854775807 := by
  simp [Lit.wf, IntKind.min, IntKind.max, IntKind.signed, IntKind.bits] at h
  omega
theorem wf_u8 {n : Int} (h : (Lit.int .u8 n).wf = true) : 0 ≤ n ∧ n ≤ 255 := by
  simp [Lit.wf, IntKind.min, IntKind.max, IntKind.signed, IntKind.bits] at h
  omega
theorem wf_u32 {n : Int} (h : (Lit.int .u32 n).wf = true) : 0 ≤ n ∧ n ≤ 4294967295 := by
  simp [Lit.wf, IntKind.min, IntKind.max, IntKind.signed, IntKind.bits] at h
  omega
theorem Tryd.bytesB : Tryd.prog.bytesOf 5 = 1 := by kernel_rfl
theorem reach_eq : reachBytes = 140737488351232 := rfl
theorem weightsAll_mem {H : Type} {P : Program} {e : TypeId} : ∀ {ds : List (DataW H)} {d : DataW H}, d ∈ ds → ∀ n ∈ d.weights P e, n ∈ DataW.weightsAll P e ds
  | [], _, h, _, _ => by simp at h
  | d0 :: ds, d, hd, n, hn => by
    simp only [DataW.weightsAll, List.mem_append]
    rcases List.mem_cons.1 hd with rfl | h
    · exact Or.inl hn
    · exact Or.inr (weightsAll_mem h n hn)
/-- All that a datum holds is within the reach. -/
def Light {H : Type} (P : Program) (t : TypeId) (d : DataW H) : Prop := ∀ n ∈ d.weights P t, n ≤ reachBytes
theorem light_at {H : Type} {P : Program} {ts : List TypeId} {ds : List (DataW H)} (h : (DataW.weightsEach P ts ds).all (· ≤ reachBytes) = true) {j : Nat} {t : TypeId} {d : DataW H} (ht : ts[j]? = some t) (hd : ds[j]? = some d) : Light P t d :=
  fun n hn => by simpa using List.all_eq_true.1 h n (DataW.weights_mem_each ht hd n hn)
theorem light_elem {H : Type} {P : Program} {t e : TypeId} {elems rest : List (DataW H)} {d : DataW H} (h : Light P t (.slice elems rest)) (ht : P.underlying t = some (.slice e)) (hd : d ∈ elems) : Light P e d :=
  fun n hn => h n (by simp only [DataW.weights, ht, List.mem_cons, List.mem_append]; exact .inr (.inl (weightsAll_mem hd n hn)))
section
variable {H : Type} {enc : TypeId × Value → H} {W : World} {held : Bool}
theorem open_rd {fuel : Nat} {a : Option Addr} {len cap : Nat} {x : DataW H × List MemPlace} (h : DataW.trod enc Tryd.prog W 0 (fun _ => true) held fuel 22 [.slice a len cap] = some x) (hg : Light Tryd.prog 22 x.1) : ∃ xs, Rd W a len cap xs ∧ cap ≤ 140737488351232 := by
  rcases open_ints Tryd.underlying22 Tryd.underlying5 Tryd.cellsB h with ⟨hcs, _⟩ | ⟨ad, l, c, zs, hcs, _, hl, hm, hz, hxx, hcell, hwz⟩
  · simp at hcs
    obtain ⟨rfl, rfl, rfl⟩ := hcs
    exact ⟨[], ⟨rfl, Nat.le_refl _, Nat.zero_le _, by simp, fun _ => rfl, by simp⟩, by omega⟩
  · simp only [List.cons.injEq, Value.slice.injEq, and_true] at hcs
    obtain ⟨rfl, rfl, rfl⟩ := hcs
    simp only [if_true] at hz
    have hr := hg cap (by rw [hxx]; simp [DataW.weights, Tryd.underlying22, Tryd.bytesB, lits, hz]; left; omega)
    rw [reach_eq] at hr
    refine ⟨zs.take len, ⟨by simp; omega, hl, hm, fun n hn => wf_u8 (hwz n (List.mem_of_mem_take hn)), (by intro e; cases e), fun h0 => ?_⟩, hr⟩
    obtain ⟨b, off, spot⟩ := ad
    have hc := hcell 0 (by omega)
    have hspot : spot = none := by simpa [Addr.add] using World.cell?_spot hc
    subst hspot
    refine ⟨b, off, rfl, fun i hi => ?_⟩
    have hc := hcell i (by omega)
    rw [addr_add] at hc
    rw [hc]
    have hi2 : i < zs.length := by omega
    simp [List.getD, List.getElem?_take, hi, hi2]
set_option maxRecDepth 100000 in
theorem open_bits {n : Nat} {cs : List Value} {x : DataW H × List MemPlace} (h2 : DataW.trod enc Tryd.prog W 0 (fun _ => true) held n 24 cs = some x) (hg : Light Tryd.prog 24 x.1) : ∃ (N : Int) (a : Option Addr) (l c : Nat) (bs : List Int), ((Rd W a l c bs ∧ c ≤ 140737488351232) ∧ (-9223372036854775808 ≤ N ∧ N ≤ 9223372036854775807)) ∧ cs = [.int .i64 N, .slice a l c] := by
  obtain ⟨xs, k, hk, hxy, hlen, hxl, hf⟩ := DataW.trod_struct Tryd.underlying24 h2
  rw [cellsBt] at hlen
  match xs, hxl, cs, hlen with
  | [y0, y1], _, [v0, v1], _ =>
    have g0 := hf 0 _ rfl
    have g1 := hf 1 _ rfl
    simp [cellsI, cellsSl] at g0 g1
    obtain ⟨z1, hz1, -, hw1⟩ := DataW.trod_int Tryd.underlying3 g0
    simp at hz1
    subst hz1
    have hv : ∃ a l c, v1 = .slice a l c := by
      rcases open_slice Tryd.underlying22 g1 with ⟨hcs, _⟩ | ⟨ad, l, c, m, n, D, Pl, hcs, _⟩
      · simp at hcs; exact ⟨_, _, _, hcs⟩
      · simp at hcs; exact ⟨_, _, _, hcs⟩
    obtain ⟨a, l, c, rfl⟩ := hv
    have hg1 : Light Tryd.prog 22 y1.1 := fun n hn => hg n (by rw [hxy]; simp only [DataW.weights, Tryd.underlying24]; simp [DataW.weightsEach]; right; exact hn)
    obtain ⟨bs, hbs, hcap⟩ := open_rd g1 hg1
    exact ⟨z1, a, l, c, bs, ⟨⟨hbs, hcap⟩, wf_i64 hw1⟩, rfl⟩
end
end Go.Proofs.YthognmkjoekilaaDoor

/- The reference's power and Bit. -/
namespace Go.Proofs.YthognmkjoekilaaDoor
set_option linter.unusedVariables false
open Go.RowKit Go.Shelf

set_option maxRecDepth 100000 in
set_option maxHeartbeats 2000000 in
theorem power_any (n : Nat) (hn : n < 8) (w : World) : Calls Tryd.prog 55 #[.int .i64 (n : Int)] w fun e w' => e = .returned (.int .u8 ((2 ^ n : Nat) : Int)) ∧ w = w' := by
  go_enter Tryd.func55, Tryd.ntmps55
  go_wp2_with fail
  go_loopw [3, 4] (fun o i wr => ∃ k : Nat, k ≤ n ∧ i = .int .i64 (k : Int) ∧ o = .int .u8 ((2 ^ k : Nat) : Int) ∧ w = wr) (fun _ i _ => n - (intOf i).toNat)
  case atStart => exact ⟨0, Nat.zero_le _, rfl, rfl, rfl⟩
  case round =>
    obtain ⟨k, hk, rfl, rfl, rfl⟩ := hrel
    by_cases hlt : k < n
    · obtain ⟨X, hX⟩ : ∃ X, X = 2 ^ k := ⟨_, rfl⟩
      have hX9 : X ≤ 64 := by rw [hX]; exact Nat.pow_le_pow_right (by omega) (by omega : k ≤ 6)
      have hn1 : 2 ^ (k + 1) = 2 * X := by rw [hX, Nat.pow_succ]; omega
      rw [← hX]
      have Hn := Lib.hid hn1
      have hki : (k : Int) < (n : Int) := by omega
      clear hX hn1
      go_wp2_with fail
      go_roundw
      case rel => exact ⟨k + 1, by omega, by push_cast; rfl, by rw [Hn.out]; push_cast; rfl, by first | rfl | trivial⟩
      case measure => simp only [intOf]; omega
    · obtain rfl : k = n := by omega
      obtain ⟨X, hX⟩ : ∃ X, X = 2 ^ k := ⟨_, rfl⟩
      rw [← hX]
      have HX := Lib.hid hX
      clear hX
      go_wp2_with fail
      go_ret
      exact ⟨by rw [← HX.out]; rfl, rfl⟩
theorem bit_div (x : Int) (hx : 0 ≤ x ∧ x ≤ 255) (t : Nat) : (x / ((2 ^ t : Nat) : Int)) % 2 = if x.toNat.testBit t then 1 else 0 := by
  obtain ⟨y, rfl⟩ : ∃ y : Nat, x = (y : Int) := ⟨x.toNat, by omega⟩
  rw [Int.toNat_natCast, Nat.testBit_eq_decide_div_mod_eq]
  have h : ((y : Int) / ((2 ^ t : Nat) : Int)) % 2 = ((y / 2 ^ t % 2 : Nat) : Int) := by push_cast; rfl
  rw [h]
  rcases Nat.mod_two_eq_zero_or_one (y / 2 ^ t) with h0 | h0 <;> rw [h0] <;> simp
set_option maxRecDepth 100000 in
set_option maxHeartbeats 2000000 in
theorem bit_any (N : Int) (a : Option Addr) (l c : Nat) (bs : List Int) (i : Nat) (w : World) (hr : Rd w a l c bs) (hi : i < 8 * l) : Calls Tryd.prog 20 #[.agg #[.int .i64 N, .slice a l c], .int .i64 (i : Int)] w fun e w' => e = .returned (.bool (bitV bs i)) ∧ Below w.heap.size w w' := by
  obtain ⟨W, hW⟩ : ∃ W, W = w.alloc (.cells #[.int .i64 N, .slice a l c] 24) := ⟨_, rfl⟩
  have hb : Below w.heap.size w W := by rw [hW]; exact (Below.refl _ w).alloc (Nat.le_refl _) _
  have hB : Blk W w.heap.size 24 #[.int .i64 N, .slice a l c] := by rw [hW]; exact heap_new w _
  obtain ⟨J, hJ⟩ : ∃ J, J = i / 8 := ⟨_, rfl⟩
  obtain ⟨T, hT⟩ : ∃ T, T = i % 8 := ⟨_, rfl⟩
  have hc9 := hr.hc
  have hm9 := hr.hm
  unfold maxLen at hm9
  obtain ⟨b, off, rfl, hcell⟩ := hr.hr (by omega)
  have q1 : W.cell? ⟨w.heap.size, 1, none⟩ = some (.slice (some ⟨b, off, none⟩) l c) := hB.cell 1
  have hc := hcell J (by omega)
  have hbl := World.block_lt_of_cell? w _ hc
  have hc2 : W.cell? ⟨b, off + J, none⟩ = some (.int .u8 (bs.getD J 0)) := (hb.cell (p := ⟨b, off + J, none⟩) hbl).trans hc
  have hxb := hr.hb _ (getD_mem (bs := bs) (i := J) (by have := hr.hl; omega))
  obtain ⟨X, hX⟩ : ∃ X, X = bs.getD J 0 := ⟨_, rfl⟩
  have hv : bitV bs i = X.toNat.testBit T := by rw [hX, hJ, hT]; rfl
  rw [← hX] at hc2 hxb
  rw [hv]
  obtain ⟨P0, hP0⟩ : ∃ P0, P0 = 2 ^ T := ⟨_, rfl⟩
  obtain ⟨D, hD⟩ : ∃ D : Int, D = X / (P0 : Int) := ⟨_, rfl⟩
  obtain ⟨R, hR⟩ : ∃ R : Int, R = D % 2 := ⟨_, rfl⟩
  have hP1 : 1 ≤ P0 := by rw [hP0]; exact Nat.one_le_two_pow
  have hP2 : P0 ≤ 128 := by rw [hP0]; exact Nat.pow_le_pow_right (by omega) (by omega : T ≤ 7)
  have hD0 : 0 ≤ D ∧ D ≤ 255 := by
    rw [hD]
    refine ⟨Int.ediv_nonneg hxb.1 (by omega), Int.le_trans (Int.ediv_le_self _ hxb.1) hxb.2⟩
  have hR0 : R = if X.toNat.testBit T then 1 else 0 := by rw [hR, hD, hP0]; exact bit_div X hxb T
  have hR1 : (R == 1) = X.toNat.testBit T := by rw [hR0]; cases X.toNat.testBit T <;> simp
  rw [← hR1]
  have hP3 : (P0 : Int) ≤ 128 := by omega
  have hP4 : (1 : Int) ≤ (P0 : Int) := by omega
  have f1 : X.tdiv (P0 : Int) = D := by rw [hD]; exact Int.tdiv_eq_ediv_of_nonneg hxb.1
  have f2 : D.tmod 2 = R := by rw [hR]; exact Int.tmod_eq_emod_of_nonneg hD0.1
  have hP5 : (P0 = 0) = False := eq_false (by omega)
  have wD : IntKind.u8.wrap D = D := by simp [IntKind.wrap, IntKind.bits, IntKind.signed]; omega
  have P := fun W => power_any T (by omega) W
  rw [← hP0] at P
  have e8 : (i : Int) / 8 = (J : Int) := by omega
  have e9 : (i : Int).tmod 8 = (T : Int) := by rw [hT]; rfl
  have hJ63 : (J : Int) ≤ 9223372036854775807 := by omega
  have wJ : IntKind.i64.wrap (J : Int) = (J : Int) := by simp [IntKind.wrap, IntKind.bits, IntKind.signed]; omega
  have wT : IntKind.i64.wrap (T : Int) = (T : Int) := by simp [IntKind.wrap, IntKind.bits, IntKind.signed]; omega
  have hil : (J : Int) < (l : Int) := by omega
  have hi9 : (J : Int) ≤ 9223372036854775807 := by omega
  have hT8 : (T : Int) < 8 := by omega
  have HW := Lib.hid hW
  have Hb := Lib.hid hb
  have HP := Lib.hid P
  clear hcell hc hW hb hB hX hv hr P hJ hT hc9 hm9 hP0 hD hR hR0 hR1
  go_enter Tryd.func20, Tryd.ntmps20
  go_upto_region 1 with fail
  rw [← HW.out]
  refine wp_region_held_drew (S := Below W.heap.size W) (by kernel_rfl) ((Below.refl _ W).drew) (fun _ => ?_)
  have HS : Hid (Below W.heap.size W W.drew) := Lib.hid ((Below.refl _ W).drew)
  refine wpAnyH_take (i := 0) (v := .pointer (some ⟨w.heap.size, 1, none⟩)) rfl (by kernel_rfl) (by kernel_rfl) (by kernel_rfl) (fun _ _ _ h => h) (Or.inl ⟨by rfl, ?_⟩) HS.out ?_
  · intro u hu; go_simp
  go_simp
  refine wpAnyH_take (i := 1) (v := .slice (some ⟨b, off, none⟩) l c) rfl (by kernel_rfl) (by kernel_rfl) (by kernel_rfl) (fun _ _ _ h => h) (Or.inl ⟨by rfl, ?_⟩) HS.out ?_
  · intro u hu; have := (hu.cell (p := ⟨w.heap.size, 1, none⟩) (World.block_lt_of_cell? W _ q1)).trans q1; go_simp
  go_simp
  refine wpAnyH_take (i := 2) (v := .int .i64 (i : Int)) rfl (by kernel_rfl) (by kernel_rfl) (by kernel_rfl) (fun _ _ _ h => h) (Or.inl ⟨by rfl, ?_⟩) HS.out ?_
  · intro u hu; go_simp
  go_simp
  refine wpAnyH_take (i := 3) (v := .int .i64 (J : Int)) rfl (by kernel_rfl) (by kernel_rfl) (by kernel_rfl) (fun _ _ _ h => h) (Or.inl ⟨by rfl, ?_⟩) HS.out ?_
  · intro u hu; go_simp
  go_simp
  refine wpAnyH_take (i := 4) (v := .pointer (some ⟨b, off + J, none⟩)) rfl (by kernel_rfl) (by kernel_rfl) (by kernel_rfl) (fun _ _ _ h => h) (Or.inl ⟨by rfl, ?_⟩) HS.out ?_
  · intro u hu; go_simp
  go_simp
  refine wpAnyH_take (i := 5) (v := .int .u8 X) rfl (by kernel_rfl) (by kernel_rfl) (by kernel_rfl) (fun _ _ _ h => h) (Or.inl ⟨by rfl, ?_⟩) HS.out ?_
  · intro u hu; have := (hu.cell (p := ⟨b, off + J, none⟩) (World.block_lt_of_cell? W _ hc2)).trans hc2; go_simp
  go_simp
  refine wpAnyH_take (i := 6) (v := .int .i64 (i : Int)) rfl (by kernel_rfl) (by kernel_rfl) (by kernel_rfl) (fun _ _ _ h => h) (Or.inl ⟨by rfl, ?_⟩) HS.out ?_
  · intro u hu; go_simp
  go_simp
  refine wpAnyH_take (i := 7) (v := .int .i64 (T : Int)) rfl (by kernel_rfl) (by kernel_rfl) (by kernel_rfl) (fun _ _ _ h => h) (Or.inl ⟨by rfl, ?_⟩) HS.out ?_
  · intro u hu; go_simp
  go_simp
  refine wpAnyH_ready (rs := [8]) (by kernel_rfl) (by simp) ?_
  refine AllReadyH.cons rfl (fun K hK => ?_) AllReadyH.nil
  go_simp
  refine (HP.out _).mono ?_
  rintro e u ⟨rfl, rfl⟩
  refine hK.out _ _ HS.out (fun _ => ?_)
  clear hK K
  refine wpAnyH_take (i := 9) (v := .int .u8 D) rfl (by kernel_rfl) (by kernel_rfl) (by kernel_rfl) (fun _ _ _ h => h) (Or.inl ⟨by rfl, ?_⟩) HS.out ?_
  · intro u hu; go_simp
  go_simp
  refine wpAnyH_take (i := 10) (v := .int .u8 R) rfl (by kernel_rfl) (by kernel_rfl) (by kernel_rfl) (fun _ _ _ h => h) (Or.inl ⟨by rfl, ?_⟩) HS.out ?_
  · intro u hu; go_simp
  go_simp
  refine wpAnyH_take (i := 11) (v := .bool (R == 1)) rfl (by kernel_rfl) (by kernel_rfl) (by kernel_rfl) (fun _ _ _ h => h) (Or.inl ⟨by rfl, ?_⟩) HS.out ?_
  · intro u hu; go_simp
  go_simp
  refine wpAnyH_ready (rs := [12]) (by kernel_rfl) (by simp) ?_
  refine AllReadyH.cons rfl (fun K hK => ?_) AllReadyH.nil
  go_simp
  refine hK.out _ _ HS.out (fun _ => ?_)
  clear hK K
  refine wpAnyH_done (by kernel_rfl) ?_ _
  have HZ := Lib.hid (Hb.out.trans (HS.out.mono Hb.out.size))
  clear HS HP HW
  go_wp2_with fail
  go_ret
  exact ⟨rfl, HZ.out⟩
end Go.Proofs.YthognmkjoekilaaDoor

/- The reference's Right: whether a bitmap is valid. -/
namespace Go.Proofs.YthognmkjoekilaaDoor
set_option linter.unusedVariables false
open Go.RowKit Go.Shelf

set_option maxRecDepth 100000 in
set_option maxHeartbeats 4000000 in
theorem right_any (N : Int) (a : Option Addr) (l c : Nat) (bs : List Int) (w : World) (hr : Rd w a l c bs) (hN1 : -9223372036854775808 ≤ N) (hN2 : N ≤ 9223372036854775807) (hl9 : l ≤ 1125899906842624) :
    Calls Tryd.prog 17 #[.agg #[.int .i64 N, .slice a l c]] w fun e w' => e = .returned (.bool (validB N bs)) ∧ Below w.heap.size w w' := by
  obtain ⟨W, hW⟩ : ∃ W, W = w.alloc (.cells #[.int .i64 N, .slice a l c] 24) := ⟨_, rfl⟩
  have hb : Below w.heap.size w W := by rw [hW]; exact (Below.refl _ w).alloc (Nat.le_refl _) _
  have hB : Blk W w.heap.size 24 #[.int .i64 N, .slice a l c] := by rw [hW]; exact heap_new w _
  have hsW : W.heap.size = w.heap.size + 1 := by rw [hW]; simp
  have q0 : W.cell? ⟨w.heap.size, 0, none⟩ = some (.int .i64 N) := hB.cell 0
  have q1 : W.cell? ⟨w.heap.size, 1, none⟩ = some (.slice a l c) := hB.cell 1
  have hlen := hr.hl
  have HW := Lib.hid hW
  have Hb := Lib.hid hb
  have HB := Lib.hid hB
  have HR := Lib.hid (hr.below hb (Nat.le_refl _))
  have Hs := Lib.hid hsW
  obtain ⟨V, hV⟩ : ∃ V, V = validB N bs := ⟨_, rfl⟩
  have Hv := Lib.hid (hV.symm ▸ validB_iff N bs)
  have HV := Lib.hid hV
  rw [← hV]
  clear hW hb hB hr hsW hV
  by_cases c1 : N < 0
  · have hF : V = false := by
      cases hh : V with
      | false => rfl
      | true => have := Hv.out.mp hh; omega
    rw [hF]
    clear Hv HV
    go_enter Tryd.func17, Tryd.ntmps17
    go_upto_region 1 with fail
    rw [← HW.out]
    go_wp2_with fail
    go_ret
    exact ⟨rfl, Hb.out⟩
  by_cases c2 : 65536 < N
  · have hF : V = false := by
      cases hh : V with
      | false => rfl
      | true => have := Hv.out.mp hh; omega
    rw [hF]
    clear Hv HV
    go_enter Tryd.func17, Tryd.ntmps17
    go_upto_region 1 with fail
    rw [← HW.out]
    go_wp2_with fail
    go_ret
    exact ⟨rfl, Hb.out⟩
  obtain ⟨M, rfl⟩ : ∃ M : Nat, N = (M : Int) := ⟨N.toNat, by omega⟩
  obtain ⟨K8, hK8⟩ : ∃ K8 : Int, K8 = ((M : Int) + 7) / 8 := ⟨_, rfl⟩
  have e8 : ((M : Int) + 7).tdiv 8 = K8 := by rw [hK8]; exact Int.tdiv_eq_ediv_of_nonneg (by omega)
  have hw8 : IntKind.i64.wrap K8 = K8 := by simp [IntKind.wrap, IntKind.bits, IntKind.signed]; omega
  by_cases c3 : (l : Int) = K8
  · have c4 : ((l : Int) = K8) = True := eq_true c3
    have hM8 : M ≤ 8 * l := by omega
    have h8l : 8 * l ≤ 65543 := by omega
    have Hv2 : Hid (V = true ↔ ∀ j : Nat, M ≤ j → j < 8 * l → bitV bs j = false) := Lib.hid ⟨fun h j h1 h2 => (Hv.out.mp h).2.2.2 j (by omega) (by omega), fun h => Hv.out.mpr ⟨by omega, by omega, by omega, fun j h1 h2 => h j (by omega) (by omega)⟩⟩
    clear Hv HV hK8 hlen
    go_enter Tryd.func17, Tryd.ntmps17
    go_upto_region 1 with fail
    rw [← HW.out]
    go_wp2_with fail
    go_loopw [3] (fun p wr => ∃ k : Nat, p = .int .i64 (k : Int) ∧ M ≤ k ∧ k ≤ 8 * l ∧ (∀ j, M ≤ j → j < k → bitV bs j = false) ∧ Below W.heap.size W wr) (fun p _ => 8 * l - (intOf p).toNat)
    case atStart => exact ⟨M, rfl, Nat.le_refl _, hM8, fun j h1 h2 => absurd h2 (by omega), Below.refl _ _⟩
    case round =>
      obtain ⟨k, rfl, hMk, hk8, hall, hbr⟩ := hrel
      have Hall := Lib.hid hall
      have Hbr := Lib.hid hbr
      have p0 : wr.cell? ⟨w.heap.size, 0, none⟩ = some (.int .i64 (M : Int)) := (HB.out.below hbr HB.out.lt).cell 0
      have p1 : wr.cell? ⟨w.heap.size, 1, none⟩ = some (.slice a l c) := (HB.out.below hbr HB.out.lt).cell 1
      have HRr := Lib.hid (HR.out.below hbr (Nat.le_refl _))
      clear hall hbr
      by_cases hlt : k < 8 * l
      · have hki : (k : Int) < 8 * (l : Int) := by omega
        have C := Lib.hid (bit_any (M : Int) a l c bs k wr HRr.out hlt)
        obtain ⟨B, hB⟩ : ∃ B, B = bitV bs k := ⟨_, rfl⟩
        rw [← hB] at C
        have HBt := Lib.hid hB
        clear hB
        go_wp2_with fail
        refine C.out.mono ?_
        rintro e u ⟨rfl, hb⟩
        have Hbu := Lib.hid (Hbr.out.trans (hb.mono Hbr.out.size))
        clear hb C HRr p0 p1
        cases B with
        | true =>
          have hV : V = false := by
            cases hh : V with
            | false => rfl
            | true => have := Hv2.out.mp hh k hMk hlt; rw [← HBt.out] at this; cases this
          have HV := Lib.hid hV
          clear hV
          go_wp2_with fail
          go_ret
          exact ⟨by rw [HV.out]; rfl, Hb.out.trans (Hbu.out.mono Hb.out.size)⟩
        | false =>
          go_wp2_with fail
          go_roundw
          case rel => exact ⟨k + 1, by push_cast; rfl, by omega, by omega, fun j h1 h2 => by
            by_cases hj : j < k
            · exact Hall.out j h1 hj
            · obtain rfl : j = k := by omega
              exact HBt.out.symm, Hbu.out⟩
          case measure => simp only [intOf]; omega
      · obtain rfl : k = 8 * l := by omega
        have hV : V = true := Hv2.out.mpr (fun j h1 h2 => Hall.out j h1 h2)
        have HV := Lib.hid hV
        clear hV p0
        go_wp2_with fail
        go_ret
        exact ⟨by rw [HV.out]; rfl, Hb.out.trans (Hbr.out.mono Hb.out.size)⟩
  · have hF : V = false := by
      cases hh : V with
      | false => rfl
      | true => have := Hv.out.mp hh; omega
    rw [hF]
    have c4 : ((l : Int) = K8) = False := eq_false c3
    clear Hv HV hK8 hlen
    go_enter Tryd.func17, Tryd.ntmps17
    go_upto_region 1 with fail
    rw [← HW.out]
    go_wp2_with fail
    go_ret
    exact ⟨rfl, Hb.out⟩
end Go.Proofs.YthognmkjoekilaaDoor

/- The reference's New, and a bitmap of nothing. -/
namespace Go.Proofs.YthognmkjoekilaaDoor
set_option linter.unusedVariables false
open Go.RowKit Go.Shelf

set_option maxRecDepth 100000 in
set_option maxHeartbeats 1000000 in
theorem none_zero (w : World) : Calls Tryd.prog 19 #[.agg #[.int .i64 0, .slice none 0 0]] w fun e w' => e = .returned (.bool true) ∧ Below w.heap.size w w' := by
  obtain ⟨W, hW⟩ : ∃ W, W = w.alloc (.cells #[.int .i64 0, .slice none 0 0] 24) := ⟨_, rfl⟩
  have hb : Below w.heap.size w W := by rw [hW]; exact (Below.refl _ w).alloc (Nat.le_refl _) _
  have hB : Blk W w.heap.size 24 #[.int .i64 0, .slice none 0 0] := by rw [hW]; exact heap_new w _
  have q0 : W.cell? ⟨w.heap.size, 0, none⟩ = some (.int .i64 0) := hB.cell 0
  have q1 : W.cell? ⟨w.heap.size, 1, none⟩ = some (.slice none 0 0) := hB.cell 1
  have HW := Lib.hid hW
  have Hb := Lib.hid hb
  clear hW hb hB
  go_enter Tryd.func19, Tryd.ntmps19
  go_upto_region 1 with fail
  rw [← HW.out]
  go_wp2_with fail
  go_ret
  exact ⟨rfl, Hb.out⟩
set_option maxRecDepth 100000 in
set_option maxHeartbeats 2000000 in
theorem rnew_any (N : Int) (m : Nat) (w : World) (h0 : 0 ≤ N) (h1 : N ≤ 65536) (hm : (N + 7) / 8 = (m : Int)) :
    Calls Tryd.prog 27 #[.int .i64 N] w fun e w' => ∃ a', e = .returned (.agg #[.int .i64 N, .slice (some a') m m]) ∧ Own w' w.heap.size (.slice (some a') m m) (List.replicate m 0) ∧ Below w.heap.size w w' := by
  obtain ⟨W0, hW0⟩ : ∃ W0, w.alloc (.cells #[.int .i64 0, .slice none 0 0] 24) = W0 := ⟨_, rfl⟩
  have hR : Blk W0 w.heap.size 24 #[.int .i64 0, .slice none 0 0] := by rw [← hW0]; exact heap_new w _
  have hb0 : Below w.heap.size w W0 := by rw [← hW0]; exact (Below.refl _ w).alloc (Nat.le_refl _) _
  have hs0 : W0.heap.size = w.heap.size + 1 := by rw [← hW0]; simp
  obtain ⟨w1, hmk, ho, hb⟩ := make_bytes m (by omega) W0 (w.heap.size + 1) (by omega)
  have hR1 := hR.below hb hR.lt
  have e8 : (N + 7).tdiv 8 = (m : Int) := by rw [← hm]; exact Int.tdiv_eq_ediv_of_nonneg (by omega)
  have wm : IntKind.i64.wrap (m : Int) = (m : Int) := by simp [IntKind.wrap, IntKind.bits, IntKind.signed]; omega
  have HW := Lib.hid hW0
  have HR := Lib.hid hR1
  have HO := Lib.hid ho
  have Hb := Lib.hid (hb0.trans (hb.mono (by omega)))
  have f0 := hR1.frozen 0
  have f1 := hR1.frozen 1
  have k0 : w1.cell? ⟨w.heap.size, 0, none⟩ = some (.int .i64 0) := hR1.cell 0
  have k1 : w1.cell? ⟨w.heap.size, 1, none⟩ = some (.slice none 0 0) := hR1.cell 1
  have hsz : w.heap.size < w1.heap.size := hR1.lt
  clear hW0 hR hb0 hs0 ho hb hm hR1
  go_enter Tryd.func27, Tryd.ntmps27
  go_upto_region 1 with fail
  rw [HW.out]
  go_wp2_with fail
  rw [cells2 HR.out]
  obtain ⟨V, hV, rV, bV, sV, oV⟩ := filled HR.out #[.int .i64 N, .slice (some ⟨W0.heap.size, 0, none⟩) m m]
  rw [hV]
  clear f0 f1 k0 k1
  have z0 : V.cell? ⟨w.heap.size, 0, none⟩ = some (.int .i64 N) := (show Blk V _ 24 _ from rV).cell 0
  have z1 : V.cell? ⟨w.heap.size, 1, none⟩ = some (.slice (some ⟨W0.heap.size, 0, none⟩) m m) := (show Blk V _ 24 _ from rV).cell 1
  have HZ : Hid (Own V w.heap.size (.slice (some ⟨W0.heap.size, 0, none⟩) m m) (List.replicate m 0) ∧ Below w.heap.size w V) := Lib.hid ⟨(HO.out.other oV (Nat.lt_succ_self _)).mono (Nat.le_succ _), Hb.out.trans bV⟩
  clear HR HO Hb rV bV sV oV hV
  simp [bodyPost, results, Tryd.results27, go_sem, z0, z1]
  exact HZ.out
end Go.Proofs.YthognmkjoekilaaDoor

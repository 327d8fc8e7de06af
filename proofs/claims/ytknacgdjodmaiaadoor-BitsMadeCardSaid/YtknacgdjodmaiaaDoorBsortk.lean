/- A row of ranges, in the shelf's words for a sort, and back. -/
import Derived.Test.YtknacgdjodmaiaaDoorBcmps
import Derived.Shelf.SlSortCmp.InsertionK
namespace Go.Proofs.YtknacgdjodmaiaaDoor
set_option linter.unusedVariables false
open Go.RowKit Go.Shelf Go.Lib Go.Sort

theorem rangeCells_len (l : List (Nat × Nat)) : (rangeCells l).length = l.length * 2 := by
  induction l with
  | nil => rfl
  | cons r l ih => simp only [rangeCells, List.flatMap_cons, List.length_append, List.length_cons, List.length_nil] at ih ⊢; omega
theorem rangeCells_at (l : List (Nat × Nat)) (t : Nat) (h : t < l.length * 2) : (rangeCells l)[t]? = some ((encR (l.toArray[t / 2]!))[t % 2]!) := by
  induction l generalizing t with
  | nil => simp at h
  | cons r l ih =>
    match t with
    | 0 => simp [rangeCells, encR]
    | 1 => simp [rangeCells, encR]
    | t + 2 =>
      have hh := ih t (by simp only [List.length_cons] at h; omega)
      rw [show (t + 2) / 2 = t / 2 + 1 by omega, show (t + 2) % 2 = t % 2 by omega]
      simp only [rangeCells, List.flatMap_cons] at hh ⊢
      rw [List.getElem?_append_right (by simp)]
      simp only [List.length_cons, List.length_nil, Nat.add_sub_cancel]
      rw [hh]
      simp
theorem flatK_ranges (l : List (Nat × Nat)) : (flatK encR 2 l.toArray).toList = rangeCells l := by
  apply List.ext_getElem?
  intro t
  by_cases h : t < l.length * 2
  · rw [rangeCells_at l t h]
    have h1 := get_flatK encR 2 l.toArray t (by simpa using h)
    have h2 : t < (flatK encR 2 l.toArray).size := by simpa using h
    rw [Array.getElem?_toList, Array.getElem?_eq_getElem h2, ← getElem!_pos (flatK encR 2 l.toArray) t h2, h1]
  · rw [List.getElem?_eq_none (by simp; omega), List.getElem?_eq_none (by rw [rangeCells_len]; omega)]
/-- A row that a call owns, as the shelf's sorts hold one. -/
theorem OwnR.holds {w : World} {B g cap n : Nat} {l : List (Nat × Nat)} (h : OwnR w B (.slice (some ⟨g, 0, none⟩) n cap) l) : n = l.length ∧ B ≤ g ∧ g < w.heap.size ∧ HoldsK encR 2 w g 0 l.toArray := by
  rcases h.1.2 with ⟨hv, h0⟩ | ⟨g', cap', cur, hv, hg0, hg, hnc, hcm, hcs, htake⟩
  · cases hv
  · injection hv with h1 h2 h3
    injection h1 with h1
    injection h1 with h1 _ _
    subst h1 h2 h3
    have hlt : g < w.heap.size := by
      rcases Nat.lt_or_ge g w.heap.size with hlt | hge
      · exact hlt
      · rw [Array.getElem?_eq_none hge] at hg; cases hg
    refine ⟨rfl, hg0, hlt, fun j hj => ⟨?_, ?_⟩⟩
    · have hj' : j < l.length * 2 := by simpa using hj
      have hjs : j < cur.size := by rw [hcs]; have := Nat.mul_le_mul_right 2 hnc; omega
      rw [Nat.zero_add, cell_of_row w g j cur _ (0, 0) hg]
      have e1 : (cur.toList.take (l.length * 2))[j]? = cur[j]? := by rw [List.getElem?_take_of_lt hj', Array.getElem?_toList]
      rw [← e1, htake, rangeCells_at l j hj', get_flatK encR 2 l.toArray j (by simpa using hj)]
      rfl
    · simp [World.frozen?, hg]
/-- .. and back, behind the sort. -/
theorem OwnR.sorted {w : World} {B g cap n m : Nat} {l l' : List (Nat × Nat)} {os : Array Obj} (h : OwnR w B (.slice (some ⟨g, 0, none⟩) n cap) l) (hl : l'.length = l.length) (hb : ∀ r ∈ l', r.1 ≤ 65536 ∧ r.2 ≤ 65536) :
    OwnR (sortWorldK encR 2 w g 0 m l'.toArray os) B (.slice (some ⟨g, 0, none⟩) n cap) l' ∧ But g w (sortWorldK encR 2 w g 0 m l'.toArray os) := by
  obtain ⟨hn, hB, hlt, -⟩ := h.holds
  rcases h.1.2 with ⟨hv, h0⟩ | ⟨g', cap', cur, hv, hg0, hg, hnc, hcm, hcs, htake⟩
  · cases hv
  · injection hv with h1 h2 h3
    injection h1 with h1
    injection h1 with h1 _ _
    subst h1 h2 h3
    have hsz : (putRow id (Sort.ahead w m) g 0 (flatK encR 2 l'.toArray)).heap.size = w.heap.size := size_putRow id _ _ _ _
    have hnew : ∀ k, k < w.heap.size → (sortWorldK encR 2 w g 0 m l'.toArray os).heap[k]? = (putRow id (Sort.ahead w m) g 0 (flatK encR 2 l'.toArray)).heap[k]? := by
      intro k hk
      unfold sortWorldK putRowK grow
      exact Array.getElem?_append_left (by rw [hsz]; exact hk)
    have hoth : ∀ k, k < w.heap.size → k ≠ g → (sortWorldK encR 2 w g 0 m l'.toArray os).heap[k]? = w.heap[k]? := by
      intro k hk hne
      rw [hnew k hk]
      unfold putRow mapBlock Sort.ahead
      simp only [Array.getElem?_modify]
      rw [if_neg (fun e => hne e.symm)]
    have hat : (sortWorldK encR 2 w g 0 m l'.toArray os).heap[g]? = some (.cells (putCells id 0 (flatK encR 2 l'.toArray) cur) 60 (0, 0)) := by
      rw [hnew g hlt]
      unfold putRow mapBlock Sort.ahead
      simp only [Array.getElem?_modify, if_pos, hg]
      rfl
    have hF : (flatK encR 2 l'.toArray).size = l.length * 2 := by simp [hl]
    have hcz : (putCells id 0 (flatK encR 2 l'.toArray) cur).size = cap * 2 := by simp [putCells, hcs]
    refine ⟨⟨⟨by rw [rangeCells_len], .inr ⟨g, cap, _, by rw [hl], hg0, hat, by rw [hl]; exact hnc, hcm, hcz, ?_⟩⟩, hb⟩, ⟨⟨rfl, rfl, rfl, ?_, ?_⟩, hoth⟩⟩
    · rw [← flatK_ranges l', hl]
      have hle := Nat.mul_le_mul_right 2 hnc
      apply List.ext_getElem (by simp only [List.length_take, Array.length_toList, hcz, hF]; omega)
      intro j j1 j2
      have hj : j < l.length * 2 := by simpa [hF] using j2
      have hjs : j < cur.size := by omega
      simp only [List.getElem_take, Array.getElem_toList]
      simp only [putCells, Array.getElem_mapIdx, Nat.zero_le, Nat.zero_add, true_and, hF, hj, if_true, Nat.sub_zero, id]
      exact getElem!_pos _ _ _
    · show _ ≤ (grow _ os).heap.size
      unfold grow
      simp only [Array.size_append]
      have : (putRowK encR 2 (Sort.ahead w m) g 0 l'.toArray).heap.size = w.heap.size := hsz
      omega
    · intro k hk
      exact hoth k (by omega) (by omega)
end Go.Proofs.YtknacgdjodmaiaaDoor

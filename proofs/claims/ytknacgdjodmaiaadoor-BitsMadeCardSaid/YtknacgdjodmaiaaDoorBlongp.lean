/- longest: the longest runs of clear bits until they have many bits. -/
import Derived.Test.YtknacgdjodmaiaaDoorBstable
import Derived.Test.YtknacgdjodmaiaaDoorBrunsf
namespace Go.Proofs.YtknacgdjodmaiaaDoor
set_option linter.unusedVariables false
open Go.RowKit Go.Shelf

/-- What is still wanted behind i ranges. -/
def leftV (ss : List (Nat × Nat)) (m : Nat) : Nat → Nat
  | 0 => m
  | i + 1 => leftV ss m i - min (ss.getD i (0, 0)).2 (leftV ss m i)
/-- The row with i ranges cut. -/
def rowI (ss : List (Nat × Nat)) (m : Nat) : Nat → List (Nat × Nat)
  | 0 => ss
  | i + 1 => (rowI ss m i).set i ((ss.getD i (0, 0)).1, min (ss.getD i (0, 0)).2 (leftV ss m i))
theorem leftV_le (ss : List (Nat × Nat)) (m : Nat) : ∀ i, leftV ss m i ≤ m
  | 0 => Nat.le_refl _
  | i + 1 => by have := leftV_le ss m i; unfold leftV; omega
theorem rowI_len (ss : List (Nat × Nat)) (m : Nat) : ∀ i, (rowI ss m i).length = ss.length
  | 0 => rfl
  | i + 1 => by simp [rowI, rowI_len ss m i]
theorem rowI_at (ss : List (Nat × Nat)) (m : Nat) : ∀ i j, i ≤ j → (rowI ss m i).getD j (0, 0) = ss.getD j (0, 0)
  | 0, _, _ => rfl
  | i + 1, j, h => by
    have := rowI_at ss m i j (by omega)
    simp only [List.getD_eq_getElem?_getD] at this ⊢
    simp only [rowI]
    rw [List.getElem?_set_ne (by omega)]
    exact this
theorem rowI_bd (ss : List (Nat × Nat)) (m : Nat) (h : ∀ r ∈ ss, r.1 ≤ 65536 ∧ r.2 ≤ 65536) : ∀ i, i ≤ ss.length → ∀ r ∈ rowI ss m i, r.1 ≤ 65536 ∧ r.2 ≤ 65536
  | 0, _ => h
  | i + 1, hi => fun r hr => by
    rcases List.mem_or_eq_of_mem_set hr with hr | rfl
    · exact rowI_bd ss m h i (by omega) r hr
    · have hm : ss.getD i (0, 0) ∈ ss := by
        rw [List.getD_eq_getElem?_getD, List.getElem?_eq_getElem (by omega)]; exact List.getElem_mem _
      have := h _ hm
      simp only; omega
theorem OwnR.at_ {w : World} {B g n cap : Nat} {l : List (Nat × Nat)} (h : OwnR w B (.slice (some ⟨g, 0, none⟩) n cap) l) (i : Nat) (hi : i < l.length) :
    w.cell? ⟨g, i * 2, none⟩ = some (.int .i64 ((l.getD i (0, 0)).1 : Int)) ∧ w.cell? ⟨g, i * 2 + 1, none⟩ = some (.int .i64 ((l.getD i (0, 0)).2 : Int)) := by
  obtain ⟨rfl, -, -, hH⟩ := h.holds
  have e : (l.toArray)[i]! = l.getD i (0, 0) := by
    rw [getElem!_pos _ _ (by simpa using hi), List.getD_eq_getElem?_getD, List.getElem?_eq_getElem hi]; rfl
  constructor
  · rw [h.1.cellAt (i * 2) (by omega), rangeCells_at l (i * 2) (by omega), show i * 2 / 2 = i by omega, show i * 2 % 2 = 0 by omega, e]; rfl
  · rw [h.1.cellAt (i * 2 + 1) (by omega), rangeCells_at l (i * 2 + 1) (by omega), show (i * 2 + 1) / 2 = i by omega, show (i * 2 + 1) % 2 = 1 by omega, e]; rfl
theorem rangeCells_set (l : List (Nat × Nat)) (i : Nat) (hi : i < l.length) (c : Nat) : (rangeCells l).set (i * 2 + 1) (.int .i64 (c : Int)) = rangeCells (l.set i ((l.getD i (0, 0)).1, c)) := by
  induction l generalizing i with
  | nil => simp at hi
  | cons r l ih =>
    cases i with
    | zero => simp [rangeCells]
    | succ i =>
      have := ih i (by simpa using hi)
      rw [show (i + 1) * 2 + 1 = (i * 2 + 1) + 2 by omega]
      simp only [rangeCells, List.flatMap_cons, List.set_cons_succ, List.cons_append, List.nil_append, List.getD_cons_succ] at this ⊢
      rw [this]
theorem OwnR.stored {w : World} {B g n cap : Nat} {l : List (Nat × Nat)} (h : OwnR w B (.slice (some ⟨g, 0, none⟩) n cap) l) (i : Nat) (hi : i < l.length) (c : Nat) (hc : c ≤ 65536) :
    OwnR (w.setCell ⟨g, i * 2 + 1, none⟩ (.int .i64 (c : Int))) B (.slice (some ⟨g, 0, none⟩) n cap) (l.set i ((l.getD i (0, 0)).1, c)) := by
  obtain ⟨rfl, -, -, -⟩ := h.holds
  refine ⟨?_, fun r hr => ?_⟩
  · rw [List.length_set, ← rangeCells_set l i hi c]
    exact (h.1.stored (i * 2 + 1) (.int .i64 (c : Int))).1
  · rcases List.mem_or_eq_of_mem_set hr with hr | rfl
    · exact h.2 r hr
    · have hm : l.getD i (0, 0) ∈ l := by
        rw [List.getD_eq_getElem?_getD, List.getElem?_eq_getElem hi]; exact List.getElem_mem _
      exact ⟨(h.2 _ hm).1, hc⟩
theorem OwnR.front {w : World} {B g n cap : Nat} {l : List (Nat × Nat)} (h : OwnR w B (.slice (some ⟨g, 0, none⟩) n cap) l) (k : Nat) (hk : k ≤ l.length) :
    OwnR w B (.slice (some ⟨g, 0, none⟩) k cap) (l.take k) := by
  refine ⟨?_, fun r hr => h.2 r (List.mem_of_mem_take hr)⟩
  rcases h.1.2 with ⟨hv, h0⟩ | ⟨g', cap', cur, hv, hg0, hg, hnc, hcm, hcs, htake⟩
  · cases hv
  · injection hv with h1 h2 h3
    injection h1 with h1
    injection h1 with h1 _ _
    subst h1 h2 h3
    have hl : (l.take k).length = k := by simp; omega
    have hf : ∀ (l : List (Nat × Nat)) k, rangeCells (l.take k) = (rangeCells l).take (k * 2) := by
      intro l k
      induction l generalizing k with
      | nil => simp [rangeCells]
      | cons r l ih =>
        cases k with
        | zero => simp [rangeCells]
        | succ k =>
          have := ih k
          rw [show (k + 1) * 2 = k * 2 + 2 by omega]
          simp only [rangeCells, List.take_succ_cons, List.flatMap_cons, List.cons_append, List.nil_append] at this ⊢
          rw [this]
    refine ⟨rangeCells_len _, .inr ⟨g, cap, cur, by rw [hl], hg0, hg, by omega, hcm, hcs, ?_⟩⟩
    rw [hf, ← htake, List.take_take, hl]
    congr 1
    omega
end Go.Proofs.YtknacgdjodmaiaaDoor

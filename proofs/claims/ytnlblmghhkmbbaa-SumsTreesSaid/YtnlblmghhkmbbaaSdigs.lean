/- Rows of digests. -/
import Derived.Test.YtnlblmghhkmbbaaSrow
import Derived.Test.YtnlblmghhkmbbaaSroot0
import Derived.Deep.MidRow
namespace Go.Proofs.Ytnlblmghhkmbbaa
set_option linter.unusedVariables false
open Go.RowKit Go.Shelf

/-- The cells of digests, one behind the other. -/
def digsC (ds : List (List Int)) : List Value := ds.flatMap fun d => (digC d).toList
theorem digsC_len (ds : List (List Int)) (h : ∀ d ∈ ds, d.length = 16) : (digsC ds).length = ds.length * 16 := by
  induction ds with
  | nil => rfl
  | cons d ds ih =>
    unfold digsC at ih ⊢
    rw [List.flatMap_cons, List.length_append, ih (fun x hx => h x (by simp [hx])), Array.length_toList, digC_size, h d (by simp), List.length_cons]
    omega
theorem digsC_append (xs ys : List (List Int)) : digsC (xs ++ ys) = digsC xs ++ digsC ys := by unfold digsC; rw [List.flatMap_append]
theorem digsC_one (d : List Int) : digsC [d] = (digC d).toList := by unfold digsC; simp
theorem digsC_get (ds : List (List Int)) (h : ∀ d ∈ ds, d.length = 16) (i j : Nat) (hi : i < ds.length) (hj : j < 16) : (digsC ds)[16 * i + j]? = some (.int .u8 (ds[i].getD j 0)) := by
  induction ds generalizing i with
  | nil => simp at hi
  | cons d ds ih =>
    have hd : (digC d).toList.length = 16 := by rw [Array.length_toList, digC_size, h d (by simp)]
    have e : digsC (d :: ds) = (digC d).toList ++ digsC ds := by unfold digsC; rw [List.flatMap_cons]
    rw [e]
    cases i with
    | zero =>
      rw [List.getElem?_append_left (by rw [hd]; omega), Nat.mul_zero, Nat.zero_add, Array.getElem?_toList, digC_get d j (by rw [h d (by simp)]; exact hj)]
      rfl
    | succ i =>
      rw [List.getElem?_append_right (by rw [hd]; omega), hd, show 16 * (i + 1) + j - 16 = 16 * i + j by omega, ih (fun x hx => h x (by simp [hx])) i (by simpa using hi)]
      rfl
/-- Cells set one behind the other. -/
def setMany (xs : List Value) (o : Nat) : List Value → List Value
  | [] => xs
  | v :: r => setMany (xs.set o v) (o + 1) r
theorem setMany_get (vs : List Value) : ∀ (xs : List Value) (o j : Nat), (setMany xs o vs)[j]? = if o ≤ j ∧ j < o + vs.length ∧ j < xs.length then vs[j - o]? else xs[j]? := by
  induction vs with
  | nil => intro xs o j; rw [setMany, if_neg (by simp; omega)]
  | cons v r ih =>
    intro xs o j
    rw [setMany, ih, List.length_set, List.length_cons]
    by_cases h1 : o + 1 ≤ j ∧ j < o + 1 + r.length ∧ j < xs.length
    · rw [if_pos h1, if_pos (by omega), show j - o = (j - (o + 1)) + 1 by omega, List.getElem?_cons_succ]
    · rw [if_neg h1]
      by_cases h2 : o ≤ j ∧ j < o + (r.length + 1) ∧ j < xs.length
      · have : j = o := by omega
        subst this
        rw [if_pos h2, List.getElem?_set_self h2.2.2, Nat.sub_self]; rfl
      · rw [if_neg h2]
        by_cases h3 : o = j
        · subst h3
          rw [List.getElem?_eq_none (by simp; omega), List.getElem?_eq_none (by omega)]
        · rw [List.getElem?_set_ne h3]
theorem setMany_digs (ds : List (List Int)) (d : List Int) (h : ∀ d ∈ ds, d.length = 16) (hd : d.length = 16) (i : Nat) (hi : i < ds.length) : setMany (digsC ds) (16 * i) (digC d).toList = digsC (ds.set i d) := by
  have hl := digsC_len ds h
  have h' : ∀ x ∈ ds.set i d, x.length = 16 := by
    intro x hx
    rcases List.mem_or_eq_of_mem_set hx with hx | rfl
    · exact h x hx
    · exact hd
  have hl' := digsC_len _ h'
  rw [List.length_set] at hl'
  have hdl : (digC d).toList.length = 16 := by rw [Array.length_toList, digC_size, hd]
  apply List.ext_getElem?
  intro j
  rw [setMany_get, hdl, hl]
  by_cases hj : j < ds.length * 16
  · obtain ⟨q, r, hq, hr⟩ : ∃ q r, j = 16 * q + r ∧ r < 16 := ⟨j / 16, j % 16, by omega, by omega⟩
    subst hq
    have hqi : q < ds.length := by omega
    rw [digsC_get _ h' q r (by simpa using hqi) hr]
    by_cases hqe : q = i
    · subst hqe
      rw [if_pos (by omega), show 16 * q + r - 16 * q = r by omega, Array.getElem?_toList, digC_get d r (by omega), List.getElem_set_self]
    · rw [if_neg (by omega), digsC_get _ h q r hqi hr, List.getElem_set_ne (Ne.symm hqe)]
  · rw [if_neg (by omega), List.getElem?_eq_none (by omega), List.getElem?_eq_none (by omega)]
section
variable {w : World} {B g n cap : Nat} {e : TypeId} {size : Nat}
theorem row_setCells (vs : List Value) : ∀ (o : Nat) (w : World) (xs : List Value), w.ownsRow B e size (.slice (some ⟨g, 0, none⟩) n cap) n xs → (w.setCells g o vs).ownsRow B e size (.slice (some ⟨g, 0, none⟩) n cap) n (setMany xs o vs) := by
  induction vs with
  | nil => intro o w xs h; exact h
  | cons v r ih => intro o w xs h; exact ih (o + 1) _ _ (h.stored o v).1
theorem but_setCells (vs : List Value) : ∀ (o : Nat) (w : World), But g w (w.setCells g o vs) := by
  induction vs with
  | nil => intro o w; exact But.refl _ _
  | cons v r ih => intro o w; exact ((But.refl g w).setCell o v).trans (ih (o + 1) _)
end
/-- A slice that reads as digests. -/
structure RdG (w : World) (a : Option Addr) (len cap : Nat) (ds : List (List Int)) : Prop where
  hl : ds.length = len
  hc : len ≤ cap
  hm : cap ≤ maxLen
  hd : ∀ d ∈ ds, Dig d
  hr : 0 < len → ∃ b off, a = some ⟨b, off, none⟩ ∧ ∀ i (h : i < ds.length), w.rangeAt b (off + 16 * i) (digC ds[i]).toList
theorem rangeAt_below {w w' : World} {B b o : Nat} {cs : List Value} (h : w.rangeAt b o cs) (hb : Below B w w') (hB : b < B) : w'.rangeAt b o cs := fun j v hv => (hb.cell (p := ⟨b, o + j, none⟩) hB).trans (h j v hv)
theorem RdG.below {w w' : World} {B : Nat} {a : Option Addr} {len cap : Nat} {ds : List (List Int)} (h : RdG w a len cap ds) (hb : Below B w w') (hB : w.heap.size ≤ B) : RdG w' a len cap ds := by
  refine ⟨h.hl, h.hc, h.hm, h.hd, fun h0 => ?_⟩
  obtain ⟨b, off, ha, hc⟩ := h.hr h0
  refine ⟨b, off, ha, fun i hi => ?_⟩
  have hdi := (h.hd _ (List.getElem_mem hi)).1
  have h0' := hc i hi 0 (.int .u8 (ds[i].getD 0 0)) (by rw [Array.getElem?_toList, digC_get _ 0 (by omega)])
  have hlt := World.block_lt_of_cell? w _ h0'
  exact rangeAt_below (hc i hi) hb (Nat.lt_of_lt_of_le hlt hB)
theorem row_range {w : World} {B g n cap : Nat} {e : TypeId} {ds : List (List Int)} (h : w.ownsRow B e 16 (.slice (some ⟨g, 0, none⟩) n cap) n (digsC ds)) (hd : ∀ d ∈ ds, d.length = 16) (i : Nat) (hi : i < ds.length) : w.rangeAt g (16 * i) (digC ds[i]).toList := by
  have hn : ds.length = n := by have h1 := h.1; rw [digsC_len ds hd] at h1; omega
  intro j v hv
  have hdi := hd _ (List.getElem_mem hi)
  have hj : j < 16 := by have := (List.getElem?_eq_some_iff.1 hv).1; rw [Array.length_toList, digC_size, hdi] at this; exact this
  rw [row_cell h (16 * i + j) (by omega), digsC_get ds hd i j hi hj]
  rw [Array.getElem?_toList, digC_get _ j (by omega)] at hv
  exact hv
theorem row_there {w : World} {B g n cap : Nat} {e : TypeId} {ds : List (List Int)} (h : w.ownsRow B e 16 (.slice (some ⟨g, 0, none⟩) n cap) n (digsC ds)) (hd : ∀ d ∈ ds, d.length = 16) (i : Nat) (hi : i < ds.length) : w.there g (16 * i) 16 := by
  have hn : ds.length = n := by have h1 := h.1; rw [digsC_len ds hd] at h1; omega
  intro j hj
  refine ⟨?_, h.frozenAt _⟩
  rw [row_cell h (16 * i + j) (by omega), digsC_get ds hd i j hi hj]
  rfl
end Go.Proofs.Ytnlblmghhkmbbaa

/- Filling byte by byte, in any order (pure). -/
import Derived.Test.YtknacgdjodmaiaaDoorBpure
namespace Go.Proofs.YtknacgdjodmaiaaDoor
set_option linter.unusedVariables false

theorem fillB_twice (on : Bool) (m : Nat) (x : Int) (hm : m < 256) (hx : 0 ≤ x ∧ x ≤ 255) : fillB on m (fillB on m x) = fillB on m x := by
  have h1 := fillB_bd on m x hm hx
  have h2 := fillB_bd on m _ hm h1
  have : (fillB on m (fillB on m x)).toNat = (fillB on m x).toNat := by
    apply Nat.eq_of_testBit_eq
    intro t
    by_cases ht : t < 8
    · rw [fillB_bit on m _ hm h1 t ht, fillB_bit on m x hm hx t ht]
      split <;> rfl
    · rw [byte_high h2 (by omega), byte_high h1 (by omega)]
  omega
/-- The bytes of a list filled. -/
def fillL (bs : List Int) (a e : Nat) (on : Bool) (l : List Nat) : List Int := (List.range bs.length).map fun i => if i ∈ l then fillB on (mkV a e i) (bs.getD i 0) else bs.getD i 0
theorem fillL_len (bs : List Int) (a e : Nat) (on : Bool) (l : List Nat) : (fillL bs a e on l).length = bs.length := by simp [fillL]
theorem fillL_nil (bs : List Int) (a e : Nat) (on : Bool) : fillL bs a e on [] = bs := by
  apply List.ext_getElem (by simp [fillL])
  intro i h1 h2
  simp [fillL, List.getD, h2]
theorem fillL_get (bs : List Int) (a e : Nat) (on : Bool) (l : List Nat) (i : Nat) (hi : i < bs.length) : (fillL bs a e on l).getD i 0 = if i ∈ l then fillB on (mkV a e i) (bs.getD i 0) else bs.getD i 0 := by
  simp [fillL, List.getD, hi]
theorem fillL_bs {bs : List Int} (h : isBs bs) (a e : Nat) (on : Bool) (l : List Nat) : isBs (fillL bs a e on l) := by
  intro x hx
  unfold fillL at hx
  obtain ⟨i, hi, rfl⟩ := List.mem_map.mp hx
  have hb := h _ (getD_mem (List.mem_range.mp hi))
  split
  · exact fillB_bd _ _ _ (mkV_lt a e i) hb
  · exact hb
theorem fillL_next {bs : List Int} (h : isBs bs) (a e : Nat) (on : Bool) (l : List Nat) (k : Nat) (hk : k < bs.length) :
    fillL bs a e on (l ++ [k]) = (fillL bs a e on l).set k (fillB on (mkV a e k) ((fillL bs a e on l).getD k 0)) := by
  have hb := h _ (getD_mem hk)
  rw [fillL_get bs a e on l k hk]
  apply List.ext_getElem (by simp [fillL])
  intro i h1 h2
  rw [List.getElem_set]
  simp only [fillL, List.getElem_map, List.getElem_range, List.mem_append, List.mem_singleton]
  by_cases hik : k = i
  · subst hik
    rw [if_pos rfl, if_pos (Or.inr rfl)]
    split
    · exact (fillB_twice on _ _ (mkV_lt a e k) hb).symm
    · rfl
  · rw [if_neg hik]
    have : ¬ i = k := fun e => hik e.symm
    simp [this]
theorem fillL_done {bs : List Int} (h : isBs bs) (a e : Nat) (on : Bool) (n : Nat) (hn : a < e → (e + 7) / 8 ≤ a / 8 + n) : fillL bs a e on (List.range' (a / 8) n) = fillV bs a e on := by
  unfold fillL fillV
  apply List.map_congr_left
  intro i hi
  split
  · rfl
  · rename_i hni
    rw [List.mem_range'_1] at hni
    have : mkV a e i = 0 := mkV_none a e i (by omega)
    rw [this]
    exact (fillB_zero _ _ (h _ (getD_mem (List.mem_range.mp hi)))).symm
/-- What the two operations on a byte come to. -/
theorem or_fill (x : Int) (m : Nat) (hm : m < 256) (hx : 0 ≤ x ∧ x ≤ 255) : bits .or .u8 x (m : Int) = fillB true m x := by
  rw [u8_or x m hx.1 (by omega) (by omega) (by omega)]
  unfold fillB
  rw [if_pos rfl, Int.toNat_natCast]
theorem andNot_fill (x : Int) (m : Nat) (hm : m < 256) (hx : 0 ≤ x ∧ x ≤ 255) : bits .andNot .u8 x (m : Int) = fillB false m x := by
  have := u8_andNot_nat x.toNat m (by omega) hm
  rw [show ((x.toNat : Nat) : Int) = x by omega] at this
  rw [this]
  unfold fillB
  rw [if_neg (by simp)]
end Go.Proofs.YtknacgdjodmaiaaDoor

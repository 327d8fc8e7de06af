/- Bits of bytes: masks, ranges, counts, runs (pure). -/
import Derived.Laws.BitsAllLaws
import Derived.KernelRfl
namespace Go.Proofs.YtknacgdjodmaiaaDoor
set_option linter.unusedVariables false

/-- A bit of some bytes. -/
def bitV (bs : List Int) (j : Nat) : Bool := (bs.getD (j / 8) 0).toNat.testBit (j % 8)
/-- The bits of byte i that belong to the range from a to e. -/
def mkV (a e i : Nat) : Nat := (2 ^ (min e (8 * i + 8) - max a (8 * i)) - 1) * 2 ^ (max a (8 * i) - 8 * i)
theorem mkV_bit (a e i t : Nat) (ht : t < 8) : (mkV a e i).testBit t = decide (a ≤ 8 * i + t ∧ 8 * i + t < e) := by
  unfold mkV
  rw [Nat.testBit_mul_two_pow, Nat.testBit_two_pow_sub_one]
  rw [Bool.eq_iff_iff]
  simp only [Bool.and_eq_true, decide_eq_true_eq]
  omega
theorem mkV_lt (a e i : Nat) : mkV a e i < 256 := by
  unfold mkV
  by_cases h : min e (8 * i + 8) - max a (8 * i) = 0
  · rw [h]; simp
  · have h1 : (min e (8 * i + 8) - max a (8 * i)) + (max a (8 * i) - 8 * i) ≤ 8 := by omega
    have h2 : (2 ^ (min e (8 * i + 8) - max a (8 * i)) - 1) * 2 ^ (max a (8 * i) - 8 * i) < 2 ^ (min e (8 * i + 8) - max a (8 * i)) * 2 ^ (max a (8 * i) - 8 * i) :=
      Nat.mul_lt_mul_of_pos_right (by have := Nat.two_pow_pos (min e (8 * i + 8) - max a (8 * i)); omega) (Nat.two_pow_pos _)
    rw [← Nat.pow_add] at h2
    have h3 := Nat.pow_le_pow_right (show 0 < 2 by decide) h1
    omega
theorem mkV_none (a e i : Nat) (h : e ≤ 8 * i ∨ 8 * i + 8 ≤ a ∨ e ≤ a) : mkV a e i = 0 := by
  unfold mkV
  have : min e (8 * i + 8) - max a (8 * i) = 0 := by omega
  rw [this]; simp
/-- Bytes. -/
def isBs (bs : List Int) : Prop := ∀ x ∈ bs, 0 ≤ x ∧ x ≤ 255
theorem getD_mem {bs : List Int} {i : Nat} (h : i < bs.length) : bs.getD i 0 ∈ bs := by
  have : bs.getD i 0 = bs[i] := by simp [List.getD, h]
  rw [this]; exact List.getElem_mem _
theorem byte_high {x : Int} (h : 0 ≤ x ∧ x ≤ 255) {t : Nat} (ht : 8 ≤ t) : x.toNat.testBit t = false := by
  apply Nat.testBit_lt_two_pow
  have h3 := Nat.pow_le_pow_right (show 0 < 2 by decide) ht
  omega
theorem bits_ext {xs ys : List Int} (hx : isBs xs) (hy : isBs ys) (hl : xs.length = ys.length) (h : ∀ j, j < 8 * xs.length → bitV xs j = bitV ys j) : xs = ys := by
  apply List.ext_getElem hl
  intro i h1 h2
  have e1 : xs.getD i 0 = xs[i] := by simp [List.getD, h1]
  have e2 : ys.getD i 0 = ys[i] := by simp [List.getD, h2]
  have k1 := hx _ (List.getElem_mem h1)
  have k2 := hy _ (List.getElem_mem h2)
  have : xs[i].toNat = ys[i].toNat := by
    apply Nat.eq_of_testBit_eq
    intro t
    by_cases ht : t < 8
    · have := h (8 * i + t) (by omega)
      unfold bitV at this
      rw [show (8 * i + t) / 8 = i by omega, show (8 * i + t) % 8 = t by omega, e1, e2] at this
      exact this
    · rw [byte_high k1 (by omega), byte_high k2 (by omega)]
  omega
/-- What a range is filled with: byte by byte. -/
def fillB (on : Bool) (m : Nat) (x : Int) : Int := if on then ((x.toNat ||| m : Nat) : Int) else ((x.toNat &&& (255 - m) : Nat) : Int)
def fillV (bs : List Int) (a e : Nat) (on : Bool) : List Int := (List.range bs.length).map fun i => fillB on (mkV a e i) (bs.getD i 0)
/-- The bytes below k filled. -/
def fillN (bs : List Int) (a e : Nat) (on : Bool) (k : Nat) : List Int := (List.range bs.length).map fun i => if i < k then fillB on (mkV a e i) (bs.getD i 0) else bs.getD i 0
theorem fillB_bit (on : Bool) (m : Nat) (x : Int) (hm : m < 256) (hx : 0 ≤ x ∧ x ≤ 255) (t : Nat) (ht : t < 8) : (fillB on m x).toNat.testBit t = if m.testBit t then on else x.toNat.testBit t := by
  unfold fillB
  cases on with
  | true =>
    rw [if_pos rfl, Int.toNat_natCast, Nat.testBit_or]
    cases m.testBit t <;> simp
  | false =>
    rw [if_neg (by simp), Int.toNat_natCast, Nat.testBit_and]
    have : (255 - m).testBit t = !m.testBit t := by
      have := Nat.testBit_two_pow_sub_succ (n := 8) (x := m) (by omega) t
      rw [show 2 ^ 8 - (m + 1) = 255 - m by omega] at this
      rw [this]; simp [ht]
    rw [this]
    cases m.testBit t <;> simp
theorem fillB_bd (on : Bool) (m : Nat) (x : Int) (hm : m < 256) (hx : 0 ≤ x ∧ x ≤ 255) : 0 ≤ fillB on m x ∧ fillB on m x ≤ 255 := by
  unfold fillB
  cases on with
  | true =>
    rw [if_pos rfl]
    have := Nat.or_lt_two_pow (n := 8) (x := x.toNat) (y := m) (by omega) (by omega)
    omega
  | false =>
    rw [if_neg (by simp)]
    have := Nat.and_le_left (n := x.toNat) (m := 255 - m)
    omega
theorem fillV_len (bs : List Int) (a e : Nat) (on : Bool) : (fillV bs a e on).length = bs.length := by simp [fillV]
theorem fillN_len (bs : List Int) (a e : Nat) (on : Bool) (k : Nat) : (fillN bs a e on k).length = bs.length := by simp [fillN]
theorem fillV_bs {bs : List Int} (h : isBs bs) (a e : Nat) (on : Bool) : isBs (fillV bs a e on) := by
  intro x hx
  unfold fillV at hx
  obtain ⟨i, hi, rfl⟩ := List.mem_map.mp hx
  exact fillB_bd _ _ _ (mkV_lt a e i) (h _ (getD_mem (List.mem_range.mp hi)))
theorem fillV_bit {bs : List Int} (h : isBs bs) (a e : Nat) (on : Bool) (j : Nat) (hj : j < 8 * bs.length) : bitV (fillV bs a e on) j = if a ≤ j ∧ j < e then on else bitV bs j := by
  have hi : j / 8 < bs.length := by omega
  unfold bitV
  have : (fillV bs a e on).getD (j / 8) 0 = fillB on (mkV a e (j / 8)) (bs.getD (j / 8) 0) := by simp [fillV, List.getD, hi]
  rw [this, fillB_bit _ _ _ (mkV_lt a e _) (h _ (getD_mem hi)) _ (by omega), mkV_bit a e _ _ (by omega), show 8 * (j / 8) + j % 8 = j by omega]
  simp only [decide_eq_true_eq]
theorem fillB_zero (on : Bool) (x : Int) (hx : 0 ≤ x ∧ x ≤ 255) : fillB on 0 x = x := by
  have : (fillB on 0 x).toNat = x.toNat := by
    apply Nat.eq_of_testBit_eq
    intro t
    by_cases ht : t < 8
    · rw [fillB_bit on 0 x (by decide) hx t ht]; simp
    · rw [byte_high (fillB_bd on 0 x (by decide) hx) (by omega), byte_high hx (by omega)]
  have := fillB_bd on 0 x (by decide) hx
  omega
theorem fillN_start {bs : List Int} (h : isBs bs) (a e : Nat) (on : Bool) : fillN bs a e on (a / 8) = bs := by
  apply List.ext_getElem (by simp [fillN])
  intro i h1 h2
  simp only [fillN, List.getElem_map, List.getElem_range]
  have e1 : bs.getD i 0 = bs[i] := by simp [List.getD, h2]
  split
  · rw [mkV_none a e i (by omega), e1]; exact fillB_zero _ _ (h _ (List.getElem_mem h2))
  · exact e1
theorem fillN_done {bs : List Int} (h : isBs bs) (a e : Nat) (on : Bool) (k : Nat) (hk : e ≤ 8 * k ∨ e ≤ a) : fillN bs a e on k = fillV bs a e on := by
  unfold fillN fillV
  apply List.map_congr_left
  intro i hi
  split
  · rfl
  · rw [mkV_none a e i (by omega)]; exact (fillB_zero _ _ (h _ (getD_mem (List.mem_range.mp hi)))).symm
theorem fillN_next (bs : List Int) (a e : Nat) (on : Bool) (k : Nat) (hk : k < bs.length) : fillN bs a e on (k + 1) = (fillN bs a e on k).set k (fillB on (mkV a e k) (bs.getD k 0)) := by
  apply List.ext_getElem (by simp [fillN])
  intro i h1 h2
  rw [List.getElem_set]
  simp only [fillN, List.getElem_map, List.getElem_range]
  by_cases hik : k = i
  · subst hik; simp
  · rw [if_neg hik]
    by_cases h3 : i < k
    · rw [if_pos (by omega), if_pos h3]
    · rw [if_neg (by omega), if_neg h3]
theorem fillN_at (bs : List Int) (a e : Nat) (on : Bool) (k : Nat) (hk : k < bs.length) : (fillN bs a e on k).getD k 0 = bs.getD k 0 := by
  simp [fillN, List.getD, hk]

/-- How many bits of a range are set. -/
def cntV (bs : List Int) (a e : Nat) : Nat := ((List.range e).filter fun j => decide (a ≤ j) && bitV bs j).length
/-- How many bits of a byte are set, by its halves. -/
def onesL : List Nat := [0, 1, 1, 2, 1, 2, 2, 3, 1, 2, 2, 3, 2, 3, 3, 4]
def popV (x : Nat) : Nat := onesL.getD (x % 16) 0 + onesL.getD (x / 16) 0
theorem popV_bits : ∀ x : Nat, x < 256 → popV x = ((List.range 8).filter x.testBit).length := by
  intro x hx
  have h : (List.range 256).all (fun x => decide (popV x = ((List.range 8).filter x.testBit).length)) = true := by kernel_rfl
  have := List.all_eq_true.mp h x (List.mem_range.mpr hx)
  simpa using this
theorem cntV_split (bs : List Int) (a m e : Nat) (h1 : a ≤ m) (h2 : m ≤ e) : cntV bs a e = cntV bs a m + cntV bs m e := by
  unfold cntV
  obtain ⟨d, rfl⟩ : ∃ d, e = m + d := ⟨e - m, by omega⟩
  rw [List.range_add, List.filter_append, List.length_append, List.filter_append, List.length_append]
  have k1 : ((List.range m).filter fun j => decide (m ≤ j) && bitV bs j) = [] := by
    rw [List.filter_eq_nil_iff]
    intro j hj
    have := List.mem_range.mp hj
    simp [show ¬ m ≤ j by omega]
  have k2 : ((List.map (fun x => m + x) (List.range d)).filter fun j => decide (a ≤ j) && bitV bs j) = ((List.map (fun x => m + x) (List.range d)).filter fun j => decide (m ≤ j) && bitV bs j) := by
    apply List.filter_congr
    intro j hj
    obtain ⟨t, -, rfl⟩ := List.mem_map.mp hj
    simp [show a ≤ m + t by omega, show m ≤ m + t by omega]
  rw [k1, k2]
  simp
theorem cntV_none (bs : List Int) (a e : Nat) (h : e ≤ a) : cntV bs a e = 0 := by
  unfold cntV
  have : ((List.range e).filter fun j => decide (a ≤ j) && bitV bs j) = [] := by
    rw [List.filter_eq_nil_iff]
    intro j hj
    have := List.mem_range.mp hj
    simp [show ¬ a ≤ j by omega]
  rw [this]; rfl
/-- The bits of one byte that belong to a range. -/
theorem cntV_byte {bs : List Int} (h : isBs bs) (a e i : Nat) (hi : i < bs.length) (h1 : 8 * i ≤ a) (h2 : e ≤ 8 * i + 8) :
    popV ((bs.getD i 0).toNat &&& mkV a e i) = cntV bs a e := by
  have hlt : (bs.getD i 0).toNat &&& mkV a e i < 256 := by
    have := Nat.and_le_right (n := (bs.getD i 0).toNat) (m := mkV a e i)
    have := mkV_lt a e i
    omega
  rw [popV_bits _ hlt]
  by_cases hea : e ≤ a
  · rw [cntV_none _ _ _ hea, mkV_none a e i (by omega)]; simp
  · have k : cntV bs a e = cntV bs (8 * i) (8 * i + 8) - cntV bs (8 * i) a - cntV bs e (8 * i + 8) := by
      have e1 := cntV_split bs (8 * i) a (8 * i + 8) h1 (by omega)
      have e2 := cntV_split bs a e (8 * i + 8) (by omega) h2
      omega
    unfold cntV
    obtain ⟨d, rfl⟩ : ∃ d, e = 8 * i + d := ⟨e - 8 * i, by omega⟩
    rw [List.range_add, List.filter_append, List.length_append]
    have k1 : ((List.range (8 * i)).filter fun j => decide (a ≤ j) && bitV bs j) = [] := by
      rw [List.filter_eq_nil_iff]
      intro j hj
      have := List.mem_range.mp hj
      simp [show ¬ a ≤ j by omega]
    rw [k1, List.length_nil, Nat.zero_add, List.filter_map, List.length_map]
    have k2 : List.range 8 = List.range d ++ (List.range (8 - d)).map (fun x => d + x) := by
      rw [← List.range_add, show d + (8 - d) = 8 by omega]
    rw [k2, List.filter_append]
    have k3 : (((List.range (8 - d)).map fun x => d + x).filter ((bs.getD i 0).toNat &&& mkV a (8 * i + d) i).testBit) = [] := by
      rw [List.filter_eq_nil_iff]
      intro t ht
      obtain ⟨u, hu, rfl⟩ := List.mem_map.mp ht
      have := List.mem_range.mp hu
      rw [Nat.testBit_and, mkV_bit a _ i _ (by omega)]
      simp [show ¬ (8 * i + (d + u) < 8 * i + d) by omega]
    rw [k3, List.append_nil]
    congr 1
    apply List.filter_congr
    intro t ht
    have ht' := List.mem_range.mp ht
    rw [Nat.testBit_and, mkV_bit a _ i _ (by omega)]
    simp only [Function.comp]
    unfold bitV
    rw [show (8 * i + t) / 8 = i by omega, show (8 * i + t) % 8 = t by omega, Bool.and_comm]
    congr 1
    rw [Bool.eq_iff_iff]
    simp only [decide_eq_true_eq]
    omega
end Go.Proofs.YtknacgdjodmaiaaDoor

import Derived.Laws.BitsAllLaws
import Derived.KernelRfl
import Derived.Lib.BitFns
import Derived.Test.YthognmkjoekilaaDoorRows
import Derived.WalkKit
import Derived.WalkSpells
import Derived.WalkLawsBesides
import Derived.Lib.Hide
import Derived.Below
import Derived.Test.YthognmkjoekilaaDoorShelf
import Derived.Laws.AppendOwnNone
import Derived.Laws.BytesArg
import Derived.Maps.AppendAt
import Derived.OwnWalk
import Derived.Defers
import Derived.Recover
import Derived.Laws.Pointers
import Derived.RangeFuncBox
import Derived.RegionTactic
import Derived.StillTailTactics
import Derived.Deep.DeepCutAuto
import Derived.Deep.WholeRow
import Derived.RangeFuncNested
import Derived.RangeFuncBound
import Derived.RangeFuncCalls
import Derived.RangeFuncLeaves
import Derived.Shelf.Abstract
import Derived.Shelf.RegionOpen
import Derived.OwnWalkIn
import Derived.TacticsInMore
import Derived.LoopNIn
import Derived.LoopIn
import Derived.Stop.RegionWithIn
import Derived.Deep.RegionWith
import Derived.IntWalk
import Derived.Deep.RegionHeld3
import Derived.Sort.QuietIn
import Derived.BigQuiet
import Derived.Laws.OwnMore
import Derived.OrdersIn
/- Bits of bytes: masks, ranges, counts, runs (pure). -/
namespace Go.Proofs.YthognmkjoekilaaDoor
set_option linter.unusedVariables false

/-- A bit of some bytes. -/
def bitV (bs : List Int) (j : Nat) : Bool := (bs.getD (j / 8) 0).toNat.testBit (j % 8)
/-- The bits of byte i that belong to the range from a to e. -/
def mkV (a e i : Nat) : Nat := (2 ^ (min e (8 * i + 8) - max a (8 * i)) - 1) * 2 ^ (max a (8 * i) - 8 * i)
theorem mkV_bit (a e i t : Nat) (ht : t < 8) : (mkV a e i).testBit t = decide (a ≤ 8 * i + t ∧ 8 * i + t < e) := by
  unfold mkV
  rw [Nat.testBit_mul_two_pow, Nat.testBit_two_pow_sub_one]
  rw [Bool.eq_iff_iff]
  simp only [Bool.and_eq_true, decide_eq_true_eq]
  omega
theorem mkV_lt (a e i : Nat) : mkV a e i < 256 := by
  unfold mkV
  by_cases h : min e (8 * i + 8) - max a (8 * i) = 0
  · rw [h]; simp
  · have h1 : (min e (8 * i + 8) - max a (8 * i)) + (max a (8 * i) - 8 * i) ≤ 8 := by omega
    have h2 : (2 ^ (min e (8 * i + 8) - max a (8 * i)) - 1) * 2 ^ (max a (8 * i) - 8 * i) < 2 ^ (min e (8 * i + 8) - max a (8 * i)) * 2 ^ (max a (8 * i) - 8 * i) :=
      Nat.mul_lt_mul_of_pos_right (by have := Nat.two_pow_pos (min e (8 * i + 8) - max a (8 * i)); omega) (Nat.two_pow_pos _)
    rw [← Nat.pow_add] at h2
    have h3 := Nat.pow_le_pow_right (show 0 < 2 by decide) h1
    omega
theorem mkV_none (a e i : Nat) (h : e ≤ 8 * i ∨ 8 * i + 8 ≤ a ∨ e ≤ a) : mkV a e i = 0 := by
  unfold mkV
  have : min e (8 * i + 8) - max a (8 * i) = 0 := by omega
  rw [this]; simp
/-- Bytes. -/
def isBs (bs : List Int) : Prop := ∀ x ∈ bs, 0 ≤ x ∧ x ≤ 255
theorem getD_mem {bs : List Int} {i : Nat} (h : i < bs.length) : bs.getD i 0 ∈ bs := by
  have : bs.getD i 0 = bs[i] := by simp [List.getD, h]
  rw [this]; exact List.getElem_mem _
theorem byte_high {x : Int} (h : 0 ≤ x ∧ x ≤ 255) {t : Nat} (ht : 8 ≤ t) : x.toNat.testBit t = false := by
  apply Nat.testBit_lt_two_pow
  have h3 := Nat.pow_le_pow_right (show 0 < 2 by decide) ht
  omega
theorem bits_ext {xs ys : List Int} (hx : isBs xs) (hy : isBs ys) (hl : xs.length = ys.length) (h : ∀ j, j < 8 * xs.length → bitV xs j = bitV ys j) : xs = ys := by
  apply List.ext_getElem hl
  intro i h1 h2
  have e1 : xs.getD i 0 = xs[i] := by simp [List.getD, h1]
  have e2 : ys.getD i 0 = ys[i] := by simp [List.getD, h2]
  have k1 := hx _ (List.getElem_mem h1)
  have k2 := hy _ (List.getElem_mem h2)
  have : xs[i].toNat = ys[i].toNat := by
    apply Nat.eq_of_testBit_eq
    intro t
    by_cases ht : t < 8
    · have := h (8 * i + t) (by omega)
      unfold bitV at this
      rw [show (8 * i + t) / 8 = i by omega, show (8 * i + t) % 8 = t by omega, e1, e2] at this
      exact this
    · rw [byte_high k1 (by omega), byte_high k2 (by omega)]
  omega
/-- What a range is filled with: byte by byte. -/
def fillB (on : Bool) (m : Nat) (x : Int) : Int := if on then ((x.toNat ||| m : Nat) : Int) else ((x.toNat &&& (255 - m) : Nat) : Int)
def fillV (bs : List Int) (a e : Nat) (on : Bool) : List Int := (List.range bs.length).map fun i => fillB on (mkV a e i) (bs.getD i 0)
/-- The bytes below k filled. -/
def fillN (bs : List Int) (a e : Nat) (on : Bool) (k : Nat) : List Int := (List.range bs.length).map fun i => if i < k then fillB on (mkV a e i) (bs.getD i 0) else bs.getD i 0
theorem fillB_bit (on : Bool) (m : Nat) (x : Int) (hm : m < 256) (hx : 0 ≤ x ∧ x ≤ 255) (t : Nat) (ht : t < 8) : (fillB on m x).toNat.testBit t = if m.testBit t then on else x.toNat.testBit t := by
  unfold fillB
  cases on with
  | true =>
    rw [if_pos rfl, Int.toNat_natCast, Nat.testBit_or]
    cases m.testBit t <;> simp
  | false =>
    rw [if_neg (by simp), Int.toNat_natCast, Nat.testBit_and]
    have : (255 - m).testBit t = !m.testBit t := by
      have := Nat.testBit_two_pow_sub_succ (n := 8) (x := m) (by omega) t
      rw [show 2 ^ 8 - (m + 1) = 255 - m by omega] at this
      rw [this]; simp [ht]
    rw [this]
    cases m.testBit t <;> simp
theorem fillB_bd (on : Bool) (m : Nat) (x : Int) (hm : m < 256) (hx : 0 ≤ x ∧ x ≤ 255) : 0 ≤ fillB on m x ∧ fillB on m x ≤ 255 := by
  unfold fillB
  cases on with
  | true =>
    rw [if_pos rfl]
    have := Nat.or_lt_two_pow (n := 8) (x := x.toNat) (y := m) (by omega) (by omega)
    omega
  | false =>
    rw [if_neg (by simp)]
    have := Nat.and_le_left (n := x.toNat) (m := 255 - m)
    omega
theorem fillV_len (bs : List Int) (a e : Nat) (on : Bool) : (fillV bs a e on).length = bs.length := by simp [fillV]
theorem fillN_len (bs : List Int) (a e : Nat) (on : Bool) (k : Nat) : (fillN bs a e on k).length = bs.length := by simp [fillN]
theorem fillV_bs {bs : List Int} (h : isBs bs) (a e : Nat) (on : Bool) : isBs (fillV bs a e on) := by
  intro x hx
  unfold fillV at hx
  obtain ⟨i, hi, rfl⟩ := List.mem_map.mp hx
  exact fillB_bd _ _ _ (mkV_lt a e i) (h _ (getD_mem (List.mem_range.mp hi)))
theorem fillV_bit {bs : List Int} (h : isBs bs) (a e : Nat) (on : Bool) (j : Nat) (hj : j < 8 * bs.length) : bitV (fillV bs a e on) j = if a ≤ j ∧ j < e then on else bitV bs j := by
  have hi : j / 8 < bs.length := by omega
  unfold bitV
  have : (fillV bs a e on).getD (j / 8) 0 = fillB on (mkV a e (j / 8)) (bs.getD (j / 8) 0) := by simp [fillV, List.getD, hi]
  rw [this, fillB_bit _ _ _ (mkV_lt a e _) (h _ (getD_mem hi)) _ (by omega), mkV_bit a e _ _ (by omega), show 8 * (j / 8) + j % 8 = j by omega]
  simp only [decide_eq_true_eq]
theorem fillB_zero (on : Bool) (x : Int) (hx : 0 ≤ x ∧ x ≤ 255) : fillB on 0 x = x := by
  have : (fillB on 0 x).toNat = x.toNat := by
    apply Nat.eq_of_testBit_eq
    intro t
    by_cases ht : t < 8
    · rw [fillB_bit on 0 x (by decide) hx t ht]; simp
    · rw [byte_high (fillB_bd on 0 x (by decide) hx) (by omega), byte_high hx (by omega)]
  have := fillB_bd on 0 x (by decide) hx
  omega
theorem fillN_start {bs : List Int} (h : isBs bs) (a e : Nat) (on : Bool) : fillN bs a e on (a / 8) = bs := by
  apply List.ext_getElem (by simp [fillN])
  intro i h1 h2
  simp only [fillN, List.getElem_map, List.getElem_range]
  have e1 : bs.getD i 0 = bs[i] := by simp [List.getD, h2]
  split
  · rw [mkV_none a e i (by omega), e1]; exact fillB_zero _ _ (h _ (List.getElem_mem h2))
  · exact e1
theorem fillN_done {bs : List Int} (h : isBs bs) (a e : Nat) (on : Bool) (k : Nat) (hk : e ≤ 8 * k ∨ e ≤ a) : fillN bs a e on k = fillV bs a e on := by
  unfold fillN fillV
  apply List.map_congr_left
  intro i hi
  split
  · rfl
  · rw [mkV_none a e i (by omega)]; exact (fillB_zero _ _ (h _ (getD_mem (List.mem_range.mp hi)))).symm
theorem fillN_next (bs : List Int) (a e : Nat) (on : Bool) (k : Nat) (hk : k < bs.length) : fillN bs a e on (k + 1) = (fillN bs a e on k).set k (fillB on (mkV a e k) (bs.getD k 0)) := by
  apply List.ext_getElem (by simp [fillN])
  intro i h1 h2
  rw [List.getElem_set]
  simp only [fillN, List.getElem_map, List.getElem_range]
  by_cases hik : k = i
  · subst hik; simp
  · rw [if_neg hik]
    by_cases h3 : i < k
    · rw [if_pos (by omega), if_pos h3]
    · rw [if_neg (by omega), if_neg h3]
theorem fillN_at (bs : List Int) (a e : Nat) (on : Bool) (k : Nat) (hk : k < bs.length) : (fillN bs a e on k).getD k 0 = bs.getD k 0 := by
  simp [fillN, List.getD, hk]

/-- How many bits of a range are set. -/
def cntV (bs : List Int) (a e : Nat) : Nat := ((List.range e).filter fun j => decide (a ≤ j) && bitV bs j).length
/-- How many bits of a byte are set, by its halves. -/
def onesL : List Nat := [0, 1, 1, 2, 1, 2, 2, 3, 1, 2, 2, 3, 2, 3, 3, 4]
def popV (x : Nat) : Nat := onesL.getD (x % 16) 0 + onesL.getD (x / 16) 0
theorem popV_bits : ∀ x : Nat, x < 256 → popV x = ((List.range 8).filter x.testBit).length := by
  intro x hx
  have h : (List.range 256).all (fun x => decide (popV x = ((List.range 8).filter x.testBit).length)) = true := by kernel_rfl
  have := List.all_eq_true.mp h x (List.mem_range.mpr hx)
  simpa using this
theorem cntV_split (bs : List Int) (a m e : Nat) (h1 : a ≤ m) (h2 : m ≤ e) : cntV bs a e = cntV bs a m + cntV bs m e := by
  unfold cntV
  obtain ⟨d, rfl⟩ : ∃ d, e = m + d := ⟨e - m, by omega⟩
  rw [List.range_add, List.filter_append, List.length_append, List.filter_append, List.length_append]
  have k1 : ((List.range m).filter fun j => decide (m ≤ j) && bitV bs j) = [] := by
    rw [List.filter_eq_nil_iff]
    intro j hj
    have := List.mem_range.mp hj
    simp [show ¬ m ≤ j by omega]
  have k2 : ((List.map (fun x => m + x) (List.range d)).filter fun j => decide (a ≤ j) && bitV bs j) = ((List.map (fun x => m + x) (List.range d)).filter fun j => decide (m ≤ j) && bitV bs j) := by
    apply List.filter_congr
    intro j hj
    obtain ⟨t, -, rfl⟩ := List.mem_map.mp hj
    simp [show a ≤ m + t by omega, show m ≤ m + t by omega]
  rw [k1, k2]
  simp
theorem cntV_none (bs : List Int) (a e : Nat) (h : e ≤ a) : cntV bs a e = 0 := by
  unfold cntV
  have : ((List.range e).filter fun j => decide (a ≤ j) && bitV bs j) = [] := by
    rw [List.filter_eq_nil_iff]
    intro j hj
    have := List.mem_range.mp hj
    simp [show ¬ a ≤ j by omega]
  rw [this]; rfl
/-- The bits of one byte that belong to a range. -/
theorem cntV_byte {bs : List Int} (h : isBs bs) (a e i : Nat) (hi : i < bs.length) (h1 : 8 * i ≤ a) (h2 : e ≤ 8 * i + 8) :
    popV ((bs.getD i 0).toNat &&& mkV a e i) = cntV bs a e := by
  have hlt : (bs.getD i 0).toNat &&& mkV a e i < 256 := by
    have := Nat.and_le_right (n := (bs.getD i 0).toNat) (m := mkV a e i)
    have := mkV_lt a e i
    omega
  rw [popV_bits _ hlt]
  by_cases hea : e ≤ a
  · rw [cntV_none _ _ _ hea, mkV_none a e i (by omega)]; simp
  · have k : cntV bs a e = cntV bs (8 * i) (8 * i + 8) - cntV bs (8 * i) a - cntV bs e (8 * i + 8) := by
      have e1 := cntV_split bs (8 * i) a (8 * i + 8) h1 (by omega)
      have e2 := cntV_split bs a e (8 * i + 8) (by omega) h2
      omega
    unfold cntV
    obtain ⟨d, rfl⟩ : ∃ d, e = 8 * i + d := ⟨e - 8 * i, by omega⟩
    rw [List.range_add, List.filter_append, List.length_append]
    have k1 : ((List.range (8 * i)).filter fun j => decide (a ≤ j) && bitV bs j) = [] := by
      rw [List.filter_eq_nil_iff]
      intro j hj
      have := List.mem_range.mp hj
      simp [show ¬ a ≤ j by omega]
    rw [k1, List.length_nil, Nat.zero_add, List.filter_map, List.length_map]
    have k2 : List.range 8 = List.range d ++ (List.range (8 - d)).map (fun x => d + x) := by
      rw [← List.range_add, show d + (8 - d) = 8 by omega]
    rw [k2, List.filter_append]
    have k3 : (((List.range (8 - d)).map fun x => d + x).filter ((bs.getD i 0).toNat &&& mkV a (8 * i + d) i).testBit) = [] := by
      rw [List.filter_eq_nil_iff]
      intro t ht
      obtain ⟨u, hu, rfl⟩ := List.mem_map.mp ht
      have := List.mem_range.mp hu
      rw [Nat.testBit_and, mkV_bit a _ i _ (by omega)]
      simp [show ¬ (8 * i + (d + u) < 8 * i + d) by omega]
    rw [k3, List.append_nil]
    congr 1
    apply List.filter_congr
    intro t ht
    have ht' := List.mem_range.mp ht
    rw [Nat.testBit_and, mkV_bit a _ i _ (by omega)]
    simp only [Function.comp]
    unfold bitV
    rw [show (8 * i + t) / 8 = i by omega, show (8 * i + t) % 8 = t by omega, Bool.and_comm]
    congr 1
    rw [Bool.eq_iff_iff]
    simp only [decide_eq_true_eq]
    omega
end Go.Proofs.YthognmkjoekilaaDoor

/- Runs of bits: the next bit of a kind, and all runs (pure). -/
namespace Go.Proofs.YthognmkjoekilaaDoor
set_option linter.unusedVariables false

/-- The first bit of a kind among n bits from j on, or the place behind them. -/
def seekF (bs : List Int) (on : Bool) : Nat → Nat → Nat
  | 0, j => j
  | n + 1, j => if bitV bs j = on then j else seekF bs on n (j + 1)
def seekV (bs : List Int) (N : Nat) (on : Bool) (a : Nat) : Nat := seekF bs on (N - a) a
theorem seekF_spec (bs : List Int) (on : Bool) : ∀ n j, j ≤ seekF bs on n j ∧ seekF bs on n j ≤ j + n ∧ (∀ t, j ≤ t → t < seekF bs on n j → bitV bs t ≠ on) ∧ (seekF bs on n j < j + n → bitV bs (seekF bs on n j) = on) := by
  intro n
  induction n with
  | zero => intro j; exact ⟨Nat.le_refl _, Nat.le_refl _, fun t h1 h2 => absurd h2 (by simp only [seekF]; omega), fun h => absurd h (by simp only [seekF]; omega)⟩
  | succ n ih =>
    intro j
    unfold seekF
    by_cases h : bitV bs j = on
    · rw [if_pos h]
      exact ⟨Nat.le_refl _, by omega, fun t h1 h2 => absurd h2 (by omega), fun _ => h⟩
    · rw [if_neg h]
      obtain ⟨k1, k2, k3, k4⟩ := ih (j + 1)
      refine ⟨by omega, by omega, fun t h1 h2 => ?_, fun h5 => k4 (by omega)⟩
      by_cases e : t = j
      · rw [e]; exact h
      · exact k3 t (by omega) h2
theorem seekV_spec (bs : List Int) (N : Nat) (on : Bool) (a : Nat) (ha : a ≤ N) : a ≤ seekV bs N on a ∧ seekV bs N on a ≤ N ∧ (∀ t, a ≤ t → t < seekV bs N on a → bitV bs t ≠ on) ∧ (seekV bs N on a < N → bitV bs (seekV bs N on a) = on) := by
  obtain ⟨k1, k2, k3, k4⟩ := seekF_spec bs on (N - a) a
  unfold seekV
  exact ⟨k1, by omega, k3, fun h => k4 (by omega)⟩
theorem seekV_eq (bs : List Int) (N : Nat) (on : Bool) (a s : Nat) (h1 : a ≤ s) (h2 : s ≤ N) (h3 : ∀ t, a ≤ t → t < s → bitV bs t ≠ on) (h4 : s < N → bitV bs s = on) : seekV bs N on a = s := by
  obtain ⟨k1, k2, k3, k4⟩ := seekV_spec bs N on a (by omega)
  rcases Nat.lt_trichotomy (seekV bs N on a) s with h | h | h
  · exact absurd (k4 (by omega)) (h3 _ k1 h)
  · exact h
  · exact absurd (h4 (by omega)) (k3 _ h1 h)
theorem seekV_end (bs : List Int) (N : Nat) (on : Bool) (a : Nat) (h : N ≤ a) : seekV bs N on a = a := by
  unfold seekV
  rw [show N - a = 0 by omega]
  rfl
theorem seekV_skip (bs : List Int) (N : Nat) (on : Bool) (a m : Nat) (h1 : a ≤ m) (h2 : m ≤ N) (h3 : ∀ t, a ≤ t → t < m → bitV bs t ≠ on) : seekV bs N on a = seekV bs N on m := by
  obtain ⟨k1, k2, k3, k4⟩ := seekV_spec bs N on m h2
  exact seekV_eq bs N on a _ (by omega) k2 (fun t ht1 ht2 => if h : t < m then h3 t ht1 h else k3 t (by omega) ht2) k4

/-- All runs from a place on at which one begins. -/
def runsF (bs : List Int) (N : Nat) (on : Bool) : Nat → Nat → List (Nat × Nat)
  | 0, _ => []
  | n + 1, a => if a < N then (a, seekV bs N (!on) a - a) :: runsF bs N on n (seekV bs N on (seekV bs N (!on) a)) else []
def runsV (bs : List Int) (N : Nat) (on : Bool) : List (Nat × Nat) := runsF bs N on (N + 1) (seekV bs N on 0)
/-- From one run to the next. -/
theorem run_step (bs : List Int) (N : Nat) (on : Bool) (a : Nat) (ha : a < N) (hb : bitV bs a = on) : a < seekV bs N (!on) a ∧ seekV bs N (!on) a ≤ N ∧ seekV bs N (!on) a ≤ seekV bs N on (seekV bs N (!on) a) ∧ seekV bs N on (seekV bs N (!on) a) ≤ N := by
  obtain ⟨k1, k2, k3, k4⟩ := seekV_spec bs N (!on) a (by omega)
  obtain ⟨j1, j2, j3, j4⟩ := seekV_spec bs N on (seekV bs N (!on) a) k2
  refine ⟨?_, k2, j1, j2⟩
  rcases Nat.lt_or_ge a (seekV bs N (!on) a) with h | h
  · exact h
  · have e : seekV bs N (!on) a = a := by omega
    have := k4 (by omega)
    rw [e, hb] at this
    cases on <;> cases this
theorem runsF_fuel (bs : List Int) (N : Nat) (on : Bool) : ∀ n m a, (a < N → bitV bs a = on) → N - a < n → N - a < m → runsF bs N on n a = runsF bs N on m a := by
  intro n
  induction n with
  | zero => intro m a _ h; omega
  | succ n ih =>
    intro m a hb h1 h2
    cases m with
    | zero => omega
    | succ m =>
      unfold runsF
      by_cases h : a < N
      · rw [if_pos h, if_pos h]
        obtain ⟨s1, s2, s3, s4⟩ := run_step bs N on a h (hb h)
        have j4 := (seekV_spec bs N on (seekV bs N (!on) a) s2).2.2.2
        rw [ih m _ j4 (by omega) (by omega)]
      · rw [if_neg h, if_neg h]
/-- The runs that are left from a place on. -/
def restV (bs : List Int) (N : Nat) (on : Bool) (a : Nat) : List (Nat × Nat) := runsF bs N on (N + 1) a
theorem restV_end (bs : List Int) (N : Nat) (on : Bool) (a : Nat) (h : N ≤ a) : restV bs N on a = [] := by
  unfold restV runsF
  rw [if_neg (by omega)]
theorem restV_next (bs : List Int) (N : Nat) (on : Bool) (a : Nat) (h : a < N) (hb : bitV bs a = on) : restV bs N on a = (a, seekV bs N (!on) a - a) :: restV bs N on (seekV bs N on (seekV bs N (!on) a)) := by
  obtain ⟨s1, s2, s3, s4⟩ := run_step bs N on a h hb
  have j4 := (seekV_spec bs N on (seekV bs N (!on) a) s2).2.2.2
  unfold restV
  rw [runsF, if_pos h, runsF_fuel bs N on N (N + 1) _ j4 (by omega) (by omega)]

/-- The number of zeros at the end of a byte. -/
theorem tz_facts : ∀ x : Nat, x < 256 → Lib.trailingZeros8 x ≤ 8 ∧ (x ≠ 0 → Lib.trailingZeros8 x < 8 ∧ x.testBit (Lib.trailingZeros8 x) = true) ∧ ∀ t, t < Lib.trailingZeros8 x → x.testBit t = false := by
  intro x hx
  have h : (List.range 256).all (fun x => decide (Lib.trailingZeros8 x ≤ 8) && (decide (x = 0) || (decide (Lib.trailingZeros8 x < 8) && x.testBit (Lib.trailingZeros8 x))) && (List.range (Lib.trailingZeros8 x)).all fun t => !x.testBit t) = true := by kernel_rfl
  have := List.all_eq_true.mp h x (List.mem_range.mpr hx)
  simp only [Bool.and_eq_true, decide_eq_true_eq, Bool.or_eq_true, List.all_eq_true, List.mem_range, Bool.not_eq_true'] at this
  exact ⟨this.1.1, fun h0 => by rcases this.1.2 with h | h; exact absurd h h0; exact h, this.2⟩
/-- What seek looks at: the bits of a kind of one byte, from one on. -/
def lookB (on : Bool) (x : Int) (r : Nat) : Nat := (if on then x.toNat else 255 - x.toNat) / 2 ^ r * 2 ^ r
theorem lookB_bit (on : Bool) (x : Int) (hx : 0 ≤ x ∧ x ≤ 255) (r t : Nat) (ht : t < 8) : (lookB on x r).testBit t = (decide (r ≤ t) && (x.toNat.testBit t == on)) := by
  unfold lookB
  rw [Nat.testBit_mul_two_pow, Nat.testBit_div_two_pow]
  by_cases h : r ≤ t
  · rw [show t - r + r = t by omega]
    cases on with
    | true => simp [h]
    | false =>
      rw [if_neg (by simp)]
      have := Nat.testBit_two_pow_sub_succ (n := 8) (x := x.toNat) (by omega) t
      rw [show 2 ^ 8 - (x.toNat + 1) = 255 - x.toNat by omega] at this
      rw [this]; simp [h, ht]
  · simp [h]
theorem lookB_lt (on : Bool) (x : Int) (hx : 0 ≤ x ∧ x ≤ 255) (r : Nat) : lookB on x r < 256 := by
  unfold lookB
  have := Nat.div_mul_le_self (if on then x.toNat else 255 - x.toNat) (2 ^ r)
  have : (if on then x.toNat else 255 - x.toNat) ≤ 255 := by split <;> omega
  omega
/-- Nothing in this byte. -/
theorem seek_zero {bs : List Int} (h : isBs bs) (N : Nat) (on : Bool) (a : Nat) (ha : a < N) (hl : N ≤ 8 * bs.length) (h0 : lookB on (bs.getD (a / 8) 0) (a % 8) = 0) :
    ∀ t, a ≤ t → t < 8 * (a / 8) + 8 → bitV bs t ≠ on := by
  intro t h1 h2
  have hb := h _ (getD_mem (show a / 8 < bs.length by omega))
  have := lookB_bit on _ hb (a % 8) (t % 8) (by omega)
  rw [h0, Nat.zero_testBit] at this
  intro e
  unfold bitV at e
  rw [show t / 8 = a / 8 by omega] at e
  rw [e] at this
  simp at this
  omega
/-- Something in this byte: the first one. -/
theorem seek_hit {bs : List Int} (h : isBs bs) (N : Nat) (on : Bool) (a : Nat) (ha : a < N) (hl : N ≤ 8 * bs.length) (hs : ∀ j, N ≤ j → j < 8 * bs.length → bitV bs j = false)
    (hlast : 8 * bs.length < N + 8) (h0 : lookB on (bs.getD (a / 8) 0) (a % 8) ≠ 0) :
    seekV bs N on a = 8 * (a / 8) + Lib.trailingZeros8 (lookB on (bs.getD (a / 8) 0) (a % 8)) := by
  have hi : a / 8 < bs.length := by omega
  have hb := h _ (getD_mem hi)
  obtain ⟨t1, t2, t3⟩ := tz_facts _ (lookB_lt on _ hb (a % 8))
  obtain ⟨t4, t5⟩ := t2 h0
  obtain ⟨z, hz⟩ : ∃ z, z = Lib.trailingZeros8 (lookB on (bs.getD (a / 8) 0) (a % 8)) := ⟨_, rfl⟩
  rw [← hz] at t1 t3 t4 t5 ⊢
  rw [lookB_bit on _ hb _ _ t4] at t5
  simp only [Bool.and_eq_true, decide_eq_true_eq, beq_iff_eq] at t5
  have hit : bitV bs (8 * (a / 8) + z) = on := by
    unfold bitV
    rw [show (8 * (a / 8) + z) / 8 = a / 8 by omega, show (8 * (a / 8) + z) % 8 = z by omega]
    exact t5.2
  have hmiss : ∀ t, a ≤ t → t < 8 * (a / 8) + z → bitV bs t ≠ on := by
    intro t h1 h2 e
    have := t3 (t % 8) (by omega)
    rw [lookB_bit on _ hb _ _ (by omega)] at this
    unfold bitV at e
    rw [show t / 8 = a / 8 by omega] at e
    rw [e] at this
    simp at this
    omega
  have hle : 8 * (a / 8) + z ≤ N := by
    rcases Nat.lt_or_ge N (8 * (a / 8) + z) with hlt | hge
    · exfalso
      have s1 := hs (8 * (a / 8) + z) (by omega) (by omega)
      have s2 := hs N (Nat.le_refl _) (by omega)
      rw [s1] at hit
      exact hmiss N (by omega) hlt (by rw [s2, hit])
    · exact hge
  exact seekV_eq bs N on a _ (by omega) hle hmiss (fun _ => hit)
end Go.Proofs.YthognmkjoekilaaDoor

/- Layer 3: rows of bytes: what it is to read as bytes; parts, copies, growth, strings of them. -/
namespace Go.Proofs.YthognmkjoekilaaDoor
set_option linter.unusedVariables false
open Go.RowKit

/-- The slice (a, len, cap) reads in w as the bytes xs. -/
structure Rd (w : World) (a : Option Addr) (len cap : Nat) (xs : List Int) : Prop where
  hl : xs.length = len
  hc : len ≤ cap
  hm : cap ≤ maxLen
  hb : ∀ n ∈ xs, 0 ≤ n ∧ n ≤ 255
  hn : a = none → cap = 0
  hr : 0 < len → ∃ b off, a = some ⟨b, off, none⟩ ∧ ∀ i, i < len → w.cell? ⟨b, off + i, none⟩ = some (.int .u8 (xs.getD i 0))

theorem take_snoc (xs : List Int) (k : Nat) (h : k < xs.length) : xs.take (k + 1) = xs.take k ++ [xs[k]] := by
  rw [List.take_succ_eq_append_getElem h]
/-- In w the slice value v, of blocks from B on, is the bytes xs. -/
def Own (w : World) (B : Nat) (v : Value) (xs : List Int) : Prop := w.ownsRow B 5 1 v xs.length (xs.map (Value.int .u8)) ∧ ∀ n ∈ xs, 0 ≤ n ∧ n ≤ 255
theorem Own.nil (w : World) (B : Nat) : Own w B (.slice none 0 0) [] := ⟨World.ownsRow_nil _ _ _ _, by simp⟩
theorem getD_at (xs : List Int) (k : Nat) (h : k < xs.length) : xs.getD k 0 = xs[k] := by simp [List.getD, h]
theorem Rd.below {w w' : World} {B : Nat} {a : Option Addr} {len cap : Nat} {xs : List Int} (h : Rd w a len cap xs) (hb : Below B w w') (hB : w.heap.size ≤ B) : Rd w' a len cap xs := by
  refine ⟨h.hl, h.hc, h.hm, h.hb, h.hn, fun h0 => ?_⟩
  obtain ⟨b, off, ha, hc⟩ := h.hr h0
  refine ⟨b, off, ha, fun i hi => ?_⟩
  have hlt := World.block_lt_of_cell? w _ (hc i hi)
  exact (hb.cell (p := ⟨b, off + i, none⟩) (Nat.lt_of_lt_of_le hlt hB)).trans (hc i hi)
theorem Rd.cells {w : World} {x : Addr} {len cap : Nat} {xs : List Int} (h : Rd w (some x) len cap xs) : ∀ j u, (xs.map (Value.int .u8))[j]? = some u → w.cell? (x.add j) = some u := by
  intro j u hu
  have hj : j < xs.length := by
    have := (List.getElem?_eq_some_iff.1 hu).1
    simpa using this
  have hl := h.hl
  obtain ⟨b, off, ha, hc⟩ := h.hr (by omega)
  cases ha
  have := hc j (by omega)
  have e : (⟨b, off, none⟩ : Addr).add j = ⟨b, off + j, none⟩ := by
    by_cases h0 : j = 0
    · subst h0; rfl
    · simp [Addr.add, h0]
  rw [e, this]
  simp [hj] at hu
  rw [← hu, getD_at _ _ hj]
theorem oneCells (xs : List Int) : ∀ u ∈ xs.map (Value.int .u8), u.oneCell' = true := by
  intro u hu
  obtain ⟨n, _, rfl⟩ := List.mem_map.1 hu
  rfl
theorem Own.alloc {w : World} {B : Nat} {v : Value} {xs : List Int} (h : Own w B v xs) (o : Obj) : Own (w.alloc o) B v xs := ⟨h.1.alloc o, h.2⟩
theorem Own.below {w w' : World} {B B' : Nat} {v : Value} {xs : List Int} (h : Own w B v xs) (hb : Below B' w w') (hB : w.heap.size ≤ B') : Own w' B v xs := by
  refine ⟨⟨h.1.1, ?_⟩, h.2⟩
  rcases h.1.2 with hn | ⟨g, cap, cur, rfl, hg0, hg, rest⟩
  · exact .inl hn
  · refine .inr ⟨g, cap, cur, rfl, hg0, ?_, rest⟩
    rw [hb.block g (Nat.lt_of_lt_of_le (Array.getElem?_eq_some_iff.1 hg).1 hB)]
    exact hg
/-- What a slice owns can be read. -/
theorem Own.rd {w : World} {B : Nat} {v : Value} {xs : List Int} (h : Own w B v xs) : ∃ a cap, v = .slice a xs.length cap ∧ Rd w a xs.length cap xs := by
  rcases h.1.2 with ⟨rfl, h0⟩ | ⟨g, cap, cur, rfl, hg0, hg, hnc, hcm, hcs, htake⟩
  · obtain rfl : xs = [] := by simpa using h0
    exact ⟨none, 0, rfl, rfl, Nat.le_refl _, Nat.zero_le _, by simp, fun _ => rfl, by simp⟩
  · refine ⟨_, cap, rfl, rfl, hnc, hcm, h.2, (by intro e; cases e), fun _ => ⟨g, 0, rfl, fun i hi => ?_⟩⟩
    rw [h.1.cellAt (0 + i) (by simpa using hi)]
    rw [Nat.zero_add, getD_at _ _ hi]
    simp [hi]

/-- A part of what is read. -/
theorem Rd.cut {w : World} {b off len cap : Nat} {xs : List Int} (h : Rd w (some ⟨b, off, none⟩) len cap xs) (i m : Nat) (hi : i + m ≤ len) {x : Addr} {c : Nat} (hx : 0 < m → x = ⟨b, off + i, none⟩) (hc : m ≤ c) (hcm : c ≤ maxLen) :
    Rd w (some x) m c ((xs.drop i).take m) := by
  have hl := h.hl
  refine ⟨by simp [hl]; omega, hc, hcm, fun n hn => h.hb n (List.mem_of_mem_drop (List.mem_of_mem_take hn)), (by intro e; cases e), fun h0 => ?_⟩
  obtain rfl := hx h0
  obtain ⟨b', off', e, hcell⟩ := h.hr (by omega)
  cases e
  refine ⟨b, off + i, rfl, fun j hj => ?_⟩
  have := hcell (i + j) (by omega)
  rw [Nat.add_assoc, this, getD_at _ _ (by omega), getD_at _ _ (by simp [hl]; omega)]
  simp
theorem Tryd.infoB : (Tryd.prog.info? 5).map (fun i => (i.zero, i.size, i.bytes)) = some (some (.int .u8 0), 1, 1) := by kernel_rfl
section
variable {P : Program} {w : World} {ops : Array Oper} {rest : List Oper} {o : Oper} {a : Act} {Q : Exit → Act → World → Prop}
/-- Bytes appended to a slice of the call's own, wherever they lie. -/
theorem wpList_append_rd (hgd : o.guard = none) (s x : Operand) (t : TypeId)
    (ho : o.op = .call { callee := .builtin .append, args := #[s, x], argTypes := #[t, t] }) (base : Nat)
    (hinfo : (P.info? 5).map (fun i => (i.zero, i.size, i.bytes)) = some (some (.int .u8 0), 1, 1)) (ht : P.underlying t = some (.slice 5))
    (v : Value) (ys : List Int) (hs : a.eval s = v) (hown : Own w base v ys) (ad : Option Addr) (m c : Nat) (xs : List Int) (hx : a.eval x = .slice ad m c) (hrd : Rd w ad m c xs)
    (hbytes : ys.length + m ≤ 140737488355328) (hbase : base ≤ w.heap.size)
    (h : ∀ v' w', Own w' base v' (ys ++ xs) → w.grownBy w' v.ownBlock → wpList P ops Q rest (a.put o.dst v') w') : wpList P ops Q (o :: rest) a w := by
  obtain ⟨i0, hi, hz0, hz1, hz2⟩ := info_parts hinfo
  have hbd : ∀ n ∈ ys ++ xs, 0 ≤ n ∧ n ≤ 255 := by
    intro n hn
    rcases List.mem_append.1 hn with hn | hn
    · exact hown.2 n hn
    · exact hrd.hb n hn
  have hl := hrd.hl
  cases ad with
  | none =>
    have hc0 := hrd.hn rfl
    have hcl := hrd.hc
    obtain rfl : m = 0 := by omega
    obtain rfl : xs = [] := by simpa using hl
    subst hc0
    exact wpList_append_own_none hgd s x t ho base _ i0 1 ht hi v ys.length _ hs hown.1 hx (h v w (by simpa using hown) ⟨rfl, rfl, rfl, Nat.le_refl _, fun _ _ _ => rfl⟩)
  | some x0 =>
    refine wpList_append_own w hgd s x t ho base _ i0 (.int .u8 0) 1 1 ht hi hz0 hz1 hz2 rfl (by decide) v ys.length _ hs hown.1 x0 m c (xs.map (Value.int .u8)) hx (by simp [hl]) hrd.cells (oneCells xs) (by unfold maxLen; omega) (by omega) hbase ?_
    intro v' w' ho' hg _
    exact h v' w' ⟨by rw [List.length_append, hl, List.map_append]; exact ho', hbd⟩ hg
end
theorem Rd.convAny {w : World} {a : Option Addr} {len cap : Nat} {xs : List Int} (h : Rd w a len cap xs) : (convert 22 9 (.slice a len cap)).run Tryd.prog w = .ok (.string (strOfNums xs)) w := by
  by_cases h0 : 0 < len
  · obtain ⟨b, off, rfl, hc⟩ := h.hr h0
    exact run_convert_bytes_arg w 22 5 Tryd.underlying22 Tryd.underlying5 b off len cap xs h.hl hc 9 Tryd.underlying9
  · obtain rfl : len = 0 := by omega
    obtain rfl : xs = [] := List.eq_nil_of_length_eq_zero h.hl
    rcases a with _ | ad
    · exact run_convert_bytes_nil w 22 5 Tryd.underlying22 Tryd.underlying5 0 cap 9 Tryd.underlying9
    · rw [run_convert_bytes_string w 22 9 5 (some ad) 0 cap Tryd.underlying22 Tryd.underlying5 Tryd.underlying9]
      have hl := run_loadCells_list (P := Tryd.prog) w ad [] (fun j v hj => by simp at hj)
      rw [run_bytesToString w ad 0 cap [] (by simpa using hl)]
      rfl
theorem strOfNums_inj {xs ys : List Int} (hx : ∀ n ∈ xs, 0 ≤ n ∧ n ≤ 255) (hy : ∀ n ∈ ys, 0 ≤ n ∧ n ≤ 255) (h : strOfNums xs = strOfNums ys) : xs = ys := by
  have h1 : xs.map (fun n => UInt8.ofNat n.toNat) = ys.map (fun n => UInt8.ofNat n.toNat) := by
    rw [← strOfNums_data, ← strOfNums_data, h]
  clear h
  induction xs generalizing ys with
  | nil => cases ys with
    | nil => rfl
    | cons y ys => simp at h1
  | cons x xs ih => cases ys with
    | nil => simp at h1
    | cons y ys =>
      simp only [List.map_cons, List.cons.injEq] at h1
      have a := hx x (by simp)
      have b := hy y (by simp)
      have e : (UInt8.ofNat x.toNat).toNat = (UInt8.ofNat y.toNat).toNat := by rw [h1.1]
      simp only [UInt8.toNat_ofNat'] at e
      have hxy : x = y := by omega
      rw [hxy, ih (fun n hn => hx n (by simp [hn])) (fun n hn => hy n (by simp [hn])) h1.2]
theorem Own.rdz {w : World} {B m : Nat} {v : Value} {xs : List Int} (h : Own w B v xs) (hm : xs.length = m) : ∃ a cap, v = .slice a m cap ∧ Rd w a m cap xs := by subst hm; exact h.rd
theorem Rd.drewN {w : World} {a : Option Addr} {len cap : Nat} {xs : List Int} (h : Rd w a len cap xs) (n : Nat) : Rd (w.drewN n) a len cap xs := ⟨h.hl, h.hc, h.hm, h.hb, h.hn, h.hr⟩
theorem Rd.drew {w : World} {a : Option Addr} {len cap : Nat} {xs : List Int} (h : Rd w a len cap xs) : Rd w.drew a len cap xs := ⟨h.hl, h.hc, h.hm, h.hb, h.hn, h.hr⟩
theorem str_eq {xs ys : List Int} (hx : ∀ n ∈ xs, 0 ≤ n ∧ n ≤ 255) (hy : ∀ n ∈ ys, 0 ≤ n ∧ n ≤ 255) : ((strOfNums xs).toList == (strOfNums ys).toList) = decide (xs = ys) := by
  by_cases hxy : xs = ys
  · subst hxy; simp
  · rw [decide_eq_false hxy]
    have : strOfNums xs ≠ strOfNums ys := fun hh => hxy (strOfNums_inj hx hy hh)
    rw [beq_eq_false_iff_ne]
    intro hh
    rw [ByteArray.toList_eq, ByteArray.toList_eq] at hh
    exact this (ByteArray.ext (Array.toList_inj.1 hh))
theorem Rd.nil (w : World) : Rd w none 0 0 [] := ⟨rfl, Nat.le_refl _, Nat.zero_le _, by simp, fun _ => rfl, by simp⟩
theorem Own.mono {w : World} {B B' : Nat} {v : Value} {xs : List Int} (h : Own w B v xs) (hB : B' ≤ B) : Own w B' v xs := by
  refine ⟨⟨h.1.1, ?_⟩, h.2⟩
  rcases h.1.2 with hn | ⟨g, cap, cur, rfl, hg0, rest⟩
  · exact .inl hn
  · exact .inr ⟨g, cap, cur, rfl, Nat.le_trans hB hg0, rest⟩

theorem clone_any (a : Option Addr) (len cap : Nat) (xs : List Int) (w : World) (h : Rd w a len cap xs) (hbig : len ≤ 140737488355328) :
    Calls Tryd.prog 85 #[.slice a len cap] w fun e w' => ∃ v, e = .returned v ∧ Own w' w.heap.size v xs ∧ Below w.heap.size w w' := by
  have hl := h.hl
  cases a with
  | none =>
    have h0 := h.hn rfl
    have h1 := h.hc
    obtain rfl : xs = [] := by
      apply List.eq_nil_of_length_eq_zero; omega
    refine (Tryd.bytes_Clone_nil len cap w).mono ?_
    rintro e w' ⟨rfl, rfl⟩
    exact ⟨_, rfl, Own.nil _ _, Below.refl _ _⟩
  | some x =>
    refine (Tryd.bytes_Clone_at x len cap xs w hl hbig ?_).mono ?_
    · intro i hi
      refine h.cells i _ ?_
      simp [getD_at xs i (by omega), List.getElem?_eq_getElem (show i < xs.length by omega)]
    · rintro e w' ⟨v, rfl, ho, _, hb⟩
      exact ⟨v, rfl, ⟨by rw [hl]; exact ho, h.hb⟩, hb⟩
end Go.Proofs.YthognmkjoekilaaDoor

/- need, reason, and what catches a panic of an error. -/
namespace Go.Proofs.YthognmkjoekilaaDoor
set_option linter.unusedVariables false
open Go.RowKit

/-- A call that ends by a panic with an error. -/
def pan (er : Int) : Ending := .panicked [{ v := .iface 27 (.int .i64 er), recovered := false }]
set_option maxRecDepth 100000 in
theorem need_yes (er : Int) (w : World) : Calls Tryd.prog 59 #[.bool true, .int .i64 er] w fun e w' => e = .returned (.tuple #[]) ∧ w = w' := by
  go_enter Tryd.func59, Tryd.ntmps59
  go_wp2
  go_end0
  exact ⟨rfl, rfl⟩
set_option maxRecDepth 100000 in
theorem need_no (er : Int) (w : World) : Calls Tryd.prog 59 #[.bool false, .int .i64 er] w fun e w' => e = pan er ∧ w = w' := by
  go_enter Tryd.func59, Tryd.ntmps59
  go_wp2
  exact ⟨rfl, rfl, rfl⟩
theorem run_assert (er : Int) (w : World) : (Instr.typeAssert (.iface 27 (.int .i64 er)) 20 27 true).run Tryd.prog w = .ok (.tuple #[.int .i64 er, .bool true]) w := by kernel_rfl
set_option maxRecDepth 100000 in
set_option maxHeartbeats 400000 in
theorem reason_any (er : Int) (w : World) : Calls Tryd.prog 83 #[.iface 27 (.int .i64 er)] w fun e w' => e = .returned (.int .i64 er) ∧ w = w' := by
  have hta := run_assert er
  go_enter Tryd.func83, Tryd.ntmps83
  go_wp2
  go_ret
  exact ⟨rfl, rfl⟩
theorem size_any (n : Int) (w : World) : Calls Tryd.prog 60 #[.int .i64 n] w fun e w' => e = .returned (.bool (decide (0 ≤ n) && decide (n ≤ 65536))) ∧ w = w' := by
  by_cases h : 0 ≤ n
  · go_enter Tryd.func60, Tryd.ntmps60
    go_wp2
    go_ret
    exact ⟨by simp [h], rfl⟩
  · go_enter Tryd.func60, Tryd.ntmps60
    go_wp2
    go_ret
    exact ⟨by simp; omega, rfl⟩
theorem bytesFor_any (n : Int) (w : World) (h0 : 0 ≤ n) (h1 : n ≤ 65536) : Calls Tryd.prog 88 #[.int .i64 n] w fun e w' => e = .returned (.int .i64 ((n + 7) / 8)) ∧ w = w' := by
  go_enter Tryd.func88, Tryd.ntmps88
  go_wp2
  go_ret
  refine ⟨?_, rfl⟩
  have e : n + 8 - 1 = n + 7 := by omega
  show Ending.returned (.int .i64 ((n + 8 - 1) / 8)) = _
  rw [e]
end Go.Proofs.YthognmkjoekilaaDoor

/- call: what do returns, or why it ended. -/
namespace Go.Proofs.YthognmkjoekilaaDoor
set_option linter.unusedVariables false
open Go.RowKit

set_option maxRecDepth 100000 in
set_option maxHeartbeats 400000 in
theorem idle_bool (p : Addr) (w : World) :
    CallsD Tryd.prog 82 #[.pointer (some p)] .returning w fun e u' w' => e = .returned (.tuple #[]) ∧ u' = .returning ∧ w' = w := by
  refine callsD_of_wpS Tryd.func82 rfl fun c₀ cs hu => ?_
  apply wpS_seq
  apply wpS_region
  simp [wpOpsS, go_sem, recoverD, hu, Tryd.ntmps82, Exit.thenS]
  refine wpS_of_wp ?_
  go_wp2
  refine ⟨rfl, .returning, ?_, .tuple #[], by simp [results, Tryd.results82], rfl, rfl, rfl⟩
  cases c₀
  simp_all
set_option maxRecDepth 100000 in
set_option maxHeartbeats 400000 in
theorem catch_bool (b : Nat) (er : Int) (w : World) (older : List PanicEntry) (u : Value) (h : w.cell? ⟨b, 0, none⟩ = some u) (f : w.frozen? ⟨b, 0, none⟩ = false) :
    CallsD Tryd.prog 82 #[.pointer (some ⟨b, 0, none⟩)] (.panicking ({ v := .iface 27 (.int .i64 er), recovered := false } :: older)) w fun e u' w' =>
      e = .returned (.tuple #[]) ∧ u' = .panicking ({ v := .iface 27 (.int .i64 er), recovered := true } :: older) ∧ w' = w.setCell ⟨b, 0, none⟩ (.int .i64 er) := by
  refine callsD_of_wpS Tryd.func82 rfl fun c₀ cs hu => ?_
  apply wpS_seq
  apply wpS_region
  simp [wpOpsS, go_sem, recoverD, hu, Tryd.ntmps82, Exit.thenS]
  refine wpS_of_wp ?_
  go_wp2_with fail
  refine (reason_any er w).mono ?_
  rintro e w1 ⟨rfl, rfl⟩
  go_wp2
  exact ⟨rfl, _, rfl, .tuple #[], by simp [results, Tryd.results82], rfl, rfl, rfl⟩

set_option maxRecDepth 100000 in
set_option maxHeartbeats 1000000 in
theorem call_bool_ok (f : FuncId) (caps : Array Value) (v : Bool) (R : World → Prop) (w : World) (hent : ∀ (args : Array Value) (w : World), (callFunc f args).run Tryd.prog w = .ok (.enter f args) w)
    (hR : ∀ W W', R W → (∀ k, k ≠ w.heap.size → W'.heap[k]? = W.heap[k]?) → W'.heap.size = W.heap.size → R W')
    (h : ∀ W, Below w.heap.size w W → w.heap.size < W.heap.size → Calls Tryd.prog f caps W fun e w' => e = .returned (.bool v) ∧ R w' ∧ Below W.heap.size W w') :
    Calls Tryd.prog 44 #[.func (.func f) #[] caps] w fun e w' => e = .returned (.tuple #[.bool v, .int .i64 0]) ∧ R w' ∧ Below w.heap.size w w' := by
  have hmf : ∀ (fn : Fn) (first cap : Array Value) (w : World), (Instr.makeFunc fn first cap).run Tryd.prog w = .ok (.func fn first cap) w := fun _ _ _ _ => rfl
  obtain ⟨W0, hW0⟩ : ∃ W0, W0 = w.alloc (.cells #[.int .i64 0] 27) := ⟨_, rfl⟩
  have hx0 : Boxed W0 w.heap.size 27 (.int .i64 0) := by rw [hW0]; exact Boxed.new _ _ _
  have hb0 : Below w.heap.size w W0 := by rw [hW0]; exact (Below.refl _ w).alloc (Nat.le_refl _) _
  have hl0 := hx0.lt
  have H := Lib.hid (h W0 hb0 hl0)
  have HW0 := Lib.hid hW0
  have Hx := Lib.hid hx0
  have Hb := Lib.hid hb0
  have HR := Lib.hid hR
  clear h hW0 hx0 hb0 hR
  go_enter_defers Tryd.func44, Tryd.ntmps44
  go_upto_region 1 with fail
  rw [← HW0.out]
  go_wp2_with fail
  refine H.out.mono ?_
  rintro e w1 ⟨rfl, hr, hb⟩
  have bx : Boxed w1 w.heap.size 27 (.int .i64 0) := (hb.block _ hl0).trans Hx.out
  have c0 := bx.cell
  have d0 := bx.frozen
  have Hr := Lib.hid hr
  have Hb1 := Lib.hid (Hb.out.trans (hb.mono Hb.out.size))
  have Hbx := Lib.hid bx
  clear hr hb bx H HW0 Hx Hb
  go_wp2_with fail
  have z0 := (Hbx.out.set (.int .i64 0)).cell
  have hz := Hb1.out.setCell (p := ⟨w.heap.size, 0, none⟩) (by simp) (.int .i64 0)
  have hr' := HR.out _ (w1.setCell ⟨w.heap.size, 0, none⟩ (.int .i64 0)) Hr.out (fun k hk => heap_setCell_other w1 ⟨w.heap.size, 0, none⟩ k _ hk) (by simp)
  clear c0 d0
  generalize w1.setCell ⟨w.heap.size, 0, none⟩ (.int .i64 0) = w3 at *
  have HZ := Lib.hid (And.intro hz hr')
  clear hz hr' Hr Hbx Hb1
  change bodyPostD _ _ _ _ _ w3
  simp only [bodyPostD]
  refine leaves_cons (f := 82) (args := #[.pointer (some ⟨w.heap.size, 0, none⟩)]) (by simp) (by simp [go_sem]) ?_
  refine (idle_bool _ w3).mono ?_
  rintro e u' w'' ⟨rfl, rfl, rfl⟩
  simp [Leaves, settle, results, Tryd.results44, go_sem, z0]
  exact ⟨HZ.out.2, HZ.out.1⟩

set_option maxRecDepth 100000 in
set_option maxHeartbeats 1000000 in
theorem call_bool_bad (f : FuncId) (caps : Array Value) (er : Int) (w : World) (hent : ∀ (args : Array Value) (w : World), (callFunc f args).run Tryd.prog w = .ok (.enter f args) w)
    (h : ∀ W, Below w.heap.size w W → w.heap.size < W.heap.size → Calls Tryd.prog f caps W fun e w' => e = pan er ∧ Below W.heap.size W w') :
    Calls Tryd.prog 44 #[.func (.func f) #[] caps] w fun e w' => e = .returned (.tuple #[.bool false, .int .i64 er]) ∧ Below w.heap.size w w' := by
  have hmf : ∀ (fn : Fn) (first cap : Array Value) (w : World), (Instr.makeFunc fn first cap).run Tryd.prog w = .ok (.func fn first cap) w := fun _ _ _ _ => rfl
  obtain ⟨W0, hW0⟩ : ∃ W0, W0 = w.alloc (.cells #[.int .i64 0] 27) := ⟨_, rfl⟩
  have hx0 : Boxed W0 w.heap.size 27 (.int .i64 0) := by rw [hW0]; exact Boxed.new _ _ _
  have hb0 : Below w.heap.size w W0 := by rw [hW0]; exact (Below.refl _ w).alloc (Nat.le_refl _) _
  have hl0 := hx0.lt
  have H := Lib.hid (h W0 hb0 hl0)
  have HW0 := Lib.hid hW0
  have Hx := Lib.hid hx0
  have Hb := Lib.hid hb0
  clear h hW0 hx0 hb0
  go_enter_defers Tryd.func44, Tryd.ntmps44
  go_upto_region 1 with fail
  rw [← HW0.out]
  go_wp2_with fail
  refine H.out.mono ?_
  rintro e w1 ⟨rfl, hb⟩
  have bx : Boxed w1 w.heap.size 27 (.int .i64 0) := (hb.block _ hl0).trans Hx.out
  have Hb1 := Lib.hid (Hb.out.trans (hb.mono Hb.out.size))
  clear hb H HW0 Hx Hb
  unfold pan
  simp only
  change bodyPostD _ _ _ (Exit.panic _) _ w1
  simp only [bodyPostD]
  refine leaves_cons (f := 82) (args := #[.pointer (some ⟨w.heap.size, 0, none⟩)]) (by simp) (by simp [go_sem]) ?_
  refine (catch_bool w.heap.size er w1 [] _ bx.cell bx.frozen).mono ?_
  rintro e u' w'' ⟨rfl, rfl, rfl⟩
  have z0 := (bx.set (.int .i64 er)).cell
  have hz := Hb1.out.setCell (p := ⟨w.heap.size, 0, none⟩) (by simp) (.int .i64 er)
  generalize w1.setCell ⟨w.heap.size, 0, none⟩ (.int .i64 er) = w3 at *
  have HZ := Lib.hid hz
  clear hz bx
  simp [Leaves, settle, results, Tryd.results44, go_sem, z0]
  exact HZ.out

set_option maxRecDepth 100000 in
set_option maxHeartbeats 400000 in
theorem idle_int (p : Addr) (w : World) :
    CallsD Tryd.prog 86 #[.pointer (some p)] .returning w fun e u' w' => e = .returned (.tuple #[]) ∧ u' = .returning ∧ w' = w := by
  refine callsD_of_wpS Tryd.func86 rfl fun c₀ cs hu => ?_
  apply wpS_seq
  apply wpS_region
  simp [wpOpsS, go_sem, recoverD, hu, Tryd.ntmps86, Exit.thenS]
  refine wpS_of_wp ?_
  go_wp2
  refine ⟨rfl, .returning, ?_, .tuple #[], by simp [results, Tryd.results86], rfl, rfl, rfl⟩
  cases c₀
  simp_all
set_option maxRecDepth 100000 in
set_option maxHeartbeats 400000 in
theorem catch_int (b : Nat) (er : Int) (w : World) (older : List PanicEntry) (u : Value) (h : w.cell? ⟨b, 0, none⟩ = some u) (f : w.frozen? ⟨b, 0, none⟩ = false) :
    CallsD Tryd.prog 86 #[.pointer (some ⟨b, 0, none⟩)] (.panicking ({ v := .iface 27 (.int .i64 er), recovered := false } :: older)) w fun e u' w' =>
      e = .returned (.tuple #[]) ∧ u' = .panicking ({ v := .iface 27 (.int .i64 er), recovered := true } :: older) ∧ w' = w.setCell ⟨b, 0, none⟩ (.int .i64 er) := by
  refine callsD_of_wpS Tryd.func86 rfl fun c₀ cs hu => ?_
  apply wpS_seq
  apply wpS_region
  simp [wpOpsS, go_sem, recoverD, hu, Tryd.ntmps86, Exit.thenS]
  refine wpS_of_wp ?_
  go_wp2_with fail
  refine (reason_any er w).mono ?_
  rintro e w1 ⟨rfl, rfl⟩
  go_wp2
  exact ⟨rfl, _, rfl, .tuple #[], by simp [results, Tryd.results86], rfl, rfl, rfl⟩

set_option maxRecDepth 100000 in
set_option maxHeartbeats 1000000 in
theorem call_int_ok (f : FuncId) (caps : Array Value) (v : Int) (R : World → Prop) (w : World) (hent : ∀ (args : Array Value) (w : World), (callFunc f args).run Tryd.prog w = .ok (.enter f args) w)
    (hR : ∀ W W', R W → (∀ k, k ≠ w.heap.size → W'.heap[k]? = W.heap[k]?) → W'.heap.size = W.heap.size → R W')
    (h : ∀ W, Below w.heap.size w W → w.heap.size < W.heap.size → Calls Tryd.prog f caps W fun e w' => e = .returned (.int .i64 v) ∧ R w' ∧ Below W.heap.size W w') :
    Calls Tryd.prog 51 #[.func (.func f) #[] caps] w fun e w' => e = .returned (.tuple #[.int .i64 v, .int .i64 0]) ∧ R w' ∧ Below w.heap.size w w' := by
  have hmf : ∀ (fn : Fn) (first cap : Array Value) (w : World), (Instr.makeFunc fn first cap).run Tryd.prog w = .ok (.func fn first cap) w := fun _ _ _ _ => rfl
  obtain ⟨W0, hW0⟩ : ∃ W0, W0 = w.alloc (.cells #[.int .i64 0] 27) := ⟨_, rfl⟩
  have hx0 : Boxed W0 w.heap.size 27 (.int .i64 0) := by rw [hW0]; exact Boxed.new _ _ _
  have hb0 : Below w.heap.size w W0 := by rw [hW0]; exact (Below.refl _ w).alloc (Nat.le_refl _) _
  have hl0 := hx0.lt
  have H := Lib.hid (h W0 hb0 hl0)
  have HW0 := Lib.hid hW0
  have Hx := Lib.hid hx0
  have Hb := Lib.hid hb0
  have HR := Lib.hid hR
  clear h hW0 hx0 hb0 hR
  go_enter_defers Tryd.func51, Tryd.ntmps51
  go_upto_region 1 with fail
  rw [← HW0.out]
  go_wp2_with fail
  refine H.out.mono ?_
  rintro e w1 ⟨rfl, hr, hb⟩
  have bx : Boxed w1 w.heap.size 27 (.int .i64 0) := (hb.block _ hl0).trans Hx.out
  have c0 := bx.cell
  have d0 := bx.frozen
  have Hr := Lib.hid hr
  have Hb1 := Lib.hid (Hb.out.trans (hb.mono Hb.out.size))
  have Hbx := Lib.hid bx
  clear hr hb bx H HW0 Hx Hb
  go_wp2_with fail
  have z0 := (Hbx.out.set (.int .i64 0)).cell
  have hz := Hb1.out.setCell (p := ⟨w.heap.size, 0, none⟩) (by simp) (.int .i64 0)
  have hr' := HR.out _ (w1.setCell ⟨w.heap.size, 0, none⟩ (.int .i64 0)) Hr.out (fun k hk => heap_setCell_other w1 ⟨w.heap.size, 0, none⟩ k _ hk) (by simp)
  clear c0 d0
  generalize w1.setCell ⟨w.heap.size, 0, none⟩ (.int .i64 0) = w3 at *
  have HZ := Lib.hid (And.intro hz hr')
  clear hz hr' Hr Hbx Hb1
  change bodyPostD _ _ _ _ _ w3
  simp only [bodyPostD]
  refine leaves_cons (f := 86) (args := #[.pointer (some ⟨w.heap.size, 0, none⟩)]) (by simp) (by simp [go_sem]) ?_
  refine (idle_int _ w3).mono ?_
  rintro e u' w'' ⟨rfl, rfl, rfl⟩
  simp [Leaves, settle, results, Tryd.results51, go_sem, z0]
  exact ⟨HZ.out.2, HZ.out.1⟩

set_option maxRecDepth 100000 in
set_option maxHeartbeats 1000000 in
theorem call_int_bad (f : FuncId) (caps : Array Value) (er : Int) (w : World) (hent : ∀ (args : Array Value) (w : World), (callFunc f args).run Tryd.prog w = .ok (.enter f args) w)
    (h : ∀ W, Below w.heap.size w W → w.heap.size < W.heap.size → Calls Tryd.prog f caps W fun e w' => e = pan er ∧ Below W.heap.size W w') :
    Calls Tryd.prog 51 #[.func (.func f) #[] caps] w fun e w' => e = .returned (.tuple #[.int .i64 0, .int .i64 er]) ∧ Below w.heap.size w w' := by
  have hmf : ∀ (fn : Fn) (first cap : Array Value) (w : World), (Instr.makeFunc fn first cap).run Tryd.prog w = .ok (.func fn first cap) w := fun _ _ _ _ => rfl
  obtain ⟨W0, hW0⟩ : ∃ W0, W0 = w.alloc (.cells #[.int .i64 0] 27) := ⟨_, rfl⟩
  have hx0 : Boxed W0 w.heap.size 27 (.int .i64 0) := by rw [hW0]; exact Boxed.new _ _ _
  have hb0 : Below w.heap.size w W0 := by rw [hW0]; exact (Below.refl _ w).alloc (Nat.le_refl _) _
  have hl0 := hx0.lt
  have H := Lib.hid (h W0 hb0 hl0)
  have HW0 := Lib.hid hW0
  have Hx := Lib.hid hx0
  have Hb := Lib.hid hb0
  clear h hW0 hx0 hb0
  go_enter_defers Tryd.func51, Tryd.ntmps51
  go_upto_region 1 with fail
  rw [← HW0.out]
  go_wp2_with fail
  refine H.out.mono ?_
  rintro e w1 ⟨rfl, hb⟩
  have bx : Boxed w1 w.heap.size 27 (.int .i64 0) := (hb.block _ hl0).trans Hx.out
  have Hb1 := Lib.hid (Hb.out.trans (hb.mono Hb.out.size))
  clear hb H HW0 Hx Hb
  unfold pan
  simp only
  change bodyPostD _ _ _ (Exit.panic _) _ w1
  simp only [bodyPostD]
  refine leaves_cons (f := 86) (args := #[.pointer (some ⟨w.heap.size, 0, none⟩)]) (by simp) (by simp [go_sem]) ?_
  refine (catch_int w.heap.size er w1 [] _ bx.cell bx.frozen).mono ?_
  rintro e u' w'' ⟨rfl, rfl, rfl⟩
  have z0 := (bx.set (.int .i64 er)).cell
  have hz := Hb1.out.setCell (p := ⟨w.heap.size, 0, none⟩) (by simp) (.int .i64 er)
  generalize w1.setCell ⟨w.heap.size, 0, none⟩ (.int .i64 er) = w3 at *
  have HZ := Lib.hid hz
  clear hz bx
  simp [Leaves, settle, results, Tryd.results51, go_sem, z0]
  exact HZ.out

set_option maxRecDepth 100000 in
set_option maxHeartbeats 400000 in
theorem idle_ranges (p : Addr) (w : World) :
    CallsD Tryd.prog 90 #[.pointer (some p)] .returning w fun e u' w' => e = .returned (.tuple #[]) ∧ u' = .returning ∧ w' = w := by
  refine callsD_of_wpS Tryd.func90 rfl fun c₀ cs hu => ?_
  apply wpS_seq
  apply wpS_region
  simp [wpOpsS, go_sem, recoverD, hu, Tryd.ntmps90, Exit.thenS]
  refine wpS_of_wp ?_
  go_wp2
  refine ⟨rfl, .returning, ?_, .tuple #[], by simp [results, Tryd.results90], rfl, rfl, rfl⟩
  cases c₀
  simp_all
set_option maxRecDepth 100000 in
set_option maxHeartbeats 400000 in
theorem catch_ranges (b : Nat) (er : Int) (w : World) (older : List PanicEntry) (u : Value) (h : w.cell? ⟨b, 0, none⟩ = some u) (f : w.frozen? ⟨b, 0, none⟩ = false) :
    CallsD Tryd.prog 90 #[.pointer (some ⟨b, 0, none⟩)] (.panicking ({ v := .iface 27 (.int .i64 er), recovered := false } :: older)) w fun e u' w' =>
      e = .returned (.tuple #[]) ∧ u' = .panicking ({ v := .iface 27 (.int .i64 er), recovered := true } :: older) ∧ w' = w.setCell ⟨b, 0, none⟩ (.int .i64 er) := by
  refine callsD_of_wpS Tryd.func90 rfl fun c₀ cs hu => ?_
  apply wpS_seq
  apply wpS_region
  simp [wpOpsS, go_sem, recoverD, hu, Tryd.ntmps90, Exit.thenS]
  refine wpS_of_wp ?_
  go_wp2_with fail
  refine (reason_any er w).mono ?_
  rintro e w1 ⟨rfl, rfl⟩
  go_wp2
  exact ⟨rfl, _, rfl, .tuple #[], by simp [results, Tryd.results90], rfl, rfl, rfl⟩

set_option maxRecDepth 100000 in
set_option maxHeartbeats 1000000 in
theorem call_ranges_ok (f : FuncId) (caps : Array Value)  (R : Option Addr → Nat → Nat → World → Prop) (w : World) (hent : ∀ (args : Array Value) (w : World), (callFunc f args).run Tryd.prog w = .ok (.enter f args) w)
    (hR : ∀ a l c W W', R a l c W → (∀ k, k ≠ w.heap.size → W'.heap[k]? = W.heap[k]?) → W'.heap.size = W.heap.size → R a l c W')
    (h : ∀ W, Below w.heap.size w W → w.heap.size < W.heap.size → Calls Tryd.prog f caps W fun e w' => ∃ a l c, e = .returned (.slice a l c) ∧ R a l c w' ∧ Below W.heap.size W w') :
    Calls Tryd.prog 73 #[.func (.func f) #[] caps] w fun e w' => ∃ a l c, e = .returned (.tuple #[.slice a l c, .int .i64 0]) ∧ R a l c w' ∧ Below w.heap.size w w' := by
  have hmf : ∀ (fn : Fn) (first cap : Array Value) (w : World), (Instr.makeFunc fn first cap).run Tryd.prog w = .ok (.func fn first cap) w := fun _ _ _ _ => rfl
  obtain ⟨W0, hW0⟩ : ∃ W0, W0 = w.alloc (.cells #[.int .i64 0] 27) := ⟨_, rfl⟩
  have hx0 : Boxed W0 w.heap.size 27 (.int .i64 0) := by rw [hW0]; exact Boxed.new _ _ _
  have hb0 : Below w.heap.size w W0 := by rw [hW0]; exact (Below.refl _ w).alloc (Nat.le_refl _) _
  have hl0 := hx0.lt
  have H := Lib.hid (h W0 hb0 hl0)
  have HW0 := Lib.hid hW0
  have Hx := Lib.hid hx0
  have Hb := Lib.hid hb0
  have HR := Lib.hid hR
  clear h hW0 hx0 hb0 hR
  go_enter_defers Tryd.func73, Tryd.ntmps73
  go_upto_region 1 with fail
  rw [← HW0.out]
  go_wp2_with fail
  refine H.out.mono ?_
  rintro e w1 ⟨a, l, c, rfl, hr, hb⟩
  have bx : Boxed w1 w.heap.size 27 (.int .i64 0) := (hb.block _ hl0).trans Hx.out
  have c0 := bx.cell
  have d0 := bx.frozen
  have Hr := Lib.hid hr
  have Hb1 := Lib.hid (Hb.out.trans (hb.mono Hb.out.size))
  have Hbx := Lib.hid bx
  clear hr hb bx H HW0 Hx Hb
  go_wp2_with fail
  have z0 := (Hbx.out.set (.int .i64 0)).cell
  have hz := Hb1.out.setCell (p := ⟨w.heap.size, 0, none⟩) (by simp) (.int .i64 0)
  have hr' := HR.out _ _ _ _ (w1.setCell ⟨w.heap.size, 0, none⟩ (.int .i64 0)) Hr.out (fun k hk => heap_setCell_other w1 ⟨w.heap.size, 0, none⟩ k _ hk) (by simp)
  clear c0 d0
  generalize w1.setCell ⟨w.heap.size, 0, none⟩ (.int .i64 0) = w3 at *
  have HZ := Lib.hid (And.intro hz hr')
  clear hz hr' Hr Hbx Hb1
  change bodyPostD _ _ _ _ _ w3
  simp only [bodyPostD]
  refine leaves_cons (f := 90) (args := #[.pointer (some ⟨w.heap.size, 0, none⟩)]) (by simp) (by simp [go_sem]) ?_
  refine (idle_ranges _ w3).mono ?_
  rintro e u' w'' ⟨rfl, rfl, rfl⟩
  simp [Leaves, settle, results, Tryd.results73, go_sem, z0]
  exact ⟨a, l, c, ⟨rfl, rfl, rfl⟩, HZ.out.2, HZ.out.1⟩

set_option maxRecDepth 100000 in
set_option maxHeartbeats 1000000 in
theorem call_ranges_bad (f : FuncId) (caps : Array Value) (er : Int) (w : World) (hent : ∀ (args : Array Value) (w : World), (callFunc f args).run Tryd.prog w = .ok (.enter f args) w)
    (h : ∀ W, Below w.heap.size w W → w.heap.size < W.heap.size → Calls Tryd.prog f caps W fun e w' => e = pan er ∧ Below W.heap.size W w') :
    Calls Tryd.prog 73 #[.func (.func f) #[] caps] w fun e w' => e = .returned (.tuple #[.slice none 0 0, .int .i64 er]) ∧ Below w.heap.size w w' := by
  have hmf : ∀ (fn : Fn) (first cap : Array Value) (w : World), (Instr.makeFunc fn first cap).run Tryd.prog w = .ok (.func fn first cap) w := fun _ _ _ _ => rfl
  obtain ⟨W0, hW0⟩ : ∃ W0, W0 = w.alloc (.cells #[.int .i64 0] 27) := ⟨_, rfl⟩
  have hx0 : Boxed W0 w.heap.size 27 (.int .i64 0) := by rw [hW0]; exact Boxed.new _ _ _
  have hb0 : Below w.heap.size w W0 := by rw [hW0]; exact (Below.refl _ w).alloc (Nat.le_refl _) _
  have hl0 := hx0.lt
  have H := Lib.hid (h W0 hb0 hl0)
  have HW0 := Lib.hid hW0
  have Hx := Lib.hid hx0
  have Hb := Lib.hid hb0
  clear h hW0 hx0 hb0
  go_enter_defers Tryd.func73, Tryd.ntmps73
  go_upto_region 1 with fail
  rw [← HW0.out]
  go_wp2_with fail
  refine H.out.mono ?_
  rintro e w1 ⟨rfl, hb⟩
  have bx : Boxed w1 w.heap.size 27 (.int .i64 0) := (hb.block _ hl0).trans Hx.out
  have Hb1 := Lib.hid (Hb.out.trans (hb.mono Hb.out.size))
  clear hb H HW0 Hx Hb
  unfold pan
  simp only
  change bodyPostD _ _ _ (Exit.panic _) _ w1
  simp only [bodyPostD]
  refine leaves_cons (f := 90) (args := #[.pointer (some ⟨w.heap.size, 0, none⟩)]) (by simp) (by simp [go_sem]) ?_
  refine (catch_ranges w.heap.size er w1 [] _ bx.cell bx.frozen).mono ?_
  rintro e u' w'' ⟨rfl, rfl, rfl⟩
  have z0 := (bx.set (.int .i64 er)).cell
  have hz := Hb1.out.setCell (p := ⟨w.heap.size, 0, none⟩) (by simp) (.int .i64 er)
  generalize w1.setCell ⟨w.heap.size, 0, none⟩ (.int .i64 er) = w3 at *
  have HZ := Lib.hid hz
  clear hz bx
  simp [Leaves, settle, results, Tryd.results73, go_sem, z0]
  exact HZ.out

set_option maxRecDepth 100000 in
set_option maxHeartbeats 400000 in
theorem idle_bits (p : Addr) (w : World) :
    CallsD Tryd.prog 84 #[.pointer (some p)] .returning w fun e u' w' => e = .returned (.tuple #[]) ∧ u' = .returning ∧ w' = w := by
  refine callsD_of_wpS Tryd.func84 rfl fun c₀ cs hu => ?_
  apply wpS_seq
  apply wpS_region
  simp [wpOpsS, go_sem, recoverD, hu, Tryd.ntmps84, Exit.thenS]
  refine wpS_of_wp ?_
  go_wp2
  refine ⟨rfl, .returning, ?_, .tuple #[], by simp [results, Tryd.results84], rfl, rfl, rfl⟩
  cases c₀
  simp_all
set_option maxRecDepth 100000 in
set_option maxHeartbeats 400000 in
theorem catch_bits (b : Nat) (er : Int) (w : World) (older : List PanicEntry) (u : Value) (h : w.cell? ⟨b, 0, none⟩ = some u) (f : w.frozen? ⟨b, 0, none⟩ = false) :
    CallsD Tryd.prog 84 #[.pointer (some ⟨b, 0, none⟩)] (.panicking ({ v := .iface 27 (.int .i64 er), recovered := false } :: older)) w fun e u' w' =>
      e = .returned (.tuple #[]) ∧ u' = .panicking ({ v := .iface 27 (.int .i64 er), recovered := true } :: older) ∧ w' = w.setCell ⟨b, 0, none⟩ (.int .i64 er) := by
  refine callsD_of_wpS Tryd.func84 rfl fun c₀ cs hu => ?_
  apply wpS_seq
  apply wpS_region
  simp [wpOpsS, go_sem, recoverD, hu, Tryd.ntmps84, Exit.thenS]
  refine wpS_of_wp ?_
  go_wp2_with fail
  refine (reason_any er w).mono ?_
  rintro e w1 ⟨rfl, rfl⟩
  go_wp2
  exact ⟨rfl, _, rfl, .tuple #[], by simp [results, Tryd.results84], rfl, rfl, rfl⟩

set_option maxRecDepth 100000 in
/-- The two boxes of call at a bitmap. -/
theorem bits_boxes (w : World) : ∃ W0, (w.alloc (.cells #[.int .i64 0, .slice none 0 0] 24)).alloc (.cells #[.int .i64 0] 27) = W0 ∧ W0.heap[w.heap.size]? = some (.cells #[.int .i64 0, .slice none 0 0] 24 (0, 0)) ∧ Boxed W0 (w.heap.size + 1) 27 (.int .i64 0) ∧ Below w.heap.size w W0 ∧ W0.heap.size = w.heap.size + 2 := by
  refine ⟨_, rfl, ?_, ?_, ?_, by simp⟩
  · rw [heap_alloc_old _ _ (by simp), heap_alloc_last]
  · have := Boxed.new (w.alloc (.cells #[.int .i64 0, .slice none 0 0] 24)) 27 (.int .i64 0)
    rw [World.size_alloc] at this; exact this
  · exact ((Below.refl _ w).alloc (Nat.le_refl _) _).alloc (by simp) _
theorem cells2 {w : World} {g : Nat} {a b : Value} {t : TypeId} (h : w.heap[g]? = some (.cells #[a, b] t (0, 0))) (x y : Value) : (w.setCell ⟨g, 0, none⟩ x).setCell ⟨g, 1, none⟩ y = w.setRow g #[x, y] := by
  rw [setCell_eq_setRow w g 0 _ t (0, 0) x h, setCell_eq_setRow (w.setRow g (#[a, b].setIfInBounds 0 x)) g 1 _ t (0, 0) y (setRow_heap w g _ _ t (0, 0) h), setRow_setRow]
  rfl
set_option maxRecDepth 100000 in
set_option maxHeartbeats 1000000 in
theorem call_bits_ok (f : FuncId) (caps : Array Value) (n : Int) (R : Option Addr → Nat → Nat → World → Prop) (w : World) (hent : ∀ (args : Array Value) (w : World), (callFunc f args).run Tryd.prog w = .ok (.enter f args) w)
    (hR : ∀ a l c W W', R a l c W → (∀ k, k ≠ w.heap.size → k ≠ w.heap.size + 1 → W'.heap[k]? = W.heap[k]?) → W'.heap.size = W.heap.size → R a l c W')
    (h : ∀ W, Below w.heap.size w W → w.heap.size + 1 < W.heap.size → Calls Tryd.prog f caps W fun e w' => ∃ a l c, e = .returned (.agg #[.int .i64 n, .slice a l c]) ∧ R a l c w' ∧ Below W.heap.size W w') :
    Calls Tryd.prog 47 #[.func (.func f) #[] caps] w fun e w' => ∃ a l c, e = .returned (.tuple #[.agg #[.int .i64 n, .slice a l c], .int .i64 0]) ∧ R a l c w' ∧ Below w.heap.size w w' := by
  have hmf : ∀ (fn : Fn) (first cap : Array Value) (w : World), (Instr.makeFunc fn first cap).run Tryd.prog w = .ok (.func fn first cap) w := fun _ _ _ _ => rfl
  obtain ⟨W0, hW0, hx0, hx1, hb0, hs0⟩ := bits_boxes w
  have hl0 : w.heap.size + 1 < W0.heap.size := by omega
  have H := Lib.hid (h W0 hb0 hl0)
  have HW0 := Lib.hid hW0
  have Hx := Lib.hid (And.intro hx0 hx1)
  have Hb := Lib.hid hb0
  have HR := Lib.hid hR
  clear h hW0 hx0 hx1 hb0 hR hs0
  go_enter_defers Tryd.func47, Tryd.ntmps47
  go_upto_region 1 with fail
  rw [HW0.out]
  go_wp2_with fail
  refine H.out.mono ?_
  rintro e w1 ⟨a, l, c, rfl, hr, hb⟩
  have hb2 : w1.heap[w.heap.size]? = some (.cells #[.int .i64 0, .slice none 0 0] 24 (0, 0)) := (hb.block _ (by omega)).trans Hx.out.1
  have bx : Boxed w1 (w.heap.size + 1) 27 (.int .i64 0) := (hb.block _ hl0).trans Hx.out.2
  have c0 := bx.cell
  have d0 := bx.frozen
  have f0 := frozen_of_row _ _ 0 _ _ hb2
  have f1 := frozen_of_row _ _ 1 _ _ hb2
  have k0 : w1.cell? ⟨w.heap.size, 0, none⟩ = some (.int .i64 0) := by rw [cell_of_row _ _ _ _ _ _ hb2]; rfl
  have k1 : w1.cell? ⟨w.heap.size, 1, none⟩ = some (.slice none 0 0) := by rw [cell_of_row _ _ _ _ _ _ hb2]; rfl
  have Hr := Lib.hid hr
  have Hb1 := Lib.hid (Hb.out.trans (hb.mono Hb.out.size))
  have Hbx := Lib.hid bx
  have Hb2 := Lib.hid hb2
  clear hr hb bx H HW0 Hx Hb hb2
  go_wp2_with fail
  rw [cells2 Hb2.out]
  have z1 := setRow_heap w1 w.heap.size _ #[.int .i64 n, .slice a l c] _ _ Hb2.out
  have z2 : Boxed (w1.setRow w.heap.size #[.int .i64 n, .slice a l c]) (w.heap.size + 1) 27 (.int .i64 0) := (setRow_other w1 _ _ _ (by omega)).trans Hbx.out
  have zb : Below w.heap.size w (w1.setRow w.heap.size #[.int .i64 n, .slice a l c]) := Hb1.out.trans ⟨rfl, rfl, rfl, by simp, fun k hk => setRow_other w1 _ k _ (by omega)⟩
  have zo : ∀ k, k ≠ w.heap.size → (w1.setRow w.heap.size #[.int .i64 n, .slice a l c]).heap[k]? = w1.heap[k]? := fun k hk => setRow_other w1 _ k _ hk
  have zs : (w1.setRow w.heap.size #[.int .i64 n, .slice a l c]).heap.size = w1.heap.size := by simp
  clear c0 d0 f0 f1 k0 k1
  generalize w1.setRow w.heap.size #[.int .i64 n, .slice a l c] = w2 at *
  have y1 : (w2.setCell ⟨w.heap.size + 1, 0, none⟩ (.int .i64 0)).heap[w.heap.size]? = _ := (heap_setCell_other w2 ⟨w.heap.size + 1, 0, none⟩ w.heap.size (.int .i64 0) (by simp)).trans z1
  have y2 := (Boxed.set (.int .i64 0) z2).cell
  have yb := zb.setCell (p := ⟨w.heap.size + 1, 0, none⟩) (by simp) (.int .i64 0)
  have hr' := HR.out _ _ _ _ (w2.setCell ⟨w.heap.size + 1, 0, none⟩ (.int .i64 0)) Hr.out (fun k hk hk1 => (heap_setCell_other w2 ⟨w.heap.size + 1, 0, none⟩ k _ hk1).trans (zo k hk)) (by simp [zs])
  generalize w2.setCell ⟨w.heap.size + 1, 0, none⟩ (.int .i64 0) = w3 at *
  have HZ := Lib.hid (And.intro yb hr')
  have e0 : w3.cell? ⟨w.heap.size, 0, none⟩ = some (.int .i64 n) := by rw [cell_of_row _ _ _ _ _ _ y1]; rfl
  have e1 : w3.cell? ⟨w.heap.size, 1, none⟩ = some (.slice a l c) := by rw [cell_of_row _ _ _ _ _ _ y1]; rfl
  clear yb hr' zb zo zs z1 z2 y1 Hr Hbx Hb1 Hb2
  change bodyPostD _ _ _ _ _ w3
  simp only [bodyPostD]
  refine leaves_cons (f := 84) (args := #[.pointer (some ⟨w.heap.size + 1, 0, none⟩)]) (by simp) (by simp [go_sem]) ?_
  refine (idle_bits _ w3).mono ?_
  rintro e u' w'' ⟨rfl, rfl, rfl⟩
  simp [Leaves, settle, results, Tryd.results47, go_sem, y2, e0, e1]
  exact ⟨a, l, c, ⟨rfl, rfl, rfl⟩, HZ.out.2, HZ.out.1⟩
set_option maxRecDepth 100000 in
set_option maxHeartbeats 1000000 in
theorem call_bits_bad (f : FuncId) (caps : Array Value) (er : Int) (w : World) (hent : ∀ (args : Array Value) (w : World), (callFunc f args).run Tryd.prog w = .ok (.enter f args) w)
    (h : ∀ W, Below w.heap.size w W → w.heap.size + 1 < W.heap.size → Calls Tryd.prog f caps W fun e w' => e = pan er ∧ Below W.heap.size W w') :
    Calls Tryd.prog 47 #[.func (.func f) #[] caps] w fun e w' => e = .returned (.tuple #[.agg #[.int .i64 0, .slice none 0 0], .int .i64 er]) ∧ Below w.heap.size w w' := by
  have hmf : ∀ (fn : Fn) (first cap : Array Value) (w : World), (Instr.makeFunc fn first cap).run Tryd.prog w = .ok (.func fn first cap) w := fun _ _ _ _ => rfl
  obtain ⟨W0, hW0, hx0, hx1, hb0, hs0⟩ := bits_boxes w
  have hl0 : w.heap.size + 1 < W0.heap.size := by omega
  have H := Lib.hid (h W0 hb0 hl0)
  have HW0 := Lib.hid hW0
  have Hx := Lib.hid (And.intro hx0 hx1)
  have Hb := Lib.hid hb0
  clear h hW0 hx0 hx1 hb0 hs0
  go_enter_defers Tryd.func47, Tryd.ntmps47
  go_upto_region 1 with fail
  rw [HW0.out]
  go_wp2_with fail
  refine H.out.mono ?_
  rintro e w1 ⟨rfl, hb⟩
  have hb2 : w1.heap[w.heap.size]? = some (.cells #[.int .i64 0, .slice none 0 0] 24 (0, 0)) := (hb.block _ (by omega)).trans Hx.out.1
  have bx : Boxed w1 (w.heap.size + 1) 27 (.int .i64 0) := (hb.block _ hl0).trans Hx.out.2
  have Hb1 := Lib.hid (Hb.out.trans (hb.mono Hb.out.size))
  clear hb H HW0 Hx Hb
  unfold pan
  simp only
  change bodyPostD _ _ _ (Exit.panic _) _ w1
  simp only [bodyPostD]
  refine leaves_cons (f := 84) (args := #[.pointer (some ⟨w.heap.size + 1, 0, none⟩)]) (by simp) (by simp [go_sem]) ?_
  refine (catch_bits (w.heap.size + 1) er w1 [] _ bx.cell bx.frozen).mono ?_
  rintro e u' w'' ⟨rfl, rfl, rfl⟩
  have z0 := (bx.set (.int .i64 er)).cell
  have hz := Hb1.out.setCell (p := ⟨w.heap.size + 1, 0, none⟩) (by simp) (.int .i64 er)
  have y1 : (w1.setCell ⟨w.heap.size + 1, 0, none⟩ (.int .i64 er)).heap[w.heap.size]? = _ := (heap_setCell_other w1 ⟨w.heap.size + 1, 0, none⟩ w.heap.size (.int .i64 er) (by simp)).trans hb2
  generalize w1.setCell ⟨w.heap.size + 1, 0, none⟩ (.int .i64 er) = w3 at *
  have e0 : w3.cell? ⟨w.heap.size, 0, none⟩ = some (.int .i64 0) := by rw [cell_of_row _ _ _ _ _ _ y1]; rfl
  have e1 : w3.cell? ⟨w.heap.size, 1, none⟩ = some (.slice none 0 0) := by rw [cell_of_row _ _ _ _ _ _ y1]; rfl
  have HZ := Lib.hid hz
  clear hz bx hb2 y1
  simp [Leaves, settle, results, Tryd.results47, go_sem, z0, e0, e1]
  exact HZ.out
end Go.Proofs.YthognmkjoekilaaDoor

/- parts: the bytes in which a range lies, with its bits in each. -/
namespace Go.Proofs.YthognmkjoekilaaDoor
set_option linter.unusedVariables false
open Go.RowKit Go.Shelf
attribute [local go_sem] Oper.semAt_some

/-- The boxes of a range. -/
def rangeBoxes (w : World) (a n : Int) : World := (w.alloc (.cells #[.int .i64 a] 3)).alloc (.cells #[.int .i64 n] 3)
set_option maxRecDepth 100000 in
set_option maxHeartbeats 1000000 in
theorem parts_any (a n : Int) (w : World) : Calls Tryd.prog 53 #[.int .i64 a, .int .i64 n] w fun e w' => e = .returned (.func (.func 87) #[] #[.pointer (some ⟨w.heap.size, 0, none⟩), .pointer (some ⟨w.heap.size + 1, 0, none⟩)]) ∧ w' = rangeBoxes w a n := by
  have hmf : ∀ (fn : Fn) (first cap : Array Value) (w : World), (Instr.makeFunc fn first cap).run Tryd.prog w = .ok (.func fn first cap) w := fun _ _ _ _ => rfl
  go_enter Tryd.func53, Tryd.ntmps53
  go_wp2_with fail
  go_ret
  exact ⟨rfl, rfl⟩

/-- A byte's number, of those in which the range lies. -/
abbrev PartNo (a e : Nat) := { i : Nat // a / 8 ≤ i ∧ 8 * i < e ∧ a < e }
/-- What a round is handed. -/
def partEnc (a e : Nat) (x : PartNo a e) : Array Value := #[.int .i64 (x.1 : Int), .int .u8 (mkV a e x.1 : Int)]
/-- How many bytes a range lies in. -/
def partN (a e : Nat) : Nat := if a < e then (e + 7) / 8 - a / 8 else 0
/-- What a round that goes on keeps: the boxes. -/
def boxesKp (g h : Nat) (a n : Int) (W W' : World) : Prop := Boxed W g 3 (.int .i64 a) ∧ Boxed W h 3 (.int .i64 n) → Boxed W' g 3 (.int .i64 a) ∧ Boxed W' h 3 (.int .i64 n)
theorem mask_eq (a e i d r : Nat) (hd : d = min e (8 * i + 8) - max a (8 * i)) (hr : r = max a (8 * i) - 8 * i) (h1 : 1 ≤ d) :
    ((2 : Int) ^ d - 1) % 256 * 2 ^ r % 256 = (mkV a e i : Int) := by
  have hm : mkV a e i = (2 ^ d - 1) * 2 ^ r := by unfold mkV; rw [← hd, ← hr]
  rw [hm]
  have hdr : d + r ≤ 8 := by omega
  have hall : (List.range 9).all (fun d => (List.range 8).all fun r => decide (d + r ≤ 8 → 1 ≤ d → ((2 : Int) ^ d - 1) % 256 * 2 ^ r % 256 = (((2 ^ d - 1) * 2 ^ r : Nat) : Int))) = true := by kernel_rfl
  have := List.all_eq_true.mp (List.all_eq_true.mp hall d (List.mem_range.mpr (by omega))) r (List.mem_range.mpr (by omega))
  exact (of_decide_eq_true this) hdr h1
set_option maxRecDepth 100000 in
set_option maxHeartbeats 2000000 in
theorem parts1_stops (F : Fence) (n : Nat) (hfn : F.fn 87) (hro : F.round = none) (hn : 1 ≤ n) (g h a m e : Nat) (he : e = a + m) (w : World)
    (hg : Boxed w g 3 (.int .i64 a)) (hh : Boxed w h 3 (.int .i64 m)) (hbig : e ≤ 140737488355328) :
    SeqStopsK F n Tryd.prog 87 #[.pointer (some ⟨g, 0, none⟩), .pointer (some ⟨h, 0, none⟩)] (partEnc a e) (boxesKp g h a m) (fun xs => xs.map (·.1) = List.range' (a / 8) (partN a e)) (fun _ => True) (partN a e) w := fun l J Jx W hW hJ hJx hY h0 => by
  have hg1 : Boxed W g 3 (.int .i64 a) := (hW.block g hg.lt).trans hg
  have hh1 : Boxed W h 3 (.int .i64 m) := (hW.block h hh.lt).trans hh
  have c0 := hg1.cell
  have c1 := hh1.cell
  have hae1 : -9223372036854775808 ≤ (a : Int) + (m : Int) := by omega
  have hae2 : (a : Int) + (m : Int) ≤ 9223372036854775807 := by omega
  have Hg := Lib.hid (And.intro hg1 hh1)
  clear hg hh hg1 hh1 hW
  refine callsIn_of_wp Tryd.func87 rfl hfn ?_ hro
  simp only [Tryd.ntmps87, List.size_toArray, List.length_cons, List.length_nil, Nat.reduceAdd, Nat.reduceSub, Array.replicate_succ, Array.replicate_zero, List.push_toArray, List.append_toArray, List.nil_append, List.cons_append]
  have Hae : Hid ((a : Int) + (m : Int) = (e : Int)) := Lib.hid (by omega)
  have He := Lib.hid he
  clear he
  gi_wp2
  rw [Hae.out]
  clear hae1 hae2 Hae c0 c1
  gi_loopw [5] (fun p wr => ∃ (pre : List (PartNo a e)) (k fr : Nat), p = .int .i64 (fr : Int) ∧ pre.length = k ∧ pre.map (·.1) = List.range' (a / 8) k ∧ k ≤ partN a e ∧ ((k = 0 ∧ fr = a) ∨ (1 ≤ k ∧ fr = min e (8 * (a / 8 + k)))) ∧ J pre wr ∧ Boxed wr g 3 (.int .i64 a) ∧ Boxed wr h 3 (.int .i64 m))
    (fun p wr => e - (intOf p).toNat)
  case atStart => exact ⟨[], 0, a, rfl, rfl, rfl, Nat.zero_le _, .inl ⟨rfl, rfl⟩, h0, Hg.out.1, Hg.out.2⟩
  case round =>
    obtain ⟨pre, k, fr, rfl, hk, hpre, hkn, hfr, hJs, hb0, hb1⟩ := hrel
    have Hb := Lib.hid (And.intro hb0 hb1)
    have Hpre := Lib.hid hpre
    clear hb0 hb1 hpre Hg
    by_cases hlt : fr < e
    · obtain ⟨i, hi⟩ : ∃ i, i = a / 8 + k := ⟨_, rfl⟩
      have hif : i = fr / 8 := by rcases hfr with ⟨h1, h2⟩ | ⟨h1, h2⟩ <;> omega
      have hfm : fr = max a (8 * i) := by rcases hfr with ⟨h1, h2⟩ | ⟨h1, h2⟩ <;> omega
      have hpn : partN a e = (e + 7) / 8 - a / 8 := by unfold partN; rw [if_pos (by rcases hfr with ⟨h1, h2⟩ | ⟨h1, h2⟩ <;> omega)]
      have hkl : pre.length < partN a e := by rw [hpn]; omega
      have hx : a / 8 ≤ i ∧ 8 * i < e ∧ a < e := by rcases hfr with ⟨h1, h2⟩ | ⟨h1, h2⟩ <;> omega
      obtain ⟨tq, hto⟩ : ∃ t, t = min e (8 * i + 8) := ⟨_, rfl⟩
      obtain ⟨d, hd⟩ : ∃ d, d = tq - fr := ⟨_, rfl⟩
      obtain ⟨r, hr⟩ : ∃ r, r = fr % 8 := ⟨_, rfl⟩
      have hd1 : 1 ≤ d := by omega
      have hd8 : d ≤ 8 := by omega
      have hr8 : r < 8 := by omega
      have hto2 : fr < tq := by omega
      have hto3 : tq ≤ e := by omega
      have hi3 : i ≤ e := by omega
      have hM := mask_eq a e i d r (by omega) (by omega) hd1
      obtain ⟨mk, hmk⟩ : ∃ m, m = mkV a e i := ⟨_, rfl⟩
      rw [← hmk] at hM
      have e1 : (fr : Int) / 8 = (i : Int) := by omega
      have e2 : min (e : Int) (((i : Int) + 1) * 8) = (tq : Int) := by omega
      have e3 : (tq : Int) - (fr : Int) = (d : Int) := by omega
      have e4 : (fr : Int) % 8 = (r : Int) := by omega
      obtain ⟨x, hx1⟩ : ∃ x : PartNo a e, x.1 = i := ⟨⟨i, hx⟩, rfl⟩
      obtain ⟨fn, tmps, assign, body, hy, hR⟩ := hY pre x wr hJs hkl
      dsimp only [partEnc] at hy
      rw [hx1, ← hmk] at hy
      have Hx1 := Lib.hid hx1
      have HR := Lib.hid hR
      have Hto : Hid (tq = min e (8 * (a / 8 + (k + 1)))) := Lib.hid (by omega)
      have Hi := Lib.hid hi
      have Hx := Lib.hid hx
      have Hk := Lib.hid hk
      have HJ := Lib.hid hJs
      have Hkl : Hid (k + 1 ≤ partN a e) := Lib.hid (by omega)
      clear hR hkl hi hif hfm hpn hto hd hr hmk hfr hkn hJs hx hk hx1
      gi_wp2
      refine HR.out.mono ?_
      rintro e' W3 (⟨rfl, hJ3, hk3⟩ | ⟨rfl, hJx3⟩)
      · have hb3 := hk3 Hb.out
        have Hb3 := Lib.hid hb3
        have HJ3 := Lib.hid hJ3
        clear hk3 hb3 hJ3
        gi_wp2
        go_roundw
        case rel => exact ⟨pre ++ [x], k + 1, tq, rfl, by rw [List.length_append, Hk.out]; rfl, by rw [List.map_append, Hpre.out, List.range'_concat, List.map_singleton, Hx1.out, Hi.out, Nat.one_mul], Hkl.out, .inr ⟨by omega, Hto.out⟩, HJ3.out, Hb3.out.1, Hb3.out.2⟩
        case measure => simp [intOf]; omega
      · gi_wp2
        refine bodyPost_ret (results_none rfl _ _ _) rfl ?_
        exact ⟨⟨_, rfl⟩, .inr ⟨pre ++ [x], trivial, hJx3⟩⟩
    · have hkN : k = partN a e := by
        unfold partN at hkn ⊢
        split at hkn
        · rename_i hae
          rw [if_pos hae]
          rcases hfr with ⟨h1, h2⟩ | ⟨h1, h2⟩ <;> omega
        · rename_i hae
          rw [if_neg hae]; omega
      have HN := Lib.hid hkN
      have HJ := Lib.hid hJs
      clear hfr hkn hk hJs hkN
      gi_wp2
      go_end0
      exact ⟨⟨_, rfl⟩, .inl ⟨pre, by rw [Hpre.out, HN.out], HJ.out⟩⟩
end Go.Proofs.YthognmkjoekilaaDoor

/- Layer 3: worlds in which one block alone has changed, and what is new. -/
namespace Go.Proofs.YthognmkjoekilaaDoor
set_option linter.unusedVariables false
open Go.RowKit Go.Shelf

/-- Block g is just these cells. -/
def Blk (w : World) (g : Nat) (t : TypeId) (cs : Array Value) : Prop := w.heap[g]? = some (.cells cs t (0, 0))
section
variable {w w' : World} {g : Nat} {t : TypeId} {cs : Array Value}
theorem Blk.lt (h : Blk w g t cs) : g < w.heap.size := by
  rcases Nat.lt_or_ge g w.heap.size with hlt | hge
  · exact hlt
  · unfold Blk at h; rw [Array.getElem?_eq_none hge] at h; cases h
theorem Blk.cell (h : Blk w g t cs) (i : Nat) : w.cell? ⟨g, i, none⟩ = cs[i]? := cell_of_row w g i cs t (0, 0) h
theorem Blk.frozen (h : Blk w g t cs) (i : Nat) : w.frozen? ⟨g, i, none⟩ = false := by
  unfold Blk at h
  simp [World.frozen?, h]
theorem Blk.set_ (h : Blk w g t cs) (i : Nat) (u : Value) : Blk (w.setCell ⟨g, i, none⟩ u) g t (cs.setIfInBounds i u) := by
  unfold Blk at h ⊢
  simp [World.setCell, Array.getElem?_modify, h]
theorem Blk.below {B : Nat} (h : Blk w g t cs) (hb : Below B w w') (hg : g < B) : Blk w' g t cs := (hb.block g hg).trans h
end
theorem heap_new (w : World) (o : Obj) : (w.alloc o).heap[w.heap.size]? = some o := heap_alloc_new w o
theorem below_drewN {B : Nat} {a w : World} (h : Below B a w) (n : Nat) : Below B a (w.drewN n) := ⟨h.os, h.tape, h.output, h.size, h.block⟩
/-- All but block g, and what lies ahead of it, is as it was. -/
structure But (g : Nat) (W W' : World) : Prop where
  below : Below g W W'
  others : ∀ k, k < W.heap.size → k ≠ g → W'.heap[k]? = W.heap[k]?
section
variable {g : Nat} {W W' W'' : World}
theorem But.refl (g : Nat) (W : World) : But g W W := ⟨Below.refl _ _, fun _ _ _ => rfl⟩
theorem But.size (h : But g W W') : W.heap.size ≤ W'.heap.size := h.below.size
theorem But.trans (h : But g W W') (k : But g W' W'') : But g W W'' :=
  ⟨h.below.trans k.below, fun i hi hg => (k.others i (Nat.lt_of_lt_of_le hi h.size) hg).trans (h.others i hi hg)⟩
theorem But.of_below (h : Below W.heap.size W W') (hg : g ≤ W.heap.size) : But g W W' := ⟨h.mono hg, fun k hk _ => h.block k hk⟩
theorem But.setCell (h : But g W W') (i : Nat) (u : Value) : But g W (W'.setCell ⟨g, i, none⟩ u) :=
  h.trans ⟨(Below.refl g W').setCell (p := ⟨g, i, none⟩) (Nat.le_refl _) u, fun k hk hne => Below.heap_setCell _ _ _ k hne⟩
theorem But.drewN (h : But g W W') (n : Nat) : But g W (W'.drewN n) := ⟨below_drewN h.below n, h.others⟩
theorem But.drew (h : But g W W') : But g W W'.drew := ⟨h.below.drew, h.others⟩
theorem But.alloc (h : But g W W') (hg : g ≤ W'.heap.size) (o : Obj) : But g W (W'.alloc o) :=
  h.trans (But.of_below ((Below.refl _ W').alloc (Nat.le_refl _) o) hg)
theorem But.blk {k : Nat} {t : TypeId} {cs : Array Value} (h : But g W W') (hb : Blk W k t cs) (hne : k ≠ g) : Blk W' k t cs := (h.others k hb.lt hne).trans hb
theorem But.boxed {k : Nat} {t : TypeId} {v : Value} (h : But g W W') (hb : Boxed W k t v) (hne : k ≠ g) : Boxed W' k t v := (h.others k hb.lt hne).trans hb
theorem But.keeps {t : TypeId} {cs : Array Value} (h : But g W W') (hb : Blk W g t cs) : KeepsOthers W W' :=
  ⟨h.size, fun k o hk ho => by
    by_cases e : k = g
    · subst e
      have : some o = some (Obj.cells cs t (0, 0)) := hk.symm.trans hb
      cases this
      cases ho
    · exact (h.others k (Array.getElem?_eq_some_iff.1 hk).1 e).trans hk⟩
theorem But.rd {a : Option Addr} {len cap : Nat} {xs : List Int} (h : But g W W') (hr : Rd W a len cap xs) (hne : ∀ x, a = some x → x.block ≠ g) : Rd W' a len cap xs := by
  refine ⟨hr.hl, hr.hc, hr.hm, hr.hb, hr.hn, fun h0 => ?_⟩
  obtain ⟨b, off, ha, hc⟩ := hr.hr h0
  refine ⟨b, off, ha, fun i hi => ?_⟩
  have hlt := World.block_lt_of_cell? W _ (hc i hi)
  exact (World.cell?_of_block (w := W) (a := ⟨b, off + i, none⟩) (h.others b hlt (hne _ ha))).trans (hc i hi)
end
/-- What a slice owns can be read, and where it lies. -/
theorem Own.rdb {w : World} {B m : Nat} {v : Value} {xs : List Int} (h : Own w B v xs) (hm : xs.length = m) : ∃ a cap, v = .slice a m cap ∧ Rd w a m cap xs ∧ (∀ x, a = some x → ∃ b, x = ⟨b, 0, none⟩ ∧ B ≤ b) := by
  subst hm
  rcases h.1.2 with ⟨rfl, h0⟩ | ⟨g, cap, cur, rfl, hg0, hg, hnc, hcm, hcs, htake⟩
  · obtain rfl : xs = [] := by simpa using h0
    exact ⟨none, 0, rfl, ⟨rfl, Nat.le_refl _, Nat.zero_le _, by simp, fun _ => rfl, by simp⟩, by simp⟩
  · refine ⟨_, cap, rfl, ⟨rfl, hnc, hcm, h.2, (by intro e; cases e), fun _ => ⟨g, 0, rfl, fun i hi => ?_⟩⟩, (by intro x e; cases e; exact ⟨g, rfl, hg0⟩)⟩
    rw [h.1.cellAt (0 + i) (by simpa using hi)]
    rw [Nat.zero_add, getD_at _ _ hi]
    simp [hi]
/-- Block g holds these cells: cells alone. -/
theorem blk_own {β : Type} (g : Nat) (t : TypeId) (f : β → Array Value) : Go.Own (fun s W => Blk W g t (f s)) := fun s X Y row hs hg hrow =>
  (hg.block g hs.lt (fun e => by obtain ⟨o, ho, hc⟩ := hrow g e.symm; have : some o = some (Obj.cells (f s) t (0, 0)) := ho.symm.trans hs; cases this; cases hc)).trans hs
theorem rd_own {β : Type} (a : Option Addr) (len cap : Nat) (xs : List Int) : Go.Own (fun (_ : β) W => Rd W a len cap xs) := fun s X Y row hr hg hrow => by
  refine ⟨hr.hl, hr.hc, hr.hm, hr.hb, hr.hn, fun h0 => ?_⟩
  obtain ⟨b, off, ha, hc⟩ := hr.hr h0
  exact ⟨b, off, ha, fun i hi => cell_kept (hc i hi) hg hrow⟩
theorem ownFrom_but {β : Type} {g B : Nat} {w₀ : World} (hg : g < w₀.heap.size) (hB : w₀.heap.size ≤ B) : OwnFrom B (fun (_ : β) W => But g w₀ W) :=
  fun _ X Y row hs hgr hrow => ⟨hs.below.grown hgr (by have := hs.size; omega) (fun k e => by have := (hrow k e).1; omega), fun k hk hne =>
    (hgr.block k (Nat.lt_of_lt_of_le hk hs.size) (fun e => by have := (hrow k e.symm).1; omega)).trans (hs.others k hk hne)⟩
theorem But.putNew {g : Nat} {W W' : World} (h : But g W W') {D : Nat} {o : Obj} (o' : Obj) (hD : W.heap.size ≤ D) (hg : g < W.heap.size) (hk : W'.heap[D]? = some o) : But g W (W'.putObj D o') :=
  ⟨h.below.grown (grownBy_putObj' W' D o') (by have := h.size; omega) (fun k e => by cases e; omega), fun k hk hne =>
    (World.putObj_heap_other (by omega)).trans (h.others k hk hne)⟩
theorem Blk.putNew {k : Nat} {W : World} {t : TypeId} {cs : Array Value} (h : Blk W k t cs) {D : Nat} (o' : Obj) (hne : k ≠ D) : Blk (W.putObj D o') k t cs := (World.putObj_heap_other hne).trans h
theorem Own.but {g B : Nat} {W W' : World} {v : Value} {xs : List Int} (h : Own W B v xs) (hb : But g W W') (hg : g < B) : Own W' B v xs := by
  refine ⟨⟨h.1.1, ?_⟩, h.2⟩
  rcases h.1.2 with hn | ⟨g', cap, cur, rfl, hg0, hgg, rest⟩
  · exact .inl hn
  · refine .inr ⟨g', cap, cur, rfl, hg0, ?_, rest⟩
    rw [hb.others g' (Array.getElem?_eq_some_iff.1 hgg).1 (by omega)]
    exact hgg
theorem Own.putNew {B D : Nat} {W : World} {v : Value} {xs : List Int} (h : Own W B v xs) {o : Obj} (o' : Obj) (hk : W.heap[D]? = some o) (ho : o.isCells = false) : Own (W.putObj D o') B v xs :=
  ⟨ownsRow_putObj h.1 o' hk ho, h.2⟩

theorem Own.stored {w : World} {B g n cap : Nat} {xs : List Int} (h : Own w B (.slice (some ⟨g, 0, none⟩) n cap) xs) (hn : xs.length = n) (j : Nat) (z : Int) (hz : 0 ≤ z ∧ z ≤ 255) :
    Own (w.setCell ⟨g, j, none⟩ (.int .u8 z)) B (.slice (some ⟨g, 0, none⟩) n cap) (xs.set j z) := by
  subst hn
  refine ⟨?_, fun m hm => ?_⟩
  · rw [List.length_set, List.map_set]
    exact (h.1.stored j (.int .u8 z)).1
  · rcases List.mem_or_eq_of_mem_set hm with hm | rfl
    · exact h.2 m hm
    · exact hz

end Go.Proofs.YthognmkjoekilaaDoor

/- Filling byte by byte, in any order (pure). -/
namespace Go.Proofs.YthognmkjoekilaaDoor
set_option linter.unusedVariables false

theorem fillB_twice (on : Bool) (m : Nat) (x : Int) (hm : m < 256) (hx : 0 ≤ x ∧ x ≤ 255) : fillB on m (fillB on m x) = fillB on m x := by
  have h1 := fillB_bd on m x hm hx
  have h2 := fillB_bd on m _ hm h1
  have : (fillB on m (fillB on m x)).toNat = (fillB on m x).toNat := by
    apply Nat.eq_of_testBit_eq
    intro t
    by_cases ht : t < 8
    · rw [fillB_bit on m _ hm h1 t ht, fillB_bit on m x hm hx t ht]
      split <;> rfl
    · rw [byte_high h2 (by omega), byte_high h1 (by omega)]
  omega
/-- The bytes of a list filled. -/
def fillL (bs : List Int) (a e : Nat) (on : Bool) (l : List Nat) : List Int := (List.range bs.length).map fun i => if i ∈ l then fillB on (mkV a e i) (bs.getD i 0) else bs.getD i 0
theorem fillL_len (bs : List Int) (a e : Nat) (on : Bool) (l : List Nat) : (fillL bs a e on l).length = bs.length := by simp [fillL]
theorem fillL_nil (bs : List Int) (a e : Nat) (on : Bool) : fillL bs a e on [] = bs := by
  apply List.ext_getElem (by simp [fillL])
  intro i h1 h2
  simp [fillL, List.getD, h2]
theorem fillL_get (bs : List Int) (a e : Nat) (on : Bool) (l : List Nat) (i : Nat) (hi : i < bs.length) : (fillL bs a e on l).getD i 0 = if i ∈ l then fillB on (mkV a e i) (bs.getD i 0) else bs.getD i 0 := by
  simp [fillL, List.getD, hi]
theorem fillL_bs {bs : List Int} (h : isBs bs) (a e : Nat) (on : Bool) (l : List Nat) : isBs (fillL bs a e on l) := by
  intro x hx
  unfold fillL at hx
  obtain ⟨i, hi, rfl⟩ := List.mem_map.mp hx
  have hb := h _ (getD_mem (List.mem_range.mp hi))
  split
  · exact fillB_bd _ _ _ (mkV_lt a e i) hb
  · exact hb
theorem fillL_next {bs : List Int} (h : isBs bs) (a e : Nat) (on : Bool) (l : List Nat) (k : Nat) (hk : k < bs.length) :
    fillL bs a e on (l ++ [k]) = (fillL bs a e on l).set k (fillB on (mkV a e k) ((fillL bs a e on l).getD k 0)) := by
  have hb := h _ (getD_mem hk)
  rw [fillL_get bs a e on l k hk]
  apply List.ext_getElem (by simp [fillL])
  intro i h1 h2
  rw [List.getElem_set]
  simp only [fillL, List.getElem_map, List.getElem_range, List.mem_append, List.mem_singleton]
  by_cases hik : k = i
  · subst hik
    rw [if_pos rfl, if_pos (Or.inr rfl)]
    split
    · exact (fillB_twice on _ _ (mkV_lt a e k) hb).symm
    · rfl
  · rw [if_neg hik]
    have : ¬ i = k := fun e => hik e.symm
    simp [this]
theorem fillL_done {bs : List Int} (h : isBs bs) (a e : Nat) (on : Bool) (n : Nat) (hn : a < e → (e + 7) / 8 ≤ a / 8 + n) : fillL bs a e on (List.range' (a / 8) n) = fillV bs a e on := by
  unfold fillL fillV
  apply List.map_congr_left
  intro i hi
  split
  · rfl
  · rename_i hni
    rw [List.mem_range'_1] at hni
    have : mkV a e i = 0 := mkV_none a e i (by omega)
    rw [this]
    exact (fillB_zero _ _ (h _ (getD_mem (List.mem_range.mp hi)))).symm
/-- What the two operations on a byte come to. -/
theorem or_fill (x : Int) (m : Nat) (hm : m < 256) (hx : 0 ≤ x ∧ x ≤ 255) : bits .or .u8 x (m : Int) = fillB true m x := by
  rw [u8_or x m hx.1 (by omega) (by omega) (by omega)]
  unfold fillB
  rw [if_pos rfl, Int.toNat_natCast]
theorem andNot_fill (x : Int) (m : Nat) (hm : m < 256) (hx : 0 ≤ x ∧ x ≤ 255) : bits .andNot .u8 x (m : Int) = fillB false m x := by
  have := u8_andNot_nat x.toNat m (by omega) hm
  rw [show ((x.toNat : Nat) : Int) = x by omega] at this
  rw [this]
  unfold fillB
  rw [if_neg (by simp)]
end Go.Proofs.YthognmkjoekilaaDoor

/- fill: a range of bits is set, or cleared, in bytes of the caller's own. -/
namespace Go.Proofs.YthognmkjoekilaaDoor
set_option linter.unusedVariables false
open Go.RowKit Go.Shelf
attribute [local go_sem] Oper.semAt_some

theorem partN_bd (a e : Nat) : a < e → (e + 7) / 8 ≤ a / 8 + partN a e := fun h => by unfold partN; rw [if_pos h]; omega
theorem boxesKp_but {x g h : Nat} {a n : Int} {W W' : World} (hb : But x W W') (hg : x ≠ g) (hh : x ≠ h) : boxesKp g h a n W W' := fun ⟨h1, h2⟩ => ⟨hb.boxed h1 (Ne.symm hg), hb.boxed h2 (Ne.symm hh)⟩
theorem own_blk {W : World} {B g n cap : Nat} {xs : List Int} (h : Own W B (.slice (some ⟨g, 0, none⟩) n cap) xs) : ∃ cur, W.heap[g]? = some (.cells cur 5 (0, 0)) := by
  rcases h.1.2 with ⟨h1, _⟩ | ⟨g', cap', cur, h1, _, h2, _⟩
  · cases h1
  · simp only [Value.slice.injEq, Option.some.injEq, Addr.mk.injEq] at h1
    obtain ⟨⟨rfl, -⟩, -⟩ := h1
    exact ⟨cur, h2⟩
theorem Own.keeps {W W' : World} {B g n cap : Nat} {xs : List Int} (ho : Own W B (.slice (some ⟨g, 0, none⟩) n cap) xs) (h : But g W W') : KeepsOthers W W' := by
  obtain ⟨cur, hb⟩ := own_blk ho
  exact But.keeps h hb
theorem own_own {β : Type} (B : Nat) (v : Value) (f : β → List Int) : Go.Own (fun s W => Own W B v (f s)) := fun s X Y row ho hg hrow => by
  refine ⟨⟨ho.1.1, ?_⟩, ho.2⟩
  rcases ho.1.2 with hn | ⟨g', cap, cur, rfl, hg0, hgg, rest⟩
  · exact .inl hn
  · refine .inr ⟨g', cap, cur, rfl, hg0, ?_, rest⟩
    refine (hg.block g' (Array.getElem?_eq_some_iff.1 hgg).1 (fun e => ?_)).trans hgg
    obtain ⟨o, ho', hc⟩ := hrow g' e.symm
    have : some o = some (Obj.cells cur 5 (0, 0)) := ho'.symm.trans hgg
    cases this
    cases hc
set_option maxRecDepth 100000 in
set_option maxHeartbeats 4000000 in
theorem fill_some (N : Int) (B g cap : Nat) (bs : List Int) (n : Nat) (a m e : Nat) (on : Bool) (w : World) (hn : bs.length = n) (ho : Own w B (.slice (some ⟨g, 0, none⟩) n cap) bs) (he : e = a + m) (hr : e ≤ 8 * n) (hbig : n ≤ 9000) :
    Calls Tryd.prog 50 #[.agg #[.int .i64 N, .slice (some ⟨g, 0, none⟩) n cap], .int .i64 a, .int .i64 m, .bool on] w fun e' w' => e' = .returned (.tuple #[]) ∧ Own w' B (.slice (some ⟨g, 0, none⟩) n cap) (fillV bs a e on) ∧ But g w w' := by
  have hgl : g < w.heap.size := by
    rcases ho.1.2 with ⟨h1, _⟩ | ⟨g', cap', cur, h1, _, h2, _⟩
    · cases h1
    · simp only [Value.slice.injEq, Option.some.injEq, Addr.mk.injEq] at h1
      obtain ⟨⟨rfl, -⟩, -⟩ := h1
      exact (Array.getElem?_eq_some_iff.1 h2).1
  obtain ⟨W0, hW0⟩ : ∃ W0, W0 = w.alloc (.cells #[.int .i64 N, .slice (some ⟨g, 0, none⟩) n cap] 24) := ⟨_, rfl⟩
  obtain ⟨W1, hW1⟩ : ∃ W1, W1 = W0.alloc (.cells #[.bool on] 4) := ⟨_, rfl⟩
  have hs0 : W0.heap.size = w.heap.size + 1 := by rw [hW0]; simp
  have hs1 : W1.heap.size = w.heap.size + 2 := by rw [hW1]; simp [hs0]
  have hb1 : Below w.heap.size w W1 := by rw [hW1, hW0]; exact ((Below.refl _ w).alloc (Nat.le_refl _) _).alloc (by simp) _
  have hB1 : Blk W1 w.heap.size 24 #[.int .i64 N, .slice (some ⟨g, 0, none⟩) n cap] := by rw [hW1]; exact (Blk.below (heap_new w _ : Blk (w.alloc _) _ _ _) ((Below.refl _ _).alloc (Nat.le_refl _) _) (by simp) : Blk _ _ _ _) |> fun h => by rw [hW0]; exact h
  have hX1 : Boxed W1 (w.heap.size + 1) 4 (.bool on) := by have := Boxed.new W0 4 (.bool on); rw [hs0] at this; rw [hW1]; exact this
  have hbs : isBs bs := ho.2
  have hO1 := ho.below hb1 (Nat.le_refl _)
  have HW0 := Lib.hid hW0
  have HW1 := Lib.hid hW1
  have Hb1 := Lib.hid hb1
  have HB1 := Lib.hid hB1
  have HX1 := Lib.hid hX1
  have Hs1 := Lib.hid hs1
  have Hbs := Lib.hid hbs
  have HO1 := Lib.hid hO1
  have He := Lib.hid he
  have hae1 : -9223372036854775808 ≤ (a : Int) + (m : Int) := by omega
  have hae2 : (a : Int) + (m : Int) ≤ 9223372036854775807 := by omega
  clear hW0 hW1 hb1 hB1 hX1 hs0 hs1 hbs he hO1 ho
  refine (callsIn_wide (n := 9)).1 ?_
  refine callsIn_of_wp_marks Tryd.func50 rfl trivial ?_ rfl
  simp only [Tryd.ntmps50, List.size_toArray, List.length_cons, List.length_nil, Nat.reduceAdd, Nat.reduceSub, Array.replicate_succ, Array.replicate_zero, List.push_toArray, List.append_toArray, List.nil_append, List.cons_append]
  gi_wp2_with fail
  rw [← HW0.out, ← HW1.out]
  refine ⟨trivial, ?_⟩
  refine (callsIn_wide.2 (parts_any a m W1)).mono ?_
  rintro e1 w3 ⟨rfl, hw3⟩
  have hbx0 : Boxed w3 W1.heap.size 3 (.int .i64 a) := by rw [hw3]; exact (Boxed.new W1 _ _).alloc _
  have hbx1 : Boxed w3 (W1.heap.size + 1) 3 (.int .i64 m) := by
    rw [hw3]; have := Boxed.new (W1.alloc (.cells #[.int .i64 a] 3)) 3 (.int .i64 m); rw [World.size_alloc] at this; exact this
  have hb3 : Below W1.heap.size W1 w3 := by rw [hw3]; exact ((Below.refl _ W1).alloc (Nat.le_refl _) _).alloc (by simp) _
  have hs3 : w3.heap.size = W1.heap.size + 2 := by rw [hw3]; unfold rangeBoxes; simp
  have hO3 := HO1.out.below hb3 (Nat.le_refl _)
  have hB3 := HB1.out.below hb3 HB1.out.lt
  have hX3 : Boxed w3 (w.heap.size + 1) 4 (.bool on) := (hb3.block _ HX1.out.lt).trans HX1.out
  have hbut3 : But g w w3 := But.of_below (Hb1.out.trans (hb3.mono (by rw [Hs1.out]; omega))) (by omega)
  have Hbx := Lib.hid (And.intro hbx0 hbx1)
  have HO3 := Lib.hid hO3
  have HB3 := Lib.hid hB3
  have HX3 := Lib.hid hX3
  have Hbut3 := Lib.hid hbut3
  have Hs3 := Lib.hid hs3
  clear hw3 hbx0 hbx1 hb3 hs3 hO3 hB3 hX3 hbut3 HO1 HB1 HX1 HW0 HW1
  gi_wp2_with fail
  refine wpIn_rangeFunc_ownF rfl (by omega) (gf := 87) (lb := #[.pointer (some ⟨W1.heap.size, 0, none⟩), .pointer (some ⟨W1.heap.size + 1, 0, none⟩)]) rfl trivial (enters_of Tryd.func87 (by kernel_rfl) rfl)
    (parts1_stops Fence.wide _ trivial rfl (by omega) W1.heap.size (W1.heap.size + 1) a m e He.out _ Hbx.out.1 Hbx.out.2 (by omega))
    (fun h k hx => k (h hx)) ?kb (Below.refl _ _) (fun _ => rfl)
    (fun pre W => ((Own W B (.slice (some ⟨g, 0, none⟩) n cap) (fillL bs a e on (pre.map (·.1))) ∧ Blk W w.heap.size 24 #[.int .i64 N, .slice (some ⟨g, 0, none⟩) n cap]) ∧ Boxed W (w.heap.size + 1) 4 (.bool on)) ∧ But g w3 W)
    (fun _ _ _ => False)
    ?own (fun _ _ _ _ _ hs _ _ => hs) ?start
    (fun x => { tmps := #[.agg #[.int .i64 N, .slice (some ⟨g, 0, none⟩) n cap], .int .i64 a, .int .i64 m, .bool on, .pointer (some ⟨w.heap.size, 0, none⟩), undef, undef, .pointer (some ⟨w.heap.size + 1, 0, none⟩), .int .i64 (x.1 : Int), .int .u8 (mkV a e x.1 : Int), .int .i64 a, .int .i64 m, .func (.func 87) #[] #[.pointer (some ⟨W1.heap.size, 0, none⟩), .pointer (some ⟨W1.heap.size + 1, 0, none⟩)], .int .i64 (x.1 : Int), .int .u8 (mkV a e x.1 : Int), undef, undef, undef, undef, undef, undef, undef, undef, undef, undef, undef, undef, undef, undef, undef, undef, undef], defers := [] }) ?assign ?body ?done ?stop
  case kb =>
    intro W l o o' hl ho hc _ ⟨h1, h2⟩
    exact ⟨(World.putObj_heap_other (by intro e; subst e; have := ho.symm.trans h1; cases this; cases hc)).trans h1, (World.putObj_heap_other (by intro e; subst e; have := ho.symm.trans h2; cases this; cases hc)).trans h2⟩
  case own =>
    refine OwnFrom.and (OwnFrom.and (OwnFrom.and ((own_own _ _ _).from _) ((blk_own _ _ _).from _)) ((boxed_own _ _ _).from _)) (ownFrom_but ?_ (Nat.le_refl _))
    rw [Hs3.out, Hs1.out]; omega
  case start => exact ⟨⟨⟨by rw [List.map_nil, fillL_nil]; exact HO3.out, HB3.out⟩, HX3.out⟩, But.refl _ _⟩
  case assign =>
    intro l x W K hK
    dsimp only [partEnc]
    gi_wp2
    exact hK
  case body =>
    rintro l pre ⟨i, hx⟩ W ⟨⟨⟨hO, hB⟩, hX⟩, hbut⟩ _
    have hil : i < n := by omega
    have hLl : (fillL bs a e on (pre.map (·.1))).length = n := by rw [fillL_len, hn]
    have hnext := fillL_next Hbs.out a e on (pre.map (·.1)) i (by omega)
    obtain ⟨L, hL⟩ : ∃ L, L = fillL bs a e on (pre.map (·.1)) := ⟨_, rfl⟩
    rw [← hL] at hO hLl hnext
    obtain ⟨X, hXv⟩ : ∃ X, X = L.getD i 0 := ⟨_, rfl⟩
    rw [← hXv] at hnext
    have hXb : 0 ≤ X ∧ X ≤ 255 := by rw [hXv]; exact hO.2 _ (getD_mem (by omega))
    have hmb := mkV_lt a e i
    dsimp only
    obtain ⟨M, hM⟩ : ∃ M, M = mkV a e i := ⟨_, rfl⟩
    rw [← hM] at hnext hmb ⊢
    have hcell : W.cell? ⟨g, i, none⟩ = some (.int .u8 X) := by
      have h1 := hO.1
      rw [hLl] at h1
      rw [h1.cellAt i (by omega), hXv]
      simp [List.getD, show i < L.length by omega]
    have hfro : W.frozen? ⟨g, i, none⟩ = false := by have h1 := hO.1; rw [hLl] at h1; exact h1.frozenAt i
    have hq0 : W.cell? ⟨w.heap.size, 1, none⟩ = some (.slice (some ⟨g, 0, none⟩) n cap) := hB.cell 1
    have hq1 := hX.cell
    have hii : (i : Int) < (n : Int) := by omega
    have hst : ∀ z, 0 ≤ z ∧ z ≤ 255 → Own (W.setCell ⟨g, i, none⟩ (.int .u8 z)) B (.slice (some ⟨g, 0, none⟩) n cap) (L.set i z) := fun z hz => hO.stored hLl i z hz
    have hne1 : w.heap.size ≠ g := by omega
    have hne2 : w.heap.size + 1 ≠ g := by omega
    have Hst := Lib.hid hst
    have Hnext := Lib.hid hnext
    have HO := Lib.hid hO
    have HB := Lib.hid hB
    have HX := Lib.hid hX
    have Hbut := Lib.hid hbut
    have HXb := Lib.hid hXb
    clear hst hnext hO hB hX hbut hXb hL hXv hM Hbx HO3 HB3 HX3 Hbut3
    have fin : ∀ z, 0 ≤ z ∧ z ≤ 255 → z = fillB on M X → KeepsOthers W (W.setCell ⟨g, i, none⟩ (.int .u8 z)) ∧ boxesKp W1.heap.size (W1.heap.size + 1) a m W (W.setCell ⟨g, i, none⟩ (.int .u8 z)) ∧
        ((Own (W.setCell ⟨g, i, none⟩ (.int .u8 z)) B (.slice (some ⟨g, 0, none⟩) n cap) (fillL bs a e on ((pre ++ [(⟨i, hx⟩ : PartNo a e)]).map (·.1))) ∧ Blk (W.setCell ⟨g, i, none⟩ (.int .u8 z)) w.heap.size 24 #[.int .i64 N, .slice (some ⟨g, 0, none⟩) n cap]) ∧ Boxed (W.setCell ⟨g, i, none⟩ (.int .u8 z)) (w.heap.size + 1) 4 (.bool on)) ∧ But g w3 (W.setCell ⟨g, i, none⟩ (.int .u8 z)) := by
      intro z hz hze
      have hbb := (But.refl g W).setCell i (.int .u8 z)
      have hs1 := Hs1.out
      refine ⟨HO.out.keeps hbb, boxesKp_but hbb (by omega) (by omega), ⟨⟨?_, hbb.blk HB.out hne1⟩, hbb.boxed HX.out hne2⟩, Hbut.out.setCell i _⟩
      rw [List.map_append, List.map_singleton, Hnext.out, ← hze]
      exact Hst.out z hz
    have Fin := Lib.hid fin
    clear fin
    cases on with
    | true =>
      have hor := or_fill X M hmb HXb.out
      have hzb := fillB_bd true M X hmb HXb.out
      obtain ⟨z, hz⟩ : ∃ z, z = fillB true M X := ⟨_, rfl⟩
      rw [← hz] at hor hzb
      have Hzb := Lib.hid hzb
      have Hz := Lib.hid hz
      clear hzb hz
      gi_wp2_with fail
      exact Fin.out z Hzb.out Hz.out
    | false =>
      have hor := andNot_fill X M hmb HXb.out
      have hzb := fillB_bd false M X hmb HXb.out
      obtain ⟨z, hz⟩ : ∃ z, z = fillB false M X := ⟨_, rfl⟩
      rw [← hz] at hor hzb
      have Hzb := Lib.hid hzb
      have Hz := Lib.hid hz
      clear hzb hz
      gi_wp2_with fail
      exact Fin.out z Hzb.out Hz.out
  case done =>
    rintro D xs W hD hS ⟨⟨⟨hO, hB⟩, hX⟩, hbut⟩ hK
    rw [hS, fillL_done Hbs.out a e on _ (partN_bd a e)] at hO
    have HO := Lib.hid hO
    have Hbut := Lib.hid (Hbut3.out.trans hbut)
    have HK := Lib.hid hK
    clear hO hB hX hbut hK hS Hbx HO3 HB3 HX3
    gi_wp2_with fail
    refine ⟨by simp, .inl ⟨_, _, rfl, run_takeDeferred HK.out, ?_⟩⟩
    exact ⟨_, results_none rfl _ _ _, rfl, HO.out.putNew _ HK.out rfl, Hbut.out.putNew _ (by have := Hs3.out; have := Hs1.out; omega) hgl HK.out⟩
  case stop =>
    rintro D c pre W _ _ h _
    exact h.elim
end Go.Proofs.YthognmkjoekilaaDoor

/- Which bitmaps are valid (pure). -/
namespace Go.Proofs.YthognmkjoekilaaDoor
set_option linter.unusedVariables false

/-- A valid bitmap. -/
def validB (N : Int) (bs : List Int) : Bool := decide (0 ≤ N) && decide (N ≤ 65536) && decide ((bs.length : Int) = (N + 7) / 8) && (List.range (8 * bs.length)).all fun j => decide (j < N.toNat) || !bitV bs j
theorem validB_iff (N : Int) (bs : List Int) : validB N bs = true ↔ 0 ≤ N ∧ N ≤ 65536 ∧ (bs.length : Int) = (N + 7) / 8 ∧ ∀ j, N.toNat ≤ j → j < 8 * bs.length → bitV bs j = false := by
  unfold validB
  simp only [Bool.and_eq_true, decide_eq_true_eq, List.all_eq_true, List.mem_range, Bool.or_eq_true, Bool.not_eq_true']
  constructor
  · rintro ⟨⟨⟨h1, h2⟩, h3⟩, h4⟩
    exact ⟨h1, h2, h3, fun j hj hl => by rcases h4 j hl with h | h; omega; exact h⟩
  · rintro ⟨h1, h2, h3, h4⟩
    exact ⟨⟨⟨h1, h2⟩, h3⟩, fun j hl => by
      by_cases h : j < N.toNat
      · exact .inl h
      · exact .inr (h4 j (by omega) hl)⟩
theorem byte_clean {bs : List Int} (h : isBs bs) (a e i : Nat) (hi : i < bs.length) : (bs.getD i 0).toNat &&& mkV a e i = 0 ↔ ∀ j, j / 8 = i → a ≤ j → j < e → bitV bs j = false := by
  constructor
  · intro h0 j hj h1 h2
    have : ((bs.getD i 0).toNat &&& mkV a e i).testBit (j % 8) = false := by rw [h0]; exact Nat.zero_testBit _
    rw [Nat.testBit_and, mkV_bit a e i _ (by omega)] at this
    unfold bitV
    rw [hj]
    simpa [show 8 * i + j % 8 = j by omega, h1, h2] using this
  · intro hj
    apply Nat.eq_of_testBit_eq
    intro t
    rw [Nat.zero_testBit, Nat.testBit_and]
    by_cases ht : t < 8
    · rw [mkV_bit a e i t ht]
      by_cases hr : a ≤ 8 * i + t ∧ 8 * i + t < e
      · have := hj (8 * i + t) (by omega) hr.1 hr.2
        unfold bitV at this
        rw [show (8 * i + t) / 8 = i by omega, show (8 * i + t) % 8 = t by omega] at this
        rw [this]; rfl
      · simp [hr]
    · have : (mkV a e i).testBit t = false := by
        apply Nat.testBit_lt_two_pow
        have := Nat.pow_le_pow_right (show 0 < 2 by decide) (show 8 ≤ t by omega)
        have := mkV_lt a e i
        omega
      rw [this, Bool.and_false]
/-- The spare bits are clear, where no byte has one. -/
theorem spare_clean {bs : List Int} (h : isBs bs) (N : Nat) (n : Nat) (hn : N < 8 * bs.length → (8 * bs.length + 7) / 8 ≤ N / 8 + n) (hx : ∀ i, i ∈ List.range' (N / 8) n → i < bs.length → (bs.getD i 0).toNat &&& mkV N (8 * bs.length) i = 0) :
    ∀ j, N ≤ j → j < 8 * bs.length → bitV bs j = false := by
  intro j h1 h2
  have hm : j / 8 ∈ List.range' (N / 8) n := by rw [List.mem_range'_1]; omega
  exact (byte_clean h N _ (j / 8) (by omega)).mp (hx _ hm (by omega)) j rfl h1 h2
end Go.Proofs.YthognmkjoekilaaDoor

/- spare: the bits behind the last one. -/
namespace Go.Proofs.YthognmkjoekilaaDoor
set_option linter.unusedVariables false
open Go.RowKit Go.Shelf

set_option maxRecDepth 100000 in
set_option maxHeartbeats 1000000 in
theorem spare_any (N : Nat) (a : Option Addr) (len cap : Nat) (w : World) (h1 : N ≤ 8 * len) (h2 : len ≤ 9000) :
    Calls Tryd.prog 65 #[.agg #[.int .i64 N, .slice a len cap]] w fun e w' => e = .returned (.func (.func 87) #[] #[.pointer (some ⟨w.heap.size + 1, 0, none⟩), .pointer (some ⟨w.heap.size + 2, 0, none⟩)]) ∧
      w' = rangeBoxes (w.alloc (.cells #[.int .i64 N, .slice a len cap] 24)) N ((8 * len - N : Nat) : Int) := by
  obtain ⟨W0, hW0⟩ : ∃ W0, W0 = w.alloc (.cells #[.int .i64 N, .slice a len cap] 24) := ⟨_, rfl⟩
  have hB : Blk W0 w.heap.size 24 #[.int .i64 N, .slice a len cap] := by rw [hW0]; exact heap_new w _
  have q0 : W0.cell? ⟨w.heap.size, 0, none⟩ = some (.int .i64 N) := hB.cell 0
  have q1 : W0.cell? ⟨w.heap.size, 1, none⟩ = some (.slice a len cap) := hB.cell 1
  have hs : W0.heap.size = w.heap.size + 1 := by rw [hW0]; simp
  have e1 : (len : Int) * 8 - (N : Int) = ((8 * len - N : Nat) : Int) := by omega
  have HW := Lib.hid hW0
  have Hs := Lib.hid hs
  rw [← hW0]
  clear hW0 hB hs
  go_enter Tryd.func65, Tryd.ntmps65
  go_upto_region 1 with fail
  rw [← HW.out]
  go_wp2_with fail
  refine (parts_any N _ W0).mono ?_
  rintro e w1 ⟨rfl, rfl⟩
  rw [Hs.out]
  go_wp2_with fail
  go_ret
  exact ⟨rfl, rfl⟩
end Go.Proofs.YthognmkjoekilaaDoor

/- valid, and Check: which bitmaps are valid. -/
namespace Go.Proofs.YthognmkjoekilaaDoor
set_option linter.unusedVariables false
open Go.RowKit Go.Shelf
attribute [local go_sem] Oper.semAt_some

theorem quiet_left {P : Program} {f : FuncId} {args : Array Value} {w : World} {n : Nat} {v : Value}
    (h : Calls P f args (w.drewN n) fun e w' => e = .returned v ∧ w.drewN n = w') : Calls P f args (w.drewN n) fun e w'' => e = .returned v ∧ ∃ m, w'' = w.drewN m :=
  h.mono fun _ _ ⟨he, hm⟩ => ⟨he, n, hm.symm⟩
theorem quiet_add_left {P : Program} {f : FuncId} {args : Array Value} {w : World} {a n : Nat} {v : Value}
    (h : Calls P f args (w.drewN (a + n)) fun e w' => e = .returned v ∧ w.drewN (a + n) = w') :
    Calls P f args (w.drewN (a + n)) fun e w'' => e = .returned v ∧ ∃ m, w'' = w.drewN (a + m) :=
  h.mono fun _ _ ⟨he, hm⟩ => ⟨he, n, hm.symm⟩
theorem size_no (n : Int) (h : ¬ (0 ≤ n ∧ n ≤ 65536)) (w : World) : Calls Tryd.prog 60 #[.int .i64 n] w fun e w' => e = .returned (.bool false) ∧ w = w' := by
  have := size_any n w
  rw [show (decide (0 ≤ n) && decide (n ≤ 65536)) = false by simp; omega] at this
  exact this
theorem size_yes (n : Int) (h : 0 ≤ n ∧ n ≤ 65536) (w : World) : Calls Tryd.prog 60 #[.int .i64 n] w fun e w' => e = .returned (.bool true) ∧ w = w' := by
  have := size_any n w
  rw [show (decide (0 ≤ n) && decide (n ≤ 65536)) = true by simp; omega] at this
  exact this
/-- A bitmap in memory. -/
def valB (N : Int) (a : Option Addr) (len cap : Nat) : Value := .agg #[.int .i64 N, .slice a len cap]
set_option maxRecDepth 100000 in
set_option maxHeartbeats 4000000 in
theorem valid_any (N : Int) (a : Option Addr) (len cap : Nat) (bs : List Int) (w : World) (hr : Rd w a len cap bs) (hN1 : -9223372036854775808 ≤ N) (hN2 : N ≤ 9223372036854775807) :
    Calls Tryd.prog 54 #[.agg #[.int .i64 N, .slice a len cap]] w fun e w' => e = .returned (.bool (validB N bs)) ∧ Below w.heap.size w w' := by
  have hl := hr.hl
  obtain ⟨W1, hW1⟩ : ∃ W1, W1 = (w.alloc (.cells #[.int .i64 N, .slice a len cap] 24)).alloc (.cells #[.bool false] 4) := ⟨_, rfl⟩
  have hs1 : W1.heap.size = w.heap.size + 2 := by rw [hW1]; simp
  have hb1 : Below w.heap.size w W1 := by rw [hW1]; exact ((Below.refl _ w).alloc (Nat.le_refl _) _).alloc (by simp) _
  have hB1 : Blk W1 w.heap.size 24 #[.int .i64 N, .slice a len cap] := by rw [hW1]; exact Blk.below (heap_new w _ : Blk (w.alloc _) _ _ _) ((Below.refl _ _).alloc (Nat.le_refl _) _) (by simp)
  have hX1 : Boxed W1 (w.heap.size + 1) 4 (.bool false) := by
    rw [hW1]; have := Boxed.new (w.alloc (.cells #[.int .i64 N, .slice a len cap] 24)) 4 (.bool false); rw [World.size_alloc] at this; exact this
  have q0 : W1.cell? ⟨w.heap.size, 0, none⟩ = some (.int .i64 N) := hB1.cell 0
  have q1 : W1.cell? ⟨w.heap.size, 1, none⟩ = some (.slice a len cap) := hB1.cell 1
  have x0 := hX1.cell
  have x1 := hX1.frozen
  have HW1 := Lib.hid hW1
  have HR := Lib.hid hr
  have Hb1 := Lib.hid hb1
  have HB1 := Lib.hid hB1
  have HX1 := Lib.hid hX1
  have Hs1 := Lib.hid hs1
  clear hW1 hr hb1 hB1 hX1 hs1
  by_cases hN : 0 ≤ N ∧ N ≤ 65536
  · have HN := Lib.hid hN
    clear hN
    by_cases hL : (len : Int) = (N + 7) / 8
    · have HL := Lib.hid hL
      have hq : ((len : Int) != (N + 7) / 8) = false := by simp [hL]
      clear hL
      refine (callsIn_wide (n := 9)).1 ?_
      refine callsIn_of_wp_marks Tryd.func54 rfl trivial ?_ rfl
      simp only [Tryd.ntmps54, List.size_toArray, List.length_cons, List.length_nil, Nat.reduceAdd, Nat.reduceSub, Array.replicate_succ, Array.replicate_zero, List.push_toArray, List.append_toArray, List.nil_append, List.cons_append]
      gi_wp2_with fail
      rw [← HW1.out]
      refine wpIn_wide.2 ?_
      go_quiet ((first | (go_at_call 60; first | exact quiet_add_left (size_yes N HN.out _) | exact quiet_left (size_yes N HN.out _)) | (go_at_call 88; first | exact quiet_add_left (bytesFor_any N _ HN.out.1 HN.out.2) | exact quiet_left (bytesFor_any N _ HN.out.1 HN.out.2))))
      obtain ⟨V, hV⟩ : ∃ V, V = W1.drewN nq := ⟨_, rfl⟩
      have hbV : Below w.heap.size w V := by rw [hV]; exact below_drewN Hb1.out nq
      have hBV : Blk V w.heap.size 24 #[.int .i64 N, .slice a len cap] := by rw [hV]; exact HB1.out
      have hXV : Boxed V (w.heap.size + 1) 4 (.bool false) := by rw [hV]; exact HX1.out
      have hsV : V.heap.size = w.heap.size + 2 := by rw [hV]; exact Hs1.out
      have q0 : V.cell? ⟨w.heap.size, 0, none⟩ = some (.int .i64 N) := hBV.cell 0
      have q1 : V.cell? ⟨w.heap.size, 1, none⟩ = some (.slice a len cap) := hBV.cell 1
      rw [← hV]
      have HbV := Lib.hid hbV
      have HBV := Lib.hid hBV
      have HXV := Lib.hid hXV
      have HsV := Lib.hid hsV
      obtain ⟨M, hM⟩ := Int.eq_ofNat_of_zero_le HN.out.1
      obtain ⟨E, hE⟩ : ∃ E, E = 8 * len := ⟨_, rfl⟩
      have hML : M ≤ 8 * len := by have := HL.out; omega
      have hl9 : len ≤ 9000 := by have := HL.out; have := HN.out; omega
      have HM := Lib.hid hM
      have HE := Lib.hid hE
      clear hV hbV hBV hXV hsV x0 x1 HB1 HX1 Hs1 Hb1 HW1 hM hE
      gi_wp2_with fail
      refine ⟨trivial, ?_⟩
      have C := spare_any M a len cap V hML hl9
      rw [show ((M : Nat) : Int) = N from HM.out.symm] at C
      refine (callsIn_wide.2 C).mono ?_
      clear C
      rintro e1 w3 ⟨rfl, hw3⟩
      obtain ⟨V1, hV1⟩ : ∃ V1, V1 = V.alloc (.cells #[.int .i64 N, .slice a len cap] 24) := ⟨_, rfl⟩
      rw [← hV1] at hw3
      have hsV1 : V1.heap.size = V.heap.size + 1 := by rw [hV1]; simp
      have hbx0 : Boxed w3 (V.heap.size + 1) 3 (.int .i64 (M : Int)) := by rw [hw3, ← hsV1, ← HM.out]; exact (Boxed.new V1 _ _).alloc _
      have hbx1 : Boxed w3 (V.heap.size + 2) 3 (.int .i64 ((8 * len - M : Nat) : Int)) := by
        rw [hw3]; have := Boxed.new (V1.alloc (.cells #[.int .i64 N] 3)) 3 (.int .i64 ((8 * len - M : Nat) : Int)); rw [World.size_alloc, hsV1] at this; exact this
      have hb3 : Below V.heap.size V w3 := by rw [hw3, hV1]; exact (((Below.refl _ V).alloc (Nat.le_refl _) _).alloc (by simp) _).alloc (by simp; omega) _
      have hbw3 := HbV.out.trans (hb3.mono HbV.out.size)
      have hB3 := HBV.out.below hb3 HBV.out.lt
      have hX3 : Boxed w3 (w.heap.size + 1) 4 (.bool false) := (hb3.block _ HXV.out.lt).trans HXV.out
      have hR3 := HR.out.below hbw3 (Nat.le_refl _)
      have Hbx := Lib.hid (And.intro hbx0 hbx1)
      have Hb3 := Lib.hid hbw3
      have HB3 := Lib.hid hB3
      have HX3 := Lib.hid hX3
      have HR3 := Lib.hid hR3
      have hs3 : w.heap.size + 2 ≤ w3.heap.size := by have := hb3.size; have := HsV.out; omega
      clear hw3 hV1 hsV1 hbx0 hbx1 hb3 hbw3 hB3 hX3 hR3 HbV HBV HXV HR q0 q1
      gi_wp2_with fail
      refine wpIn_rangeFunc_ownF rfl (by omega) (gf := 87) (lb := #[.pointer (some ⟨V.heap.size + 1, 0, none⟩), .pointer (some ⟨V.heap.size + 2, 0, none⟩)]) rfl trivial (enters_of Tryd.func87 (by kernel_rfl) rfl)
        (parts1_stops Fence.wide _ trivial rfl (by omega) (V.heap.size + 1) (V.heap.size + 2) M (8 * len - M) E (by have := HE.out; omega) _ Hbx.out.1 Hbx.out.2 (by have := HE.out; omega))
        (fun h k hx => k (h hx)) ?kb (Below.refl _ _) (fun _ => rfl)
        (fun pre W => ((Boxed W (w.heap.size + 1) 4 (.bool false) ∧ ∀ i, i ∈ pre.map (·.1) → i < bs.length → (bs.getD i 0).toNat &&& mkV M E i = 0) ∧ Below w3.heap.size w3 W))
        (fun c pre W => (Boxed W (w.heap.size + 1) 4 (.bool false) ∧ c = .ret ∧ validB N bs = false) ∧ Below w.heap.size w W)
        ?own ?ownx ?start
        (fun x => { tmps := #[.agg #[.int .i64 N, .slice a len cap], .pointer (some ⟨w.heap.size, 0, none⟩), .pointer (some ⟨w.heap.size + 1, 0, none⟩), .int .i64 (x.1 : Int), .int .u8 (mkV M E x.1 : Int), .pointer (some ⟨w.heap.size, 0, none⟩), .int .i64 N, .bool true, .bool false, .bool false, .pointer (some ⟨w.heap.size, 1, none⟩), .slice a len cap, .int .i64 len, .pointer (some ⟨w.heap.size, 0, none⟩), .int .i64 N, .int .i64 ((N + 7) / 8), .bool false, .bool false, .agg #[.int .i64 N, .slice a len cap], .func (.func 87) #[] #[.pointer (some ⟨V.heap.size + 1, 0, none⟩), .pointer (some ⟨V.heap.size + 2, 0, none⟩)], .int .i64 (x.1 : Int), .int .u8 (mkV M E x.1 : Int), undef, undef, undef, undef, undef, undef, undef, undef], defers := [] }) ?assign ?body ?done ?stop
      case kb =>
        intro W l o o' hl ho hc _ ⟨h1, h2⟩
        exact ⟨(World.putObj_heap_other (by intro e; subst e; have := ho.symm.trans h1; cases this; cases hc)).trans h1, (World.putObj_heap_other (by intro e; subst e; have := ho.symm.trans h2; cases this; cases hc)).trans h2⟩
      case own => exact OwnFrom.and (OwnFrom.and ((boxed_own _ _ _).from _) (fun _ _ _ _ hs _ _ => hs)) (ownFrom_below (Nat.le_refl _) (Nat.le_refl _))
      case ownx => exact fun c => OwnFrom.and (OwnFrom.and ((boxed_own _ _ _).from _) (fun _ _ _ _ hs _ _ => hs)) (ownFrom_below (by omega) (by omega))
      case start => exact ⟨⟨HX3.out, by simp⟩, Below.refl _ _⟩
      case assign =>
        intro l x W K hK
        dsimp only [partEnc]
        gi_wp2
        exact hK
      case body =>
        rintro l pre ⟨i, hx⟩ W ⟨⟨hX, hall⟩, hbb⟩ _
        have hil : i < len := by have := HE.out; omega
        have hRW := HR3.out.below hbb (Nat.le_refl _)
        obtain ⟨b, off, rfl, hcl⟩ := hRW.hr (by omega)
        have hcell := hcl i hil
        have hbs := hRW.hb
        have hlb := hRW.hl
        have hcp := hRW.hc
        have hcm := hRW.hm
        unfold maxLen at hcm
        have hXb := hbs _ (getD_mem (bs := bs) (i := i) (by omega))
        have hclean := byte_clean hbs M E i (by omega)
        dsimp only
        obtain ⟨X, hXv⟩ : ∃ X, X = bs.getD i 0 := ⟨_, rfl⟩
        have hmb := mkV_lt M E i
        obtain ⟨K, hKv⟩ : ∃ K, K = mkV M E i := ⟨_, rfl⟩
        obtain ⟨Z, hZ⟩ : ∃ Z, Z = X.toNat &&& K := ⟨_, rfl⟩
        rw [← hXv, ← hKv, ← hZ] at hclean
        rw [← hXv] at hXb hcell
        rw [← hKv] at hmb ⊢
        have hand : bits .and .u8 X (K : Int) = (Z : Int) := by rw [u8_and X K hXb.1 (by omega) (by omega) (by omega), Int.toNat_natCast, ← hZ]
        have hqB : W.cell? ⟨w.heap.size, 1, none⟩ = some (.slice (some ⟨b, off, none⟩) len cap) := (HB3.out.below hbb HB3.out.lt).cell 1
        have x0 := hX.cell
        have x1 := hX.frozen
        have hii : (i : Int) < (len : Int) := by omega
        have HX := Lib.hid hX
        have Hbb := Lib.hid hbb
        have Hall := Lib.hid hall
        have Hclean := Lib.hid hclean
        have HZ := Lib.hid (And.intro hXv (And.intro hKv hZ))
        have Hlb := Lib.hid hlb
        clear hX hbb hall hclean hXv hKv hZ hcl hRW hbs hcp hcm HB3 HX3 Hbx hlb
        by_cases h0 : Z = 0
        · have hz : ((Z : Int) != 0) = false := by simp [h0]
          have H0 := Lib.hid h0
          clear h0
          gi_wp2_with fail
          refine ⟨KeepsOthers.refl _, fun h => h, ⟨HX.out, fun j hj hl => ?_⟩, Hbb.out⟩
          rw [List.map_append, List.mem_append] at hj
          rcases hj with hj | hj
          · exact Hall.out j hj hl
          · have hji : j = i := by simpa using hj
            subst hji
            rw [← HZ.out.1, ← HZ.out.2.1, ← HZ.out.2.2]; exact H0.out
        · have hz : ((Z : Int) != 0) = true := by simpa using h0
          have H0 := Lib.hid h0
          clear h0
          gi_wp2_with fail
          have hbx := HX.out.set (.bool false)
          refine ⟨(But.setCell (But.refl (w.heap.size + 1) W) 0 _).keeps (show Blk W (w.heap.size + 1) 4 #[.bool false] from HX.out), ⟨hbx, rfl, ?_⟩, (Hb3.out.trans (Hbb.out.mono (by omega))).setCell (by simp) _⟩
          cases hv : validB N bs with
          | false => rfl
          | true =>
            exfalso
            obtain ⟨v1, v2, v3, v4⟩ := (validB_iff N bs).mp hv
            refine H0.out (Hclean.out.mpr (fun j hj h1 h2 => v4 j (by have := HM.out; omega) (by have := HE.out; have := Hlb.out; omega)))
      case done =>
        rintro D xs W hD hS ⟨⟨hX, hall⟩, hbb⟩ hK
        have hv : validB N bs = true := by
          rw [validB_iff]
          refine ⟨HN.out.1, HN.out.2, by have := HL.out; omega, ?_⟩
          have e1 : N.toNat = M := by rw [HM.out]; rfl
          have e2 : E = 8 * bs.length := by rw [HE.out, hl]
          rw [e1]
          rw [hS] at hall
          rw [e2] at hall
          exact spare_clean HR3.out.hb M _ (fun h => partN_bd M (8 * bs.length) h) hall
        have Hv := Lib.hid hv
        have x0 := hX.cell
        have x1 := hX.frozen
        have hDw : w.heap.size + 1 ≠ D := by omega
        have HX := Lib.hid hX
        have Hbb := Lib.hid (Hb3.out.trans (hbb.mono (by omega)))
        have HK := Lib.hid hK
        clear hX hall hbb hK hS hv HB3 HX3 Hbx
        gi_wp2_with fail
        have hX := HX.out.set (.bool true)
        have hb := Hbb.out.setCell (p := ⟨w.heap.size + 1, 0, none⟩) (by simp) (.bool true)
        have hk : (W.setCell ⟨w.heap.size + 1, 0, none⟩ (.bool true)).heap[D]? = some (.deferred (some [])) := (heap_setCell_other W ⟨w.heap.size + 1, 0, none⟩ D _ (by simp; omega)).trans HK.out
        clear x0 x1
        generalize W.setCell ⟨w.heap.size + 1, 0, none⟩ (.bool true) = w4 at *
        refine ⟨by simp, .inl ⟨_, _, rfl, run_takeDeferred hk, ?_⟩⟩
        have z0 : (w4.putObj D (.deferred none)).cell? ⟨w.heap.size + 1, 0, none⟩ = some (.bool true) := (show Boxed (w4.putObj D (.deferred none)) (w.heap.size + 1) 4 (.bool true) from (World.putObj_heap_other hDw).trans hX).cell
        have hb5 : Below w.heap.size w (w4.putObj D (.deferred none)) := hb.trans (belowK_b (w := w) (Nat.le_refl _) w4 D _ _ (by omega) hk rfl rfl)
        have HZ := Lib.hid hb5
        clear hb5 hX hb hk
        simp [LeavesInM, LeavesIn, results, Tryd.results54, go_sem, z0, Hv.out]
        exact HZ.out
      case stop =>
        rintro D c pre W hD _ ⟨⟨hX, rfl, hv⟩, hb⟩ hK
        have Hv := Lib.hid hv
        have hDw : w.heap.size + 1 ≠ D := by omega
        have HX := Lib.hid hX
        have Hb := Lib.hid hb
        have HK := Lib.hid hK
        clear hX hb hK hv HB3 HX3 Hbx
        gi_wp2_with fail
        refine ⟨by simp, .inl ⟨_, _, rfl, run_takeDeferred HK.out, ?_⟩⟩
        have z0 : (W.putObj D (.deferred none)).cell? ⟨w.heap.size + 1, 0, none⟩ = some (.bool false) := (show Boxed (W.putObj D (.deferred none)) (w.heap.size + 1) 4 (.bool false) from (World.putObj_heap_other hDw).trans HX.out).cell
        have HZ : Hid (Below w.heap.size w (W.putObj D (.deferred none))) := Lib.hid (Hb.out.trans (belowK_b (w := w) (Nat.le_refl _) W D _ _ (by omega) HK.out rfl rfl))
        simp [LeavesInM, LeavesIn, results, Tryd.results54, go_sem, z0, Hv.out]
        exact HZ.out
    · have hv : validB N bs = false := by
        cases h : validB N bs with
        | false => rfl
        | true => have := (validB_iff N bs).mp h; omega
      rw [hv]
      have hq : ((len : Int) != (N + 7) / 8) = true := by simpa using hL
      clear hL hv
      refine (callsIn_wide (n := 9)).1 ?_
      refine callsIn_of_wp_marks Tryd.func54 rfl trivial ?_ rfl
      simp only [Tryd.ntmps54, List.size_toArray, List.length_cons, List.length_nil, Nat.reduceAdd, Nat.reduceSub, Array.replicate_succ, Array.replicate_zero, List.push_toArray, List.append_toArray, List.nil_append, List.cons_append]
      gi_wp2_with fail
      rw [← HW1.out]
      refine wpIn_wide.2 ?_
      go_quiet ((first | (go_at_call 60; first | exact quiet_add_left (size_yes N HN.out _) | exact quiet_left (size_yes N HN.out _)) | (go_at_call 88; first | exact quiet_add_left (bytesFor_any N _ HN.out.1 HN.out.2) | exact quiet_left (bytesFor_any N _ HN.out.1 HN.out.2))))
      gi_wp2_with fail
      have hX := (show Boxed (W1.drewN nq) (w.heap.size + 1) 4 (.bool false) from HX1.out).set (.bool false)
      have z0 := hX.cell
      have hb := (below_drewN Hb1.out nq).setCell (p := ⟨w.heap.size + 1, 0, none⟩) (by simp) (.bool false)
      generalize (W1.drewN nq).setCell ⟨w.heap.size + 1, 0, none⟩ (.bool false) = w3 at *
      have HZ := Lib.hid hb
      clear hb hX
      simp [bodyPostM, LeavesInM, LeavesIn, results, Tryd.results54, go_sem, z0]
      exact HZ.out
  · have hv : validB N bs = false := by
      cases h : validB N bs with
      | false => rfl
      | true => have := (validB_iff N bs).mp h; omega
    rw [hv]
    have HN := Lib.hid hN
    clear hN
    refine (callsIn_wide (n := 9)).1 ?_
    refine callsIn_of_wp_marks Tryd.func54 rfl trivial ?_ rfl
    simp only [Tryd.ntmps54, List.size_toArray, List.length_cons, List.length_nil, Nat.reduceAdd, Nat.reduceSub, Array.replicate_succ, Array.replicate_zero, List.push_toArray, List.append_toArray, List.nil_append, List.cons_append]
    gi_wp2_with fail
    rw [← HW1.out]
    refine wpIn_wide.2 ?_
    go_quiet ((go_at_call 60; first | exact quiet_add_left (size_no N HN.out _) | exact quiet_left (size_no N HN.out _)))
    gi_wp2_with fail
    have hX := (show Boxed (W1.drewN nq) (w.heap.size + 1) 4 (.bool false) from HX1.out).set (.bool false)
    have z0 := hX.cell
    have hb := (below_drewN Hb1.out nq).setCell (p := ⟨w.heap.size + 1, 0, none⟩) (by simp) (.bool false)
    generalize (W1.drewN nq).setCell ⟨w.heap.size + 1, 0, none⟩ (.bool false) = w3 at *
    have HZ := Lib.hid hb
    clear hb hX
    simp [bodyPostM, LeavesInM, LeavesIn, results, Tryd.results54, go_sem, z0]
    exact HZ.out
end Go.Proofs.YthognmkjoekilaaDoor

/- needValid, needRange, needPlace: what they let by, and why they end a call. -/
namespace Go.Proofs.YthognmkjoekilaaDoor
set_option linter.unusedVariables false
open Go.RowKit Go.Shelf

/-- What Check answers. -/
def chkE (N : Int) (bs : List Int) : Int := if validB N bs then 0 else 9
section
variable (N : Int) (a : Option Addr) (len cap : Nat) (bs : List Int) (w : World) (hr : Rd w a len cap bs) (hN1 : -9223372036854775808 ≤ N) (hN2 : N ≤ 9223372036854775807)
include hr hN1 hN2
set_option maxRecDepth 100000 in
set_option maxHeartbeats 1000000 in
theorem check_any : Calls Tryd.prog 18 #[.agg #[.int .i64 N, .slice a len cap]] w fun e w' => e = .returned (.int .i64 (chkE N bs)) ∧ Below w.heap.size w w' := by
  obtain ⟨W0, hW0⟩ : ∃ W0, W0 = w.alloc (.cells #[.int .i64 N, .slice a len cap] 24) := ⟨_, rfl⟩
  have hb0 : Below w.heap.size w W0 := by rw [hW0]; exact (Below.refl _ w).alloc (Nat.le_refl _) _
  have hB : Blk W0 w.heap.size 24 #[.int .i64 N, .slice a len cap] := by rw [hW0]; exact heap_new w _
  have q0 : W0.cell? ⟨w.heap.size, 0, none⟩ = some (.int .i64 N) := hB.cell 0
  have q1 : W0.cell? ⟨w.heap.size, 1, none⟩ = some (.slice a len cap) := hB.cell 1
  have C := Lib.hid (valid_any N a len cap bs W0 (hr.below hb0 (Nat.le_refl _)) hN1 hN2)
  have HW := Lib.hid hW0
  have Hb := Lib.hid hb0
  clear hW0 hB hb0 hr
  go_enter Tryd.func18, Tryd.ntmps18
  go_upto_region 1 with fail
  rw [← HW.out]
  go_wp2_with fail
  refine C.out.mono ?_
  rintro e w1 ⟨rfl, hb1⟩
  have HZ := Lib.hid (Hb.out.trans (hb1.mono Hb.out.size))
  clear hb1 C
  cases hv : validB N bs with
  | true =>
    go_wp2_with fail
    go_ret
    exact ⟨by unfold chkE; rw [hv]; rfl, HZ.out⟩
  | false =>
    go_wp2_with fail
    go_ret
    exact ⟨by unfold chkE; rw [hv]; rfl, HZ.out⟩
set_option maxRecDepth 100000 in
set_option maxHeartbeats 1000000 in
theorem needValid_yes (hv : validB N bs = true) : Calls Tryd.prog 64 #[.agg #[.int .i64 N, .slice a len cap]] w fun e w' => e = .returned (.tuple #[]) ∧ Below w.heap.size w w' := by
  obtain ⟨W0, hW0⟩ : ∃ W0, W0 = w.alloc (.cells #[.int .i64 N, .slice a len cap] 24) := ⟨_, rfl⟩
  have hb0 : Below w.heap.size w W0 := by rw [hW0]; exact (Below.refl _ w).alloc (Nat.le_refl _) _
  have hB : Blk W0 w.heap.size 24 #[.int .i64 N, .slice a len cap] := by rw [hW0]; exact heap_new w _
  have q0 : W0.cell? ⟨w.heap.size, 0, none⟩ = some (.int .i64 N) := hB.cell 0
  have q1 : W0.cell? ⟨w.heap.size, 1, none⟩ = some (.slice a len cap) := hB.cell 1
  have C := valid_any N a len cap bs W0 (hr.below hb0 (Nat.le_refl _)) hN1 hN2
  rw [hv] at C
  have HC := Lib.hid C
  have HW := Lib.hid hW0
  have Hb := Lib.hid hb0
  clear hW0 hB hb0 hr C hv
  go_enter Tryd.func64, Tryd.ntmps64
  go_upto_region 1 with fail
  rw [← HW.out]
  go_wp2_with fail
  refine HC.out.mono ?_
  rintro e w1 ⟨rfl, hb1⟩
  have HZ := Lib.hid (Hb.out.trans (hb1.mono Hb.out.size))
  clear hb1 HC
  go_wp2_with fail
  refine (need_yes _ _).mono ?_
  rintro e w2 ⟨rfl, rfl⟩
  go_wp2_with fail
  go_end0
  exact ⟨rfl, HZ.out⟩
set_option maxRecDepth 100000 in
set_option maxHeartbeats 1000000 in
theorem needValid_no (hv : validB N bs = false) : Calls Tryd.prog 64 #[.agg #[.int .i64 N, .slice a len cap]] w fun e w' => e = pan 9 ∧ Below w.heap.size w w' := by
  obtain ⟨W0, hW0⟩ : ∃ W0, W0 = w.alloc (.cells #[.int .i64 N, .slice a len cap] 24) := ⟨_, rfl⟩
  have hb0 : Below w.heap.size w W0 := by rw [hW0]; exact (Below.refl _ w).alloc (Nat.le_refl _) _
  have hB : Blk W0 w.heap.size 24 #[.int .i64 N, .slice a len cap] := by rw [hW0]; exact heap_new w _
  have q0 : W0.cell? ⟨w.heap.size, 0, none⟩ = some (.int .i64 N) := hB.cell 0
  have q1 : W0.cell? ⟨w.heap.size, 1, none⟩ = some (.slice a len cap) := hB.cell 1
  have C := valid_any N a len cap bs W0 (hr.below hb0 (Nat.le_refl _)) hN1 hN2
  rw [hv] at C
  have HC := Lib.hid C
  have HW := Lib.hid hW0
  have Hb := Lib.hid hb0
  clear hW0 hB hb0 hr C hv
  go_enter Tryd.func64, Tryd.ntmps64
  go_upto_region 1 with fail
  rw [← HW.out]
  go_wp2_with fail
  refine HC.out.mono ?_
  rintro e w1 ⟨rfl, hb1⟩
  have HZ := Lib.hid (Hb.out.trans (hb1.mono Hb.out.size))
  clear hb1 HC
  go_wp2_with fail
  refine (need_no _ _).mono ?_
  rintro e w2 ⟨rfl, rfl⟩
  exact ⟨rfl, rfl, HZ.out⟩
set_option maxRecDepth 100000 in
set_option maxHeartbeats 1000000 in
theorem needRange_bad (at_ many : Int) (h1 : -9223372036854775808 ≤ at_) (h2 : at_ ≤ 9223372036854775807) (hv : validB N bs = false) : Calls Tryd.prog 46 #[.agg #[.int .i64 N, .slice a len cap], .int .i64 at_, .int .i64 many] w fun e w' => e = pan 9 ∧ Below w.heap.size w w' := by
  obtain ⟨W0, hW0⟩ : ∃ W0, W0 = w.alloc (.cells #[.int .i64 N, .slice a len cap] 24) := ⟨_, rfl⟩
  have hb0 : Below w.heap.size w W0 := by rw [hW0]; exact (Below.refl _ w).alloc (Nat.le_refl _) _
  have hB : Blk W0 w.heap.size 24 #[.int .i64 N, .slice a len cap] := by rw [hW0]; exact heap_new w _
  have q0 : W0.cell? ⟨w.heap.size, 0, none⟩ = some (.int .i64 N) := hB.cell 0
  have q1 : W0.cell? ⟨w.heap.size, 1, none⟩ = some (.slice a len cap) := hB.cell 1
  have HC := Lib.hid (needValid_no N a len cap bs W0 (hr.below hb0 (Nat.le_refl _)) hN1 hN2 hv)
  have HW := Lib.hid hW0
  have Hb := Lib.hid hb0
  have HB := Lib.hid hB
  clear hW0 hB hb0 hr hv
  go_enter Tryd.func46, Tryd.ntmps46
  go_upto_region 1 with fail
  rw [← HW.out]
  go_wp2_with fail
  refine HC.out.mono ?_
  rintro e w1 ⟨rfl, hb1⟩
  have HZ := Lib.hid (Hb.out.trans (hb1.mono Hb.out.size))
  exact ⟨rfl, rfl, HZ.out⟩
set_option maxRecDepth 100000 in
set_option maxHeartbeats 1000000 in
theorem needRange_no (at_ many : Int) (h1 : -9223372036854775808 ≤ at_) (h2 : at_ ≤ 9223372036854775807) (hv : validB N bs = true) (hc : ¬ (0 ≤ at_ ∧ 0 ≤ many ∧ many ≤ N - at_)) : Calls Tryd.prog 46 #[.agg #[.int .i64 N, .slice a len cap], .int .i64 at_, .int .i64 many] w fun e w' => e = pan 1 ∧ Below w.heap.size w w' := by
  obtain ⟨v1, v2, -, -⟩ := (validB_iff N bs).mp hv
  obtain ⟨W0, hW0⟩ : ∃ W0, W0 = w.alloc (.cells #[.int .i64 N, .slice a len cap] 24) := ⟨_, rfl⟩
  have hb0 : Below w.heap.size w W0 := by rw [hW0]; exact (Below.refl _ w).alloc (Nat.le_refl _) _
  have hB : Blk W0 w.heap.size 24 #[.int .i64 N, .slice a len cap] := by rw [hW0]; exact heap_new w _
  have q0 : W0.cell? ⟨w.heap.size, 0, none⟩ = some (.int .i64 N) := hB.cell 0
  have q1 : W0.cell? ⟨w.heap.size, 1, none⟩ = some (.slice a len cap) := hB.cell 1
  have HC := Lib.hid (needValid_yes N a len cap bs W0 (hr.below hb0 (Nat.le_refl _)) hN1 hN2 hv)
  have HW := Lib.hid hW0
  have Hb := Lib.hid hb0
  have HB := Lib.hid hB
  clear hW0 hB hb0 hr hv
  by_cases c1 : 0 ≤ at_
  · skip
    by_cases c2 : 0 ≤ many
    · skip
      have c3 : (many ≤ N - at_) = False := eq_false (fun h => hc ⟨c1, c2, h⟩)
      have c4 : decide (many ≤ N - at_) = false := by simp [c3]
      clear hc
      go_enter Tryd.func46, Tryd.ntmps46
      go_upto_region 1 with fail
      rw [← HW.out]
      go_wp2_with fail
      refine HC.out.mono ?_
      rintro e w1 ⟨rfl, hb1⟩
      have HZ := Lib.hid (Hb.out.trans (hb1.mono Hb.out.size))
      have q0 : w1.cell? ⟨w.heap.size, 0, none⟩ = some (.int .i64 N) := (HB.out.below hb1 HB.out.lt).cell 0
      clear hb1 HC q1
      go_wp2_with fail
      refine (need_no _ _).mono ?_
      rintro e w2 ⟨rfl, rfl⟩
      exact ⟨rfl, rfl, HZ.out⟩
    · clear hc
      go_enter Tryd.func46, Tryd.ntmps46
      go_upto_region 1 with fail
      rw [← HW.out]
      go_wp2_with fail
      refine HC.out.mono ?_
      rintro e w1 ⟨rfl, hb1⟩
      have HZ := Lib.hid (Hb.out.trans (hb1.mono Hb.out.size))
      have q0 : w1.cell? ⟨w.heap.size, 0, none⟩ = some (.int .i64 N) := (HB.out.below hb1 HB.out.lt).cell 0
      clear hb1 HC q1
      go_wp2_with fail
      refine (need_no _ _).mono ?_
      rintro e w2 ⟨rfl, rfl⟩
      exact ⟨rfl, rfl, HZ.out⟩
  · clear hc
    go_enter Tryd.func46, Tryd.ntmps46
    go_upto_region 1 with fail
    rw [← HW.out]
    go_wp2_with fail
    refine HC.out.mono ?_
    rintro e w1 ⟨rfl, hb1⟩
    have HZ := Lib.hid (Hb.out.trans (hb1.mono Hb.out.size))
    have q0 : w1.cell? ⟨w.heap.size, 0, none⟩ = some (.int .i64 N) := (HB.out.below hb1 HB.out.lt).cell 0
    clear hb1 HC q1
    go_wp2_with fail
    refine (need_no _ _).mono ?_
    rintro e w2 ⟨rfl, rfl⟩
    exact ⟨rfl, rfl, HZ.out⟩
set_option maxRecDepth 100000 in
set_option maxHeartbeats 1000000 in
theorem needRange_yes (at_ many : Int) (h1 : -9223372036854775808 ≤ at_) (h2 : at_ ≤ 9223372036854775807) (hv : validB N bs = true) (hc : (0 ≤ at_ ∧ 0 ≤ many ∧ many ≤ N - at_)) : Calls Tryd.prog 46 #[.agg #[.int .i64 N, .slice a len cap], .int .i64 at_, .int .i64 many] w fun e w' => e = .returned (.tuple #[]) ∧ Below w.heap.size w w' := by
  obtain ⟨v1, v2, -, -⟩ := (validB_iff N bs).mp hv
  obtain ⟨W0, hW0⟩ : ∃ W0, W0 = w.alloc (.cells #[.int .i64 N, .slice a len cap] 24) := ⟨_, rfl⟩
  have hb0 : Below w.heap.size w W0 := by rw [hW0]; exact (Below.refl _ w).alloc (Nat.le_refl _) _
  have hB : Blk W0 w.heap.size 24 #[.int .i64 N, .slice a len cap] := by rw [hW0]; exact heap_new w _
  have q0 : W0.cell? ⟨w.heap.size, 0, none⟩ = some (.int .i64 N) := hB.cell 0
  have q1 : W0.cell? ⟨w.heap.size, 1, none⟩ = some (.slice a len cap) := hB.cell 1
  have HC := Lib.hid (needValid_yes N a len cap bs W0 (hr.below hb0 (Nat.le_refl _)) hN1 hN2 hv)
  have HW := Lib.hid hW0
  have Hb := Lib.hid hb0
  have HB := Lib.hid hB
  clear hW0 hB hb0 hr hv
  obtain ⟨c1, c2, c3⟩ := hc
  go_enter Tryd.func46, Tryd.ntmps46
  go_upto_region 1 with fail
  rw [← HW.out]
  go_wp2_with fail
  refine HC.out.mono ?_
  rintro e w1 ⟨rfl, hb1⟩
  have HZ := Lib.hid (Hb.out.trans (hb1.mono Hb.out.size))
  have q0 : w1.cell? ⟨w.heap.size, 0, none⟩ = some (.int .i64 N) := (HB.out.below hb1 HB.out.lt).cell 0
  clear hb1 HC q1
  go_wp2_with fail
  refine (need_yes _ _).mono ?_
  rintro e w2 ⟨rfl, rfl⟩
  go_wp2_with fail
  go_end0
  exact ⟨rfl, HZ.out⟩
set_option maxRecDepth 100000 in
set_option maxHeartbeats 1000000 in
theorem needPlace_bad (many near : Int) (hv : validB N bs = false) : Calls Tryd.prog 78 #[.agg #[.int .i64 N, .slice a len cap], .int .i64 many, .int .i64 near] w fun e w' => e = pan 9 ∧ Below w.heap.size w w' := by
  obtain ⟨W0, hW0⟩ : ∃ W0, W0 = w.alloc (.cells #[.int .i64 N, .slice a len cap] 24) := ⟨_, rfl⟩
  have hb0 : Below w.heap.size w W0 := by rw [hW0]; exact (Below.refl _ w).alloc (Nat.le_refl _) _
  have hB : Blk W0 w.heap.size 24 #[.int .i64 N, .slice a len cap] := by rw [hW0]; exact heap_new w _
  have q0 : W0.cell? ⟨w.heap.size, 0, none⟩ = some (.int .i64 N) := hB.cell 0
  have q1 : W0.cell? ⟨w.heap.size, 1, none⟩ = some (.slice a len cap) := hB.cell 1
  have HC := Lib.hid (needValid_no N a len cap bs W0 (hr.below hb0 (Nat.le_refl _)) hN1 hN2 hv)
  have HW := Lib.hid hW0
  have Hb := Lib.hid hb0
  have HB := Lib.hid hB
  clear hW0 hB hb0 hr hv
  go_enter Tryd.func78, Tryd.ntmps78
  go_upto_region 1 with fail
  rw [← HW.out]
  go_wp2_with fail
  refine HC.out.mono ?_
  rintro e w1 ⟨rfl, hb1⟩
  have HZ := Lib.hid (Hb.out.trans (hb1.mono Hb.out.size))
  exact ⟨rfl, rfl, HZ.out⟩
set_option maxRecDepth 100000 in
set_option maxHeartbeats 1000000 in
theorem needPlace_no (many near : Int) (hv : validB N bs = true) (hc : ¬ (1 ≤ many ∧ 0 ≤ near ∧ near ≤ N)) : Calls Tryd.prog 78 #[.agg #[.int .i64 N, .slice a len cap], .int .i64 many, .int .i64 near] w fun e w' => e = pan 1 ∧ Below w.heap.size w w' := by
  obtain ⟨v1, v2, -, -⟩ := (validB_iff N bs).mp hv
  obtain ⟨W0, hW0⟩ : ∃ W0, W0 = w.alloc (.cells #[.int .i64 N, .slice a len cap] 24) := ⟨_, rfl⟩
  have hb0 : Below w.heap.size w W0 := by rw [hW0]; exact (Below.refl _ w).alloc (Nat.le_refl _) _
  have hB : Blk W0 w.heap.size 24 #[.int .i64 N, .slice a len cap] := by rw [hW0]; exact heap_new w _
  have q0 : W0.cell? ⟨w.heap.size, 0, none⟩ = some (.int .i64 N) := hB.cell 0
  have q1 : W0.cell? ⟨w.heap.size, 1, none⟩ = some (.slice a len cap) := hB.cell 1
  have HC := Lib.hid (needValid_yes N a len cap bs W0 (hr.below hb0 (Nat.le_refl _)) hN1 hN2 hv)
  have HW := Lib.hid hW0
  have Hb := Lib.hid hb0
  have HB := Lib.hid hB
  clear hW0 hB hb0 hr hv
  by_cases c1 : 1 ≤ many
  · skip
    by_cases c2 : 0 ≤ near
    · skip
      have c3 : (near ≤ N) = False := eq_false (fun h => hc ⟨c1, c2, h⟩)
      have c4 : decide (near ≤ N) = false := by simp [c3]
      clear hc
      go_enter Tryd.func78, Tryd.ntmps78
      go_upto_region 1 with fail
      rw [← HW.out]
      go_wp2_with fail
      refine HC.out.mono ?_
      rintro e w1 ⟨rfl, hb1⟩
      have HZ := Lib.hid (Hb.out.trans (hb1.mono Hb.out.size))
      have q0 : w1.cell? ⟨w.heap.size, 0, none⟩ = some (.int .i64 N) := (HB.out.below hb1 HB.out.lt).cell 0
      clear hb1 HC q1
      go_wp2_with fail
      refine (need_no _ _).mono ?_
      rintro e w2 ⟨rfl, rfl⟩
      exact ⟨rfl, rfl, HZ.out⟩
    · clear hc
      go_enter Tryd.func78, Tryd.ntmps78
      go_upto_region 1 with fail
      rw [← HW.out]
      go_wp2_with fail
      refine HC.out.mono ?_
      rintro e w1 ⟨rfl, hb1⟩
      have HZ := Lib.hid (Hb.out.trans (hb1.mono Hb.out.size))
      have q0 : w1.cell? ⟨w.heap.size, 0, none⟩ = some (.int .i64 N) := (HB.out.below hb1 HB.out.lt).cell 0
      clear hb1 HC q1
      go_wp2_with fail
      refine (need_no _ _).mono ?_
      rintro e w2 ⟨rfl, rfl⟩
      exact ⟨rfl, rfl, HZ.out⟩
  · clear hc
    go_enter Tryd.func78, Tryd.ntmps78
    go_upto_region 1 with fail
    rw [← HW.out]
    go_wp2_with fail
    refine HC.out.mono ?_
    rintro e w1 ⟨rfl, hb1⟩
    have HZ := Lib.hid (Hb.out.trans (hb1.mono Hb.out.size))
    have q0 : w1.cell? ⟨w.heap.size, 0, none⟩ = some (.int .i64 N) := (HB.out.below hb1 HB.out.lt).cell 0
    clear hb1 HC q1
    go_wp2_with fail
    refine (need_no _ _).mono ?_
    rintro e w2 ⟨rfl, rfl⟩
    exact ⟨rfl, rfl, HZ.out⟩
set_option maxRecDepth 100000 in
set_option maxHeartbeats 1000000 in
theorem needPlace_yes (many near : Int) (hv : validB N bs = true) (hc : (1 ≤ many ∧ 0 ≤ near ∧ near ≤ N)) : Calls Tryd.prog 78 #[.agg #[.int .i64 N, .slice a len cap], .int .i64 many, .int .i64 near] w fun e w' => e = .returned (.tuple #[]) ∧ Below w.heap.size w w' := by
  obtain ⟨v1, v2, -, -⟩ := (validB_iff N bs).mp hv
  obtain ⟨W0, hW0⟩ : ∃ W0, W0 = w.alloc (.cells #[.int .i64 N, .slice a len cap] 24) := ⟨_, rfl⟩
  have hb0 : Below w.heap.size w W0 := by rw [hW0]; exact (Below.refl _ w).alloc (Nat.le_refl _) _
  have hB : Blk W0 w.heap.size 24 #[.int .i64 N, .slice a len cap] := by rw [hW0]; exact heap_new w _
  have q0 : W0.cell? ⟨w.heap.size, 0, none⟩ = some (.int .i64 N) := hB.cell 0
  have q1 : W0.cell? ⟨w.heap.size, 1, none⟩ = some (.slice a len cap) := hB.cell 1
  have HC := Lib.hid (needValid_yes N a len cap bs W0 (hr.below hb0 (Nat.le_refl _)) hN1 hN2 hv)
  have HW := Lib.hid hW0
  have Hb := Lib.hid hb0
  have HB := Lib.hid hB
  clear hW0 hB hb0 hr hv
  obtain ⟨c1, c2, c3⟩ := hc
  go_enter Tryd.func78, Tryd.ntmps78
  go_upto_region 1 with fail
  rw [← HW.out]
  go_wp2_with fail
  refine HC.out.mono ?_
  rintro e w1 ⟨rfl, hb1⟩
  have HZ := Lib.hid (Hb.out.trans (hb1.mono Hb.out.size))
  have q0 : w1.cell? ⟨w.heap.size, 0, none⟩ = some (.int .i64 N) := (HB.out.below hb1 HB.out.lt).cell 0
  clear hb1 HC q1
  go_wp2_with fail
  refine (need_yes _ _).mono ?_
  rintro e w2 ⟨rfl, rfl⟩
  go_wp2_with fail
  go_end0
  exact ⟨rfl, HZ.out⟩
end
end Go.Proofs.YthognmkjoekilaaDoor

/- clone, and empty: bitmaps of the call's own. -/
namespace Go.Proofs.YthognmkjoekilaaDoor
set_option linter.unusedVariables false
open Go.RowKit Go.Shelf

/-- A row filled anew, cell by cell. -/
theorem filled {w : World} {g : Nat} {old : Array Value} {t : TypeId} (h : w.heap[g]? = some (.cells old t (0, 0))) (cs : Array Value) : ∃ W, w.setRow g cs = W ∧ W.heap[g]? = some (.cells cs t (0, 0)) ∧ Below g w W ∧ W.heap.size = w.heap.size ∧ (∀ k, k ≠ g → W.heap[k]? = w.heap[k]?) :=
  ⟨_, rfl, setRow_heap w g _ cs t (0, 0) h, ⟨rfl, rfl, rfl, by simp, fun k hk => setRow_other w g k cs (by omega)⟩, by simp, fun k hk => setRow_other w g k cs hk⟩
/-- What a function's own result cell holds goes out as it stands. -/
theorem Own.other {w W : World} {B g : Nat} {v : Value} {xs : List Int} (h : Own w B v xs) (hk : ∀ k, k ≠ g → W.heap[k]? = w.heap[k]?) (hg : g < B) : Own W B v xs := by
  refine ⟨⟨h.1.1, ?_⟩, h.2⟩
  rcases h.1.2 with hn | ⟨g', cap, cur, rfl, hg0, hgg, rest⟩
  · exact .inl hn
  · exact .inr ⟨g', cap, cur, rfl, hg0, (hk g' (by omega)).trans hgg, rest⟩
/-- The boxes of clone. -/
theorem clone_boxes (w : World) (v0 v1 : Value) : ∃ W0, (w.alloc (.cells #[v0, v1] 24)).alloc (.cells #[.int .i64 0, .slice none 0 0] 24) = W0 ∧ Blk W0 w.heap.size 24 #[v0, v1] ∧ Blk W0 (w.heap.size + 1) 24 #[.int .i64 0, .slice none 0 0] ∧ Below w.heap.size w W0 ∧ W0.heap.size = w.heap.size + 2 := by
  refine ⟨_, rfl, ?_, ?_, ?_, by simp⟩
  · exact Blk.below (heap_new w _ : Blk (w.alloc _) _ _ _) ((Below.refl _ _).alloc (Nat.le_refl _) _) (by simp)
  · have := heap_new (w.alloc (.cells #[v0, v1] 24)) (.cells #[.int .i64 0, .slice none 0 0] 24)
    rw [World.size_alloc] at this; exact this
  · exact ((Below.refl _ w).alloc (Nat.le_refl _) _).alloc (by simp) _
set_option maxRecDepth 100000 in
set_option maxHeartbeats 2000000 in
theorem cloneB_any (N : Int) (a : Option Addr) (len cap : Nat) (bs : List Int) (w : World) (hr : Rd w a len cap bs) (hbig : len ≤ 140737488355328) :
    Calls Tryd.prog 49 #[.agg #[.int .i64 N, .slice a len cap]] w fun e w' => ∃ a' c', e = .returned (.agg #[.int .i64 N, .slice a' len c']) ∧ Own w' w.heap.size (.slice a' len c') bs ∧ Below w.heap.size w w' := by
  obtain ⟨W0, hW0, hB, hR, hb0, hs0⟩ := clone_boxes w (.int .i64 N) (.slice a len cap)
  have HR0 := Lib.hid (hr.below hb0 (Nat.le_refl _))
  have hl := hr.hl
  have q0 : W0.cell? ⟨w.heap.size, 0, none⟩ = some (.int .i64 N) := hB.cell 0
  have q1 : W0.cell? ⟨w.heap.size, 1, none⟩ = some (.slice a len cap) := hB.cell 1
  have HW := Lib.hid hW0
  have Hb := Lib.hid hb0
  have HB := Lib.hid hB
  have HRes := Lib.hid hR
  have Hs := Lib.hid hs0
  have Hl := Lib.hid hl
  clear hW0 hB hR hb0 hs0 hr hl q0 q1
  go_enter Tryd.func49, Tryd.ntmps49
  go_upto_region 1 with fail
  rw [HW.out]
  refine wp_region_held_drew (S := Below (w.heap.size + 1) W0) (by kernel_rfl) (Below.refl _ _).drew (fun _ => ?_)
  have HS : Hid (Below (w.heap.size + 1) W0 W0.drew) := Lib.hid (Below.refl _ _).drew
  refine wpAnyH_take (i := 0) (v := .pointer (some ⟨w.heap.size, 0, none⟩)) rfl (by kernel_rfl) (by kernel_rfl) (by kernel_rfl) (fun _ _ _ h => h) (Or.inl ⟨by rfl, ?_⟩) HS.out ?_
  · intro u hu; go_simp
  go_simp
  refine wpAnyH_take (i := 1) (v := .int .i64 N) rfl (by kernel_rfl) (by kernel_rfl) (by kernel_rfl) (fun _ _ _ h => h) (Or.inl ⟨by rfl, ?_⟩) HS.out ?_
  · intro u hu; have : u.cell? ⟨w.heap.size, 0, none⟩ = some (.int .i64 N) := (HB.out.below hu (Nat.lt_succ_self _)).cell 0; go_simp
  go_simp
  refine wpAnyH_take (i := 2) (v := .pointer (some ⟨w.heap.size, 1, none⟩)) rfl (by kernel_rfl) (by kernel_rfl) (by kernel_rfl) (fun _ _ _ h => h) (Or.inl ⟨by rfl, ?_⟩) HS.out ?_
  · intro u hu; go_simp
  go_simp
  refine wpAnyH_take (i := 3) (v := .slice a len cap) rfl (by kernel_rfl) (by kernel_rfl) (by kernel_rfl) (fun _ _ _ h => h) (Or.inl ⟨by rfl, ?_⟩) HS.out ?_
  · intro u hu; have : u.cell? ⟨w.heap.size, 1, none⟩ = some (.slice a len cap) := (HB.out.below hu (Nat.lt_succ_self _)).cell 1; go_simp
  go_simp
  refine wpAnyH_ready (rs := [4]) (by kernel_rfl) (by simp) ?_
  refine AllReadyH.cons rfl (fun K hK => ?_) AllReadyH.nil
  go_simp
  refine (clone_any a len cap bs W0.drew HR0.out.drew hbig).mono ?_
  rintro e u ⟨v, rfl, ho, hb⟩
  obtain ⟨ac, cc, rfl, -⟩ := ho.rdz Hl.out
  have hsz : W0.heap.size ≤ u.heap.size := hb.size
  have hres : Blk u (w.heap.size + 1) 24 #[.int .i64 0, .slice none 0 0] := (hb.block _ (show w.heap.size + 1 < W0.heap.size by rw [Hs.out]; omega)).trans HRes.out
  have hbu : Below W0.heap.size W0 u := ⟨hb.os, hb.tape, hb.output, hb.size, hb.block⟩
  have HS2 : Hid (Below (w.heap.size + 1) W0 u) := Lib.hid (hbu.mono (by rw [Hs.out]; omega))
  have HO : Hid (Own u W0.heap.size (.slice ac len cc) bs) := Lib.hid ho
  have HRu := Lib.hid hres
  have Hbu := Lib.hid hbu
  clear HS ho hb hres hbu
  have HS := HS2
  clear HS2
  refine hK.out _ _ HS.out (fun _ => ?_)
  clear hK K
  refine wpAnyH_take (i := 5) (v := .agg #[.int .i64 N, .slice ac len cc]) rfl (by kernel_rfl) (by kernel_rfl) (by kernel_rfl) (fun _ _ _ h => h) (Or.inl ⟨by rfl, ?_⟩) HS.out ?_
  · intro u hu; go_simp
  go_simp
  have f0 := HRu.out.frozen 0
  have f1 := HRu.out.frozen 1
  have k0 : u.cell? ⟨w.heap.size + 1, 0, none⟩ = some (.int .i64 0) := HRu.out.cell 0
  have k1 : u.cell? ⟨w.heap.size + 1, 1, none⟩ = some (.slice none 0 0) := HRu.out.cell 1
  refine wpAnyH_ready (rs := [6]) (by kernel_rfl) (by simp) ?_
  refine AllReadyH.cons rfl (fun K hK => ?_) AllReadyH.nil
  go_simp
  rw [cells2 HRu.out]
  obtain ⟨V, hV, rV, bV, sV, oV⟩ := filled HRu.out #[.int .i64 N, .slice ac len cc]
  rw [hV]
  clear f0 f1 k0 k1
  have HS2 : Hid (Below (w.heap.size + 1) W0 V) := Lib.hid (HS.out.trans bV)
  refine hK.out _ _ HS2.out (fun _ => ?_)
  clear hK K
  refine wpAnyH_done (by kernel_rfl) ?_ _
  have z0 : V.cell? ⟨w.heap.size + 1, 0, none⟩ = some (.int .i64 N) := (show Blk V _ 24 _ from rV).cell 0
  have z1 : V.cell? ⟨w.heap.size + 1, 1, none⟩ = some (.slice ac len cc) := (show Blk V _ 24 _ from rV).cell 1
  have HZ : Hid (Own V w.heap.size (.slice ac len cc) bs ∧ Below w.heap.size w V) := Lib.hid ⟨(HO.out.other oV (by rw [Hs.out]; omega)).mono (by rw [Hs.out]; omega), Hb.out.trans (HS2.out.mono (Nat.le_succ _))⟩
  clear HS HS2 HO HRu Hbu rV bV sV oV hV
  go_wp2_with fail
  simp [bodyPost, results, Tryd.results49, go_sem, z0, z1]
  exact ⟨ac, cc, ⟨rfl, rfl⟩, HZ.out.1, HZ.out.2⟩
end Go.Proofs.YthognmkjoekilaaDoor

/- empty: clear bits of the call's own. -/
namespace Go.Proofs.YthognmkjoekilaaDoor
set_option linter.unusedVariables false
open Go.RowKit Go.Shelf

theorem zeros_made (m : Nat) : (madeCells (Value.cells (.int .u8 0)) (m * 1)).toList = (List.replicate m (0 : Int)).map (Value.int .u8) := by
  apply List.ext_getElem
  · simp [madeCells]
  · intro i h1 h2
    simp [madeCells, Value.cells, Nat.mod_one]
theorem make_bytes (m : Nat) (hm : m ≤ 9000) (W : World) (B : Nat) (hB : B ≤ W.heap.size) : ∃ w', (Instr.makeSlice 22 (.int .i64 (m : Int)) (.int .i64 (m : Int))).run Tryd.prog W = .ok (.slice (some ⟨W.heap.size, 0, none⟩) m m) w' ∧ Own w' B (.slice (some ⟨W.heap.size, 0, none⟩) m m) (List.replicate m 0) ∧ Below W.heap.size W w' := by
  obtain ⟨i0, hi, hz0, hz1, hz2⟩ := info_parts Tryd.infoB
  obtain ⟨w', h1, h2, h3⟩ := run_makeSlice_full (w := W) B 22 5 i0 (.int .u8 0) 1 Tryd.underlying22 hi hz0 hz1 .i64 .i64 m (by omega) (by rw [hz2]; omega) (by unfold maxLen; omega) hB
  refine ⟨w', h1, ⟨?_, fun n hn => ?_⟩, ?_⟩
  · rw [zeros_made] at h2
    rw [List.length_replicate]; exact h2
  · have := List.eq_of_mem_replicate hn
    subst this
    exact ⟨by decide, by decide⟩
  · exact ⟨h3.os, h3.tape, h3.output, h3.size, fun k hk => h3.block k hk (by simp)⟩
set_option maxRecDepth 100000 in
set_option maxHeartbeats 2000000 in
theorem empty_any (N : Int) (m : Nat) (w : World) (h0 : 0 ≤ N) (h1 : N ≤ 65536) (hm : (N + 7) / 8 = (m : Int)) :
    Calls Tryd.prog 61 #[.int .i64 N] w fun e w' => ∃ a', e = .returned (.agg #[.int .i64 N, .slice (some a') m m]) ∧ Own w' w.heap.size (.slice (some a') m m) (List.replicate m 0) ∧ Below w.heap.size w w' := by
  obtain ⟨W0, hW0⟩ : ∃ W0, w.alloc (.cells #[.int .i64 0, .slice none 0 0] 24) = W0 := ⟨_, rfl⟩
  have hR : Blk W0 w.heap.size 24 #[.int .i64 0, .slice none 0 0] := by rw [← hW0]; exact heap_new w _
  have hb0 : Below w.heap.size w W0 := by rw [← hW0]; exact (Below.refl _ w).alloc (Nat.le_refl _) _
  have hs0 : W0.heap.size = w.heap.size + 1 := by rw [← hW0]; simp
  obtain ⟨w1, hmk, ho, hb⟩ := make_bytes m (by omega) W0 (w.heap.size + 1) (by omega)
  have C := bytesFor_any N W0 h0 h1
  rw [hm] at C
  have hR1 := hR.below hb hR.lt
  have HC := Lib.hid C
  have HW := Lib.hid hW0
  have HR := Lib.hid hR1
  have HO := Lib.hid ho
  have Hb := Lib.hid (hb0.trans (hb.mono (by omega)))
  have f0 := hR1.frozen 0
  have f1 := hR1.frozen 1
  have k0 : w1.cell? ⟨w.heap.size, 0, none⟩ = some (.int .i64 0) := hR1.cell 0
  have k1 : w1.cell? ⟨w.heap.size, 1, none⟩ = some (.slice none 0 0) := hR1.cell 1
  have hsz : w.heap.size < w1.heap.size := hR1.lt
  clear hW0 hR hb0 hs0 ho hb C hm hR1
  go_enter Tryd.func61, Tryd.ntmps61
  go_upto_region 1 with fail
  rw [HW.out]
  go_wp2_with fail
  refine HC.out.mono ?_
  rintro e u ⟨rfl, rfl⟩
  go_wp2_with fail
  rw [cells2 HR.out]
  obtain ⟨V, hV, rV, bV, sV, oV⟩ := filled HR.out #[.int .i64 N, .slice (some ⟨W0.heap.size, 0, none⟩) m m]
  rw [hV]
  clear f0 f1 k0 k1
  have z0 : V.cell? ⟨w.heap.size, 0, none⟩ = some (.int .i64 N) := (show Blk V _ 24 _ from rV).cell 0
  have z1 : V.cell? ⟨w.heap.size, 1, none⟩ = some (.slice (some ⟨W0.heap.size, 0, none⟩) m m) := (show Blk V _ 24 _ from rV).cell 1
  have HZ : Hid (Own V w.heap.size (.slice (some ⟨W0.heap.size, 0, none⟩) m m) (List.replicate m 0) ∧ Below w.heap.size w V) := Lib.hid ⟨(HO.out.other oV (Nat.lt_succ_self _)).mono (Nat.le_succ _), Hb.out.trans bV⟩
  clear HR HO Hb rV bV sV oV hV HC
  simp [bodyPost, results, Tryd.results61, go_sem, z0, z1]
  exact HZ.out
end Go.Proofs.YthognmkjoekilaaDoor

/- fill, of any bytes of the caller's own. -/
namespace Go.Proofs.YthognmkjoekilaaDoor
set_option linter.unusedVariables false
open Go.RowKit Go.Shelf
attribute [local go_sem] Oper.semAt_some

set_option maxRecDepth 100000 in
set_option maxHeartbeats 4000000 in
theorem fill_nil (N : Int) (on : Bool) (w : World) :
    Calls Tryd.prog 50 #[.agg #[.int .i64 N, .slice none 0 0], .int .i64 0, .int .i64 0, .bool on] w fun e' w' => e' = .returned (.tuple #[]) ∧ Below w.heap.size w w' := by
  obtain ⟨W1, hW1⟩ : ∃ W1, W1 = (w.alloc (.cells #[.int .i64 N, .slice none 0 0] 24)).alloc (.cells #[.bool on] 4) := ⟨_, rfl⟩
  have hs1 : W1.heap.size = w.heap.size + 2 := by rw [hW1]; simp
  have hb1 : Below w.heap.size w W1 := by rw [hW1]; exact ((Below.refl _ w).alloc (Nat.le_refl _) _).alloc (by simp) _
  have HW1 := Lib.hid hW1
  have Hb1 := Lib.hid hb1
  have Hs1 := Lib.hid hs1
  clear hW1 hb1 hs1
  refine (callsIn_wide (n := 9)).1 ?_
  refine callsIn_of_wp_marks Tryd.func50 rfl trivial ?_ rfl
  simp only [Tryd.ntmps50, List.size_toArray, List.length_cons, List.length_nil, Nat.reduceAdd, Nat.reduceSub, Array.replicate_succ, Array.replicate_zero, List.push_toArray, List.append_toArray, List.nil_append, List.cons_append]
  gi_wp2_with fail
  rw [← HW1.out]
  refine ⟨trivial, ?_⟩
  refine (callsIn_wide.2 (parts_any 0 0 W1)).mono ?_
  rintro e1 w3 ⟨rfl, hw3⟩
  have hbx0 : Boxed w3 W1.heap.size 3 (.int .i64 ((0 : Nat) : Int)) := by rw [hw3]; exact (Boxed.new W1 _ _).alloc _
  have hbx1 : Boxed w3 (W1.heap.size + 1) 3 (.int .i64 ((0 : Nat) : Int)) := by
    rw [hw3]; have := Boxed.new (W1.alloc (.cells #[.int .i64 0] 3)) 3 (.int .i64 0); rw [World.size_alloc] at this; exact this
  have hb3 : Below W1.heap.size W1 w3 := by rw [hw3]; exact ((Below.refl _ W1).alloc (Nat.le_refl _) _).alloc (by simp) _
  have Hb3 := Lib.hid (Hb1.out.trans (hb3.mono Hb1.out.size))
  have hs3 : w.heap.size ≤ w3.heap.size := Hb3.out.size
  clear hw3 hb3
  gi_wp2_with fail
  refine wpIn_rangeFunc_ownF rfl (by omega) (gf := 87) (lb := #[.pointer (some ⟨W1.heap.size, 0, none⟩), .pointer (some ⟨W1.heap.size + 1, 0, none⟩)]) rfl trivial (enters_of Tryd.func87 (by kernel_rfl) rfl)
    (parts1_stops Fence.wide _ trivial rfl (by omega) W1.heap.size (W1.heap.size + 1) 0 0 0 rfl _ hbx0 hbx1 (by omega))
    (fun h k hx => k (h hx)) ?kb (Below.refl _ _) (fun _ => rfl)
    (fun pre W => Below w3.heap.size w3 W)
    (fun _ _ _ => False)
    ?own (fun _ _ _ _ _ hs _ _ => hs) ?start
    (fun x => { tmps := #[.agg #[.int .i64 N, .slice none 0 0], .int .i64 0, .int .i64 0, .bool on, .pointer (some ⟨w.heap.size, 0, none⟩), undef, undef, .pointer (some ⟨w.heap.size + 1, 0, none⟩), .int .i64 (x.1 : Int), .int .u8 (mkV 0 0 x.1 : Int), .int .i64 0, .int .i64 0, .func (.func 87) #[] #[.pointer (some ⟨W1.heap.size, 0, none⟩), .pointer (some ⟨W1.heap.size + 1, 0, none⟩)], .int .i64 (x.1 : Int), .int .u8 (mkV 0 0 x.1 : Int), undef, undef, undef, undef, undef, undef, undef, undef, undef, undef, undef, undef, undef, undef, undef, undef, undef], defers := [] }) ?assign ?body ?done ?stop
  case kb =>
    intro W l o o' hl ho hc _ ⟨h1, h2⟩
    exact ⟨(World.putObj_heap_other (by intro e; subst e; have := ho.symm.trans h1; cases this; cases hc)).trans h1, (World.putObj_heap_other (by intro e; subst e; have := ho.symm.trans h2; cases this; cases hc)).trans h2⟩
  case own => exact ownFrom_below (Nat.le_refl _) (Nat.le_refl _)
  case start => exact Below.refl _ _
  case assign =>
    intro l x W K hK
    exact absurd x.2.2.2 (by omega)
  case body =>
    rintro l pre x W _ _
    exact absurd x.2.2.2 (by omega)
  case done =>
    rintro D xs W hD hS hb hK
    have HK := Lib.hid hK
    have Hb := Lib.hid (Hb3.out.trans (hb.mono hs3))
    clear hb hK hS hbx0 hbx1
    gi_wp2_with fail
    refine ⟨by simp, .inl ⟨_, _, rfl, run_takeDeferred HK.out, ?_⟩⟩
    exact ⟨_, results_none rfl _ _ _, rfl, Hb.out.trans (belowK_b (w := w) (Nat.le_refl _) W D _ _ (by omega) HK.out rfl rfl)⟩
  case stop =>
    rintro D c pre W _ _ h _
    exact h.elim
/-- What fill leaves. -/
structure Filled (w w' : World) (B : Nat) (a : Option Addr) : Prop where
  below : Below B w w'
  others : ∀ k, k < w.heap.size → (∀ x, a = some x → x.block ≠ k) → w'.heap[k]? = w.heap[k]?
theorem fill_any (N : Int) (B cap : Nat) (x : Option Addr) (bs : List Int) (n : Nat) (a m e : Nat) (on : Bool) (w : World) (hn : bs.length = n) (ho : Own w B (.slice x n cap) bs) (he : e = a + m) (hr : e ≤ 8 * n) (hbig : n ≤ 9000) (hB : B ≤ w.heap.size) :
    Calls Tryd.prog 50 #[.agg #[.int .i64 N, .slice x n cap], .int .i64 a, .int .i64 m, .bool on] w fun e' w' => e' = .returned (.tuple #[]) ∧ Own w' B (.slice x n cap) (fillV bs a e on) ∧ Filled w w' B x := by
  rcases ho.1.2 with ⟨h1, h2⟩ | ⟨g, cap', cur, h1, hg0, hrest⟩
  · simp only [Value.slice.injEq] at h1
    obtain ⟨rfl, rfl, rfl⟩ := h1
    obtain rfl : a = 0 := by omega
    obtain rfl : m = 0 := by omega
    subst he
    have hbs : bs = [] := List.eq_nil_of_length_eq_zero hn
    subst hbs
    refine (fill_nil N on w).mono ?_
    rintro e' w' ⟨rfl, hb⟩
    exact ⟨rfl, Own.nil _ _, hb.mono hB, fun k hk _ => hb.block k hk⟩
  · have hx : x = some ⟨g, 0, none⟩ := (Value.slice.inj h1).1
    subst hx
    refine (fill_some N B g cap bs n a m e on w hn ho he hr hbig).mono ?_
    rintro e' w' ⟨rfl, hO, hb⟩
    refine ⟨rfl, hO, hb.below.mono hg0, fun k hk hne => hb.others k hk (fun e => hne _ rfl e.symm)⟩
end Go.Proofs.YthognmkjoekilaaDoor

/- What a function that calls call answers, from what its function literal does. -/
namespace Go.Proofs.YthognmkjoekilaaDoor
set_option linter.unusedVariables false
open Go.RowKit Go.Shelf

theorem Own.keep {w W : World} {B : Nat} {v : Value} {xs : List Int} (h : Own w B v xs) (hk : ∀ k, B ≤ k → W.heap[k]? = w.heap[k]?) : Own W B v xs := by
  refine ⟨⟨h.1.1, ?_⟩, h.2⟩
  rcases h.1.2 with hn | ⟨g', cap, cur, rfl, hg0, hgg, rest⟩
  · exact .inl hn
  · exact .inr ⟨g', cap, cur, rfl, hg0, (hk g' hg0).trans hgg, rest⟩
/-- The cells of ranges. -/
def rangeCells (l : List (Nat × Nat)) : List Value := l.flatMap fun r => [.int .i64 (r.1 : Int), .int .i64 (r.2 : Int)]
/-- In w the slice value v, of blocks from B on, is these ranges. -/
def OwnR (w : World) (B : Nat) (v : Value) (l : List (Nat × Nat)) : Prop := w.ownsRow B 60 2 v l.length (rangeCells l) ∧ ∀ r ∈ l, r.1 ≤ 65536 ∧ r.2 ≤ 65536
theorem OwnR.keep {w W : World} {B : Nat} {v : Value} {xs : List (Nat × Nat)} (h : OwnR w B v xs) (hk : ∀ k, B ≤ k → W.heap[k]? = w.heap[k]?) : OwnR W B v xs := by
  refine ⟨⟨h.1.1, ?_⟩, h.2⟩
  rcases h.1.2 with hn | ⟨g', cap, cur, rfl, hg0, hgg, rest⟩
  · exact .inl hn
  · exact .inr ⟨g', cap, cur, rfl, hg0, (hk g' hg0).trans hgg, rest⟩
theorem OwnR.mono {w : World} {B B' : Nat} {v : Value} {xs : List (Nat × Nat)} (h : OwnR w B v xs) (hB : B' ≤ B) : OwnR w B' v xs := by
  refine ⟨⟨h.1.1, ?_⟩, h.2⟩
  rcases h.1.2 with hn | ⟨g', cap, cur, rfl, hg0, rest⟩
  · exact .inl hn
  · exact .inr ⟨g', cap, cur, rfl, Nat.le_trans hB hg0, rest⟩

/-- The boxes of New. -/
theorem new_boxes (n : Int) (w : World) : ∃ W0, (w.alloc (.cells #[.int .i64 n] 3)).alloc (.cells #[.int .i64 0, .slice none 0 0] 24) = W0 ∧ Blk W0 (w.heap.size) 3 #[.int .i64 n] ∧ Blk W0 (w.heap.size + 1) 24 #[.int .i64 0, .slice none 0 0] ∧ Below w.heap.size w W0 ∧ W0.heap.size = w.heap.size + 2 := by
  refine ⟨_, rfl, ?_, ?_, ?_, by simp⟩
  · have h := heap_new w (.cells #[.int .i64 n] 3)
    have h0 : Blk (w.alloc (.cells #[.int .i64 n] 3)) (w.heap.size) 3 #[.int .i64 n] := h
    have h1 : Blk ((w.alloc (.cells #[.int .i64 n] 3)).alloc (.cells #[.int .i64 0, .slice none 0 0] 24)) (w.heap.size) 3 #[.int .i64 n] := h0.below ((Below.refl _ _).alloc (Nat.le_refl _) _) (by first | (simp only [World.size_alloc]; omega) | omega)
    exact h1
  · have h := heap_new (w.alloc (.cells #[.int .i64 n] 3)) (.cells #[.int .i64 0, .slice none 0 0] 24)
    simp only [World.size_alloc] at h
    have h0 : Blk ((w.alloc (.cells #[.int .i64 n] 3)).alloc (.cells #[.int .i64 0, .slice none 0 0] 24)) (w.heap.size + 1) 24 #[.int .i64 0, .slice none 0 0] := h
    exact h0
  · exact ((Below.refl _ w).alloc (by first | (simp only [World.size_alloc]; omega) | omega) _).alloc (by first | (simp only [World.size_alloc]; omega) | omega) _
set_option maxRecDepth 100000 in
set_option maxHeartbeats 2000000 in
theorem new_lift_ok (n : Int) (r : Int) (X : List Int) (w : World) (h : ∀ W, Below w.heap.size w W → Blk W (w.heap.size) 3 #[.int .i64 n] → Calls Tryd.prog 58 #[.pointer (some ⟨w.heap.size, 0, none⟩)] W fun e w' => ∃ a l c, e = .returned (.agg #[.int .i64 r, .slice a l c]) ∧ Own w' W.heap.size (.slice a l c) X ∧ Below W.heap.size W w') :
    Calls Tryd.prog 25 #[.int .i64 n] w fun e w' => ∃ a l c, e = .returned (.tuple #[.agg #[.int .i64 r, .slice a l c], .int .i64 0]) ∧ Own w' w.heap.size (.slice a l c) X ∧ Below w.heap.size w w' := by
  have hmf : ∀ (fn : Fn) (first cap : Array Value) (w : World), (Instr.makeFunc fn first cap).run Tryd.prog w = .ok (.func fn first cap) w := fun _ _ _ _ => rfl
  obtain ⟨W0, hW0, hB0, hRes, hb0, hs0⟩ := new_boxes n w
  have hent : ∀ (args : Array Value) (w : World), (callFunc 58 args).run Tryd.prog w = .ok (.enter 58 args) w := enters_of Tryd.func58 (by kernel_rfl) rfl
  have C := call_bits_ok 58 #[.pointer (some ⟨w.heap.size, 0, none⟩)] r (fun a l c W => Own W (W0.heap.size + 2) (.slice a l c) X) W0 hent (fun a l c W W' hO hk hs => hO.keep (fun k hk2 => hk k (by omega) (by omega)))
    (fun W hb hlt => (h W (hb0.trans (hb.mono (by omega))) (hB0.below hb (by omega))).mono (by
      rintro e w' ⟨a, l, c, rfl, ho, hb'⟩
      exact ⟨a, l, c, rfl, ho.mono (by omega), hb'⟩))
  have HC := Lib.hid C
  have HW := Lib.hid hW0
  have Hb := Lib.hid hb0
  have Hs := Lib.hid hs0
  have HRes := Lib.hid hRes
  clear C hW0 hb0 hs0 hB0 hRes h hent
  go_enter Tryd.func25, Tryd.ntmps25
  go_upto_region 1 with fail
  rw [HW.out]
  go_wp2_with fail
  refine HC.out.mono ?_
  rintro e w1 ⟨a, l, c, rfl, ho, hb⟩
  have HO := Lib.hid ho
  have hR1 : Blk w1 (w.heap.size + 1) 24 #[.int .i64 0, .slice none 0 0] := HRes.out.below hb HRes.out.lt
  have Hb1 := Lib.hid (Hb.out.trans (hb.mono Hb.out.size))
  have HR1 := Lib.hid hR1
  have f0 := hR1.frozen 0
  have f1 := hR1.frozen 1
  have k0 : w1.cell? ⟨w.heap.size + 1, 0, none⟩ = some (.int .i64 0) := hR1.cell 0
  have k1 : w1.cell? ⟨w.heap.size + 1, 1, none⟩ = some (.slice none 0 0) := hR1.cell 1
  clear hb hR1 HC HW Hb HRes ho
  go_wp2_with fail
  rw [cells2 HR1.out]
  obtain ⟨V, hV, rV, bV, sV, oV⟩ := filled HR1.out #[.int .i64 r, .slice a l c]
  rw [hV]
  clear f0 f1 k0 k1
  have z0 : V.cell? ⟨w.heap.size + 1, 0, none⟩ = some (.int .i64 r) := (show Blk V _ 24 _ from rV).cell 0
  have z1 : V.cell? ⟨w.heap.size + 1, 1, none⟩ = some (.slice a l c) := (show Blk V _ 24 _ from rV).cell 1
  have HZ : Hid (Own V w.heap.size (.slice a l c) X ∧ Below w.heap.size w V) := Lib.hid ⟨(HO.out.other oV (by have := Hs.out; omega)).mono (by have := Hs.out; omega), Hb1.out.trans (bV.mono (by omega))⟩
  clear HR1 Hb1 rV bV sV oV hV HO
  simp [bodyPost, results, Tryd.results25, go_sem, z0, z1]
  exact ⟨a, l, c, ⟨rfl, rfl, rfl⟩, HZ.out.1, HZ.out.2⟩
set_option maxRecDepth 100000 in
set_option maxHeartbeats 2000000 in
theorem new_lift_bad (n : Int) (er : Int) (w : World) (h : ∀ W, Below w.heap.size w W → Blk W (w.heap.size) 3 #[.int .i64 n] → Calls Tryd.prog 58 #[.pointer (some ⟨w.heap.size, 0, none⟩)] W fun e w' => e = pan er ∧ Below W.heap.size W w') :
    Calls Tryd.prog 25 #[.int .i64 n] w fun e w' => e = .returned (.tuple #[.agg #[.int .i64 0, .slice none 0 0], .int .i64 er]) ∧ Below w.heap.size w w' := by
  have hmf : ∀ (fn : Fn) (first cap : Array Value) (w : World), (Instr.makeFunc fn first cap).run Tryd.prog w = .ok (.func fn first cap) w := fun _ _ _ _ => rfl
  obtain ⟨W0, hW0, hB0, hRes, hb0, hs0⟩ := new_boxes n w
  have hent : ∀ (args : Array Value) (w : World), (callFunc 58 args).run Tryd.prog w = .ok (.enter 58 args) w := enters_of Tryd.func58 (by kernel_rfl) rfl
  have C := call_bits_bad 58 #[.pointer (some ⟨w.heap.size, 0, none⟩)] er W0 hent (fun W hb hlt => h W (hb0.trans (hb.mono (by omega))) (hB0.below hb (by omega)))
  have HC := Lib.hid C
  have HW := Lib.hid hW0
  have Hb := Lib.hid hb0
  have Hs := Lib.hid hs0
  have HRes := Lib.hid hRes
  clear C hW0 hb0 hs0 hB0 hRes h hent
  go_enter Tryd.func25, Tryd.ntmps25
  go_upto_region 1 with fail
  rw [HW.out]
  go_wp2_with fail
  refine HC.out.mono ?_
  rintro e w1 ⟨rfl, hb⟩
  have hR1 : Blk w1 (w.heap.size + 1) 24 #[.int .i64 0, .slice none 0 0] := HRes.out.below hb HRes.out.lt
  have Hb1 := Lib.hid (Hb.out.trans (hb.mono Hb.out.size))
  have HR1 := Lib.hid hR1
  have f0 := hR1.frozen 0
  have f1 := hR1.frozen 1
  have k0 : w1.cell? ⟨w.heap.size + 1, 0, none⟩ = some (.int .i64 0) := hR1.cell 0
  have k1 : w1.cell? ⟨w.heap.size + 1, 1, none⟩ = some (.slice none 0 0) := hR1.cell 1
  clear hb hR1 HC HW Hb HRes
  go_wp2_with fail
  rw [cells2 HR1.out]
  obtain ⟨V, hV, rV, bV, sV, oV⟩ := filled HR1.out #[.int .i64 0, .slice none 0 0]
  rw [hV]
  clear f0 f1 k0 k1
  have z0 : V.cell? ⟨w.heap.size + 1, 0, none⟩ = some (.int .i64 0) := (show Blk V _ 24 _ from rV).cell 0
  have z1 : V.cell? ⟨w.heap.size + 1, 1, none⟩ = some (.slice none 0 0) := (show Blk V _ 24 _ from rV).cell 1
  have HZ : Hid (Below w.heap.size w V) := Lib.hid (Hb1.out.trans (bV.mono (by omega)))
  clear HR1 Hb1 rV bV sV oV hV
  simp [bodyPost, results, Tryd.results25, go_sem, z0, z1]
  exact HZ.out

/-- The boxes of From. -/
theorem from_boxes (n : Int) (ax : Option Addr) (lx cx : Nat) (w : World) : ∃ W0, ((w.alloc (.cells #[.int .i64 n] 3)).alloc (.cells #[.slice ax lx cx] 22)).alloc (.cells #[.int .i64 0, .slice none 0 0] 24) = W0 ∧ Blk W0 (w.heap.size) 3 #[.int .i64 n] ∧ Blk W0 (w.heap.size + 1) 22 #[.slice ax lx cx] ∧ Blk W0 (w.heap.size + 2) 24 #[.int .i64 0, .slice none 0 0] ∧ Below w.heap.size w W0 ∧ W0.heap.size = w.heap.size + 3 := by
  refine ⟨_, rfl, ?_, ?_, ?_, ?_, by simp⟩
  · have h := heap_new w (.cells #[.int .i64 n] 3)
    have h0 : Blk (w.alloc (.cells #[.int .i64 n] 3)) (w.heap.size) 3 #[.int .i64 n] := h
    have h1 : Blk ((w.alloc (.cells #[.int .i64 n] 3)).alloc (.cells #[.slice ax lx cx] 22)) (w.heap.size) 3 #[.int .i64 n] := h0.below ((Below.refl _ _).alloc (Nat.le_refl _) _) (by first | (simp only [World.size_alloc]; omega) | omega)
    have h2 : Blk (((w.alloc (.cells #[.int .i64 n] 3)).alloc (.cells #[.slice ax lx cx] 22)).alloc (.cells #[.int .i64 0, .slice none 0 0] 24)) (w.heap.size) 3 #[.int .i64 n] := h1.below ((Below.refl _ _).alloc (Nat.le_refl _) _) (by first | (simp only [World.size_alloc]; omega) | omega)
    exact h2
  · have h := heap_new (w.alloc (.cells #[.int .i64 n] 3)) (.cells #[.slice ax lx cx] 22)
    simp only [World.size_alloc] at h
    have h0 : Blk ((w.alloc (.cells #[.int .i64 n] 3)).alloc (.cells #[.slice ax lx cx] 22)) (w.heap.size + 1) 22 #[.slice ax lx cx] := h
    have h2 : Blk (((w.alloc (.cells #[.int .i64 n] 3)).alloc (.cells #[.slice ax lx cx] 22)).alloc (.cells #[.int .i64 0, .slice none 0 0] 24)) (w.heap.size + 1) 22 #[.slice ax lx cx] := h0.below ((Below.refl _ _).alloc (Nat.le_refl _) _) (by first | (simp only [World.size_alloc]; omega) | omega)
    exact h2
  · have h := heap_new ((w.alloc (.cells #[.int .i64 n] 3)).alloc (.cells #[.slice ax lx cx] 22)) (.cells #[.int .i64 0, .slice none 0 0] 24)
    simp only [World.size_alloc] at h
    have h0 : Blk (((w.alloc (.cells #[.int .i64 n] 3)).alloc (.cells #[.slice ax lx cx] 22)).alloc (.cells #[.int .i64 0, .slice none 0 0] 24)) (w.heap.size + 2) 24 #[.int .i64 0, .slice none 0 0] := h
    exact h0
  · exact (((Below.refl _ w).alloc (by first | (simp only [World.size_alloc]; omega) | omega) _).alloc (by first | (simp only [World.size_alloc]; omega) | omega) _).alloc (by first | (simp only [World.size_alloc]; omega) | omega) _
set_option maxRecDepth 100000 in
set_option maxHeartbeats 2000000 in
theorem from_lift_ok (n : Int) (ax : Option Addr) (lx cx : Nat) (r : Int) (X : List Int) (w : World) (h : ∀ W, Below w.heap.size w W → Blk W (w.heap.size) 3 #[.int .i64 n] → Blk W (w.heap.size + 1) 22 #[.slice ax lx cx] → Calls Tryd.prog 62 #[.pointer (some ⟨w.heap.size, 0, none⟩), .pointer (some ⟨w.heap.size + 1, 0, none⟩)] W fun e w' => ∃ a l c, e = .returned (.agg #[.int .i64 r, .slice a l c]) ∧ Own w' W.heap.size (.slice a l c) X ∧ Below W.heap.size W w') :
    Calls Tryd.prog 26 #[.int .i64 n, .slice ax lx cx] w fun e w' => ∃ a l c, e = .returned (.tuple #[.agg #[.int .i64 r, .slice a l c], .int .i64 0]) ∧ Own w' w.heap.size (.slice a l c) X ∧ Below w.heap.size w w' := by
  have hmf : ∀ (fn : Fn) (first cap : Array Value) (w : World), (Instr.makeFunc fn first cap).run Tryd.prog w = .ok (.func fn first cap) w := fun _ _ _ _ => rfl
  obtain ⟨W0, hW0, hB0, hB1, hRes, hb0, hs0⟩ := from_boxes n ax lx cx w
  have hent : ∀ (args : Array Value) (w : World), (callFunc 62 args).run Tryd.prog w = .ok (.enter 62 args) w := enters_of Tryd.func62 (by kernel_rfl) rfl
  have C := call_bits_ok 62 #[.pointer (some ⟨w.heap.size, 0, none⟩), .pointer (some ⟨w.heap.size + 1, 0, none⟩)] r (fun a l c W => Own W (W0.heap.size + 2) (.slice a l c) X) W0 hent (fun a l c W W' hO hk hs => hO.keep (fun k hk2 => hk k (by omega) (by omega)))
    (fun W hb hlt => (h W (hb0.trans (hb.mono (by omega))) (hB0.below hb (by omega)) (hB1.below hb (by omega))).mono (by
      rintro e w' ⟨a, l, c, rfl, ho, hb'⟩
      exact ⟨a, l, c, rfl, ho.mono (by omega), hb'⟩))
  have HC := Lib.hid C
  have HW := Lib.hid hW0
  have Hb := Lib.hid hb0
  have Hs := Lib.hid hs0
  have HRes := Lib.hid hRes
  clear C hW0 hb0 hs0 hB0 hB1 hRes h hent
  go_enter Tryd.func26, Tryd.ntmps26
  go_upto_region 1 with fail
  rw [HW.out]
  go_wp2_with fail
  refine HC.out.mono ?_
  rintro e w1 ⟨a, l, c, rfl, ho, hb⟩
  have HO := Lib.hid ho
  have hR1 : Blk w1 (w.heap.size + 2) 24 #[.int .i64 0, .slice none 0 0] := HRes.out.below hb HRes.out.lt
  have Hb1 := Lib.hid (Hb.out.trans (hb.mono Hb.out.size))
  have HR1 := Lib.hid hR1
  have f0 := hR1.frozen 0
  have f1 := hR1.frozen 1
  have k0 : w1.cell? ⟨w.heap.size + 2, 0, none⟩ = some (.int .i64 0) := hR1.cell 0
  have k1 : w1.cell? ⟨w.heap.size + 2, 1, none⟩ = some (.slice none 0 0) := hR1.cell 1
  clear hb hR1 HC HW Hb HRes ho
  go_wp2_with fail
  rw [cells2 HR1.out]
  obtain ⟨V, hV, rV, bV, sV, oV⟩ := filled HR1.out #[.int .i64 r, .slice a l c]
  rw [hV]
  clear f0 f1 k0 k1
  have z0 : V.cell? ⟨w.heap.size + 2, 0, none⟩ = some (.int .i64 r) := (show Blk V _ 24 _ from rV).cell 0
  have z1 : V.cell? ⟨w.heap.size + 2, 1, none⟩ = some (.slice a l c) := (show Blk V _ 24 _ from rV).cell 1
  have HZ : Hid (Own V w.heap.size (.slice a l c) X ∧ Below w.heap.size w V) := Lib.hid ⟨(HO.out.other oV (by have := Hs.out; omega)).mono (by have := Hs.out; omega), Hb1.out.trans (bV.mono (by omega))⟩
  clear HR1 Hb1 rV bV sV oV hV HO
  simp [bodyPost, results, Tryd.results26, go_sem, z0, z1]
  exact ⟨a, l, c, ⟨rfl, rfl, rfl⟩, HZ.out.1, HZ.out.2⟩
set_option maxRecDepth 100000 in
set_option maxHeartbeats 2000000 in
theorem from_lift_bad (n : Int) (ax : Option Addr) (lx cx : Nat) (er : Int) (w : World) (h : ∀ W, Below w.heap.size w W → Blk W (w.heap.size) 3 #[.int .i64 n] → Blk W (w.heap.size + 1) 22 #[.slice ax lx cx] → Calls Tryd.prog 62 #[.pointer (some ⟨w.heap.size, 0, none⟩), .pointer (some ⟨w.heap.size + 1, 0, none⟩)] W fun e w' => e = pan er ∧ Below W.heap.size W w') :
    Calls Tryd.prog 26 #[.int .i64 n, .slice ax lx cx] w fun e w' => e = .returned (.tuple #[.agg #[.int .i64 0, .slice none 0 0], .int .i64 er]) ∧ Below w.heap.size w w' := by
  have hmf : ∀ (fn : Fn) (first cap : Array Value) (w : World), (Instr.makeFunc fn first cap).run Tryd.prog w = .ok (.func fn first cap) w := fun _ _ _ _ => rfl
  obtain ⟨W0, hW0, hB0, hB1, hRes, hb0, hs0⟩ := from_boxes n ax lx cx w
  have hent : ∀ (args : Array Value) (w : World), (callFunc 62 args).run Tryd.prog w = .ok (.enter 62 args) w := enters_of Tryd.func62 (by kernel_rfl) rfl
  have C := call_bits_bad 62 #[.pointer (some ⟨w.heap.size, 0, none⟩), .pointer (some ⟨w.heap.size + 1, 0, none⟩)] er W0 hent (fun W hb hlt => h W (hb0.trans (hb.mono (by omega))) (hB0.below hb (by omega)) (hB1.below hb (by omega)))
  have HC := Lib.hid C
  have HW := Lib.hid hW0
  have Hb := Lib.hid hb0
  have Hs := Lib.hid hs0
  have HRes := Lib.hid hRes
  clear C hW0 hb0 hs0 hB0 hB1 hRes h hent
  go_enter Tryd.func26, Tryd.ntmps26
  go_upto_region 1 with fail
  rw [HW.out]
  go_wp2_with fail
  refine HC.out.mono ?_
  rintro e w1 ⟨rfl, hb⟩
  have hR1 : Blk w1 (w.heap.size + 2) 24 #[.int .i64 0, .slice none 0 0] := HRes.out.below hb HRes.out.lt
  have Hb1 := Lib.hid (Hb.out.trans (hb.mono Hb.out.size))
  have HR1 := Lib.hid hR1
  have f0 := hR1.frozen 0
  have f1 := hR1.frozen 1
  have k0 : w1.cell? ⟨w.heap.size + 2, 0, none⟩ = some (.int .i64 0) := hR1.cell 0
  have k1 : w1.cell? ⟨w.heap.size + 2, 1, none⟩ = some (.slice none 0 0) := hR1.cell 1
  clear hb hR1 HC HW Hb HRes
  go_wp2_with fail
  rw [cells2 HR1.out]
  obtain ⟨V, hV, rV, bV, sV, oV⟩ := filled HR1.out #[.int .i64 0, .slice none 0 0]
  rw [hV]
  clear f0 f1 k0 k1
  have z0 : V.cell? ⟨w.heap.size + 2, 0, none⟩ = some (.int .i64 0) := (show Blk V _ 24 _ from rV).cell 0
  have z1 : V.cell? ⟨w.heap.size + 2, 1, none⟩ = some (.slice none 0 0) := (show Blk V _ 24 _ from rV).cell 1
  have HZ : Hid (Below w.heap.size w V) := Lib.hid (Hb1.out.trans (bV.mono (by omega)))
  clear HR1 Hb1 rV bV sV oV hV
  simp [bodyPost, results, Tryd.results26, go_sem, z0, z1]
  exact HZ.out

/-- The boxes of Get. -/
theorem get_boxes (Nb : Int) (ab : Option Addr) (lb cb : Nat) (at_ : Int) (w : World) : ∃ W0, (w.alloc (.cells #[.int .i64 Nb, .slice ab lb cb] 24)).alloc (.cells #[.int .i64 at_] 3) = W0 ∧ Blk W0 (w.heap.size) 24 #[.int .i64 Nb, .slice ab lb cb] ∧ Blk W0 (w.heap.size + 1) 3 #[.int .i64 at_] ∧ Below w.heap.size w W0 ∧ W0.heap.size = w.heap.size + 2 := by
  refine ⟨_, rfl, ?_, ?_, ?_, by simp⟩
  · have h := heap_new w (.cells #[.int .i64 Nb, .slice ab lb cb] 24)
    have h0 : Blk (w.alloc (.cells #[.int .i64 Nb, .slice ab lb cb] 24)) (w.heap.size) 24 #[.int .i64 Nb, .slice ab lb cb] := h
    have h1 : Blk ((w.alloc (.cells #[.int .i64 Nb, .slice ab lb cb] 24)).alloc (.cells #[.int .i64 at_] 3)) (w.heap.size) 24 #[.int .i64 Nb, .slice ab lb cb] := h0.below ((Below.refl _ _).alloc (Nat.le_refl _) _) (by first | (simp only [World.size_alloc]; omega) | omega)
    exact h1
  · have h := heap_new (w.alloc (.cells #[.int .i64 Nb, .slice ab lb cb] 24)) (.cells #[.int .i64 at_] 3)
    simp only [World.size_alloc] at h
    have h0 : Blk ((w.alloc (.cells #[.int .i64 Nb, .slice ab lb cb] 24)).alloc (.cells #[.int .i64 at_] 3)) (w.heap.size + 1) 3 #[.int .i64 at_] := h
    exact h0
  · exact ((Below.refl _ w).alloc (by first | (simp only [World.size_alloc]; omega) | omega) _).alloc (by first | (simp only [World.size_alloc]; omega) | omega) _
set_option maxRecDepth 100000 in
set_option maxHeartbeats 2000000 in
theorem get_lift_ok (Nb : Int) (ab : Option Addr) (lb cb : Nat) (at_ : Int) (r : Bool) (w : World) (h : ∀ W, Below w.heap.size w W → Blk W (w.heap.size) 24 #[.int .i64 Nb, .slice ab lb cb] → Blk W (w.heap.size + 1) 3 #[.int .i64 at_] → Calls Tryd.prog 45 #[.pointer (some ⟨w.heap.size, 0, none⟩), .pointer (some ⟨w.heap.size + 1, 0, none⟩)] W fun e w' => e = .returned (.bool r) ∧ Below W.heap.size W w') :
    Calls Tryd.prog 14 #[.agg #[.int .i64 Nb, .slice ab lb cb], .int .i64 at_] w fun e w' => e = .returned (.tuple #[.bool r, .int .i64 0]) ∧ Below w.heap.size w w' := by
  have hmf : ∀ (fn : Fn) (first cap : Array Value) (w : World), (Instr.makeFunc fn first cap).run Tryd.prog w = .ok (.func fn first cap) w := fun _ _ _ _ => rfl
  obtain ⟨W0, hW0, hB0, hB1, hb0, hs0⟩ := get_boxes Nb ab lb cb at_ w
  have hent : ∀ (args : Array Value) (w : World), (callFunc 45 args).run Tryd.prog w = .ok (.enter 45 args) w := enters_of Tryd.func45 (by kernel_rfl) rfl
  have C := call_bool_ok 45 #[.pointer (some ⟨w.heap.size, 0, none⟩), .pointer (some ⟨w.heap.size + 1, 0, none⟩)] r (fun _ => True) W0 hent (fun _ _ _ _ _ => trivial)
    (fun W hb hlt => (h W (hb0.trans (hb.mono (by omega))) (hB0.below hb (by omega)) (hB1.below hb (by omega))).mono (by
      rintro e w' ⟨rfl, hb'⟩
      exact ⟨rfl, trivial, hb'⟩))
  have HC := Lib.hid C
  have HW := Lib.hid hW0
  have Hb := Lib.hid hb0
  have Hs := Lib.hid hs0
  clear C hW0 hb0 hs0 hB0 hB1 h hent
  go_enter Tryd.func14, Tryd.ntmps14
  go_upto_region 1 with fail
  rw [HW.out]
  go_wp2_with fail
  refine HC.out.mono ?_
  rintro e w1 ⟨rfl, -, hb⟩
  have Hb1 := Lib.hid (Hb.out.trans (hb.mono Hb.out.size))
  clear hb HC HW Hb
  go_wp2_with fail
  go_ret2
  exact ⟨rfl, Hb1.out⟩
set_option maxRecDepth 100000 in
set_option maxHeartbeats 2000000 in
theorem get_lift_bad (Nb : Int) (ab : Option Addr) (lb cb : Nat) (at_ : Int) (er : Int) (w : World) (h : ∀ W, Below w.heap.size w W → Blk W (w.heap.size) 24 #[.int .i64 Nb, .slice ab lb cb] → Blk W (w.heap.size + 1) 3 #[.int .i64 at_] → Calls Tryd.prog 45 #[.pointer (some ⟨w.heap.size, 0, none⟩), .pointer (some ⟨w.heap.size + 1, 0, none⟩)] W fun e w' => e = pan er ∧ Below W.heap.size W w') :
    Calls Tryd.prog 14 #[.agg #[.int .i64 Nb, .slice ab lb cb], .int .i64 at_] w fun e w' => e = .returned (.tuple #[.bool false, .int .i64 er]) ∧ Below w.heap.size w w' := by
  have hmf : ∀ (fn : Fn) (first cap : Array Value) (w : World), (Instr.makeFunc fn first cap).run Tryd.prog w = .ok (.func fn first cap) w := fun _ _ _ _ => rfl
  obtain ⟨W0, hW0, hB0, hB1, hb0, hs0⟩ := get_boxes Nb ab lb cb at_ w
  have hent : ∀ (args : Array Value) (w : World), (callFunc 45 args).run Tryd.prog w = .ok (.enter 45 args) w := enters_of Tryd.func45 (by kernel_rfl) rfl
  have C := call_bool_bad 45 #[.pointer (some ⟨w.heap.size, 0, none⟩), .pointer (some ⟨w.heap.size + 1, 0, none⟩)] er W0 hent (fun W hb hlt => h W (hb0.trans (hb.mono (by omega))) (hB0.below hb (by omega)) (hB1.below hb (by omega)))
  have HC := Lib.hid C
  have HW := Lib.hid hW0
  have Hb := Lib.hid hb0
  have Hs := Lib.hid hs0
  clear C hW0 hb0 hs0 hB0 hB1 h hent
  go_enter Tryd.func14, Tryd.ntmps14
  go_upto_region 1 with fail
  rw [HW.out]
  go_wp2_with fail
  refine HC.out.mono ?_
  rintro e w1 ⟨rfl, hb⟩
  have Hb1 := Lib.hid (Hb.out.trans (hb.mono Hb.out.size))
  clear hb HC HW Hb
  go_wp2_with fail
  go_ret2
  exact ⟨rfl, Hb1.out⟩

/-- The boxes of Set. -/
theorem set_boxes (Nb : Int) (ab : Option Addr) (lb cb : Nat) (at_ : Int) (m : Int) (on : Bool) (w : World) : ∃ W0, ((((w.alloc (.cells #[.int .i64 Nb, .slice ab lb cb] 24)).alloc (.cells #[.int .i64 at_] 3)).alloc (.cells #[.int .i64 m] 3)).alloc (.cells #[.bool on] 4)).alloc (.cells #[.int .i64 0, .slice none 0 0] 24) = W0 ∧ Blk W0 (w.heap.size) 24 #[.int .i64 Nb, .slice ab lb cb] ∧ Blk W0 (w.heap.size + 1) 3 #[.int .i64 at_] ∧ Blk W0 (w.heap.size + 2) 3 #[.int .i64 m] ∧ Blk W0 (w.heap.size + 3) 4 #[.bool on] ∧ Blk W0 (w.heap.size + 4) 24 #[.int .i64 0, .slice none 0 0] ∧ Below w.heap.size w W0 ∧ W0.heap.size = w.heap.size + 5 := by
  refine ⟨_, rfl, ?_, ?_, ?_, ?_, ?_, ?_, by simp⟩
  · have h := heap_new w (.cells #[.int .i64 Nb, .slice ab lb cb] 24)
    have h0 : Blk (w.alloc (.cells #[.int .i64 Nb, .slice ab lb cb] 24)) (w.heap.size) 24 #[.int .i64 Nb, .slice ab lb cb] := h
    have h1 : Blk ((w.alloc (.cells #[.int .i64 Nb, .slice ab lb cb] 24)).alloc (.cells #[.int .i64 at_] 3)) (w.heap.size) 24 #[.int .i64 Nb, .slice ab lb cb] := h0.below ((Below.refl _ _).alloc (Nat.le_refl _) _) (by first | (simp only [World.size_alloc]; omega) | omega)
    have h2 : Blk (((w.alloc (.cells #[.int .i64 Nb, .slice ab lb cb] 24)).alloc (.cells #[.int .i64 at_] 3)).alloc (.cells #[.int .i64 m] 3)) (w.heap.size) 24 #[.int .i64 Nb, .slice ab lb cb] := h1.below ((Below.refl _ _).alloc (Nat.le_refl _) _) (by first | (simp only [World.size_alloc]; omega) | omega)
    have h3 : Blk ((((w.alloc (.cells #[.int .i64 Nb, .slice ab lb cb] 24)).alloc (.cells #[.int .i64 at_] 3)).alloc (.cells #[.int .i64 m] 3)).alloc (.cells #[.bool on] 4)) (w.heap.size) 24 #[.int .i64 Nb, .slice ab lb cb] := h2.below ((Below.refl _ _).alloc (Nat.le_refl _) _) (by first | (simp only [World.size_alloc]; omega) | omega)
    have h4 : Blk (((((w.alloc (.cells #[.int .i64 Nb, .slice ab lb cb] 24)).alloc (.cells #[.int .i64 at_] 3)).alloc (.cells #[.int .i64 m] 3)).alloc (.cells #[.bool on] 4)).alloc (.cells #[.int .i64 0, .slice none 0 0] 24)) (w.heap.size) 24 #[.int .i64 Nb, .slice ab lb cb] := h3.below ((Below.refl _ _).alloc (Nat.le_refl _) _) (by first | (simp only [World.size_alloc]; omega) | omega)
    exact h4
  · have h := heap_new (w.alloc (.cells #[.int .i64 Nb, .slice ab lb cb] 24)) (.cells #[.int .i64 at_] 3)
    simp only [World.size_alloc] at h
    have h0 : Blk ((w.alloc (.cells #[.int .i64 Nb, .slice ab lb cb] 24)).alloc (.cells #[.int .i64 at_] 3)) (w.heap.size + 1) 3 #[.int .i64 at_] := h
    have h2 : Blk (((w.alloc (.cells #[.int .i64 Nb, .slice ab lb cb] 24)).alloc (.cells #[.int .i64 at_] 3)).alloc (.cells #[.int .i64 m] 3)) (w.heap.size + 1) 3 #[.int .i64 at_] := h0.below ((Below.refl _ _).alloc (Nat.le_refl _) _) (by first | (simp only [World.size_alloc]; omega) | omega)
    have h3 : Blk ((((w.alloc (.cells #[.int .i64 Nb, .slice ab lb cb] 24)).alloc (.cells #[.int .i64 at_] 3)).alloc (.cells #[.int .i64 m] 3)).alloc (.cells #[.bool on] 4)) (w.heap.size + 1) 3 #[.int .i64 at_] := h2.below ((Below.refl _ _).alloc (Nat.le_refl _) _) (by first | (simp only [World.size_alloc]; omega) | omega)
    have h4 : Blk (((((w.alloc (.cells #[.int .i64 Nb, .slice ab lb cb] 24)).alloc (.cells #[.int .i64 at_] 3)).alloc (.cells #[.int .i64 m] 3)).alloc (.cells #[.bool on] 4)).alloc (.cells #[.int .i64 0, .slice none 0 0] 24)) (w.heap.size + 1) 3 #[.int .i64 at_] := h3.below ((Below.refl _ _).alloc (Nat.le_refl _) _) (by first | (simp only [World.size_alloc]; omega) | omega)
    exact h4
  · have h := heap_new ((w.alloc (.cells #[.int .i64 Nb, .slice ab lb cb] 24)).alloc (.cells #[.int .i64 at_] 3)) (.cells #[.int .i64 m] 3)
    simp only [World.size_alloc] at h
    have h0 : Blk (((w.alloc (.cells #[.int .i64 Nb, .slice ab lb cb] 24)).alloc (.cells #[.int .i64 at_] 3)).alloc (.cells #[.int .i64 m] 3)) (w.heap.size + 2) 3 #[.int .i64 m] := h
    have h3 : Blk ((((w.alloc (.cells #[.int .i64 Nb, .slice ab lb cb] 24)).alloc (.cells #[.int .i64 at_] 3)).alloc (.cells #[.int .i64 m] 3)).alloc (.cells #[.bool on] 4)) (w.heap.size + 2) 3 #[.int .i64 m] := h0.below ((Below.refl _ _).alloc (Nat.le_refl _) _) (by first | (simp only [World.size_alloc]; omega) | omega)
    have h4 : Blk (((((w.alloc (.cells #[.int .i64 Nb, .slice ab lb cb] 24)).alloc (.cells #[.int .i64 at_] 3)).alloc (.cells #[.int .i64 m] 3)).alloc (.cells #[.bool on] 4)).alloc (.cells #[.int .i64 0, .slice none 0 0] 24)) (w.heap.size + 2) 3 #[.int .i64 m] := h3.below ((Below.refl _ _).alloc (Nat.le_refl _) _) (by first | (simp only [World.size_alloc]; omega) | omega)
    exact h4
  · have h := heap_new (((w.alloc (.cells #[.int .i64 Nb, .slice ab lb cb] 24)).alloc (.cells #[.int .i64 at_] 3)).alloc (.cells #[.int .i64 m] 3)) (.cells #[.bool on] 4)
    simp only [World.size_alloc] at h
    have h0 : Blk ((((w.alloc (.cells #[.int .i64 Nb, .slice ab lb cb] 24)).alloc (.cells #[.int .i64 at_] 3)).alloc (.cells #[.int .i64 m] 3)).alloc (.cells #[.bool on] 4)) (w.heap.size + 3) 4 #[.bool on] := h
    have h4 : Blk (((((w.alloc (.cells #[.int .i64 Nb, .slice ab lb cb] 24)).alloc (.cells #[.int .i64 at_] 3)).alloc (.cells #[.int .i64 m] 3)).alloc (.cells #[.bool on] 4)).alloc (.cells #[.int .i64 0, .slice none 0 0] 24)) (w.heap.size + 3) 4 #[.bool on] := h0.below ((Below.refl _ _).alloc (Nat.le_refl _) _) (by first | (simp only [World.size_alloc]; omega) | omega)
    exact h4
  · have h := heap_new ((((w.alloc (.cells #[.int .i64 Nb, .slice ab lb cb] 24)).alloc (.cells #[.int .i64 at_] 3)).alloc (.cells #[.int .i64 m] 3)).alloc (.cells #[.bool on] 4)) (.cells #[.int .i64 0, .slice none 0 0] 24)
    simp only [World.size_alloc] at h
    have h0 : Blk (((((w.alloc (.cells #[.int .i64 Nb, .slice ab lb cb] 24)).alloc (.cells #[.int .i64 at_] 3)).alloc (.cells #[.int .i64 m] 3)).alloc (.cells #[.bool on] 4)).alloc (.cells #[.int .i64 0, .slice none 0 0] 24)) (w.heap.size + 4) 24 #[.int .i64 0, .slice none 0 0] := h
    exact h0
  · exact (((((Below.refl _ w).alloc (by first | (simp only [World.size_alloc]; omega) | omega) _).alloc (by first | (simp only [World.size_alloc]; omega) | omega) _).alloc (by first | (simp only [World.size_alloc]; omega) | omega) _).alloc (by first | (simp only [World.size_alloc]; omega) | omega) _).alloc (by first | (simp only [World.size_alloc]; omega) | omega) _
set_option maxRecDepth 100000 in
set_option maxHeartbeats 2000000 in
theorem set_lift_ok (Nb : Int) (ab : Option Addr) (lb cb : Nat) (at_ : Int) (m : Int) (on : Bool) (r : Int) (X : List Int) (w : World) (h : ∀ W, Below w.heap.size w W → Blk W (w.heap.size) 24 #[.int .i64 Nb, .slice ab lb cb] → Blk W (w.heap.size + 1) 3 #[.int .i64 at_] → Blk W (w.heap.size + 2) 3 #[.int .i64 m] → Blk W (w.heap.size + 3) 4 #[.bool on] → Calls Tryd.prog 48 #[.pointer (some ⟨w.heap.size, 0, none⟩), .pointer (some ⟨w.heap.size + 1, 0, none⟩), .pointer (some ⟨w.heap.size + 2, 0, none⟩), .pointer (some ⟨w.heap.size + 3, 0, none⟩)] W fun e w' => ∃ a l c, e = .returned (.agg #[.int .i64 r, .slice a l c]) ∧ Own w' W.heap.size (.slice a l c) X ∧ Below W.heap.size W w') :
    Calls Tryd.prog 15 #[.agg #[.int .i64 Nb, .slice ab lb cb], .int .i64 at_, .int .i64 m, .bool on] w fun e w' => ∃ a l c, e = .returned (.tuple #[.agg #[.int .i64 r, .slice a l c], .int .i64 0]) ∧ Own w' w.heap.size (.slice a l c) X ∧ Below w.heap.size w w' := by
  have hmf : ∀ (fn : Fn) (first cap : Array Value) (w : World), (Instr.makeFunc fn first cap).run Tryd.prog w = .ok (.func fn first cap) w := fun _ _ _ _ => rfl
  obtain ⟨W0, hW0, hB0, hB1, hB2, hB3, hRes, hb0, hs0⟩ := set_boxes Nb ab lb cb at_ m on w
  have hent : ∀ (args : Array Value) (w : World), (callFunc 48 args).run Tryd.prog w = .ok (.enter 48 args) w := enters_of Tryd.func48 (by kernel_rfl) rfl
  have C := call_bits_ok 48 #[.pointer (some ⟨w.heap.size, 0, none⟩), .pointer (some ⟨w.heap.size + 1, 0, none⟩), .pointer (some ⟨w.heap.size + 2, 0, none⟩), .pointer (some ⟨w.heap.size + 3, 0, none⟩)] r (fun a l c W => Own W (W0.heap.size + 2) (.slice a l c) X) W0 hent (fun a l c W W' hO hk hs => hO.keep (fun k hk2 => hk k (by omega) (by omega)))
    (fun W hb hlt => (h W (hb0.trans (hb.mono (by omega))) (hB0.below hb (by omega)) (hB1.below hb (by omega)) (hB2.below hb (by omega)) (hB3.below hb (by omega))).mono (by
      rintro e w' ⟨a, l, c, rfl, ho, hb'⟩
      exact ⟨a, l, c, rfl, ho.mono (by omega), hb'⟩))
  have HC := Lib.hid C
  have HW := Lib.hid hW0
  have Hb := Lib.hid hb0
  have Hs := Lib.hid hs0
  have HRes := Lib.hid hRes
  clear C hW0 hb0 hs0 hB0 hB1 hB2 hB3 hRes h hent
  go_enter Tryd.func15, Tryd.ntmps15
  go_upto_region 1 with fail
  rw [HW.out]
  go_wp2_with fail
  refine HC.out.mono ?_
  rintro e w1 ⟨a, l, c, rfl, ho, hb⟩
  have HO := Lib.hid ho
  have hR1 : Blk w1 (w.heap.size + 4) 24 #[.int .i64 0, .slice none 0 0] := HRes.out.below hb HRes.out.lt
  have Hb1 := Lib.hid (Hb.out.trans (hb.mono Hb.out.size))
  have HR1 := Lib.hid hR1
  have f0 := hR1.frozen 0
  have f1 := hR1.frozen 1
  have k0 : w1.cell? ⟨w.heap.size + 4, 0, none⟩ = some (.int .i64 0) := hR1.cell 0
  have k1 : w1.cell? ⟨w.heap.size + 4, 1, none⟩ = some (.slice none 0 0) := hR1.cell 1
  clear hb hR1 HC HW Hb HRes ho
  go_wp2_with fail
  rw [cells2 HR1.out]
  obtain ⟨V, hV, rV, bV, sV, oV⟩ := filled HR1.out #[.int .i64 r, .slice a l c]
  rw [hV]
  clear f0 f1 k0 k1
  have z0 : V.cell? ⟨w.heap.size + 4, 0, none⟩ = some (.int .i64 r) := (show Blk V _ 24 _ from rV).cell 0
  have z1 : V.cell? ⟨w.heap.size + 4, 1, none⟩ = some (.slice a l c) := (show Blk V _ 24 _ from rV).cell 1
  have HZ : Hid (Own V w.heap.size (.slice a l c) X ∧ Below w.heap.size w V) := Lib.hid ⟨(HO.out.other oV (by have := Hs.out; omega)).mono (by have := Hs.out; omega), Hb1.out.trans (bV.mono (by omega))⟩
  clear HR1 Hb1 rV bV sV oV hV HO
  simp [bodyPost, results, Tryd.results15, go_sem, z0, z1]
  exact ⟨a, l, c, ⟨rfl, rfl, rfl⟩, HZ.out.1, HZ.out.2⟩
set_option maxRecDepth 100000 in
set_option maxHeartbeats 2000000 in
theorem set_lift_bad (Nb : Int) (ab : Option Addr) (lb cb : Nat) (at_ : Int) (m : Int) (on : Bool) (er : Int) (w : World) (h : ∀ W, Below w.heap.size w W → Blk W (w.heap.size) 24 #[.int .i64 Nb, .slice ab lb cb] → Blk W (w.heap.size + 1) 3 #[.int .i64 at_] → Blk W (w.heap.size + 2) 3 #[.int .i64 m] → Blk W (w.heap.size + 3) 4 #[.bool on] → Calls Tryd.prog 48 #[.pointer (some ⟨w.heap.size, 0, none⟩), .pointer (some ⟨w.heap.size + 1, 0, none⟩), .pointer (some ⟨w.heap.size + 2, 0, none⟩), .pointer (some ⟨w.heap.size + 3, 0, none⟩)] W fun e w' => e = pan er ∧ Below W.heap.size W w') :
    Calls Tryd.prog 15 #[.agg #[.int .i64 Nb, .slice ab lb cb], .int .i64 at_, .int .i64 m, .bool on] w fun e w' => e = .returned (.tuple #[.agg #[.int .i64 0, .slice none 0 0], .int .i64 er]) ∧ Below w.heap.size w w' := by
  have hmf : ∀ (fn : Fn) (first cap : Array Value) (w : World), (Instr.makeFunc fn first cap).run Tryd.prog w = .ok (.func fn first cap) w := fun _ _ _ _ => rfl
  obtain ⟨W0, hW0, hB0, hB1, hB2, hB3, hRes, hb0, hs0⟩ := set_boxes Nb ab lb cb at_ m on w
  have hent : ∀ (args : Array Value) (w : World), (callFunc 48 args).run Tryd.prog w = .ok (.enter 48 args) w := enters_of Tryd.func48 (by kernel_rfl) rfl
  have C := call_bits_bad 48 #[.pointer (some ⟨w.heap.size, 0, none⟩), .pointer (some ⟨w.heap.size + 1, 0, none⟩), .pointer (some ⟨w.heap.size + 2, 0, none⟩), .pointer (some ⟨w.heap.size + 3, 0, none⟩)] er W0 hent (fun W hb hlt => h W (hb0.trans (hb.mono (by omega))) (hB0.below hb (by omega)) (hB1.below hb (by omega)) (hB2.below hb (by omega)) (hB3.below hb (by omega)))
  have HC := Lib.hid C
  have HW := Lib.hid hW0
  have Hb := Lib.hid hb0
  have Hs := Lib.hid hs0
  have HRes := Lib.hid hRes
  clear C hW0 hb0 hs0 hB0 hB1 hB2 hB3 hRes h hent
  go_enter Tryd.func15, Tryd.ntmps15
  go_upto_region 1 with fail
  rw [HW.out]
  go_wp2_with fail
  refine HC.out.mono ?_
  rintro e w1 ⟨rfl, hb⟩
  have hR1 : Blk w1 (w.heap.size + 4) 24 #[.int .i64 0, .slice none 0 0] := HRes.out.below hb HRes.out.lt
  have Hb1 := Lib.hid (Hb.out.trans (hb.mono Hb.out.size))
  have HR1 := Lib.hid hR1
  have f0 := hR1.frozen 0
  have f1 := hR1.frozen 1
  have k0 : w1.cell? ⟨w.heap.size + 4, 0, none⟩ = some (.int .i64 0) := hR1.cell 0
  have k1 : w1.cell? ⟨w.heap.size + 4, 1, none⟩ = some (.slice none 0 0) := hR1.cell 1
  clear hb hR1 HC HW Hb HRes
  go_wp2_with fail
  rw [cells2 HR1.out]
  obtain ⟨V, hV, rV, bV, sV, oV⟩ := filled HR1.out #[.int .i64 0, .slice none 0 0]
  rw [hV]
  clear f0 f1 k0 k1
  have z0 : V.cell? ⟨w.heap.size + 4, 0, none⟩ = some (.int .i64 0) := (show Blk V _ 24 _ from rV).cell 0
  have z1 : V.cell? ⟨w.heap.size + 4, 1, none⟩ = some (.slice none 0 0) := (show Blk V _ 24 _ from rV).cell 1
  have HZ : Hid (Below w.heap.size w V) := Lib.hid (Hb1.out.trans (bV.mono (by omega)))
  clear HR1 Hb1 rV bV sV oV hV
  simp [bodyPost, results, Tryd.results15, go_sem, z0, z1]
  exact HZ.out

/-- The boxes of Count. -/
theorem count_boxes (Nb : Int) (ab : Option Addr) (lb cb : Nat) (at_ : Int) (m : Int) (w : World) : ∃ W0, ((w.alloc (.cells #[.int .i64 Nb, .slice ab lb cb] 24)).alloc (.cells #[.int .i64 at_] 3)).alloc (.cells #[.int .i64 m] 3) = W0 ∧ Blk W0 (w.heap.size) 24 #[.int .i64 Nb, .slice ab lb cb] ∧ Blk W0 (w.heap.size + 1) 3 #[.int .i64 at_] ∧ Blk W0 (w.heap.size + 2) 3 #[.int .i64 m] ∧ Below w.heap.size w W0 ∧ W0.heap.size = w.heap.size + 3 := by
  refine ⟨_, rfl, ?_, ?_, ?_, ?_, by simp⟩
  · have h := heap_new w (.cells #[.int .i64 Nb, .slice ab lb cb] 24)
    have h0 : Blk (w.alloc (.cells #[.int .i64 Nb, .slice ab lb cb] 24)) (w.heap.size) 24 #[.int .i64 Nb, .slice ab lb cb] := h
    have h1 : Blk ((w.alloc (.cells #[.int .i64 Nb, .slice ab lb cb] 24)).alloc (.cells #[.int .i64 at_] 3)) (w.heap.size) 24 #[.int .i64 Nb, .slice ab lb cb] := h0.below ((Below.refl _ _).alloc (Nat.le_refl _) _) (by first | (simp only [World.size_alloc]; omega) | omega)
    have h2 : Blk (((w.alloc (.cells #[.int .i64 Nb, .slice ab lb cb] 24)).alloc (.cells #[.int .i64 at_] 3)).alloc (.cells #[.int .i64 m] 3)) (w.heap.size) 24 #[.int .i64 Nb, .slice ab lb cb] := h1.below ((Below.refl _ _).alloc (Nat.le_refl _) _) (by first | (simp only [World.size_alloc]; omega) | omega)
    exact h2
  · have h := heap_new (w.alloc (.cells #[.int .i64 Nb, .slice ab lb cb] 24)) (.cells #[.int .i64 at_] 3)
    simp only [World.size_alloc] at h
    have h0 : Blk ((w.alloc (.cells #[.int .i64 Nb, .slice ab lb cb] 24)).alloc (.cells #[.int .i64 at_] 3)) (w.heap.size + 1) 3 #[.int .i64 at_] := h
    have h2 : Blk (((w.alloc (.cells #[.int .i64 Nb, .slice ab lb cb] 24)).alloc (.cells #[.int .i64 at_] 3)).alloc (.cells #[.int .i64 m] 3)) (w.heap.size + 1) 3 #[.int .i64 at_] := h0.below ((Below.refl _ _).alloc (Nat.le_refl _) _) (by first | (simp only [World.size_alloc]; omega) | omega)
    exact h2
  · have h := heap_new ((w.alloc (.cells #[.int .i64 Nb, .slice ab lb cb] 24)).alloc (.cells #[.int .i64 at_] 3)) (.cells #[.int .i64 m] 3)
    simp only [World.size_alloc] at h
    have h0 : Blk (((w.alloc (.cells #[.int .i64 Nb, .slice ab lb cb] 24)).alloc (.cells #[.int .i64 at_] 3)).alloc (.cells #[.int .i64 m] 3)) (w.heap.size + 2) 3 #[.int .i64 m] := h
    exact h0
  · exact (((Below.refl _ w).alloc (by first | (simp only [World.size_alloc]; omega) | omega) _).alloc (by first | (simp only [World.size_alloc]; omega) | omega) _).alloc (by first | (simp only [World.size_alloc]; omega) | omega) _
set_option maxRecDepth 100000 in
set_option maxHeartbeats 2000000 in
theorem count_lift_ok (Nb : Int) (ab : Option Addr) (lb cb : Nat) (at_ : Int) (m : Int) (r : Int) (w : World) (h : ∀ W, Below w.heap.size w W → Blk W (w.heap.size) 24 #[.int .i64 Nb, .slice ab lb cb] → Blk W (w.heap.size + 1) 3 #[.int .i64 at_] → Blk W (w.heap.size + 2) 3 #[.int .i64 m] → Calls Tryd.prog 52 #[.pointer (some ⟨w.heap.size, 0, none⟩), .pointer (some ⟨w.heap.size + 1, 0, none⟩), .pointer (some ⟨w.heap.size + 2, 0, none⟩)] W fun e w' => e = .returned (.int .i64 r) ∧ Below W.heap.size W w') :
    Calls Tryd.prog 16 #[.agg #[.int .i64 Nb, .slice ab lb cb], .int .i64 at_, .int .i64 m] w fun e w' => e = .returned (.tuple #[.int .i64 r, .int .i64 0]) ∧ Below w.heap.size w w' := by
  have hmf : ∀ (fn : Fn) (first cap : Array Value) (w : World), (Instr.makeFunc fn first cap).run Tryd.prog w = .ok (.func fn first cap) w := fun _ _ _ _ => rfl
  obtain ⟨W0, hW0, hB0, hB1, hB2, hb0, hs0⟩ := count_boxes Nb ab lb cb at_ m w
  have hent : ∀ (args : Array Value) (w : World), (callFunc 52 args).run Tryd.prog w = .ok (.enter 52 args) w := enters_of Tryd.func52 (by kernel_rfl) rfl
  have C := call_int_ok 52 #[.pointer (some ⟨w.heap.size, 0, none⟩), .pointer (some ⟨w.heap.size + 1, 0, none⟩), .pointer (some ⟨w.heap.size + 2, 0, none⟩)] r (fun _ => True) W0 hent (fun _ _ _ _ _ => trivial)
    (fun W hb hlt => (h W (hb0.trans (hb.mono (by omega))) (hB0.below hb (by omega)) (hB1.below hb (by omega)) (hB2.below hb (by omega))).mono (by
      rintro e w' ⟨rfl, hb'⟩
      exact ⟨rfl, trivial, hb'⟩))
  have HC := Lib.hid C
  have HW := Lib.hid hW0
  have Hb := Lib.hid hb0
  have Hs := Lib.hid hs0
  clear C hW0 hb0 hs0 hB0 hB1 hB2 h hent
  go_enter Tryd.func16, Tryd.ntmps16
  go_upto_region 1 with fail
  rw [HW.out]
  go_wp2_with fail
  refine HC.out.mono ?_
  rintro e w1 ⟨rfl, -, hb⟩
  have Hb1 := Lib.hid (Hb.out.trans (hb.mono Hb.out.size))
  clear hb HC HW Hb
  go_wp2_with fail
  go_ret2
  exact ⟨rfl, Hb1.out⟩
set_option maxRecDepth 100000 in
set_option maxHeartbeats 2000000 in
theorem count_lift_bad (Nb : Int) (ab : Option Addr) (lb cb : Nat) (at_ : Int) (m : Int) (er : Int) (w : World) (h : ∀ W, Below w.heap.size w W → Blk W (w.heap.size) 24 #[.int .i64 Nb, .slice ab lb cb] → Blk W (w.heap.size + 1) 3 #[.int .i64 at_] → Blk W (w.heap.size + 2) 3 #[.int .i64 m] → Calls Tryd.prog 52 #[.pointer (some ⟨w.heap.size, 0, none⟩), .pointer (some ⟨w.heap.size + 1, 0, none⟩), .pointer (some ⟨w.heap.size + 2, 0, none⟩)] W fun e w' => e = pan er ∧ Below W.heap.size W w') :
    Calls Tryd.prog 16 #[.agg #[.int .i64 Nb, .slice ab lb cb], .int .i64 at_, .int .i64 m] w fun e w' => e = .returned (.tuple #[.int .i64 0, .int .i64 er]) ∧ Below w.heap.size w w' := by
  have hmf : ∀ (fn : Fn) (first cap : Array Value) (w : World), (Instr.makeFunc fn first cap).run Tryd.prog w = .ok (.func fn first cap) w := fun _ _ _ _ => rfl
  obtain ⟨W0, hW0, hB0, hB1, hB2, hb0, hs0⟩ := count_boxes Nb ab lb cb at_ m w
  have hent : ∀ (args : Array Value) (w : World), (callFunc 52 args).run Tryd.prog w = .ok (.enter 52 args) w := enters_of Tryd.func52 (by kernel_rfl) rfl
  have C := call_int_bad 52 #[.pointer (some ⟨w.heap.size, 0, none⟩), .pointer (some ⟨w.heap.size + 1, 0, none⟩), .pointer (some ⟨w.heap.size + 2, 0, none⟩)] er W0 hent (fun W hb hlt => h W (hb0.trans (hb.mono (by omega))) (hB0.below hb (by omega)) (hB1.below hb (by omega)) (hB2.below hb (by omega)))
  have HC := Lib.hid C
  have HW := Lib.hid hW0
  have Hb := Lib.hid hb0
  have Hs := Lib.hid hs0
  clear C hW0 hb0 hs0 hB0 hB1 hB2 h hent
  go_enter Tryd.func16, Tryd.ntmps16
  go_upto_region 1 with fail
  rw [HW.out]
  go_wp2_with fail
  refine HC.out.mono ?_
  rintro e w1 ⟨rfl, hb⟩
  have Hb1 := Lib.hid (Hb.out.trans (hb.mono Hb.out.size))
  clear hb HC HW Hb
  go_wp2_with fail
  go_ret2
  exact ⟨rfl, Hb1.out⟩

/-- The boxes of Resize. -/
theorem resize_boxes (Nb : Int) (ab : Option Addr) (lb cb : Nat) (n : Int) (w : World) : ∃ W0, ((w.alloc (.cells #[.int .i64 Nb, .slice ab lb cb] 24)).alloc (.cells #[.int .i64 n] 3)).alloc (.cells #[.int .i64 0, .slice none 0 0] 24) = W0 ∧ Blk W0 (w.heap.size) 24 #[.int .i64 Nb, .slice ab lb cb] ∧ Blk W0 (w.heap.size + 1) 3 #[.int .i64 n] ∧ Blk W0 (w.heap.size + 2) 24 #[.int .i64 0, .slice none 0 0] ∧ Below w.heap.size w W0 ∧ W0.heap.size = w.heap.size + 3 := by
  refine ⟨_, rfl, ?_, ?_, ?_, ?_, by simp⟩
  · have h := heap_new w (.cells #[.int .i64 Nb, .slice ab lb cb] 24)
    have h0 : Blk (w.alloc (.cells #[.int .i64 Nb, .slice ab lb cb] 24)) (w.heap.size) 24 #[.int .i64 Nb, .slice ab lb cb] := h
    have h1 : Blk ((w.alloc (.cells #[.int .i64 Nb, .slice ab lb cb] 24)).alloc (.cells #[.int .i64 n] 3)) (w.heap.size) 24 #[.int .i64 Nb, .slice ab lb cb] := h0.below ((Below.refl _ _).alloc (Nat.le_refl _) _) (by first | (simp only [World.size_alloc]; omega) | omega)
    have h2 : Blk (((w.alloc (.cells #[.int .i64 Nb, .slice ab lb cb] 24)).alloc (.cells #[.int .i64 n] 3)).alloc (.cells #[.int .i64 0, .slice none 0 0] 24)) (w.heap.size) 24 #[.int .i64 Nb, .slice ab lb cb] := h1.below ((Below.refl _ _).alloc (Nat.le_refl _) _) (by first | (simp only [World.size_alloc]; omega) | omega)
    exact h2
  · have h := heap_new (w.alloc (.cells #[.int .i64 Nb, .slice ab lb cb] 24)) (.cells #[.int .i64 n] 3)
    simp only [World.size_alloc] at h
    have h0 : Blk ((w.alloc (.cells #[.int .i64 Nb, .slice ab lb cb] 24)).alloc (.cells #[.int .i64 n] 3)) (w.heap.size + 1) 3 #[.int .i64 n] := h
    have h2 : Blk (((w.alloc (.cells #[.int .i64 Nb, .slice ab lb cb] 24)).alloc (.cells #[.int .i64 n] 3)).alloc (.cells #[.int .i64 0, .slice none 0 0] 24)) (w.heap.size + 1) 3 #[.int .i64 n] := h0.below ((Below.refl _ _).alloc (Nat.le_refl _) _) (by first | (simp only [World.size_alloc]; omega) | omega)
    exact h2
  · have h := heap_new ((w.alloc (.cells #[.int .i64 Nb, .slice ab lb cb] 24)).alloc (.cells #[.int .i64 n] 3)) (.cells #[.int .i64 0, .slice none 0 0] 24)
    simp only [World.size_alloc] at h
    have h0 : Blk (((w.alloc (.cells #[.int .i64 Nb, .slice ab lb cb] 24)).alloc (.cells #[.int .i64 n] 3)).alloc (.cells #[.int .i64 0, .slice none 0 0] 24)) (w.heap.size + 2) 24 #[.int .i64 0, .slice none 0 0] := h
    exact h0
  · exact (((Below.refl _ w).alloc (by first | (simp only [World.size_alloc]; omega) | omega) _).alloc (by first | (simp only [World.size_alloc]; omega) | omega) _).alloc (by first | (simp only [World.size_alloc]; omega) | omega) _
set_option maxRecDepth 100000 in
set_option maxHeartbeats 2000000 in
theorem resize_lift_ok (Nb : Int) (ab : Option Addr) (lb cb : Nat) (n : Int) (r : Int) (X : List Int) (w : World) (h : ∀ W, Below w.heap.size w W → Blk W (w.heap.size) 24 #[.int .i64 Nb, .slice ab lb cb] → Blk W (w.heap.size + 1) 3 #[.int .i64 n] → Calls Tryd.prog 63 #[.pointer (some ⟨w.heap.size, 0, none⟩), .pointer (some ⟨w.heap.size + 1, 0, none⟩)] W fun e w' => ∃ a l c, e = .returned (.agg #[.int .i64 r, .slice a l c]) ∧ Own w' W.heap.size (.slice a l c) X ∧ Below W.heap.size W w') :
    Calls Tryd.prog 28 #[.agg #[.int .i64 Nb, .slice ab lb cb], .int .i64 n] w fun e w' => ∃ a l c, e = .returned (.tuple #[.agg #[.int .i64 r, .slice a l c], .int .i64 0]) ∧ Own w' w.heap.size (.slice a l c) X ∧ Below w.heap.size w w' := by
  have hmf : ∀ (fn : Fn) (first cap : Array Value) (w : World), (Instr.makeFunc fn first cap).run Tryd.prog w = .ok (.func fn first cap) w := fun _ _ _ _ => rfl
  obtain ⟨W0, hW0, hB0, hB1, hRes, hb0, hs0⟩ := resize_boxes Nb ab lb cb n w
  have hent : ∀ (args : Array Value) (w : World), (callFunc 63 args).run Tryd.prog w = .ok (.enter 63 args) w := enters_of Tryd.func63 (by kernel_rfl) rfl
  have C := call_bits_ok 63 #[.pointer (some ⟨w.heap.size, 0, none⟩), .pointer (some ⟨w.heap.size + 1, 0, none⟩)] r (fun a l c W => Own W (W0.heap.size + 2) (.slice a l c) X) W0 hent (fun a l c W W' hO hk hs => hO.keep (fun k hk2 => hk k (by omega) (by omega)))
    (fun W hb hlt => (h W (hb0.trans (hb.mono (by omega))) (hB0.below hb (by omega)) (hB1.below hb (by omega))).mono (by
      rintro e w' ⟨a, l, c, rfl, ho, hb'⟩
      exact ⟨a, l, c, rfl, ho.mono (by omega), hb'⟩))
  have HC := Lib.hid C
  have HW := Lib.hid hW0
  have Hb := Lib.hid hb0
  have Hs := Lib.hid hs0
  have HRes := Lib.hid hRes
  clear C hW0 hb0 hs0 hB0 hB1 hRes h hent
  go_enter Tryd.func28, Tryd.ntmps28
  go_upto_region 1 with fail
  rw [HW.out]
  go_wp2_with fail
  refine HC.out.mono ?_
  rintro e w1 ⟨a, l, c, rfl, ho, hb⟩
  have HO := Lib.hid ho
  have hR1 : Blk w1 (w.heap.size + 2) 24 #[.int .i64 0, .slice none 0 0] := HRes.out.below hb HRes.out.lt
  have Hb1 := Lib.hid (Hb.out.trans (hb.mono Hb.out.size))
  have HR1 := Lib.hid hR1
  have f0 := hR1.frozen 0
  have f1 := hR1.frozen 1
  have k0 : w1.cell? ⟨w.heap.size + 2, 0, none⟩ = some (.int .i64 0) := hR1.cell 0
  have k1 : w1.cell? ⟨w.heap.size + 2, 1, none⟩ = some (.slice none 0 0) := hR1.cell 1
  clear hb hR1 HC HW Hb HRes ho
  go_wp2_with fail
  rw [cells2 HR1.out]
  obtain ⟨V, hV, rV, bV, sV, oV⟩ := filled HR1.out #[.int .i64 r, .slice a l c]
  rw [hV]
  clear f0 f1 k0 k1
  have z0 : V.cell? ⟨w.heap.size + 2, 0, none⟩ = some (.int .i64 r) := (show Blk V _ 24 _ from rV).cell 0
  have z1 : V.cell? ⟨w.heap.size + 2, 1, none⟩ = some (.slice a l c) := (show Blk V _ 24 _ from rV).cell 1
  have HZ : Hid (Own V w.heap.size (.slice a l c) X ∧ Below w.heap.size w V) := Lib.hid ⟨(HO.out.other oV (by have := Hs.out; omega)).mono (by have := Hs.out; omega), Hb1.out.trans (bV.mono (by omega))⟩
  clear HR1 Hb1 rV bV sV oV hV HO
  simp [bodyPost, results, Tryd.results28, go_sem, z0, z1]
  exact ⟨a, l, c, ⟨rfl, rfl, rfl⟩, HZ.out.1, HZ.out.2⟩
set_option maxRecDepth 100000 in
set_option maxHeartbeats 2000000 in
theorem resize_lift_bad (Nb : Int) (ab : Option Addr) (lb cb : Nat) (n : Int) (er : Int) (w : World) (h : ∀ W, Below w.heap.size w W → Blk W (w.heap.size) 24 #[.int .i64 Nb, .slice ab lb cb] → Blk W (w.heap.size + 1) 3 #[.int .i64 n] → Calls Tryd.prog 63 #[.pointer (some ⟨w.heap.size, 0, none⟩), .pointer (some ⟨w.heap.size + 1, 0, none⟩)] W fun e w' => e = pan er ∧ Below W.heap.size W w') :
    Calls Tryd.prog 28 #[.agg #[.int .i64 Nb, .slice ab lb cb], .int .i64 n] w fun e w' => e = .returned (.tuple #[.agg #[.int .i64 0, .slice none 0 0], .int .i64 er]) ∧ Below w.heap.size w w' := by
  have hmf : ∀ (fn : Fn) (first cap : Array Value) (w : World), (Instr.makeFunc fn first cap).run Tryd.prog w = .ok (.func fn first cap) w := fun _ _ _ _ => rfl
  obtain ⟨W0, hW0, hB0, hB1, hRes, hb0, hs0⟩ := resize_boxes Nb ab lb cb n w
  have hent : ∀ (args : Array Value) (w : World), (callFunc 63 args).run Tryd.prog w = .ok (.enter 63 args) w := enters_of Tryd.func63 (by kernel_rfl) rfl
  have C := call_bits_bad 63 #[.pointer (some ⟨w.heap.size, 0, none⟩), .pointer (some ⟨w.heap.size + 1, 0, none⟩)] er W0 hent (fun W hb hlt => h W (hb0.trans (hb.mono (by omega))) (hB0.below hb (by omega)) (hB1.below hb (by omega)))
  have HC := Lib.hid C
  have HW := Lib.hid hW0
  have Hb := Lib.hid hb0
  have Hs := Lib.hid hs0
  have HRes := Lib.hid hRes
  clear C hW0 hb0 hs0 hB0 hB1 hRes h hent
  go_enter Tryd.func28, Tryd.ntmps28
  go_upto_region 1 with fail
  rw [HW.out]
  go_wp2_with fail
  refine HC.out.mono ?_
  rintro e w1 ⟨rfl, hb⟩
  have hR1 : Blk w1 (w.heap.size + 2) 24 #[.int .i64 0, .slice none 0 0] := HRes.out.below hb HRes.out.lt
  have Hb1 := Lib.hid (Hb.out.trans (hb.mono Hb.out.size))
  have HR1 := Lib.hid hR1
  have f0 := hR1.frozen 0
  have f1 := hR1.frozen 1
  have k0 : w1.cell? ⟨w.heap.size + 2, 0, none⟩ = some (.int .i64 0) := hR1.cell 0
  have k1 : w1.cell? ⟨w.heap.size + 2, 1, none⟩ = some (.slice none 0 0) := hR1.cell 1
  clear hb hR1 HC HW Hb HRes
  go_wp2_with fail
  rw [cells2 HR1.out]
  obtain ⟨V, hV, rV, bV, sV, oV⟩ := filled HR1.out #[.int .i64 0, .slice none 0 0]
  rw [hV]
  clear f0 f1 k0 k1
  have z0 : V.cell? ⟨w.heap.size + 2, 0, none⟩ = some (.int .i64 0) := (show Blk V _ 24 _ from rV).cell 0
  have z1 : V.cell? ⟨w.heap.size + 2, 1, none⟩ = some (.slice none 0 0) := (show Blk V _ 24 _ from rV).cell 1
  have HZ : Hid (Below w.heap.size w V) := Lib.hid (Hb1.out.trans (bV.mono (by omega)))
  clear HR1 Hb1 rV bV sV oV hV
  simp [bodyPost, results, Tryd.results28, go_sem, z0, z1]
  exact HZ.out

/-- The boxes of Not. -/
theorem not_boxes (Nb : Int) (ab : Option Addr) (lb cb : Nat) (w : World) : ∃ W0, (w.alloc (.cells #[.int .i64 Nb, .slice ab lb cb] 24)).alloc (.cells #[.int .i64 0, .slice none 0 0] 24) = W0 ∧ Blk W0 (w.heap.size) 24 #[.int .i64 Nb, .slice ab lb cb] ∧ Blk W0 (w.heap.size + 1) 24 #[.int .i64 0, .slice none 0 0] ∧ Below w.heap.size w W0 ∧ W0.heap.size = w.heap.size + 2 := by
  refine ⟨_, rfl, ?_, ?_, ?_, by simp⟩
  · have h := heap_new w (.cells #[.int .i64 Nb, .slice ab lb cb] 24)
    have h0 : Blk (w.alloc (.cells #[.int .i64 Nb, .slice ab lb cb] 24)) (w.heap.size) 24 #[.int .i64 Nb, .slice ab lb cb] := h
    have h1 : Blk ((w.alloc (.cells #[.int .i64 Nb, .slice ab lb cb] 24)).alloc (.cells #[.int .i64 0, .slice none 0 0] 24)) (w.heap.size) 24 #[.int .i64 Nb, .slice ab lb cb] := h0.below ((Below.refl _ _).alloc (Nat.le_refl _) _) (by first | (simp only [World.size_alloc]; omega) | omega)
    exact h1
  · have h := heap_new (w.alloc (.cells #[.int .i64 Nb, .slice ab lb cb] 24)) (.cells #[.int .i64 0, .slice none 0 0] 24)
    simp only [World.size_alloc] at h
    have h0 : Blk ((w.alloc (.cells #[.int .i64 Nb, .slice ab lb cb] 24)).alloc (.cells #[.int .i64 0, .slice none 0 0] 24)) (w.heap.size + 1) 24 #[.int .i64 0, .slice none 0 0] := h
    exact h0
  · exact ((Below.refl _ w).alloc (by first | (simp only [World.size_alloc]; omega) | omega) _).alloc (by first | (simp only [World.size_alloc]; omega) | omega) _
set_option maxRecDepth 100000 in
set_option maxHeartbeats 2000000 in
theorem not_lift_ok (Nb : Int) (ab : Option Addr) (lb cb : Nat) (r : Int) (X : List Int) (w : World) (h : ∀ W, Below w.heap.size w W → Blk W (w.heap.size) 24 #[.int .i64 Nb, .slice ab lb cb] → Calls Tryd.prog 70 #[.pointer (some ⟨w.heap.size, 0, none⟩)] W fun e w' => ∃ a l c, e = .returned (.agg #[.int .i64 r, .slice a l c]) ∧ Own w' W.heap.size (.slice a l c) X ∧ Below W.heap.size W w') :
    Calls Tryd.prog 33 #[.agg #[.int .i64 Nb, .slice ab lb cb]] w fun e w' => ∃ a l c, e = .returned (.tuple #[.agg #[.int .i64 r, .slice a l c], .int .i64 0]) ∧ Own w' w.heap.size (.slice a l c) X ∧ Below w.heap.size w w' := by
  have hmf : ∀ (fn : Fn) (first cap : Array Value) (w : World), (Instr.makeFunc fn first cap).run Tryd.prog w = .ok (.func fn first cap) w := fun _ _ _ _ => rfl
  obtain ⟨W0, hW0, hB0, hRes, hb0, hs0⟩ := not_boxes Nb ab lb cb w
  have hent : ∀ (args : Array Value) (w : World), (callFunc 70 args).run Tryd.prog w = .ok (.enter 70 args) w := enters_of Tryd.func70 (by kernel_rfl) rfl
  have C := call_bits_ok 70 #[.pointer (some ⟨w.heap.size, 0, none⟩)] r (fun a l c W => Own W (W0.heap.size + 2) (.slice a l c) X) W0 hent (fun a l c W W' hO hk hs => hO.keep (fun k hk2 => hk k (by omega) (by omega)))
    (fun W hb hlt => (h W (hb0.trans (hb.mono (by omega))) (hB0.below hb (by omega))).mono (by
      rintro e w' ⟨a, l, c, rfl, ho, hb'⟩
      exact ⟨a, l, c, rfl, ho.mono (by omega), hb'⟩))
  have HC := Lib.hid C
  have HW := Lib.hid hW0
  have Hb := Lib.hid hb0
  have Hs := Lib.hid hs0
  have HRes := Lib.hid hRes
  clear C hW0 hb0 hs0 hB0 hRes h hent
  go_enter Tryd.func33, Tryd.ntmps33
  go_upto_region 1 with fail
  rw [HW.out]
  go_wp2_with fail
  refine HC.out.mono ?_
  rintro e w1 ⟨a, l, c, rfl, ho, hb⟩
  have HO := Lib.hid ho
  have hR1 : Blk w1 (w.heap.size + 1) 24 #[.int .i64 0, .slice none 0 0] := HRes.out.below hb HRes.out.lt
  have Hb1 := Lib.hid (Hb.out.trans (hb.mono Hb.out.size))
  have HR1 := Lib.hid hR1
  have f0 := hR1.frozen 0
  have f1 := hR1.frozen 1
  have k0 : w1.cell? ⟨w.heap.size + 1, 0, none⟩ = some (.int .i64 0) := hR1.cell 0
  have k1 : w1.cell? ⟨w.heap.size + 1, 1, none⟩ = some (.slice none 0 0) := hR1.cell 1
  clear hb hR1 HC HW Hb HRes ho
  go_wp2_with fail
  rw [cells2 HR1.out]
  obtain ⟨V, hV, rV, bV, sV, oV⟩ := filled HR1.out #[.int .i64 r, .slice a l c]
  rw [hV]
  clear f0 f1 k0 k1
  have z0 : V.cell? ⟨w.heap.size + 1, 0, none⟩ = some (.int .i64 r) := (show Blk V _ 24 _ from rV).cell 0
  have z1 : V.cell? ⟨w.heap.size + 1, 1, none⟩ = some (.slice a l c) := (show Blk V _ 24 _ from rV).cell 1
  have HZ : Hid (Own V w.heap.size (.slice a l c) X ∧ Below w.heap.size w V) := Lib.hid ⟨(HO.out.other oV (by have := Hs.out; omega)).mono (by have := Hs.out; omega), Hb1.out.trans (bV.mono (by omega))⟩
  clear HR1 Hb1 rV bV sV oV hV HO
  simp [bodyPost, results, Tryd.results33, go_sem, z0, z1]
  exact ⟨a, l, c, ⟨rfl, rfl, rfl⟩, HZ.out.1, HZ.out.2⟩
set_option maxRecDepth 100000 in
set_option maxHeartbeats 2000000 in
theorem not_lift_bad (Nb : Int) (ab : Option Addr) (lb cb : Nat) (er : Int) (w : World) (h : ∀ W, Below w.heap.size w W → Blk W (w.heap.size) 24 #[.int .i64 Nb, .slice ab lb cb] → Calls Tryd.prog 70 #[.pointer (some ⟨w.heap.size, 0, none⟩)] W fun e w' => e = pan er ∧ Below W.heap.size W w') :
    Calls Tryd.prog 33 #[.agg #[.int .i64 Nb, .slice ab lb cb]] w fun e w' => e = .returned (.tuple #[.agg #[.int .i64 0, .slice none 0 0], .int .i64 er]) ∧ Below w.heap.size w w' := by
  have hmf : ∀ (fn : Fn) (first cap : Array Value) (w : World), (Instr.makeFunc fn first cap).run Tryd.prog w = .ok (.func fn first cap) w := fun _ _ _ _ => rfl
  obtain ⟨W0, hW0, hB0, hRes, hb0, hs0⟩ := not_boxes Nb ab lb cb w
  have hent : ∀ (args : Array Value) (w : World), (callFunc 70 args).run Tryd.prog w = .ok (.enter 70 args) w := enters_of Tryd.func70 (by kernel_rfl) rfl
  have C := call_bits_bad 70 #[.pointer (some ⟨w.heap.size, 0, none⟩)] er W0 hent (fun W hb hlt => h W (hb0.trans (hb.mono (by omega))) (hB0.below hb (by omega)))
  have HC := Lib.hid C
  have HW := Lib.hid hW0
  have Hb := Lib.hid hb0
  have Hs := Lib.hid hs0
  have HRes := Lib.hid hRes
  clear C hW0 hb0 hs0 hB0 hRes h hent
  go_enter Tryd.func33, Tryd.ntmps33
  go_upto_region 1 with fail
  rw [HW.out]
  go_wp2_with fail
  refine HC.out.mono ?_
  rintro e w1 ⟨rfl, hb⟩
  have hR1 : Blk w1 (w.heap.size + 1) 24 #[.int .i64 0, .slice none 0 0] := HRes.out.below hb HRes.out.lt
  have Hb1 := Lib.hid (Hb.out.trans (hb.mono Hb.out.size))
  have HR1 := Lib.hid hR1
  have f0 := hR1.frozen 0
  have f1 := hR1.frozen 1
  have k0 : w1.cell? ⟨w.heap.size + 1, 0, none⟩ = some (.int .i64 0) := hR1.cell 0
  have k1 : w1.cell? ⟨w.heap.size + 1, 1, none⟩ = some (.slice none 0 0) := hR1.cell 1
  clear hb hR1 HC HW Hb HRes
  go_wp2_with fail
  rw [cells2 HR1.out]
  obtain ⟨V, hV, rV, bV, sV, oV⟩ := filled HR1.out #[.int .i64 0, .slice none 0 0]
  rw [hV]
  clear f0 f1 k0 k1
  have z0 : V.cell? ⟨w.heap.size + 1, 0, none⟩ = some (.int .i64 0) := (show Blk V _ 24 _ from rV).cell 0
  have z1 : V.cell? ⟨w.heap.size + 1, 1, none⟩ = some (.slice none 0 0) := (show Blk V _ 24 _ from rV).cell 1
  have HZ : Hid (Below w.heap.size w V) := Lib.hid (Hb1.out.trans (bV.mono (by omega)))
  clear HR1 Hb1 rV bV sV oV hV
  simp [bodyPost, results, Tryd.results33, go_sem, z0, z1]
  exact HZ.out

/-- The boxes of joined. -/
theorem joined_boxes (Nb : Int) (ab : Option Addr) (lb cb : Nat) (Nd : Int) (ad : Option Addr) (ld cd : Nat) (of : FuncId) (w : World) : ∃ W0, (((w.alloc (.cells #[.int .i64 Nb, .slice ab lb cb] 24)).alloc (.cells #[.int .i64 Nd, .slice ad ld cd] 24)).alloc (.cells #[.func (.func of) #[] #[]] 89)).alloc (.cells #[.int .i64 0, .slice none 0 0] 24) = W0 ∧ Blk W0 (w.heap.size) 24 #[.int .i64 Nb, .slice ab lb cb] ∧ Blk W0 (w.heap.size + 1) 24 #[.int .i64 Nd, .slice ad ld cd] ∧ Blk W0 (w.heap.size + 2) 89 #[.func (.func of) #[] #[]] ∧ Blk W0 (w.heap.size + 3) 24 #[.int .i64 0, .slice none 0 0] ∧ Below w.heap.size w W0 ∧ W0.heap.size = w.heap.size + 4 := by
  refine ⟨_, rfl, ?_, ?_, ?_, ?_, ?_, by simp⟩
  · have h := heap_new w (.cells #[.int .i64 Nb, .slice ab lb cb] 24)
    have h0 : Blk (w.alloc (.cells #[.int .i64 Nb, .slice ab lb cb] 24)) (w.heap.size) 24 #[.int .i64 Nb, .slice ab lb cb] := h
    have h1 : Blk ((w.alloc (.cells #[.int .i64 Nb, .slice ab lb cb] 24)).alloc (.cells #[.int .i64 Nd, .slice ad ld cd] 24)) (w.heap.size) 24 #[.int .i64 Nb, .slice ab lb cb] := h0.below ((Below.refl _ _).alloc (Nat.le_refl _) _) (by first | (simp only [World.size_alloc]; omega) | omega)
    have h2 : Blk (((w.alloc (.cells #[.int .i64 Nb, .slice ab lb cb] 24)).alloc (.cells #[.int .i64 Nd, .slice ad ld cd] 24)).alloc (.cells #[.func (.func of) #[] #[]] 89)) (w.heap.size) 24 #[.int .i64 Nb, .slice ab lb cb] := h1.below ((Below.refl _ _).alloc (Nat.le_refl _) _) (by first | (simp only [World.size_alloc]; omega) | omega)
    have h3 : Blk ((((w.alloc (.cells #[.int .i64 Nb, .slice ab lb cb] 24)).alloc (.cells #[.int .i64 Nd, .slice ad ld cd] 24)).alloc (.cells #[.func (.func of) #[] #[]] 89)).alloc (.cells #[.int .i64 0, .slice none 0 0] 24)) (w.heap.size) 24 #[.int .i64 Nb, .slice ab lb cb] := h2.below ((Below.refl _ _).alloc (Nat.le_refl _) _) (by first | (simp only [World.size_alloc]; omega) | omega)
    exact h3
  · have h := heap_new (w.alloc (.cells #[.int .i64 Nb, .slice ab lb cb] 24)) (.cells #[.int .i64 Nd, .slice ad ld cd] 24)
    simp only [World.size_alloc] at h
    have h0 : Blk ((w.alloc (.cells #[.int .i64 Nb, .slice ab lb cb] 24)).alloc (.cells #[.int .i64 Nd, .slice ad ld cd] 24)) (w.heap.size + 1) 24 #[.int .i64 Nd, .slice ad ld cd] := h
    have h2 : Blk (((w.alloc (.cells #[.int .i64 Nb, .slice ab lb cb] 24)).alloc (.cells #[.int .i64 Nd, .slice ad ld cd] 24)).alloc (.cells #[.func (.func of) #[] #[]] 89)) (w.heap.size + 1) 24 #[.int .i64 Nd, .slice ad ld cd] := h0.below ((Below.refl _ _).alloc (Nat.le_refl _) _) (by first | (simp only [World.size_alloc]; omega) | omega)
    have h3 : Blk ((((w.alloc (.cells #[.int .i64 Nb, .slice ab lb cb] 24)).alloc (.cells #[.int .i64 Nd, .slice ad ld cd] 24)).alloc (.cells #[.func (.func of) #[] #[]] 89)).alloc (.cells #[.int .i64 0, .slice none 0 0] 24)) (w.heap.size + 1) 24 #[.int .i64 Nd, .slice ad ld cd] := h2.below ((Below.refl _ _).alloc (Nat.le_refl _) _) (by first | (simp only [World.size_alloc]; omega) | omega)
    exact h3
  · have h := heap_new ((w.alloc (.cells #[.int .i64 Nb, .slice ab lb cb] 24)).alloc (.cells #[.int .i64 Nd, .slice ad ld cd] 24)) (.cells #[.func (.func of) #[] #[]] 89)
    simp only [World.size_alloc] at h
    have h0 : Blk (((w.alloc (.cells #[.int .i64 Nb, .slice ab lb cb] 24)).alloc (.cells #[.int .i64 Nd, .slice ad ld cd] 24)).alloc (.cells #[.func (.func of) #[] #[]] 89)) (w.heap.size + 2) 89 #[.func (.func of) #[] #[]] := h
    have h3 : Blk ((((w.alloc (.cells #[.int .i64 Nb, .slice ab lb cb] 24)).alloc (.cells #[.int .i64 Nd, .slice ad ld cd] 24)).alloc (.cells #[.func (.func of) #[] #[]] 89)).alloc (.cells #[.int .i64 0, .slice none 0 0] 24)) (w.heap.size + 2) 89 #[.func (.func of) #[] #[]] := h0.below ((Below.refl _ _).alloc (Nat.le_refl _) _) (by first | (simp only [World.size_alloc]; omega) | omega)
    exact h3
  · have h := heap_new (((w.alloc (.cells #[.int .i64 Nb, .slice ab lb cb] 24)).alloc (.cells #[.int .i64 Nd, .slice ad ld cd] 24)).alloc (.cells #[.func (.func of) #[] #[]] 89)) (.cells #[.int .i64 0, .slice none 0 0] 24)
    simp only [World.size_alloc] at h
    have h0 : Blk ((((w.alloc (.cells #[.int .i64 Nb, .slice ab lb cb] 24)).alloc (.cells #[.int .i64 Nd, .slice ad ld cd] 24)).alloc (.cells #[.func (.func of) #[] #[]] 89)).alloc (.cells #[.int .i64 0, .slice none 0 0] 24)) (w.heap.size + 3) 24 #[.int .i64 0, .slice none 0 0] := h
    exact h0
  · exact ((((Below.refl _ w).alloc (by first | (simp only [World.size_alloc]; omega) | omega) _).alloc (by first | (simp only [World.size_alloc]; omega) | omega) _).alloc (by first | (simp only [World.size_alloc]; omega) | omega) _).alloc (by first | (simp only [World.size_alloc]; omega) | omega) _
set_option maxRecDepth 100000 in
set_option maxHeartbeats 2000000 in
theorem joined_lift_ok (Nb : Int) (ab : Option Addr) (lb cb : Nat) (Nd : Int) (ad : Option Addr) (ld cd : Nat) (of : FuncId) (r : Int) (X : List Int) (w : World) (h : ∀ W, Below w.heap.size w W → Blk W (w.heap.size) 24 #[.int .i64 Nb, .slice ab lb cb] → Blk W (w.heap.size + 1) 24 #[.int .i64 Nd, .slice ad ld cd] → Blk W (w.heap.size + 2) 89 #[.func (.func of) #[] #[]] → Calls Tryd.prog 89 #[.pointer (some ⟨w.heap.size, 0, none⟩), .pointer (some ⟨w.heap.size + 1, 0, none⟩), .pointer (some ⟨w.heap.size + 2, 0, none⟩)] W fun e w' => ∃ a l c, e = .returned (.agg #[.int .i64 r, .slice a l c]) ∧ Own w' W.heap.size (.slice a l c) X ∧ Below W.heap.size W w') :
    Calls Tryd.prog 66 #[.agg #[.int .i64 Nb, .slice ab lb cb], .agg #[.int .i64 Nd, .slice ad ld cd], .func (.func of) #[] #[]] w fun e w' => ∃ a l c, e = .returned (.tuple #[.agg #[.int .i64 r, .slice a l c], .int .i64 0]) ∧ Own w' w.heap.size (.slice a l c) X ∧ Below w.heap.size w w' := by
  have hmf : ∀ (fn : Fn) (first cap : Array Value) (w : World), (Instr.makeFunc fn first cap).run Tryd.prog w = .ok (.func fn first cap) w := fun _ _ _ _ => rfl
  obtain ⟨W0, hW0, hB0, hB1, hB2, hRes, hb0, hs0⟩ := joined_boxes Nb ab lb cb Nd ad ld cd of w
  have hent : ∀ (args : Array Value) (w : World), (callFunc 89 args).run Tryd.prog w = .ok (.enter 89 args) w := enters_of Tryd.func89 (by kernel_rfl) rfl
  have C := call_bits_ok 89 #[.pointer (some ⟨w.heap.size, 0, none⟩), .pointer (some ⟨w.heap.size + 1, 0, none⟩), .pointer (some ⟨w.heap.size + 2, 0, none⟩)] r (fun a l c W => Own W (W0.heap.size + 2) (.slice a l c) X) W0 hent (fun a l c W W' hO hk hs => hO.keep (fun k hk2 => hk k (by omega) (by omega)))
    (fun W hb hlt => (h W (hb0.trans (hb.mono (by omega))) (hB0.below hb (by omega)) (hB1.below hb (by omega)) (hB2.below hb (by omega))).mono (by
      rintro e w' ⟨a, l, c, rfl, ho, hb'⟩
      exact ⟨a, l, c, rfl, ho.mono (by omega), hb'⟩))
  have HC := Lib.hid C
  have HW := Lib.hid hW0
  have Hb := Lib.hid hb0
  have Hs := Lib.hid hs0
  have HRes := Lib.hid hRes
  clear C hW0 hb0 hs0 hB0 hB1 hB2 hRes h hent
  go_enter Tryd.func66, Tryd.ntmps66
  go_upto_region 1 with fail
  rw [HW.out]
  go_wp2_with fail
  refine HC.out.mono ?_
  rintro e w1 ⟨a, l, c, rfl, ho, hb⟩
  have HO := Lib.hid ho
  have hR1 : Blk w1 (w.heap.size + 3) 24 #[.int .i64 0, .slice none 0 0] := HRes.out.below hb HRes.out.lt
  have Hb1 := Lib.hid (Hb.out.trans (hb.mono Hb.out.size))
  have HR1 := Lib.hid hR1
  have f0 := hR1.frozen 0
  have f1 := hR1.frozen 1
  have k0 : w1.cell? ⟨w.heap.size + 3, 0, none⟩ = some (.int .i64 0) := hR1.cell 0
  have k1 : w1.cell? ⟨w.heap.size + 3, 1, none⟩ = some (.slice none 0 0) := hR1.cell 1
  clear hb hR1 HC HW Hb HRes ho
  go_wp2_with fail
  rw [cells2 HR1.out]
  obtain ⟨V, hV, rV, bV, sV, oV⟩ := filled HR1.out #[.int .i64 r, .slice a l c]
  rw [hV]
  clear f0 f1 k0 k1
  have z0 : V.cell? ⟨w.heap.size + 3, 0, none⟩ = some (.int .i64 r) := (show Blk V _ 24 _ from rV).cell 0
  have z1 : V.cell? ⟨w.heap.size + 3, 1, none⟩ = some (.slice a l c) := (show Blk V _ 24 _ from rV).cell 1
  have HZ : Hid (Own V w.heap.size (.slice a l c) X ∧ Below w.heap.size w V) := Lib.hid ⟨(HO.out.other oV (by have := Hs.out; omega)).mono (by have := Hs.out; omega), Hb1.out.trans (bV.mono (by omega))⟩
  clear HR1 Hb1 rV bV sV oV hV HO
  simp [bodyPost, results, Tryd.results66, go_sem, z0, z1]
  exact ⟨a, l, c, ⟨rfl, rfl, rfl⟩, HZ.out.1, HZ.out.2⟩
set_option maxRecDepth 100000 in
set_option maxHeartbeats 2000000 in
theorem joined_lift_bad (Nb : Int) (ab : Option Addr) (lb cb : Nat) (Nd : Int) (ad : Option Addr) (ld cd : Nat) (of : FuncId) (er : Int) (w : World) (h : ∀ W, Below w.heap.size w W → Blk W (w.heap.size) 24 #[.int .i64 Nb, .slice ab lb cb] → Blk W (w.heap.size + 1) 24 #[.int .i64 Nd, .slice ad ld cd] → Blk W (w.heap.size + 2) 89 #[.func (.func of) #[] #[]] → Calls Tryd.prog 89 #[.pointer (some ⟨w.heap.size, 0, none⟩), .pointer (some ⟨w.heap.size + 1, 0, none⟩), .pointer (some ⟨w.heap.size + 2, 0, none⟩)] W fun e w' => e = pan er ∧ Below W.heap.size W w') :
    Calls Tryd.prog 66 #[.agg #[.int .i64 Nb, .slice ab lb cb], .agg #[.int .i64 Nd, .slice ad ld cd], .func (.func of) #[] #[]] w fun e w' => e = .returned (.tuple #[.agg #[.int .i64 0, .slice none 0 0], .int .i64 er]) ∧ Below w.heap.size w w' := by
  have hmf : ∀ (fn : Fn) (first cap : Array Value) (w : World), (Instr.makeFunc fn first cap).run Tryd.prog w = .ok (.func fn first cap) w := fun _ _ _ _ => rfl
  obtain ⟨W0, hW0, hB0, hB1, hB2, hRes, hb0, hs0⟩ := joined_boxes Nb ab lb cb Nd ad ld cd of w
  have hent : ∀ (args : Array Value) (w : World), (callFunc 89 args).run Tryd.prog w = .ok (.enter 89 args) w := enters_of Tryd.func89 (by kernel_rfl) rfl
  have C := call_bits_bad 89 #[.pointer (some ⟨w.heap.size, 0, none⟩), .pointer (some ⟨w.heap.size + 1, 0, none⟩), .pointer (some ⟨w.heap.size + 2, 0, none⟩)] er W0 hent (fun W hb hlt => h W (hb0.trans (hb.mono (by omega))) (hB0.below hb (by omega)) (hB1.below hb (by omega)) (hB2.below hb (by omega)))
  have HC := Lib.hid C
  have HW := Lib.hid hW0
  have Hb := Lib.hid hb0
  have Hs := Lib.hid hs0
  have HRes := Lib.hid hRes
  clear C hW0 hb0 hs0 hB0 hB1 hB2 hRes h hent
  go_enter Tryd.func66, Tryd.ntmps66
  go_upto_region 1 with fail
  rw [HW.out]
  go_wp2_with fail
  refine HC.out.mono ?_
  rintro e w1 ⟨rfl, hb⟩
  have hR1 : Blk w1 (w.heap.size + 3) 24 #[.int .i64 0, .slice none 0 0] := HRes.out.below hb HRes.out.lt
  have Hb1 := Lib.hid (Hb.out.trans (hb.mono Hb.out.size))
  have HR1 := Lib.hid hR1
  have f0 := hR1.frozen 0
  have f1 := hR1.frozen 1
  have k0 : w1.cell? ⟨w.heap.size + 3, 0, none⟩ = some (.int .i64 0) := hR1.cell 0
  have k1 : w1.cell? ⟨w.heap.size + 3, 1, none⟩ = some (.slice none 0 0) := hR1.cell 1
  clear hb hR1 HC HW Hb HRes
  go_wp2_with fail
  rw [cells2 HR1.out]
  obtain ⟨V, hV, rV, bV, sV, oV⟩ := filled HR1.out #[.int .i64 0, .slice none 0 0]
  rw [hV]
  clear f0 f1 k0 k1
  have z0 : V.cell? ⟨w.heap.size + 3, 0, none⟩ = some (.int .i64 0) := (show Blk V _ 24 _ from rV).cell 0
  have z1 : V.cell? ⟨w.heap.size + 3, 1, none⟩ = some (.slice none 0 0) := (show Blk V _ 24 _ from rV).cell 1
  have HZ : Hid (Below w.heap.size w V) := Lib.hid (Hb1.out.trans (bV.mono (by omega)))
  clear HR1 Hb1 rV bV sV oV hV
  simp [bodyPost, results, Tryd.results66, go_sem, z0, z1]
  exact HZ.out

/-- The boxes of Runs. -/
theorem runs_boxes (Nb : Int) (ab : Option Addr) (lb cb : Nat) (on : Bool) (w : World) : ∃ W0, (w.alloc (.cells #[.int .i64 Nb, .slice ab lb cb] 24)).alloc (.cells #[.bool on] 4) = W0 ∧ Blk W0 (w.heap.size) 24 #[.int .i64 Nb, .slice ab lb cb] ∧ Blk W0 (w.heap.size + 1) 4 #[.bool on] ∧ Below w.heap.size w W0 ∧ W0.heap.size = w.heap.size + 2 := by
  refine ⟨_, rfl, ?_, ?_, ?_, by simp⟩
  · have h := heap_new w (.cells #[.int .i64 Nb, .slice ab lb cb] 24)
    have h0 : Blk (w.alloc (.cells #[.int .i64 Nb, .slice ab lb cb] 24)) (w.heap.size) 24 #[.int .i64 Nb, .slice ab lb cb] := h
    have h1 : Blk ((w.alloc (.cells #[.int .i64 Nb, .slice ab lb cb] 24)).alloc (.cells #[.bool on] 4)) (w.heap.size) 24 #[.int .i64 Nb, .slice ab lb cb] := h0.below ((Below.refl _ _).alloc (Nat.le_refl _) _) (by first | (simp only [World.size_alloc]; omega) | omega)
    exact h1
  · have h := heap_new (w.alloc (.cells #[.int .i64 Nb, .slice ab lb cb] 24)) (.cells #[.bool on] 4)
    simp only [World.size_alloc] at h
    have h0 : Blk ((w.alloc (.cells #[.int .i64 Nb, .slice ab lb cb] 24)).alloc (.cells #[.bool on] 4)) (w.heap.size + 1) 4 #[.bool on] := h
    exact h0
  · exact ((Below.refl _ w).alloc (by first | (simp only [World.size_alloc]; omega) | omega) _).alloc (by first | (simp only [World.size_alloc]; omega) | omega) _
set_option maxRecDepth 100000 in
set_option maxHeartbeats 2000000 in
theorem runs_lift_ok (Nb : Int) (ab : Option Addr) (lb cb : Nat) (on : Bool) (X : List (Nat × Nat)) (w : World) (h : ∀ W, Below w.heap.size w W → Blk W (w.heap.size) 24 #[.int .i64 Nb, .slice ab lb cb] → Blk W (w.heap.size + 1) 4 #[.bool on] → Calls Tryd.prog 74 #[.pointer (some ⟨w.heap.size, 0, none⟩), .pointer (some ⟨w.heap.size + 1, 0, none⟩)] W fun e w' => ∃ a l c, e = .returned (.slice a l c) ∧ OwnR w' W.heap.size (.slice a l c) X ∧ Below W.heap.size W w') :
    Calls Tryd.prog 37 #[.agg #[.int .i64 Nb, .slice ab lb cb], .bool on] w fun e w' => ∃ a l c, e = .returned (.tuple #[.slice a l c, .int .i64 0]) ∧ OwnR w' w.heap.size (.slice a l c) X ∧ Below w.heap.size w w' := by
  have hmf : ∀ (fn : Fn) (first cap : Array Value) (w : World), (Instr.makeFunc fn first cap).run Tryd.prog w = .ok (.func fn first cap) w := fun _ _ _ _ => rfl
  obtain ⟨W0, hW0, hB0, hB1, hb0, hs0⟩ := runs_boxes Nb ab lb cb on w
  have hent : ∀ (args : Array Value) (w : World), (callFunc 74 args).run Tryd.prog w = .ok (.enter 74 args) w := enters_of Tryd.func74 (by kernel_rfl) rfl
  have C := call_ranges_ok 74 #[.pointer (some ⟨w.heap.size, 0, none⟩), .pointer (some ⟨w.heap.size + 1, 0, none⟩)] (fun a l c W => OwnR W (W0.heap.size + 1) (.slice a l c) X) W0 hent (fun a l c W W' hO hk hs => hO.keep (fun k hk2 => hk k (by omega)))
    (fun W hb hlt => (h W (hb0.trans (hb.mono (by omega))) (hB0.below hb (by omega)) (hB1.below hb (by omega))).mono (by
      rintro e w' ⟨a, l, c, rfl, ho, hb'⟩
      exact ⟨a, l, c, rfl, ho.mono (by omega), hb'⟩))
  have HC := Lib.hid C
  have HW := Lib.hid hW0
  have Hb := Lib.hid hb0
  have Hs := Lib.hid hs0
  clear C hW0 hb0 hs0 hB0 hB1 h hent
  go_enter Tryd.func37, Tryd.ntmps37
  go_upto_region 1 with fail
  rw [HW.out]
  go_wp2_with fail
  refine HC.out.mono ?_
  rintro e w1 ⟨a, l, c, rfl, ho, hb⟩
  have HO := Lib.hid ho
  have Hb1 := Lib.hid (Hb.out.trans (hb.mono Hb.out.size))
  clear hb HC HW Hb ho
  go_wp2_with fail
  go_ret2
  exact ⟨a, l, c, rfl, HO.out.mono (by have := Hs.out; omega), Hb1.out⟩
set_option maxRecDepth 100000 in
set_option maxHeartbeats 2000000 in
theorem runs_lift_bad (Nb : Int) (ab : Option Addr) (lb cb : Nat) (on : Bool) (er : Int) (w : World) (h : ∀ W, Below w.heap.size w W → Blk W (w.heap.size) 24 #[.int .i64 Nb, .slice ab lb cb] → Blk W (w.heap.size + 1) 4 #[.bool on] → Calls Tryd.prog 74 #[.pointer (some ⟨w.heap.size, 0, none⟩), .pointer (some ⟨w.heap.size + 1, 0, none⟩)] W fun e w' => e = pan er ∧ Below W.heap.size W w') :
    Calls Tryd.prog 37 #[.agg #[.int .i64 Nb, .slice ab lb cb], .bool on] w fun e w' => e = .returned (.tuple #[.slice none 0 0, .int .i64 er]) ∧ Below w.heap.size w w' := by
  have hmf : ∀ (fn : Fn) (first cap : Array Value) (w : World), (Instr.makeFunc fn first cap).run Tryd.prog w = .ok (.func fn first cap) w := fun _ _ _ _ => rfl
  obtain ⟨W0, hW0, hB0, hB1, hb0, hs0⟩ := runs_boxes Nb ab lb cb on w
  have hent : ∀ (args : Array Value) (w : World), (callFunc 74 args).run Tryd.prog w = .ok (.enter 74 args) w := enters_of Tryd.func74 (by kernel_rfl) rfl
  have C := call_ranges_bad 74 #[.pointer (some ⟨w.heap.size, 0, none⟩), .pointer (some ⟨w.heap.size + 1, 0, none⟩)] er W0 hent (fun W hb hlt => h W (hb0.trans (hb.mono (by omega))) (hB0.below hb (by omega)) (hB1.below hb (by omega)))
  have HC := Lib.hid C
  have HW := Lib.hid hW0
  have Hb := Lib.hid hb0
  have Hs := Lib.hid hs0
  clear C hW0 hb0 hs0 hB0 hB1 h hent
  go_enter Tryd.func37, Tryd.ntmps37
  go_upto_region 1 with fail
  rw [HW.out]
  go_wp2_with fail
  refine HC.out.mono ?_
  rintro e w1 ⟨rfl, hb⟩
  have Hb1 := Lib.hid (Hb.out.trans (hb.mono Hb.out.size))
  clear hb HC HW Hb
  go_wp2_with fail
  go_ret2
  exact ⟨rfl, Hb1.out⟩

/-- The boxes of Find. -/
theorem find_boxes (Nb : Int) (ab : Option Addr) (lb cb : Nat) (many : Int) (how : Int) (near : Int) (w : World) : ∃ W0, (((w.alloc (.cells #[.int .i64 Nb, .slice ab lb cb] 24)).alloc (.cells #[.int .i64 many] 3)).alloc (.cells #[.int .i64 how] 3)).alloc (.cells #[.int .i64 near] 3) = W0 ∧ Blk W0 (w.heap.size) 24 #[.int .i64 Nb, .slice ab lb cb] ∧ Blk W0 (w.heap.size + 1) 3 #[.int .i64 many] ∧ Blk W0 (w.heap.size + 2) 3 #[.int .i64 how] ∧ Blk W0 (w.heap.size + 3) 3 #[.int .i64 near] ∧ Below w.heap.size w W0 ∧ W0.heap.size = w.heap.size + 4 := by
  refine ⟨_, rfl, ?_, ?_, ?_, ?_, ?_, by simp⟩
  · have h := heap_new w (.cells #[.int .i64 Nb, .slice ab lb cb] 24)
    have h0 : Blk (w.alloc (.cells #[.int .i64 Nb, .slice ab lb cb] 24)) (w.heap.size) 24 #[.int .i64 Nb, .slice ab lb cb] := h
    have h1 : Blk ((w.alloc (.cells #[.int .i64 Nb, .slice ab lb cb] 24)).alloc (.cells #[.int .i64 many] 3)) (w.heap.size) 24 #[.int .i64 Nb, .slice ab lb cb] := h0.below ((Below.refl _ _).alloc (Nat.le_refl _) _) (by first | (simp only [World.size_alloc]; omega) | omega)
    have h2 : Blk (((w.alloc (.cells #[.int .i64 Nb, .slice ab lb cb] 24)).alloc (.cells #[.int .i64 many] 3)).alloc (.cells #[.int .i64 how] 3)) (w.heap.size) 24 #[.int .i64 Nb, .slice ab lb cb] := h1.below ((Below.refl _ _).alloc (Nat.le_refl _) _) (by first | (simp only [World.size_alloc]; omega) | omega)
    have h3 : Blk ((((w.alloc (.cells #[.int .i64 Nb, .slice ab lb cb] 24)).alloc (.cells #[.int .i64 many] 3)).alloc (.cells #[.int .i64 how] 3)).alloc (.cells #[.int .i64 near] 3)) (w.heap.size) 24 #[.int .i64 Nb, .slice ab lb cb] := h2.below ((Below.refl _ _).alloc (Nat.le_refl _) _) (by first | (simp only [World.size_alloc]; omega) | omega)
    exact h3
  · have h := heap_new (w.alloc (.cells #[.int .i64 Nb, .slice ab lb cb] 24)) (.cells #[.int .i64 many] 3)
    simp only [World.size_alloc] at h
    have h0 : Blk ((w.alloc (.cells #[.int .i64 Nb, .slice ab lb cb] 24)).alloc (.cells #[.int .i64 many] 3)) (w.heap.size + 1) 3 #[.int .i64 many] := h
    have h2 : Blk (((w.alloc (.cells #[.int .i64 Nb, .slice ab lb cb] 24)).alloc (.cells #[.int .i64 many] 3)).alloc (.cells #[.int .i64 how] 3)) (w.heap.size + 1) 3 #[.int .i64 many] := h0.below ((Below.refl _ _).alloc (Nat.le_refl _) _) (by first | (simp only [World.size_alloc]; omega) | omega)
    have h3 : Blk ((((w.alloc (.cells #[.int .i64 Nb, .slice ab lb cb] 24)).alloc (.cells #[.int .i64 many] 3)).alloc (.cells #[.int .i64 how] 3)).alloc (.cells #[.int .i64 near] 3)) (w.heap.size + 1) 3 #[.int .i64 many] := h2.below ((Below.refl _ _).alloc (Nat.le_refl _) _) (by first | (simp only [World.size_alloc]; omega) | omega)
    exact h3
  · have h := heap_new ((w.alloc (.cells #[.int .i64 Nb, .slice ab lb cb] 24)).alloc (.cells #[.int .i64 many] 3)) (.cells #[.int .i64 how] 3)
    simp only [World.size_alloc] at h
    have h0 : Blk (((w.alloc (.cells #[.int .i64 Nb, .slice ab lb cb] 24)).alloc (.cells #[.int .i64 many] 3)).alloc (.cells #[.int .i64 how] 3)) (w.heap.size + 2) 3 #[.int .i64 how] := h
    have h3 : Blk ((((w.alloc (.cells #[.int .i64 Nb, .slice ab lb cb] 24)).alloc (.cells #[.int .i64 many] 3)).alloc (.cells #[.int .i64 how] 3)).alloc (.cells #[.int .i64 near] 3)) (w.heap.size + 2) 3 #[.int .i64 how] := h0.below ((Below.refl _ _).alloc (Nat.le_refl _) _) (by first | (simp only [World.size_alloc]; omega) | omega)
    exact h3
  · have h := heap_new (((w.alloc (.cells #[.int .i64 Nb, .slice ab lb cb] 24)).alloc (.cells #[.int .i64 many] 3)).alloc (.cells #[.int .i64 how] 3)) (.cells #[.int .i64 near] 3)
    simp only [World.size_alloc] at h
    have h0 : Blk ((((w.alloc (.cells #[.int .i64 Nb, .slice ab lb cb] 24)).alloc (.cells #[.int .i64 many] 3)).alloc (.cells #[.int .i64 how] 3)).alloc (.cells #[.int .i64 near] 3)) (w.heap.size + 3) 3 #[.int .i64 near] := h
    exact h0
  · exact ((((Below.refl _ w).alloc (by first | (simp only [World.size_alloc]; omega) | omega) _).alloc (by first | (simp only [World.size_alloc]; omega) | omega) _).alloc (by first | (simp only [World.size_alloc]; omega) | omega) _).alloc (by first | (simp only [World.size_alloc]; omega) | omega) _
set_option maxRecDepth 100000 in
set_option maxHeartbeats 2000000 in
theorem find_lift_ok (Nb : Int) (ab : Option Addr) (lb cb : Nat) (many : Int) (how : Int) (near : Int) (r : Int) (w : World) (h : ∀ W, Below w.heap.size w W → Blk W (w.heap.size) 24 #[.int .i64 Nb, .slice ab lb cb] → Blk W (w.heap.size + 1) 3 #[.int .i64 many] → Blk W (w.heap.size + 2) 3 #[.int .i64 how] → Blk W (w.heap.size + 3) 3 #[.int .i64 near] → Calls Tryd.prog 77 #[.pointer (some ⟨w.heap.size, 0, none⟩), .pointer (some ⟨w.heap.size + 1, 0, none⟩), .pointer (some ⟨w.heap.size + 3, 0, none⟩), .pointer (some ⟨w.heap.size + 2, 0, none⟩)] W fun e w' => e = .returned (.int .i64 r) ∧ Below W.heap.size W w') :
    Calls Tryd.prog 40 #[.agg #[.int .i64 Nb, .slice ab lb cb], .int .i64 many, .int .i64 how, .int .i64 near] w fun e w' => e = .returned (.tuple #[.int .i64 r, .int .i64 0]) ∧ Below w.heap.size w w' := by
  have hmf : ∀ (fn : Fn) (first cap : Array Value) (w : World), (Instr.makeFunc fn first cap).run Tryd.prog w = .ok (.func fn first cap) w := fun _ _ _ _ => rfl
  obtain ⟨W0, hW0, hB0, hB1, hB2, hB3, hb0, hs0⟩ := find_boxes Nb ab lb cb many how near w
  have hent : ∀ (args : Array Value) (w : World), (callFunc 77 args).run Tryd.prog w = .ok (.enter 77 args) w := enters_of Tryd.func77 (by kernel_rfl) rfl
  have C := call_int_ok 77 #[.pointer (some ⟨w.heap.size, 0, none⟩), .pointer (some ⟨w.heap.size + 1, 0, none⟩), .pointer (some ⟨w.heap.size + 3, 0, none⟩), .pointer (some ⟨w.heap.size + 2, 0, none⟩)] r (fun _ => True) W0 hent (fun _ _ _ _ _ => trivial)
    (fun W hb hlt => (h W (hb0.trans (hb.mono (by omega))) (hB0.below hb (by omega)) (hB1.below hb (by omega)) (hB2.below hb (by omega)) (hB3.below hb (by omega))).mono (by
      rintro e w' ⟨rfl, hb'⟩
      exact ⟨rfl, trivial, hb'⟩))
  have HC := Lib.hid C
  have HW := Lib.hid hW0
  have Hb := Lib.hid hb0
  have Hs := Lib.hid hs0
  clear C hW0 hb0 hs0 hB0 hB1 hB2 hB3 h hent
  go_enter Tryd.func40, Tryd.ntmps40
  go_upto_region 1 with fail
  rw [HW.out]
  go_wp2_with fail
  refine HC.out.mono ?_
  rintro e w1 ⟨rfl, -, hb⟩
  have Hb1 := Lib.hid (Hb.out.trans (hb.mono Hb.out.size))
  clear hb HC HW Hb
  go_wp2_with fail
  go_ret2
  exact ⟨rfl, Hb1.out⟩
set_option maxRecDepth 100000 in
set_option maxHeartbeats 2000000 in
theorem find_lift_bad (Nb : Int) (ab : Option Addr) (lb cb : Nat) (many : Int) (how : Int) (near : Int) (er : Int) (w : World) (h : ∀ W, Below w.heap.size w W → Blk W (w.heap.size) 24 #[.int .i64 Nb, .slice ab lb cb] → Blk W (w.heap.size + 1) 3 #[.int .i64 many] → Blk W (w.heap.size + 2) 3 #[.int .i64 how] → Blk W (w.heap.size + 3) 3 #[.int .i64 near] → Calls Tryd.prog 77 #[.pointer (some ⟨w.heap.size, 0, none⟩), .pointer (some ⟨w.heap.size + 1, 0, none⟩), .pointer (some ⟨w.heap.size + 3, 0, none⟩), .pointer (some ⟨w.heap.size + 2, 0, none⟩)] W fun e w' => e = pan er ∧ Below W.heap.size W w') :
    Calls Tryd.prog 40 #[.agg #[.int .i64 Nb, .slice ab lb cb], .int .i64 many, .int .i64 how, .int .i64 near] w fun e w' => e = .returned (.tuple #[.int .i64 0, .int .i64 er]) ∧ Below w.heap.size w w' := by
  have hmf : ∀ (fn : Fn) (first cap : Array Value) (w : World), (Instr.makeFunc fn first cap).run Tryd.prog w = .ok (.func fn first cap) w := fun _ _ _ _ => rfl
  obtain ⟨W0, hW0, hB0, hB1, hB2, hB3, hb0, hs0⟩ := find_boxes Nb ab lb cb many how near w
  have hent : ∀ (args : Array Value) (w : World), (callFunc 77 args).run Tryd.prog w = .ok (.enter 77 args) w := enters_of Tryd.func77 (by kernel_rfl) rfl
  have C := call_int_bad 77 #[.pointer (some ⟨w.heap.size, 0, none⟩), .pointer (some ⟨w.heap.size + 1, 0, none⟩), .pointer (some ⟨w.heap.size + 3, 0, none⟩), .pointer (some ⟨w.heap.size + 2, 0, none⟩)] er W0 hent (fun W hb hlt => h W (hb0.trans (hb.mono (by omega))) (hB0.below hb (by omega)) (hB1.below hb (by omega)) (hB2.below hb (by omega)) (hB3.below hb (by omega)))
  have HC := Lib.hid C
  have HW := Lib.hid hW0
  have Hb := Lib.hid hb0
  have Hs := Lib.hid hs0
  clear C hW0 hb0 hs0 hB0 hB1 hB2 hB3 h hent
  go_enter Tryd.func40, Tryd.ntmps40
  go_upto_region 1 with fail
  rw [HW.out]
  go_wp2_with fail
  refine HC.out.mono ?_
  rintro e w1 ⟨rfl, hb⟩
  have Hb1 := Lib.hid (Hb.out.trans (hb.mono Hb.out.size))
  clear hb HC HW Hb
  go_wp2_with fail
  go_ret2
  exact ⟨rfl, Hb1.out⟩

/-- The boxes of Gather. -/
theorem gather_boxes (Nb : Int) (ab : Option Addr) (lb cb : Nat) (many : Int) (near : Int) (w : World) : ∃ W0, ((w.alloc (.cells #[.int .i64 Nb, .slice ab lb cb] 24)).alloc (.cells #[.int .i64 many] 3)).alloc (.cells #[.int .i64 near] 3) = W0 ∧ Blk W0 (w.heap.size) 24 #[.int .i64 Nb, .slice ab lb cb] ∧ Blk W0 (w.heap.size + 1) 3 #[.int .i64 many] ∧ Blk W0 (w.heap.size + 2) 3 #[.int .i64 near] ∧ Below w.heap.size w W0 ∧ W0.heap.size = w.heap.size + 3 := by
  refine ⟨_, rfl, ?_, ?_, ?_, ?_, by simp⟩
  · have h := heap_new w (.cells #[.int .i64 Nb, .slice ab lb cb] 24)
    have h0 : Blk (w.alloc (.cells #[.int .i64 Nb, .slice ab lb cb] 24)) (w.heap.size) 24 #[.int .i64 Nb, .slice ab lb cb] := h
    have h1 : Blk ((w.alloc (.cells #[.int .i64 Nb, .slice ab lb cb] 24)).alloc (.cells #[.int .i64 many] 3)) (w.heap.size) 24 #[.int .i64 Nb, .slice ab lb cb] := h0.below ((Below.refl _ _).alloc (Nat.le_refl _) _) (by first | (simp only [World.size_alloc]; omega) | omega)
    have h2 : Blk (((w.alloc (.cells #[.int .i64 Nb, .slice ab lb cb] 24)).alloc (.cells #[.int .i64 many] 3)).alloc (.cells #[.int .i64 near] 3)) (w.heap.size) 24 #[.int .i64 Nb, .slice ab lb cb] := h1.below ((Below.refl _ _).alloc (Nat.le_refl _) _) (by first | (simp only [World.size_alloc]; omega) | omega)
    exact h2
  · have h := heap_new (w.alloc (.cells #[.int .i64 Nb, .slice ab lb cb] 24)) (.cells #[.int .i64 many] 3)
    simp only [World.size_alloc] at h
    have h0 : Blk ((w.alloc (.cells #[.int .i64 Nb, .slice ab lb cb] 24)).alloc (.cells #[.int .i64 many] 3)) (w.heap.size + 1) 3 #[.int .i64 many] := h
    have h2 : Blk (((w.alloc (.cells #[.int .i64 Nb, .slice ab lb cb] 24)).alloc (.cells #[.int .i64 many] 3)).alloc (.cells #[.int .i64 near] 3)) (w.heap.size + 1) 3 #[.int .i64 many] := h0.below ((Below.refl _ _).alloc (Nat.le_refl _) _) (by first | (simp only [World.size_alloc]; omega) | omega)
    exact h2
  · have h := heap_new ((w.alloc (.cells #[.int .i64 Nb, .slice ab lb cb] 24)).alloc (.cells #[.int .i64 many] 3)) (.cells #[.int .i64 near] 3)
    simp only [World.size_alloc] at h
    have h0 : Blk (((w.alloc (.cells #[.int .i64 Nb, .slice ab lb cb] 24)).alloc (.cells #[.int .i64 many] 3)).alloc (.cells #[.int .i64 near] 3)) (w.heap.size + 2) 3 #[.int .i64 near] := h
    exact h0
  · exact (((Below.refl _ w).alloc (by first | (simp only [World.size_alloc]; omega) | omega) _).alloc (by first | (simp only [World.size_alloc]; omega) | omega) _).alloc (by first | (simp only [World.size_alloc]; omega) | omega) _
set_option maxRecDepth 100000 in
set_option maxHeartbeats 2000000 in
theorem gather_lift_ok (Nb : Int) (ab : Option Addr) (lb cb : Nat) (many : Int) (near : Int) (X : List (Nat × Nat)) (w : World) (h : ∀ W, Below w.heap.size w W → Blk W (w.heap.size) 24 #[.int .i64 Nb, .slice ab lb cb] → Blk W (w.heap.size + 1) 3 #[.int .i64 many] → Blk W (w.heap.size + 2) 3 #[.int .i64 near] → Calls Tryd.prog 80 #[.pointer (some ⟨w.heap.size, 0, none⟩), .pointer (some ⟨w.heap.size + 1, 0, none⟩), .pointer (some ⟨w.heap.size + 2, 0, none⟩)] W fun e w' => ∃ a l c, e = .returned (.slice a l c) ∧ OwnR w' W.heap.size (.slice a l c) X ∧ Below W.heap.size W w') :
    Calls Tryd.prog 42 #[.agg #[.int .i64 Nb, .slice ab lb cb], .int .i64 many, .int .i64 near] w fun e w' => ∃ a l c, e = .returned (.tuple #[.slice a l c, .int .i64 0]) ∧ OwnR w' w.heap.size (.slice a l c) X ∧ Below w.heap.size w w' := by
  have hmf : ∀ (fn : Fn) (first cap : Array Value) (w : World), (Instr.makeFunc fn first cap).run Tryd.prog w = .ok (.func fn first cap) w := fun _ _ _ _ => rfl
  obtain ⟨W0, hW0, hB0, hB1, hB2, hb0, hs0⟩ := gather_boxes Nb ab lb cb many near w
  have hent : ∀ (args : Array Value) (w : World), (callFunc 80 args).run Tryd.prog w = .ok (.enter 80 args) w := enters_of Tryd.func80 (by kernel_rfl) rfl
  have C := call_ranges_ok 80 #[.pointer (some ⟨w.heap.size, 0, none⟩), .pointer (some ⟨w.heap.size + 1, 0, none⟩), .pointer (some ⟨w.heap.size + 2, 0, none⟩)] (fun a l c W => OwnR W (W0.heap.size + 1) (.slice a l c) X) W0 hent (fun a l c W W' hO hk hs => hO.keep (fun k hk2 => hk k (by omega)))
    (fun W hb hlt => (h W (hb0.trans (hb.mono (by omega))) (hB0.below hb (by omega)) (hB1.below hb (by omega)) (hB2.below hb (by omega))).mono (by
      rintro e w' ⟨a, l, c, rfl, ho, hb'⟩
      exact ⟨a, l, c, rfl, ho.mono (by omega), hb'⟩))
  have HC := Lib.hid C
  have HW := Lib.hid hW0
  have Hb := Lib.hid hb0
  have Hs := Lib.hid hs0
  clear C hW0 hb0 hs0 hB0 hB1 hB2 h hent
  go_enter Tryd.func42, Tryd.ntmps42
  go_upto_region 1 with fail
  rw [HW.out]
  go_wp2_with fail
  refine HC.out.mono ?_
  rintro e w1 ⟨a, l, c, rfl, ho, hb⟩
  have HO := Lib.hid ho
  have Hb1 := Lib.hid (Hb.out.trans (hb.mono Hb.out.size))
  clear hb HC HW Hb ho
  go_wp2_with fail
  go_ret2
  exact ⟨a, l, c, rfl, HO.out.mono (by have := Hs.out; omega), Hb1.out⟩
set_option maxRecDepth 100000 in
set_option maxHeartbeats 2000000 in
theorem gather_lift_bad (Nb : Int) (ab : Option Addr) (lb cb : Nat) (many : Int) (near : Int) (er : Int) (w : World) (h : ∀ W, Below w.heap.size w W → Blk W (w.heap.size) 24 #[.int .i64 Nb, .slice ab lb cb] → Blk W (w.heap.size + 1) 3 #[.int .i64 many] → Blk W (w.heap.size + 2) 3 #[.int .i64 near] → Calls Tryd.prog 80 #[.pointer (some ⟨w.heap.size, 0, none⟩), .pointer (some ⟨w.heap.size + 1, 0, none⟩), .pointer (some ⟨w.heap.size + 2, 0, none⟩)] W fun e w' => e = pan er ∧ Below W.heap.size W w') :
    Calls Tryd.prog 42 #[.agg #[.int .i64 Nb, .slice ab lb cb], .int .i64 many, .int .i64 near] w fun e w' => e = .returned (.tuple #[.slice none 0 0, .int .i64 er]) ∧ Below w.heap.size w w' := by
  have hmf : ∀ (fn : Fn) (first cap : Array Value) (w : World), (Instr.makeFunc fn first cap).run Tryd.prog w = .ok (.func fn first cap) w := fun _ _ _ _ => rfl
  obtain ⟨W0, hW0, hB0, hB1, hB2, hb0, hs0⟩ := gather_boxes Nb ab lb cb many near w
  have hent : ∀ (args : Array Value) (w : World), (callFunc 80 args).run Tryd.prog w = .ok (.enter 80 args) w := enters_of Tryd.func80 (by kernel_rfl) rfl
  have C := call_ranges_bad 80 #[.pointer (some ⟨w.heap.size, 0, none⟩), .pointer (some ⟨w.heap.size + 1, 0, none⟩), .pointer (some ⟨w.heap.size + 2, 0, none⟩)] er W0 hent (fun W hb hlt => h W (hb0.trans (hb.mono (by omega))) (hB0.below hb (by omega)) (hB1.below hb (by omega)) (hB2.below hb (by omega)))
  have HC := Lib.hid C
  have HW := Lib.hid hW0
  have Hb := Lib.hid hb0
  have Hs := Lib.hid hs0
  clear C hW0 hb0 hs0 hB0 hB1 hB2 h hent
  go_enter Tryd.func42, Tryd.ntmps42
  go_upto_region 1 with fail
  rw [HW.out]
  go_wp2_with fail
  refine HC.out.mono ?_
  rintro e w1 ⟨rfl, hb⟩
  have Hb1 := Lib.hid (Hb.out.trans (hb.mono Hb.out.size))
  clear hb HC HW Hb
  go_wp2_with fail
  go_ret2
  exact ⟨rfl, Hb1.out⟩
end Go.Proofs.YthognmkjoekilaaDoor

/- New and From. -/
namespace Go.Proofs.YthognmkjoekilaaDoor
set_option linter.unusedVariables false
open Go.RowKit Go.Shelf

theorem Blk.boxed {W : World} {g : Nat} {t : TypeId} {v : Value} (h : Blk W g t #[v]) : Boxed W g t v := h
/-- The result of a function literal: a box of a bitmap, made first. -/
theorem lit_box (W : World) : ∃ W0, W.alloc (.cells #[.int .i64 0, .slice none 0 0] 24) = W0 ∧ Blk W0 W.heap.size 24 #[.int .i64 0, .slice none 0 0] ∧ Below W.heap.size W W0 ∧ W0.heap.size = W.heap.size + 1 :=
  ⟨_, rfl, heap_new W _, (Below.refl _ W).alloc (Nat.le_refl _) _, by simp⟩
set_option maxRecDepth 100000 in
set_option maxHeartbeats 2000000 in
theorem new1_no (g : Nat) (N : Int) (W : World) (hB : Blk W g 3 #[.int .i64 N]) (hs : ¬ (0 ≤ N ∧ N ≤ 65536)) :
    Calls Tryd.prog 58 #[.pointer (some ⟨g, 0, none⟩)] W fun e w' => e = pan 1 ∧ Below W.heap.size W w' := by
  obtain ⟨W0, hW0, hRes, hb0, hs0⟩ := lit_box W
  have q0 := (hB.below hb0 hB.lt).boxed.cell
  have HW := Lib.hid hW0
  have Hb := Lib.hid hb0
  have C := Lib.hid (size_no N hs W0)
  clear hW0 hRes hb0 hs0 hB hs
  go_enter Tryd.func58, Tryd.ntmps58
  go_upto_region 1 with fail
  rw [HW.out]
  go_wp2_with fail
  refine C.out.mono ?_
  rintro e w2 ⟨rfl, rfl⟩
  go_wp2_with fail
  refine (need_no _ _).mono ?_
  rintro e w2 ⟨rfl, rfl⟩
  exact ⟨rfl, rfl, Hb.out⟩
set_option maxRecDepth 100000 in
set_option maxHeartbeats 2000000 in
theorem new1_ok (g : Nat) (N : Int) (m : Nat) (W : World) (hB : Blk W g 3 #[.int .i64 N]) (hs : 0 ≤ N ∧ N ≤ 65536) (hm : (N + 7) / 8 = (m : Int)) :
    Calls Tryd.prog 58 #[.pointer (some ⟨g, 0, none⟩)] W fun e w' => ∃ a l c, e = .returned (.agg #[.int .i64 N, .slice a l c]) ∧ Own w' W.heap.size (.slice a l c) (List.replicate m 0) ∧ Below W.heap.size W w' := by
  obtain ⟨W0, hW0, hRes, hb0, hs0⟩ := lit_box W
  have q0 := (hB.below hb0 hB.lt).boxed.cell
  have HW := Lib.hid hW0
  have Hb := Lib.hid hb0
  have HRes := Lib.hid hRes
  have Hs0 := Lib.hid hs0
  have C := Lib.hid (size_yes N hs W0)
  have C2 := Lib.hid (empty_any N m W0 hs.1 hs.2 hm)
  clear hW0 hRes hb0 hs0 hB hs hm
  go_enter Tryd.func58, Tryd.ntmps58
  go_upto_region 1 with fail
  rw [HW.out]
  go_wp2_with fail
  refine C.out.mono ?_
  rintro e w2 ⟨rfl, rfl⟩
  go_wp2_with fail
  refine (need_yes _ _).mono ?_
  rintro e w2 ⟨rfl, rfl⟩
  go_wp2_with fail
  refine C2.out.mono ?_
  rintro e w1 ⟨a, rfl, ho, hb⟩
  have hR1 : Blk w1 W.heap.size 24 #[.int .i64 0, .slice none 0 0] := HRes.out.below hb HRes.out.lt
  have HO := Lib.hid ho
  have Hb1 := Lib.hid (Hb.out.trans (hb.mono Hb.out.size))
  have HR1 := Lib.hid hR1
  have f0 := hR1.frozen 0
  have f1 := hR1.frozen 1
  have k0 : w1.cell? ⟨W.heap.size, 0, none⟩ = some (.int .i64 0) := hR1.cell 0
  have k1 : w1.cell? ⟨W.heap.size, 1, none⟩ = some (.slice none 0 0) := hR1.cell 1
  clear hb hR1 HRes ho C C2 Hb HW
  go_wp2_with fail
  rw [cells2 HR1.out]
  obtain ⟨V, hV, rV, bV, sV, oV⟩ := filled HR1.out #[.int .i64 N, .slice (some a) m m]
  rw [hV]
  clear f0 f1 k0 k1
  have z0 : V.cell? ⟨W.heap.size, 0, none⟩ = some (.int .i64 N) := (show Blk V _ 24 _ from rV).cell 0
  have z1 : V.cell? ⟨W.heap.size, 1, none⟩ = some (.slice (some a) m m) := (show Blk V _ 24 _ from rV).cell 1
  have HZ : Hid (Own V W.heap.size (.slice (some a) m m) (List.replicate m 0) ∧ Below W.heap.size W V) := Lib.hid ⟨(HO.out.other oV (by have := Hs0.out; omega)).mono (by have := Hs0.out; omega), Hb1.out.trans bV⟩
  clear HR1 Hb1 rV bV sV oV hV HO
  simp [bodyPost, results, Tryd.results58, go_sem, z0, z1]
  exact ⟨_, _, _, ⟨rfl, rfl, rfl⟩, HZ.out.1, HZ.out.2⟩
set_option maxRecDepth 100000 in
set_option maxHeartbeats 2000000 in
theorem from1_no (g h : Nat) (N : Int) (a : Option Addr) (l c : Nat) (bs : List Int) (W : World) (hB : Blk W g 3 #[.int .i64 N]) (hH : Blk W h 22 #[.slice a l c]) (hr : Rd W a l c bs) (hs : ¬ (0 ≤ N ∧ N ≤ 65536)) :
    Calls Tryd.prog 62 #[.pointer (some ⟨g, 0, none⟩), .pointer (some ⟨h, 0, none⟩)] W fun e w' => e = pan 1 ∧ Below W.heap.size W w' := by
  obtain ⟨W0, hW0, hRes, hb0, hs0⟩ := lit_box W
  have q0 := (hB.below hb0 hB.lt).boxed.cell
  have q1 := (hH.below hb0 hH.lt).boxed.cell
  have HW := Lib.hid hW0
  have Hb := Lib.hid hb0
  have C := Lib.hid (size_no N hs W0)
  clear hW0 hRes hb0 hs0 hB hH hs hr
  go_enter Tryd.func62, Tryd.ntmps62
  go_upto_region 1 with fail
  rw [HW.out]
  go_wp2_with fail
  refine C.out.mono ?_
  rintro e w2 ⟨rfl, rfl⟩
  go_wp2_with fail
  refine (need_no _ _).mono ?_
  rintro e w2 ⟨rfl, rfl⟩
  exact ⟨rfl, rfl, Hb.out⟩
set_option maxRecDepth 100000 in
set_option maxHeartbeats 2000000 in
theorem from1_form (g h : Nat) (N : Int) (a : Option Addr) (l c : Nat) (bs : List Int) (W : World) (hB : Blk W g 3 #[.int .i64 N]) (hH : Blk W h 22 #[.slice a l c]) (hr : Rd W a l c bs) (hs : 0 ≤ N ∧ N ≤ 65536) (hv : validB N bs = false) :
    Calls Tryd.prog 62 #[.pointer (some ⟨g, 0, none⟩), .pointer (some ⟨h, 0, none⟩)] W fun e w' => e = pan 4 ∧ Below W.heap.size W w' := by
  obtain ⟨W0, hW0, hRes, hb0, hs0⟩ := lit_box W
  have q0 := (hB.below hb0 hB.lt).boxed.cell
  have q1 := (hH.below hb0 hH.lt).boxed.cell
  have HW := Lib.hid hW0
  have Hb := Lib.hid hb0
  obtain ⟨V, hV⟩ : ∃ V, V = W0.alloc (.cells #[.int .i64 N, .slice a l c] 24) := ⟨_, rfl⟩
  have hbV : Below W0.heap.size W0 V := by rw [hV]; exact (Below.refl _ W0).alloc (Nat.le_refl _) _
  have hBV : Blk V W0.heap.size 24 #[.int .i64 N, .slice a l c] := by rw [hV]; exact heap_new W0 _
  have hbW : Below W.heap.size W V := hb0.trans (hbV.mono hb0.size)
  have CV := valid_any N a l c bs V (hr.below hbW (Nat.le_refl _)) (by omega) (by omega)
  rw [hv] at CV
  have HCV := Lib.hid CV
  have HV := Lib.hid hV
  have HbW := Lib.hid hbW
  have HBV := Lib.hid hBV
  have C := Lib.hid (size_yes N hs W0)
  have u0 : V.cell? ⟨W0.heap.size, 0, none⟩ = some (.int .i64 N) := hBV.cell 0
  have u1 : V.cell? ⟨W0.heap.size, 1, none⟩ = some (.slice a l c) := hBV.cell 1
  clear hW0 hRes hb0 hs0 hB hH hs hr hv hV hbV hBV hbW CV
  go_enter Tryd.func62, Tryd.ntmps62
  go_upto_region 1 with fail
  rw [HW.out]
  go_wp2_with fail
  refine C.out.mono ?_
  rintro e w2 ⟨rfl, rfl⟩
  go_wp2_with fail
  refine (need_yes _ _).mono ?_
  rintro e w2 ⟨rfl, rfl⟩
  go_upto_region 3 with fail
  rw [← HV.out]
  go_wp2_with fail
  refine HCV.out.mono ?_
  rintro e w3 ⟨rfl, hb3⟩
  have HZ := Lib.hid (HbW.out.trans (hb3.mono HbW.out.size))
  clear hb3 HCV
  go_wp2_with fail
  refine (need_no _ _).mono ?_
  rintro e w2 ⟨rfl, rfl⟩
  exact ⟨rfl, rfl, HZ.out⟩
set_option maxRecDepth 100000 in
set_option maxHeartbeats 2000000 in
theorem from1_ok (g h : Nat) (N : Int) (a : Option Addr) (l c : Nat) (bs : List Int) (W : World) (hB : Blk W g 3 #[.int .i64 N]) (hH : Blk W h 22 #[.slice a l c]) (hr : Rd W a l c bs) (hv : validB N bs = true) :
    Calls Tryd.prog 62 #[.pointer (some ⟨g, 0, none⟩), .pointer (some ⟨h, 0, none⟩)] W fun e w' => ∃ a' l' c', e = .returned (.agg #[.int .i64 N, .slice a' l' c']) ∧ Own w' W.heap.size (.slice a' l' c') bs ∧ Below W.heap.size W w' := by
  obtain ⟨W0, hW0, hRes, hb0, hs0⟩ := lit_box W
  have q0 := (hB.below hb0 hB.lt).boxed.cell
  have q1 := (hH.below hb0 hH.lt).boxed.cell
  have HW := Lib.hid hW0
  have Hb := Lib.hid hb0
  obtain ⟨v1, v2, v3, -⟩ := (validB_iff N bs).mp hv
  have hs : 0 ≤ N ∧ N ≤ 65536 := ⟨v1, v2⟩
  have hl := hr.hl
  obtain ⟨V, hV⟩ : ∃ V, V = W0.alloc (.cells #[.int .i64 N, .slice a l c] 24) := ⟨_, rfl⟩
  have hbV : Below W0.heap.size W0 V := by rw [hV]; exact (Below.refl _ W0).alloc (Nat.le_refl _) _
  have hBV : Blk V W0.heap.size 24 #[.int .i64 N, .slice a l c] := by rw [hV]; exact heap_new W0 _
  have hbW : Below W.heap.size W V := hb0.trans (hbV.mono hb0.size)
  have CV := valid_any N a l c bs V (hr.below hbW (Nat.le_refl _)) (by omega) (by omega)
  rw [hv] at CV
  have HCV := Lib.hid CV
  have HV := Lib.hid hV
  have HbW := Lib.hid hbW
  have HBV := Lib.hid hBV
  have C := Lib.hid (size_yes N hs W0)
  have u0 : V.cell? ⟨W0.heap.size, 0, none⟩ = some (.int .i64 N) := hBV.cell 0
  have u1 : V.cell? ⟨W0.heap.size, 1, none⟩ = some (.slice a l c) := hBV.cell 1
  have HR := Lib.hid (hr.below hbW (Nat.le_refl _))
  have HRes := Lib.hid (hRes.below hbV (by omega))
  have Hs0 := Lib.hid hs0
  have hl9 : l ≤ 140737488355328 := by omega
  clear hW0 hRes hb0 hs0 hB hH hs hr hv hV hbV hBV hbW CV v1 v2 v3 hl
  go_enter Tryd.func62, Tryd.ntmps62
  go_upto_region 1 with fail
  rw [HW.out]
  go_wp2_with fail
  refine C.out.mono ?_
  rintro e w2 ⟨rfl, rfl⟩
  go_wp2_with fail
  refine (need_yes _ _).mono ?_
  rintro e w2 ⟨rfl, rfl⟩
  go_upto_region 3 with fail
  rw [← HV.out]
  go_wp2_with fail
  refine HCV.out.mono ?_
  rintro e w3 ⟨rfl, hb3⟩
  have HR3 := Lib.hid (HR.out.below hb3 (Nat.le_refl _))
  have HRes3 := Lib.hid (HRes.out.below hb3 HRes.out.lt)
  have hB3 := HBV.out.below hb3 HBV.out.lt
  have Hb3 := Lib.hid (HbW.out.trans (hb3.mono HbW.out.size))
  have u2 : w3.cell? ⟨W0.heap.size, 0, none⟩ = some (.int .i64 N) := hB3.cell 0
  have u3 : w3.cell? ⟨W0.heap.size, 1, none⟩ = some (.slice a l c) := hB3.cell 1
  have h3 : W0.heap.size < w3.heap.size := hB3.lt
  clear hb3 HCV u0 u1 hB3 HRes HR HBV HbW HV
  go_wp2_with fail
  refine (need_yes _ _).mono ?_
  rintro e w2 ⟨rfl, rfl⟩
  go_wp2_with fail
  refine (cloneB_any N a l c bs w3 HR3.out hl9).mono ?_
  rintro e w1 ⟨a', c', rfl, ho, hb⟩
  have hR1 : Blk w1 W.heap.size 24 #[.int .i64 0, .slice none 0 0] := HRes3.out.below hb HRes3.out.lt
  have HO := Lib.hid ho
  have Hb1 := Lib.hid (Hb3.out.trans (hb.mono Hb3.out.size))
  have HR1 := Lib.hid hR1
  have f0 := hR1.frozen 0
  have f1 := hR1.frozen 1
  have k0 : w1.cell? ⟨W.heap.size, 0, none⟩ = some (.int .i64 0) := hR1.cell 0
  have k1 : w1.cell? ⟨W.heap.size, 1, none⟩ = some (.slice none 0 0) := hR1.cell 1
  clear hb hR1 HRes3 ho C Hb HW u2 u3
  go_wp2_with fail
  rw [cells2 HR1.out]
  obtain ⟨V2, hV, rV, bV, sV, oV⟩ := filled HR1.out #[.int .i64 N, .slice a' l c']
  rw [hV]
  clear f0 f1 k0 k1
  have z0 : V2.cell? ⟨W.heap.size, 0, none⟩ = some (.int .i64 N) := (show Blk V2 _ 24 _ from rV).cell 0
  have z1 : V2.cell? ⟨W.heap.size, 1, none⟩ = some (.slice a' l c') := (show Blk V2 _ 24 _ from rV).cell 1
  have HZ : Hid (Own V2 W.heap.size (.slice a' l c') bs ∧ Below W.heap.size W V2) := Lib.hid ⟨(HO.out.other oV (by have := Hs0.out; omega)).mono (by have := Hs0.out; omega), Hb1.out.trans bV⟩
  clear HR1 Hb1 rV bV sV oV hV HO
  simp [bodyPost, results, Tryd.results62, go_sem, z0, z1]
  exact ⟨_, _, _, ⟨rfl, rfl, rfl⟩, HZ.out.1, HZ.out.2⟩
end Go.Proofs.YthognmkjoekilaaDoor

/- Set. -/
namespace Go.Proofs.YthognmkjoekilaaDoor
set_option linter.unusedVariables false
open Go.RowKit Go.Shelf

set_option maxRecDepth 100000 in
set_option maxHeartbeats 2000000 in
theorem set1_bad (g0 g1 g2 g3 : Nat) (N : Int) (a : Option Addr) (l c : Nat) (bs : List Int) (at_ m : Int) (on : Bool) (W : World) (hB : Blk W g0 24 #[.int .i64 N, .slice a l c]) (h1 : Blk W g1 3 #[.int .i64 at_]) (h2 : Blk W g2 3 #[.int .i64 m]) (h3 : Blk W g3 4 #[.bool on]) (hr : Rd W a l c bs) (hN1 : -9223372036854775808 ≤ N) (hN2 : N ≤ 9223372036854775807) (ha1 : -9223372036854775808 ≤ at_) (ha2 : at_ ≤ 9223372036854775807) (hv : validB N bs = false) :
    Calls Tryd.prog 48 #[.pointer (some ⟨g0, 0, none⟩), .pointer (some ⟨g1, 0, none⟩), .pointer (some ⟨g2, 0, none⟩), .pointer (some ⟨g3, 0, none⟩)] W fun e w' => e = pan 9 ∧ Below W.heap.size W w' := by
  obtain ⟨W0, hW0, hRes, hb0, hs0⟩ := lit_box W
  have q0 : W0.cell? ⟨g0, 0, none⟩ = some (.int .i64 N) := (hB.below hb0 hB.lt).cell 0
  have q1 : W0.cell? ⟨g0, 1, none⟩ = some (.slice a l c) := (hB.below hb0 hB.lt).cell 1
  have q2 := (h1.below hb0 h1.lt).boxed.cell
  have q3 := (h2.below hb0 h2.lt).boxed.cell
  have HW := Lib.hid hW0
  have Hb := Lib.hid hb0
  have C := Lib.hid (needRange_bad N a l c bs W0 (hr.below hb0 (Nat.le_refl _)) hN1 hN2 at_ m ha1 ha2 hv)
  clear hW0 hRes hb0 hs0 hB h1 h2 h3 hr hv
  go_enter Tryd.func48, Tryd.ntmps48
  go_upto_region 1 with fail
  rw [HW.out]
  go_wp2_with fail
  refine C.out.mono ?_
  rintro e w2 ⟨rfl, hb⟩
  exact ⟨rfl, rfl, Hb.out.trans (hb.mono Hb.out.size)⟩
set_option maxRecDepth 100000 in
set_option maxHeartbeats 2000000 in
theorem set1_rng (g0 g1 g2 g3 : Nat) (N : Int) (a : Option Addr) (l c : Nat) (bs : List Int) (at_ m : Int) (on : Bool) (W : World) (hB : Blk W g0 24 #[.int .i64 N, .slice a l c]) (h1 : Blk W g1 3 #[.int .i64 at_]) (h2 : Blk W g2 3 #[.int .i64 m]) (h3 : Blk W g3 4 #[.bool on]) (hr : Rd W a l c bs) (hN1 : -9223372036854775808 ≤ N) (hN2 : N ≤ 9223372036854775807) (ha1 : -9223372036854775808 ≤ at_) (ha2 : at_ ≤ 9223372036854775807) (hv : validB N bs = true) (hc : ¬ (0 ≤ at_ ∧ 0 ≤ m ∧ m ≤ N - at_)) :
    Calls Tryd.prog 48 #[.pointer (some ⟨g0, 0, none⟩), .pointer (some ⟨g1, 0, none⟩), .pointer (some ⟨g2, 0, none⟩), .pointer (some ⟨g3, 0, none⟩)] W fun e w' => e = pan 1 ∧ Below W.heap.size W w' := by
  obtain ⟨W0, hW0, hRes, hb0, hs0⟩ := lit_box W
  have q0 : W0.cell? ⟨g0, 0, none⟩ = some (.int .i64 N) := (hB.below hb0 hB.lt).cell 0
  have q1 : W0.cell? ⟨g0, 1, none⟩ = some (.slice a l c) := (hB.below hb0 hB.lt).cell 1
  have q2 := (h1.below hb0 h1.lt).boxed.cell
  have q3 := (h2.below hb0 h2.lt).boxed.cell
  have HW := Lib.hid hW0
  have Hb := Lib.hid hb0
  have C := Lib.hid (needRange_no N a l c bs W0 (hr.below hb0 (Nat.le_refl _)) hN1 hN2 at_ m ha1 ha2 hv hc)
  clear hW0 hRes hb0 hs0 hB h1 h2 h3 hr hv hc
  go_enter Tryd.func48, Tryd.ntmps48
  go_upto_region 1 with fail
  rw [HW.out]
  go_wp2_with fail
  refine C.out.mono ?_
  rintro e w2 ⟨rfl, hb⟩
  exact ⟨rfl, rfl, Hb.out.trans (hb.mono Hb.out.size)⟩
set_option maxRecDepth 100000 in
set_option maxHeartbeats 2000000 in
theorem set1_ok (g0 g1 g2 g3 : Nat) (N : Int) (a : Option Addr) (l c : Nat) (bs : List Int) (at_ m e : Nat) (on : Bool) (W : World) (hB : Blk W g0 24 #[.int .i64 N, .slice a l c]) (h1 : Blk W g1 3 #[.int .i64 (at_ : Int)]) (h2 : Blk W g2 3 #[.int .i64 (m : Int)]) (h3 : Blk W g3 4 #[.bool on]) (hr : Rd W a l c bs) (hv : validB N bs = true) (he : e = at_ + m) (hc : (e : Int) ≤ N) :
    Calls Tryd.prog 48 #[.pointer (some ⟨g0, 0, none⟩), .pointer (some ⟨g1, 0, none⟩), .pointer (some ⟨g2, 0, none⟩), .pointer (some ⟨g3, 0, none⟩)] W fun e' w' => ∃ a' l' c', e' = .returned (.agg #[.int .i64 N, .slice a' l' c']) ∧ Own w' W.heap.size (.slice a' l' c') (fillV bs at_ e on) ∧ Below W.heap.size W w' := by
  obtain ⟨W0, hW0, hRes, hb0, hs0⟩ := lit_box W
  have q0 : W0.cell? ⟨g0, 0, none⟩ = some (.int .i64 N) := (hB.below hb0 hB.lt).cell 0
  have q1 : W0.cell? ⟨g0, 1, none⟩ = some (.slice a l c) := (hB.below hb0 hB.lt).cell 1
  have q2 := (h1.below hb0 h1.lt).boxed.cell
  have q3 := (h2.below hb0 h2.lt).boxed.cell
  have HW := Lib.hid hW0
  have Hb := Lib.hid hb0
  obtain ⟨v1, v2, v3, -⟩ := (validB_iff N bs).mp hv
  have hl := hr.hl
  have C := Lib.hid (needRange_yes N a l c bs W0 (hr.below hb0 (Nat.le_refl _)) (by omega) (by omega) at_ m (by omega) (by omega) hv ⟨by omega, by omega, by omega⟩)
  have HR := Lib.hid (hr.below hb0 (Nat.le_refl _))
  have HB := Lib.hid (hB.below hb0 hB.lt)
  have H1 := Lib.hid (h1.below hb0 h1.lt)
  have H2 := Lib.hid (h2.below hb0 h2.lt)
  have H3 := Lib.hid (h3.below hb0 h3.lt)
  have HRes := Lib.hid hRes
  have Hs0 := Lib.hid hs0
  have hl9 : l ≤ 9000 := by omega
  have he8 : e ≤ 8 * l := by omega
  have hlt : g0 < W.heap.size ∧ g1 < W.heap.size ∧ g2 < W.heap.size ∧ g3 < W.heap.size := ⟨hB.lt, h1.lt, h2.lt, h3.lt⟩
  clear hW0 hRes hb0 hB h1 h2 h3 hr hv v1 v2 v3 hc
  go_enter Tryd.func48, Tryd.ntmps48
  go_upto_region 1 with fail
  rw [HW.out]
  go_wp2_with fail
  refine C.out.mono ?_
  rintro e1 w1 ⟨rfl, hb1⟩
  have HR1 := Lib.hid (HR.out.below hb1 (Nat.le_refl _))
  have hB1 := HB.out.below hb1 HB.out.lt
  have H11 := H1.out.below hb1 H1.out.lt
  have H21 := H2.out.below hb1 H2.out.lt
  have H31 := H3.out.below hb1 H3.out.lt
  have HRes1 := Lib.hid (HRes.out.below hb1 HRes.out.lt)
  have p0 : w1.cell? ⟨g0, 0, none⟩ = some (.int .i64 N) := hB1.cell 0
  have p1 : w1.cell? ⟨g0, 1, none⟩ = some (.slice a l c) := hB1.cell 1
  have H11 := Lib.hid H11
  have H21 := Lib.hid H21
  have H31 := Lib.hid H31
  have Hb1 := Lib.hid (Hb.out.trans (hb1.mono Hb.out.size))
  have hs1 : W.heap.size + 1 ≤ w1.heap.size := by have := hb1.size; omega
  clear hb1 hB1 C HW Hb HB H1 H2 H3 HR HRes q0 q1 q2 q3
  go_wp2_with fail
  refine (cloneB_any N a l c bs w1 HR1.out (by omega)).mono ?_
  rintro e2 w2 ⟨a2, c2, rfl, ho, hb2⟩
  obtain ⟨V, hV⟩ : ∃ V, V = w2.alloc (.cells #[.int .i64 N, .slice a2 l c2] 24) := ⟨_, rfl⟩
  have hbV : Below w2.heap.size w2 V := by rw [hV]; exact (Below.refl _ w2).alloc (Nat.le_refl _) _
  have hBV : Blk V w2.heap.size 24 #[.int .i64 N, .slice a2 l c2] := by rw [hV]; exact heap_new w2 _
  have hs2 := hb2.size
  have hb2V : Below w1.heap.size w1 V := hb2.trans (hbV.mono hb2.size)
  have hOV := ho.below hbV (Nat.le_refl _)
  have hsV : w2.heap.size < V.heap.size := hBV.lt
  have hrow : ∀ x, a2 = some x → x.block ≠ w2.heap.size := by
    intro x hx
    subst hx
    rcases ho.1.2 with ⟨h1, _⟩ | ⟨g', cap', cur, h1, _, h2, _⟩
    · cases h1
    · have hx2 := (Value.slice.inj h1).1
      have hlt2 := (Array.getElem?_eq_some_iff.1 h2).1
      simp only [Option.some.injEq] at hx2
      subst hx2
      simp only
      omega
  have HOV := Lib.hid hOV
  have HBV := Lib.hid hBV
  have HbV := Lib.hid (Hb1.out.trans (hb2V.mono (by omega)))
  have HResV := Lib.hid (HRes1.out.below hb2V (by omega))
  have u0 : V.cell? ⟨w2.heap.size, 0, none⟩ = some (.int .i64 N) := hBV.cell 0
  have u1 : V.cell? ⟨w2.heap.size, 1, none⟩ = some (.slice a2 l c2) := hBV.cell 1
  have u2 := (H11.out.below hb2V H11.out.lt).boxed.cell
  have u3 := (H21.out.below hb2V H21.out.lt).boxed.cell
  have u4 := (H31.out.below hb2V H31.out.lt).boxed.cell
  have HV := Lib.hid hV
  have Hrow := Lib.hid hrow
  clear ho hb2 hbV hBV hb2V hOV hV hrow HR1 H11 H21 H31 HRes1 Hb1 p0 p1
  go_upto_region 3 with fail
  rw [← HV.out]
  go_wp2_with fail
  refine (fill_any N w1.heap.size c2 a2 bs l at_ m e on V hl HOV.out he he8 hl9 (by omega)).mono ?_
  rintro e3 w3 ⟨rfl, hO3, hF⟩
  have hB3 : Blk w3 w2.heap.size 24 #[.int .i64 N, .slice a2 l c2] := (hF.others _ hsV Hrow.out).trans HBV.out
  have hR3 : Blk w3 W.heap.size 24 #[.int .i64 0, .slice none 0 0] := HResV.out.below hF.below (by omega)
  have HR1 := Lib.hid hR3
  have HO := Lib.hid hO3
  have Hb3 := Lib.hid (HbV.out.trans (hF.below.mono (by omega)))
  have u0 : w3.cell? ⟨w2.heap.size, 0, none⟩ = some (.int .i64 N) := hB3.cell 0
  have u1 : w3.cell? ⟨w2.heap.size, 1, none⟩ = some (.slice a2 l c2) := hB3.cell 1
  have f0 := hR3.frozen 0
  have f1 := hR3.frozen 1
  have k0 : w3.cell? ⟨W.heap.size, 0, none⟩ = some (.int .i64 0) := hR3.cell 0
  have k1 : w3.cell? ⟨W.heap.size, 1, none⟩ = some (.slice none 0 0) := hR3.cell 1
  clear hB3 hR3 hO3 hF HResV HBV HOV HbV u2 u3 u4 HV Hrow
  go_wp2_with fail
  rw [cells2 HR1.out]
  obtain ⟨V2, hV, rV, bV, sV, oV⟩ := filled HR1.out #[.int .i64 N, .slice a2 l c2]
  rw [hV]
  clear f0 f1 k0 k1 u0 u1
  have z0 : V2.cell? ⟨W.heap.size, 0, none⟩ = some (.int .i64 N) := (show Blk V2 _ 24 _ from rV).cell 0
  have z1 : V2.cell? ⟨W.heap.size, 1, none⟩ = some (.slice a2 l c2) := (show Blk V2 _ 24 _ from rV).cell 1
  have HZ : Hid (Own V2 W.heap.size (.slice a2 l c2) (fillV bs at_ e on) ∧ Below W.heap.size W V2) := Lib.hid ⟨(HO.out.other oV (by omega)).mono (by omega), Hb3.out.trans bV⟩
  clear HR1 Hb3 rV bV sV oV hV HO
  simp [bodyPost, results, Tryd.results48, go_sem, z0, z1]
  exact ⟨_, _, _, ⟨rfl, rfl, rfl⟩, HZ.out.1, HZ.out.2⟩
end Go.Proofs.YthognmkjoekilaaDoor

/- Layer 3: a region that draws its order, in a round of a range over a function: reads and quiet calls ahead of one last part. -/
namespace Go.Proofs.YthognmkjoekilaaDoor
set_option linter.unusedVariables false
open Go.RowKit Go.Shelf

section
variable {ln m : Nat} {P : Program} {ops : Array Oper} {md : Region.Mode} {w : World}
/-- No operation is a defer statement. -/
def noDefer (ops : Array Oper) : Bool := ops.all fun o => match o.op with | .defer _ => false | _ => true
theorem noDefer_spec (h : noDefer ops = true) {i : Nat} {o : Oper} (ho : ops[i]? = some o) : ∀ c, o.op ≠ .defer c := by
  intro c hc
  have hi : i < ops.size := (Array.getElem?_eq_some_iff.1 ho).1
  have := Array.all_eq_true.1 h i hi
  have e : ops[i] = o := (Array.getElem?_eq_some_iff.1 ho).2
  rw [e, hc] at this
  cases this
theorem still_in {o : Oper} {a : Act} {K : Act → Prop} {K' : Act → World → Prop} {Q' : Exit → Act → World → Prop} (hd : ∀ c, o.op ≠ .defer c) (h : ∀ a, K a → K' a w) (hh : o.still P a w K) : o.wpIn (Fence.wide.inRound ln) m P a w K' Q' := by
  unfold Oper.still at hh
  unfold Oper.wpIn
  refine ⟨fun _ _ => trivial, ?_⟩
  rw [Oper.semAt_eq _ _ _ hd]
  generalize (execOp a.eval o).run P w = r at *
  cases r with
  | ok x w' =>
    cases x <;> simp only [Oper.stillUpon] at hh <;> simp only [Oper.uponIn]
    case value u =>
      obtain ⟨rfl, h2⟩ := hh
      exact h _ h2
    case skip =>
      obtain ⟨rfl, h2⟩ := hh
      exact h _ h2
    case enter f args =>
      obtain ⟨rfl, v, hc, h2⟩ := hh
      refine ⟨fun e => (by cases e), (CallsIn.inRound ln (callsIn_wide.2 hc)).mono ?_⟩
      rintro e w'' ⟨rfl, rfl⟩
      exact h _ h2
  | halt x w' => simp only [Oper.stillUpon] at hh
theorem op_in (hnd : noDefer ops = true) {i : Nat} {a : Act} {K : Act → Prop} {K' : Act → World → Prop} {Q' : Exit → Act → World → Prop} (h : ∀ a, K a → K' a w) (hh : stOp P ops w i K a) : wpOpIn (Fence.wide.inRound ln) m P ops Q' i K' a w := by
  unfold stOp at hh
  unfold wpOpIn
  split
  · rename_i ho; simp only [ho] at hh; exact h _ hh
  · rename_i o ho
    simp only [ho] at hh
    split
    · rename_i hw; simp only [hw, if_true] at hh; exact still_in (noDefer_spec hnd ho) h hh
    · rename_i hw; simp only [hw] at hh; exact ⟨fun _ _ => trivial, h _ hh⟩
theorem head_in (hnd : noDefer ops = true) {n g : Nat} {L : Array Bool → Act → Prop} {Q' : Exit → Act → World → Prop} (hL : ∀ listed a, L listed a → wpAnyIn (Fence.wide.inRound ln) m P md ops Q' g listed a w) :
    ∀ (f : Nat) (listed : Array Bool) (a : Act), wpAnyL P md ops w n L f listed a → wpAnyIn (Fence.wide.inRound ln) m P md ops Q' (f + g) listed a w
  | 0, listed, a, h => by rw [Nat.zero_add]; exact hL _ _ h
  | f + 1, listed, a, h => by
    rw [show f + 1 + g = (f + g) + 1 by omega]
    exact ⟨fun h0 => absurd h0 h.1, fun i hi => op_in hnd (fun a' h' => head_in hnd hL f _ a' h') (h.2 i hi).2⟩
theorem seq_in {Q' : Exit → Act → World → Prop} : ∀ (l : List Oper) (k : Nat) (listed : Array Bool) (a : Act) (w : World), (∀ j, l[j]? = ops[k + j]?) →
    Region.seqB md ops l.length k listed = true → wpListIn (Fence.wide.inRound ln) m P ops Q' l a w → wpAnyIn (Fence.wide.inRound ln) m P md ops Q' l.length listed a w
  | [], _, _, _, _, _, hB, h => ⟨by simpa [Region.seqB] using hB, h⟩
  | o :: l, k, listed, a, w, hl, hB, h => by
    have h0 : ops[k]? = some o := by simpa using (hl 0).symm
    simp only [List.length_cons, Region.seqB, Bool.and_eq_true, decide_eq_true_eq] at hB
    refine ⟨fun h1 => (by rw [hB.1] at h1; cases h1), fun i hi => ?_⟩
    rw [hB.1] at hi
    have hik : i = k := by simpa using hi
    subst hik
    have hw : wpOpIn (Fence.wide.inRound ln) m P ops Q' i (wpListIn (Fence.wide.inRound ln) m P ops Q' l) a w := by unfold wpOpIn; simp only [h0]; exact h
    exact wpOpIn_mono (fun a' w' h' => seq_in l (i + 1) _ a' w' (fun j => by have := hl (j + 1); simpa [Nat.add_assoc, Nat.add_comm 1 j] using this) hB.2 h') hw
theorem round_still_tail {id : Nat} {Q : Exit → Act → World → Prop} {a : Act} {w : World} {l : List Oper} (n : Nat) (hm : P.follows .mixedOrders = true) (hB : Region.lexTailB .any l.toArray n = true) (hnd : noDefer l.toArray = true)
    (h : wpStill P l.toArray { w with drawn := w.drawn + 1 } (fun a' => wpListIn (Fence.wide.inRound ln) m P l.toArray Q (l.drop n) a' { w with drawn := w.drawn + 1 }) (l.take n) a) : (Code.region id l.toArray true).wpIn (Fence.wide.inRound ln) m P Q a w := by
  simp only [Region.lexTailB, Bool.and_eq_true, decide_eq_true_eq] at hB
  obtain ⟨⟨⟨⟨hsel, hn⟩, hs⟩, hc⟩, hlex⟩ := hB
  have hn' : n < l.length := by simpa using hn
  have htl : (l.take n).length = n := by simp; omega
  have hdl : (l.drop n).length = l.toArray.size - n := by simp
  have inv0 : HeadInv .any l.toArray n (Array.replicate l.toArray.size false) :=
    ⟨by simp, fun j oj _ hl => (by rw [getD_replicate_false] at hl; cases hl), fun t _ ht => getD_in (by simpa using ht) (getD_replicate_false _ _)⟩
  have H := wpAnyL_lex (md := .any) (g := l.toArray.size - n) hsel hs hc hn (l.take n) 0 _ a (fun j hj => by
    have hj' : j < n := by rw [htl] at hj; exact hj
    simp [hj']) (by simpa using htl) inv0 (by rw [htl]; exact hlex) h
  refine wpIn_region_any hm ?_
  have := head_in (ln := ln) (m := m) (Q' := Q) (g := l.toArray.size - n) hnd (fun listed a' hL => by
    have := seq_in (ln := ln) (m := m) (md := .any) (Q' := Q) (l.drop n) n listed a' { w with drawn := w.drawn + 1 } (fun j => by simp [List.getElem?_drop]) (by rw [hdl]; exact hL.1) hL.2
    rwa [hdl] at this) _ _ _ H
  rw [htl, show n + (l.toArray.size - n) = l.toArray.size by omega] at this
  exact this
end
end Go.Proofs.YthognmkjoekilaaDoor

/- A field replaced: what is read of the bytes then. -/
import Derived.Test.YtlmknpljncpjiaaWoneway2
namespace Go.Proofs.Ytlmknpljncpjiaa
set_option linter.unusedVariables false
open Go.RowKit

/-- The bytes with the field i replaced. -/
def patchB (fs : List Fld) (B : List Int) (i : Nat) (part : List Int) : List Int := B.take (posV fs B i) ++ part ++ B.drop (posV fs B (i + 1))
def gotI (fs : List Fld) (B : List Int) (k : Nat) : Itm := ⟨(atV fs B k).2.1, none, 0, 0, (atV fs B k).2.2.1⟩
/-- The items that are read, but for the one replaced. -/
def gotL (fs : List Fld) (B : List Int) (i : Nat) (x : Itm) : List Itm := (List.range fs.length).map fun k => if k = i then x else gotI fs B k
theorem gotL_len (fs : List Fld) (B : List Int) (i : Nat) (x : Itm) : (gotL fs B i x).length = fs.length := by simp [gotL]
theorem gotL_get (fs : List Fld) (B : List Int) (i : Nat) (x : Itm) (k : Nat) (h : k < fs.length) : (gotL fs B i x).getD k default = if k = i then x else gotI fs B k := by
  unfold gotL
  simp [List.getD, h]
theorem posV_mono (fs : List Fld) (B : List Int) : ∀ j k, posV fs B k ≤ posV fs B (k + j) := by
  intro j k
  induction j with
  | zero => exact Nat.le_refl _
  | succ j ih => rw [← Nat.add_assoc, posV_succ]; omega
section
variable {fs : List Fld} {B : List Int} (hb : ∀ x ∈ B, 0 ≤ x ∧ x ≤ 255) (hch : checkV fs = 0) (hok : ∀ k, k < fs.length → (atV fs B k).1 = 0) {i : Nat} (hi : i < fs.length) {x : Itm}
include hb hch hok hi
theorem pre_before : ∀ k, k ≤ i → preB fs (gotL fs B i x) k = B.take (posV fs B k) := by
  obtain ⟨hp, hq⟩ := unpack_oneway hb hch hok
  intro k
  induction k with
  | zero => intro _; unfold posV; simp [preB]
  | succ k ih =>
    intro hk
    rw [preB, ih (by omega), gotL_get fs B i x k (by omega), if_neg (by omega), posV_succ, List.take_add]
    unfold gotI
    rw [(hq k (by omega)).2.1]
theorem pre_behind : ∀ j, i + 1 + j ≤ fs.length → preB fs (gotL fs B i x) (i + 1 + j) = B.take (posV fs B i) ++ packB (fs.getD i default).kind x.n (fs.getD i default).width x.xs ++ (B.take (posV fs B (i + 1 + j))).drop (posV fs B (i + 1)) := by
  obtain ⟨hp, hq⟩ := unpack_oneway hb hch hok
  intro j
  induction j with
  | zero =>
    intro _
    rw [Nat.add_zero, preB, pre_before hb hch hok hi i (Nat.le_refl _), gotL_get fs B i x i hi, if_pos rfl]
    rw [List.drop_eq_nil_of_le (by rw [List.length_take]; omega), List.append_nil]
  | succ j ih =>
    intro hk
    have hm := posV_mono fs B j (i + 1)
    have hle := hp (i + 1 + j) (by omega)
    rw [← Nat.add_assoc, preB, ih (by omega), gotL_get fs B i x _ (by omega), if_neg (by omega), posV_succ fs B (i + 1 + j), List.take_add]
    unfold gotI
    rw [(hq (i + 1 + j) (by omega)).2.1, List.append_assoc, List.drop_append_of_le_length (by rw [List.length_take]; omega)]
variable (hx : packE (fs.getD i default).kind x.n (fs.getD i default).width x.xs = 0)
include hx
omit hi in
theorem got_packed : ∀ k, k < fs.length → packE (fs.getD k default).kind ((gotL fs B i x).getD k default).n (fs.getD k default).width ((gotL fs B i x).getD k default).xs = 0 := by
  obtain ⟨hp, hq⟩ := unpack_oneway hb hch hok
  intro k hk
  rw [gotL_get fs B i x k hk]
  by_cases h : k = i
  · rw [if_pos h, h]; exact hx
  · rw [if_neg h]; exact (hq k hk).1
theorem patch_split : packL fs (gotL fs B i x) [] = (0, preB fs (gotL fs B i x) fs.length) ∧ preB fs (gotL fs B i x) fs.length ++ B.drop (posV fs B fs.length) = patchB fs B i (packB (fs.getD i default).kind x.n (fs.getD i default).width x.xs) := by
  obtain ⟨hp, hq⟩ := unpack_oneway hb hch hok
  refine ⟨by rw [packL_mk fs _ [] (gotL_len _ _ _ _) (got_packed hb hch hok hx), List.nil_append], ?_⟩
  obtain ⟨j, hj⟩ := Nat.exists_eq_add_of_le (show i + 1 ≤ fs.length from hi)
  have hm := posV_mono fs B j (i + 1)
  rw [← hj] at hm
  have hle := hp fs.length (Nat.le_refl _)
  have := pre_behind (x := x) hb hch hok hi j (by omega)
  rw [← hj] at this
  rw [this]
  unfold patchB
  rw [List.append_assoc, ← List.drop_append_of_le_length (by rw [List.length_take]; omega), List.take_append_drop]
/-- What is read of the bytes with one field replaced. -/
theorem patch_reads (n1 : -9223372036854775808 ≤ x.n) (n2 : x.n ≤ 9223372036854775807) : ∀ k, k ≤ fs.length →
    posV fs (patchB fs B i (packB (fs.getD i default).kind x.n (fs.getD i default).width x.xs)) k = (preB fs (gotL fs B i x) k).length ∧
    (k < fs.length → atV fs (patchB fs B i (packB (fs.getD i default).kind x.n (fs.getD i default).width x.xs)) k = (0, ((gotL fs B i x).getD k default).n, ((gotL fs B i x).getD k default).xs, (packB (fs.getD k default).kind ((gotL fs B i x).getD k default).n (fs.getD k default).width ((gotL fs B i x).getD k default).xs).length)) := by
  obtain ⟨hp, hq⟩ := unpack_oneway hb hch hok
  obtain ⟨h1, h2⟩ := patch_split hb hch hok hi hx
  have := pack_whole fs (gotL fs B i x) (B.drop (posV fs B fs.length)) hch (gotL_len _ _ _ _) (fun y hy => by
    unfold gotL at hy
    obtain ⟨k, hk, rfl⟩ := List.mem_map.1 hy
    have hk' := List.mem_range.1 hk
    by_cases h : k = i
    · rw [if_pos h]; exact ⟨n1, n2⟩
    · rw [if_neg h]; exact ⟨(hq k hk').2.2.1, (hq k hk').2.2.2.1⟩) (by rw [h1])
  rw [h1] at this
  simp only at this
  rw [h2] at this
  exact this
theorem patch_at (n1 : -9223372036854775808 ≤ x.n) (n2 : x.n ≤ 9223372036854775807) (k : Nat) (hk : k < fs.length) :
    (atV fs (patchB fs B i (packB (fs.getD i default).kind x.n (fs.getD i default).width x.xs)) k).1 = 0 ∧
    ((atV fs (patchB fs B i (packB (fs.getD i default).kind x.n (fs.getD i default).width x.xs)) k).2.1, (atV fs (patchB fs B i (packB (fs.getD i default).kind x.n (fs.getD i default).width x.xs)) k).2.2.1) = if k = i then (x.n, x.xs) else ((atV fs B k).2.1, (atV fs B k).2.2.1) := by
  have := (patch_reads hb hch hok hi hx n1 n2 k (by omega)).2 hk
  rw [this]
  refine ⟨rfl, ?_⟩
  rw [gotL_get fs B i x k hk]
  by_cases h : k = i
  · rw [if_pos h, if_pos h]
  · rw [if_neg h, if_neg h]; rfl
/-- The old item put back gives the old bytes. -/
theorem patch_back (n1 : -9223372036854775808 ≤ x.n) (n2 : x.n ≤ 9223372036854775807) :
    packE (fs.getD i default).kind (atV fs B i).2.1 (fs.getD i default).width (atV fs B i).2.2.1 = 0 ∧
    patchB fs (patchB fs B i (packB (fs.getD i default).kind x.n (fs.getD i default).width x.xs)) i (packB (fs.getD i default).kind (atV fs B i).2.1 (fs.getD i default).width (atV fs B i).2.2.1) = B := by
  obtain ⟨hp, hq⟩ := unpack_oneway hb hch hok
  refine ⟨(hq i hi).1, ?_⟩
  have h1 := (patch_reads hb hch hok hi hx n1 n2 i (by omega)).1
  have h2 := (patch_reads hb hch hok hi hx n1 n2 (i + 1) (by omega)).1
  have e1 := pre_before (x := x) hb hch hok hi i (Nat.le_refl _)
  have e2 := pre_behind (x := x) hb hch hok hi 0 (by omega)
  rw [Nat.add_zero, List.drop_eq_nil_of_le (by rw [List.length_take]; omega), List.append_nil] at e2
  rw [e1] at h1
  rw [e2] at h2
  have hle := hp i (by omega)
  obtain ⟨C, hC⟩ : ∃ C, C = patchB fs B i (packB (fs.getD i default).kind x.n (fs.getD i default).width x.xs) := ⟨_, rfl⟩
  rw [← hC] at h1 h2 ⊢
  unfold patchB
  rw [h1, h2, hC]
  unfold patchB
  rw [(hq i hi).2.1, List.drop_left, List.append_assoc (B.take _), List.take_left, List.append_assoc]
  have hp2 := hp (i + 1) (by omega)
  rw [posV_succ, ← List.drop_drop, List.take_append_drop, List.take_append_drop]
end
end Go.Proofs.Ytlmknpljncpjiaa

/- What Unpack gives is packed as just the bytes that were used. -/
import Derived.Test.YtmfijcniaehooaaWoneway
namespace Go.Proofs.Ytmfijcniaehooaa
set_option linter.unusedVariables false
open Go.RowKit

theorem bd_part {xs : List Int} (hb : ∀ x ∈ xs, 0 ≤ x ∧ x ≤ 255) (p m : Nat) : ∀ x ∈ (xs.drop p).take m, 0 ≤ x ∧ x ≤ 255 := fun x hx => hb x (List.mem_of_mem_drop (List.mem_of_mem_take hx))
theorem rfix_oneway (s : Bool) {xs : List Int} (hb : ∀ x ∈ xs, 0 ≤ x ∧ x ≤ 255) {p : Nat} (hp : p ≤ xs.length) {w n : Int} {st : Nat} (h : rfixV xs p w s = (n, 0, st)) :
    fixedE n w s = 0 ∧ fixedB n w s = (xs.drop p).take st ∧ p + st ≤ xs.length ∧ -9223372036854775808 ≤ n ∧ n ≤ 9223372036854775807 := by
  unfold rfixV at h
  split at h
  · simp at h
  · rename_i hw
    split at h
    · simp at h
    · rename_i hl
      rcases hv : numV s ((xs.drop p).take w.toNat) with ⟨m, e⟩
      rw [hv] at h
      simp only at h
      split at h
      · rename_i he; simp only [Prod.mk.injEq] at h; exact absurd h.2.1 he
      · rename_i he
        simp only [Prod.mk.injEq] at h
        obtain ⟨rfl, -, rfl⟩ := h
        have he0 : e = 0 := by omega
        subst he0
        have hlen : ((xs.drop p).take w.toNat).length = w.toNat := by simp; omega
        obtain ⟨-, -, h3, h4, h5, h6⟩ := num_oneway s (bd_part hb p w.toNat) hv
        rw [hlen, show ((w.toNat : Nat) : Int) = w by omega] at h3 h4
        exact ⟨h3, h4, by omega, h5, h6⟩
theorem ahead_zero {m n : Int} (h : aheadE m n = 0) : 0 ≤ n ∧ n ≤ m := by
  unfold aheadE at h
  split at h
  · simp at h
  · split at h
    · simp at h
    · omega
/-- A field that was read is packed as its bytes. -/
theorem one_oneway {xs : List Int} (hb : ∀ x ∈ xs, 0 ≤ x ∧ x ≤ 255) {p : Nat} (hp : p ≤ xs.length) {k w : Int} (k1 : 1 ≤ k) (k5 : k ≤ 5) (w4 : w ≤ 4096) {n : Int} {bs : List Int} {st : Nat} (h : oneV k w xs p = (0, n, bs, st)) :
    packE k n w bs = 0 ∧ packB k n w bs = (xs.drop p).take st ∧ p + st ≤ xs.length ∧ -9223372036854775808 ≤ n ∧ n ≤ 9223372036854775807 ∧ (∀ x ∈ bs, 0 ≤ x ∧ x ≤ 255) := by
  have hk : k = 1 ∨ k = 2 ∨ k = 3 ∨ k = 4 ∨ k = 5 := by omega
  unfold oneV at h
  rcases hk with rfl | rfl | rfl | rfl | rfl
  · rw [if_pos rfl] at h
    rcases hv : rfixV xs p w false with ⟨m, e, q⟩
    rw [hv] at h
    simp only [Prod.mk.injEq] at h
    obtain ⟨rfl, rfl, rfl, rfl⟩ := h
    obtain ⟨h1, h2, h3, h4, h5⟩ := rfix_oneway false hb hp hv
    exact ⟨by unfold packE; simp [h1], by unfold packB; simp [h2], h3, h4, h5, by simp⟩
  · rw [if_neg (by omega), if_pos rfl] at h
    rcases hv : rfixV xs p w true with ⟨m, e, q⟩
    rw [hv] at h
    simp only [Prod.mk.injEq] at h
    obtain ⟨rfl, rfl, rfl, rfl⟩ := h
    obtain ⟨h1, h2, h3, h4, h5⟩ := rfix_oneway true hb hp hv
    exact ⟨by unfold packE; simp [h1], by unfold packB; simp [h2], h3, h4, h5, by simp⟩
  · rw [if_neg (by omega), if_neg (by omega), if_pos rfl] at h
    rcases hv : toVarV (xs.drop p) with ⟨m, u, e⟩
    rw [hv] at h
    simp only [Prod.mk.injEq] at h
    obtain ⟨rfl, rfl, rfl, rfl⟩ := h
    obtain ⟨h1, h2, q, rfl, h4, h5, h6⟩ := toVar_oneway (fun x hx => hb x (List.mem_of_mem_drop hx)) hv
    simp at h4
    exact ⟨by unfold packE varE; simp; omega, by unfold packB varV; simp; rw [if_neg (by omega), h6], by simp; omega, by omega, h2, by simp⟩
  · rw [if_neg (by omega), if_neg (by omega), if_neg (by omega), if_pos rfl] at h
    simp only [Prod.mk.injEq] at h
    obtain ⟨he, rfl, rfl, rfl⟩ := h
    obtain ⟨g1, g2⟩ := ahead_zero he
    have hB : aheadB xs p w = (xs.drop p).take w.toNat := by unfold aheadB; rw [if_pos he]
    have hS : stepV (aheadE ((xs.length : Int) - p) w) w = w.toNat := by unfold stepV; rw [if_pos he]
    have hl : ((xs.drop p).take w.toNat).length = w.toNat := by simp; omega
    rw [hB, hS]
    refine ⟨by unfold packE wr4E; rw [hl]; simp; omega, by unfold packB wr4B; rw [hl]; simp; omega, by omega, by omega, by omega, bd_part hb p _⟩
  · rw [if_neg (by omega), if_neg (by omega), if_neg (by omega), if_neg (by omega)] at h
    simp only [Prod.mk.injEq] at h
    obtain ⟨he, rfl, rfl, rfl⟩ := h
    rcases hv : toVarV (xs.drop p) with ⟨m, u, e⟩
    unfold text5 at he ⊢
    rw [hv] at he ⊢
    simp only at he ⊢
    split at he
    · rename_i h1; exact absurd he h1
    · rename_i h1
      have he0 : e = 0 := by omega
      subst he0
      rw [if_neg h1]
      obtain ⟨h2, h3, q, rfl, h4, h5, h6⟩ := toVar_oneway (fun x hx => hb x (List.mem_of_mem_drop hx)) hv
      simp at h4
      split at he
      · simp at he
      · rename_i hw
        rw [if_neg hw]
        split at he
        · rename_i h7; exact absurd he h7
        · rename_i h7
          rw [if_neg h7]
          simp only [Int.toNat_natCast] at h7 ⊢
          have h8 : aheadE ((xs.length : Int) - (p + q : Nat)) m = 0 := by omega
          obtain ⟨g1, g2⟩ := ahead_zero h8
          have hB : aheadB xs (p + q) m = (xs.drop (p + q)).take m.toNat := by unfold aheadB; rw [if_pos h8]
          have hl : ((xs.drop (p + q)).take m.toNat).length = m.toNat := by simp; omega
          rw [hB]
          refine ⟨by unfold packE wr5E textE; rw [hl]; simp; omega, ?_, by omega, by omega, by omega, bd_part hb _ _⟩
          unfold packB wr5B textV
          rw [hl, if_neg (by omega), if_neg (by omega), if_neg (by omega), if_neg (by omega), if_neg (by omega), if_neg (by omega), if_neg (by omega), show ((m.toNat : Nat) : Int) = m by omega, h6, List.take_add, List.drop_drop]
theorem packL_mk (fs : List Fld) : ∀ (xs : List Itm) (acc : List Int), xs.length = fs.length →
    (∀ k, k < fs.length → packE (fs.getD k default).kind (xs.getD k default).n (fs.getD k default).width (xs.getD k default).xs = 0) → (packL fs xs acc) = (0, acc ++ preB fs xs fs.length) := by
  induction fs with
  | nil => intro xs acc hl h; simp [packL, preB]
  | cons f fs ih =>
    intro xs acc hl h
    cases xs with
    | nil => simp at hl
    | cons x xs =>
      have hpre : ∀ k, preB (f :: fs) (x :: xs) (k + 1) = packB f.kind x.n f.width x.xs ++ preB fs xs k := by
        intro k
        induction k with
        | zero => simp [preB]
        | succ k ihk => rw [preB, ihk]; simp [preB]
      have hE : packE f.kind x.n f.width x.xs = 0 := by simpa using h 0 (by simp)
      rw [packL, if_neg (by simp [hE]), ih xs _ (by simpa using hl) (fun k hk => by simpa using h (k + 1) (by simpa using hk)), List.length_cons, hpre, List.append_assoc]
/-- The items that are read wholly, packed again. -/
theorem unpack_oneway {fs : List Fld} {B : List Int} (hb : ∀ x ∈ B, 0 ≤ x ∧ x ≤ 255) (hch : checkV fs = 0) (hok : ∀ k, k < fs.length → (atV fs B k).1 = 0) :
    (∀ k, k ≤ fs.length → posV fs B k ≤ B.length) ∧ (∀ k, k < fs.length → packE (fs.getD k default).kind (atV fs B k).2.1 (fs.getD k default).width (atV fs B k).2.2.1 = 0 ∧ packB (fs.getD k default).kind (atV fs B k).2.1 (fs.getD k default).width (atV fs B k).2.2.1 = (B.drop (posV fs B k)).take (atV fs B k).2.2.2 ∧
      -9223372036854775808 ≤ (atV fs B k).2.1 ∧ (atV fs B k).2.1 ≤ 9223372036854775807 ∧ ∀ x ∈ (atV fs B k).2.2.1, 0 ≤ x ∧ x ≤ 255) := by
  have step : ∀ k, k < fs.length → posV fs B k ≤ B.length → packE (fs.getD k default).kind (atV fs B k).2.1 (fs.getD k default).width (atV fs B k).2.2.1 = 0 ∧ packB (fs.getD k default).kind (atV fs B k).2.1 (fs.getD k default).width (atV fs B k).2.2.1 = (B.drop (posV fs B k)).take (atV fs B k).2.2.2 ∧ posV fs B k + (atV fs B k).2.2.2 ≤ B.length ∧
      -9223372036854775808 ≤ (atV fs B k).2.1 ∧ (atV fs B k).2.1 ≤ 9223372036854775807 ∧ ∀ x ∈ (atV fs B k).2.2.1, 0 ≤ x ∧ x ≤ 255 := by
    intro k hk hp
    have hfm : fs.getD k default ∈ fs := by
      have : fs.getD k default = fs[k]'hk := by simp [List.getD, hk]
      rw [this]; exact List.getElem_mem _
    obtain ⟨g1, g5, -, g4⟩ := fld_bd ((checkV_ok hch).2 _ hfm)
    have h0 := hok k hk
    rcases hv : atV fs B k with ⟨e, n, bs, st⟩
    rw [hv] at h0
    simp only at h0
    subst h0
    have ho : oneV (fs.getD k default).kind (fs.getD k default).width B (posV fs B k) = (0, n, bs, st) := by rw [← hv]; unfold atV; rfl
    exact one_oneway hb hp g1 g5 g4 ho
  have hpos : ∀ k, k ≤ fs.length → posV fs B k ≤ B.length := by
    intro k
    induction k with
    | zero => intro _; unfold posV; exact Nat.zero_le _
    | succ k ih =>
      intro hk
      rw [posV_succ]
      exact (step k (by omega) (ih (by omega))).2.2.1
  exact ⟨hpos, fun k hk => ⟨(step k hk (hpos k (by omega))).1, (step k hk (hpos k (by omega))).2.1, (step k hk (hpos k (by omega))).2.2.2⟩⟩
theorem pre_oneway {fs : List Fld} {B : List Int} {xs : List Itm} (hb : ∀ x ∈ B, 0 ≤ x ∧ x ≤ 255) (hch : checkV fs = 0) (hok : ∀ k, k < fs.length → (atV fs B k).1 = 0)
    (hx : ∀ k, k < fs.length → (xs.getD k default).n = (atV fs B k).2.1 ∧ (xs.getD k default).xs = (atV fs B k).2.2.1) : ∀ k, k ≤ fs.length → preB fs xs k = B.take (posV fs B k) := by
  obtain ⟨hp, hq⟩ := unpack_oneway hb hch hok
  intro k
  induction k with
  | zero => intro _; unfold posV; simp [preB]
  | succ k ih =>
    intro hk
    rw [preB, ih (by omega), (hx k (by omega)).1, (hx k (by omega)).2, (hq k (by omega)).2.1, posV_succ, List.take_add]
theorem pack_oneway {fs : List Fld} {B : List Int} {xs : List Itm} (hb : ∀ x ∈ B, 0 ≤ x ∧ x ≤ 255) (hch : checkV fs = 0) (hok : ∀ k, k < fs.length → (atV fs B k).1 = 0) (hl : xs.length = fs.length)
    (hx : ∀ k, k < fs.length → (xs.getD k default).n = (atV fs B k).2.1 ∧ (xs.getD k default).xs = (atV fs B k).2.2.1) : packV fs xs = (0, B.take (posV fs B fs.length)) := by
  obtain ⟨hp, hq⟩ := unpack_oneway hb hch hok
  unfold packV
  rw [if_neg (by simp [hch]), if_neg (by simp [hl]), packL_mk fs xs [] hl (fun k hk => by rw [(hx k hk).1, (hx k hk).2]; exact (hq k hk).1), pre_oneway hb hch hok hx _ (Nat.le_refl _), List.nil_append]
end Go.Proofs.Ytmfijcniaehooaa

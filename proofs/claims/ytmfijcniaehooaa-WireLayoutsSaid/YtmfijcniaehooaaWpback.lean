/- What Pack wrote is read again, field by field, whatever follows. -/
import Derived.Test.YtmfijcniaehooaaWvback
import Derived.Test.YtmfijcniaehooaaWback
import Derived.Test.YtmfijcniaehooaaWready
namespace Go.Proofs.Ytmfijcniaehooaa
set_option linter.unusedVariables false
open Go.RowKit

theorem drop_mid (pre mid post : List Int) : (pre ++ mid ++ post).drop pre.length = mid ++ post := by
  rw [List.append_assoc, List.drop_left]
theorem fixed_zero {n w : Int} {s : Bool} (h : fixedE n w s = 0) : 1 ≤ w ∧ w ≤ 8 ∧ widthV n s ≠ 0 ∧ widthV n s ≤ w := by
  unfold fixedE at h
  split at h
  · simp at h
  · split at h
    · simp at h
    · omega
theorem rfix_back (pre post : List Int) (n w : Int) (s : Bool) (h1 : -9223372036854775808 ≤ n) (h2 : n ≤ 9223372036854775807) (h : fixedE n w s = 0) :
    rfixV (pre ++ fixedB n w s ++ post) pre.length w s = (n, 0, (fixedB n w s).length) := by
  obtain ⟨w1, w8, hw0, hw⟩ := fixed_zero h
  obtain ⟨-, hn, hl⟩ := fixed_fit n w s h1 h2 hw0 hw w8
  unfold rfixV
  rw [drop_mid, if_neg (by omega), if_neg (by simp only [List.length_append]; omega), List.take_left' hl, hn]
  simp [hl]
theorem ahead_mid (pre mid post : List Int) : aheadE (((pre ++ mid ++ post).length : Int) - pre.length) mid.length = 0 ∧ aheadB (pre ++ mid ++ post) pre.length mid.length = mid := by
  have e : aheadE (((pre ++ mid ++ post).length : Int) - pre.length) mid.length = 0 := by
    unfold aheadE; rw [if_neg (by omega), if_neg (by simp only [List.length_append]; omega)]
  refine ⟨e, ?_⟩
  unfold aheadB
  rw [if_pos e, drop_mid]
  simp
/-- A field that was packed is read again where it lies. -/
theorem one_back (pre post : List Int) (k n w : Int) (xs : List Int) (k1 : 1 ≤ k) (k5 : k ≤ 5) (h1 : -9223372036854775808 ≤ n) (h2 : n ≤ 9223372036854775807) (h : packE k n w xs = 0) :
    oneV k w (pre ++ packB k n w xs ++ post) pre.length = (0, n, xs, (packB k n w xs).length) := by
  have hk : k = 1 ∨ k = 2 ∨ k = 3 ∨ k = 4 ∨ k = 5 := by omega
  unfold packE at h
  split at h
  · simp at h
  · rename_i hc
    rcases hk with rfl | rfl | rfl | rfl | rfl
    · have hx : xs = [] := List.eq_nil_of_length_eq_zero (by omega)
      have hB : packB 1 n w xs = fixedB n w false := by unfold packB; rw [if_neg hc]; simp
      simp only [if_true] at h
      unfold oneV
      rw [hB, rfix_back pre post n w false h1 h2 h, hx]
      simp
    · have hx : xs = [] := List.eq_nil_of_length_eq_zero (by omega)
      have hB : packB 2 n w xs = fixedB n w true := by unfold packB; rw [if_neg hc]; simp
      have h : fixedE n w true = 0 := by simpa using h
      unfold oneV
      rw [hB, rfix_back pre post n w true h1 h2 h, hx]
      simp
    · have hx : xs = [] := List.eq_nil_of_length_eq_zero (by omega)
      have h : varE n = 0 := by simpa using h
      have hn : 0 ≤ n := by unfold varE at h; split at h <;> omega
      have hB : packB 3 n w xs = varB n := by unfold packB; rw [if_neg hc]; simp [varV]; omega
      unfold oneV
      rw [hB, drop_mid, toVar_back n post hn h2, hx]
      simp
    · have h : wr4E w xs = 0 := by simpa using h
      have hl : (xs.length : Int) = w := by unfold wr4E at h; split at h <;> first | assumption | simp at h
      have hn : n = 0 := by omega
      have hB : packB 4 n w xs = xs := by unfold packB; rw [if_neg hc]; simp [wr4B, hl]
      obtain ⟨a1, a2⟩ := ahead_mid pre xs post
      unfold oneV
      rw [hB, ← hl, a1, a2, hn]
      simp [stepV]
    · have h : wr5E w xs = 0 := by simpa using h
      have hn : n = 0 := by omega
      have hw : ¬ w < xs.length ∧ ¬ 65535 < xs.length := by
        unfold wr5E textE at h
        split at h
        · simp at h
        · split at h
          · simp at h
          · exact ⟨by assumption, by assumption⟩
      have hB : packB 5 n w xs = varB xs.length ++ xs := by unfold packB; rw [if_neg hc]; simp [wr5B, textV, hw.1, hw.2]
      have hb := toVar_back xs.length (xs ++ post) (by omega) (by omega)
      have e1 : pre ++ (varB (xs.length : Int) ++ xs) ++ post = pre ++ varB (xs.length : Int) ++ (xs ++ post) := by simp
      have e2 : pre ++ (varB (xs.length : Int) ++ xs) ++ post = (pre ++ varB (xs.length : Int)) ++ xs ++ post := by simp
      obtain ⟨a1, a2⟩ := ahead_mid (pre ++ varB (xs.length : Int)) xs post
      rw [← e2, show (pre ++ varB (xs.length : Int)).length = pre.length + (varB (xs.length : Int)).length from List.length_append] at a1 a2
      have ht : text5 (pre ++ (varB (xs.length : Int) ++ xs) ++ post) pre.length w = (0, xs, (varB (xs.length : Int)).length + xs.length) := by
        unfold text5
        have hd : toVarV ((pre ++ (varB (xs.length : Int) ++ xs) ++ post).drop pre.length) = ((xs.length : Int), ((varB (xs.length : Int)).length : Int), 0) := by rw [e1, drop_mid, hb]
        rw [hd]
        simp only [Int.toNat_natCast]
        rw [a1, a2]
        simp
        omega
      unfold oneV
      rw [hB, ht, hn]
      simp
/-- The bytes of the first fields. -/
def preB (fs : List Fld) (xs : List Itm) : Nat → List Int
  | 0 => []
  | k + 1 => preB fs xs k ++ packB (fs.getD k default).kind (xs.getD k default).n (fs.getD k default).width (xs.getD k default).xs
theorem packL_ok (fs : List Fld) : ∀ (xs : List Itm) (acc : List Int), xs.length = fs.length → (packL fs xs acc).1 = 0 →
    (∀ k, k < fs.length → packE (fs.getD k default).kind (xs.getD k default).n (fs.getD k default).width (xs.getD k default).xs = 0) ∧ (packL fs xs acc).2 = acc ++ preB fs xs fs.length := by
  induction fs with
  | nil => intro xs acc hl h; exact ⟨fun k hk => by simp at hk, by simp [packL, preB]⟩
  | cons f fs ih =>
    intro xs acc hl h
    cases xs with
    | nil => simp at hl
    | cons x xs =>
      have hpre : ∀ k, preB (f :: fs) (x :: xs) (k + 1) = packB f.kind x.n f.width x.xs ++ preB fs xs k := by
        intro k
        induction k with
        | zero => simp [preB]
        | succ k ihk => rw [preB, ihk]; simp [preB]
      rw [packL] at h ⊢
      by_cases hE : packE f.kind x.n f.width x.xs = 0
      · rw [if_neg (by simp [hE])] at h ⊢
        obtain ⟨i1, i2⟩ := ih xs _ (by simpa using hl) h
        refine ⟨fun k hk => ?_, ?_⟩
        · cases k with
          | zero => simpa using hE
          | succ k => simpa using i1 k (by simpa using hk)
        · rw [i2, List.length_cons, hpre, List.append_assoc]
      · rw [if_pos hE] at h
        exact absurd h hE
/-- What was packed is whole, whatever follows. -/
theorem pack_whole (fs : List Fld) (xs : List Itm) (ys : List Int) (hch : checkV fs = 0) (hl : xs.length = fs.length) (hi : ∀ x ∈ xs, -9223372036854775808 ≤ x.n ∧ x.n ≤ 9223372036854775807) (h : (packL fs xs []).1 = 0) :
    ∀ k, k ≤ fs.length → posV fs ((packL fs xs []).2 ++ ys) k = (preB fs xs k).length ∧ (k < fs.length → atV fs ((packL fs xs []).2 ++ ys) k = (0, (xs.getD k default).n, (xs.getD k default).xs, (packB (fs.getD k default).kind (xs.getD k default).n (fs.getD k default).width (xs.getD k default).xs).length)) := by
  obtain ⟨hE, hB⟩ := packL_ok fs xs [] hl h
  rw [hB, List.nil_append]
  have hsplit : ∀ k, k ≤ fs.length → ∃ post, preB fs xs fs.length = preB fs xs k ++ post := by
    intro k hk
    obtain ⟨d, hd⟩ := Nat.exists_eq_add_of_le hk
    rw [hd]
    clear hd hk
    induction d with
    | zero => exact ⟨[], by simp⟩
    | succ d ih =>
      obtain ⟨post, hp⟩ := ih
      exact ⟨post ++ _, by rw [show k + (d + 1) = (k + d) + 1 from rfl, preB, hp, List.append_assoc]⟩
  have hone : ∀ k, k < fs.length → oneV (fs.getD k default).kind (fs.getD k default).width (preB fs xs fs.length ++ ys) (preB fs xs k).length = (0, (xs.getD k default).n, (xs.getD k default).xs, (packB (fs.getD k default).kind (xs.getD k default).n (fs.getD k default).width (xs.getD k default).xs).length) := by
    intro k hk
    have hfm : fs.getD k default ∈ fs := by
      have : fs.getD k default = fs[k]'hk := by simp [List.getD, hk]
      rw [this]; exact List.getElem_mem _
    have hxm : xs.getD k default ∈ xs := by
      have : xs.getD k default = xs[k]'(by omega) := by simp [List.getD, show k < xs.length by omega]
      rw [this]; exact List.getElem_mem _
    obtain ⟨g1, g5, -, -⟩ := fld_bd ((checkV_ok hch).2 _ hfm)
    obtain ⟨post, hp⟩ := hsplit (k + 1) hk
    rw [hp, preB, List.append_assoc]
    exact one_back _ _ _ _ _ _ g1 g5 (hi _ hxm).1 (hi _ hxm).2 (hE k hk)
  intro k
  induction k with
  | zero =>
    intro hk
    have h0 : posV fs (preB fs xs fs.length ++ ys) 0 = (preB fs xs 0).length := by unfold posV; simp [preB]
    refine ⟨h0, fun hlt => ?_⟩
    unfold atV
    rw [h0]; exact hone 0 hlt
  | succ k ih =>
    intro hk
    obtain ⟨i1, i2⟩ := ih (by omega)
    have h0 : posV fs (preB fs xs fs.length ++ ys) (k + 1) = (preB fs xs (k + 1)).length := by
      rw [posV_succ, i2 (by omega), i1, preB, List.length_append]
    refine ⟨h0, fun hlt => ?_⟩
    unfold atV
    rw [h0]; exact hone _ hlt
end Go.Proofs.Ytmfijcniaehooaa

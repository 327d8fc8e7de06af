/- What was packed is as long as Size says. -/
import Derived.Test.YtlmknpljncpjiaaWsize
import Derived.Test.YtlmknpljncpjiaaWpback
namespace Go.Proofs.Ytlmknpljncpjiaa
set_option linter.unusedVariables false
open Go.RowKit

theorem varL_mono (f : Nat) : ∀ m n : Int, m ≤ n → (varL f m).length ≤ (varL f n).length := by
  induction f with
  | zero => intro m n _; simp [varL]
  | succ f ih =>
    intro m n h
    simp only [varL]
    by_cases hm : 128 ≤ m
    · rw [if_pos hm, if_pos (by omega), List.length_cons, List.length_cons]
      have := ih (m / 128) (n / 128) (by omega)
      omega
    · rw [if_neg hm]
      split
      · simp
      · simp
theorem pack_len {f : Fld} (h : ¬ fldBad f) (n : Int) (xs : List Int) (hp : packE f.kind n f.width xs = 0) : loV f.kind f.width ≤ (packB f.kind n f.width xs).length ∧ ((packB f.kind n f.width xs).length : Int) ≤ hiV f.kind f.width := by
  obtain ⟨h1, h5, h6, h7⟩ := fld_bd h
  have hk : f.kind = 1 ∨ f.kind = 2 ∨ f.kind = 3 ∨ f.kind = 4 ∨ f.kind = 5 := by omega
  generalize f.kind = k at *
  generalize f.width = w at *
  clear h
  unfold packE at hp
  split at hp
  · simp at hp
  · rename_i hc
    have hfx : ∀ s, fixedE n w s = 0 → ((fixedB n w s).length : Int) = w := by
      intro s hs
      obtain ⟨a1, a2, -, -⟩ := fixed_zero hs
      unfold fixedB
      rw [if_pos hs, bytesOf_length]
      omega
    rcases hk with rfl | rfl | rfl | rfl | rfl
    · have hB : packB 1 n w xs = fixedB n w false := by unfold packB; rw [if_neg hc]; simp
      have := hfx false (by simpa using hp)
      rw [hB]; unfold loV hiV; simp; omega
    · have hB : packB 2 n w xs = fixedB n w true := by unfold packB; rw [if_neg hc]; simp
      have := hfx true (by simpa using hp)
      rw [hB]; unfold loV hiV; simp; omega
    · have h : varE n = 0 := by simpa using hp
      have hn : 0 ≤ n := by unfold varE at h; split at h <;> omega
      have hB : packB 3 n w xs = varB n := by unfold packB; rw [if_neg hc]; simp [varV]; omega
      have := varB_len n
      rw [hB]; unfold loV hiV; simp; omega
    · have h : wr4E w xs = 0 := by simpa using hp
      have hl : (xs.length : Int) = w := by unfold wr4E at h; split at h <;> first | assumption | simp at h
      have hB : packB 4 n w xs = xs := by unfold packB; rw [if_neg hc]; simp [wr4B, hl]
      rw [hB]; unfold loV hiV; simp; omega
    · have h : wr5E w xs = 0 := by simpa using hp
      have hw : ¬ w < xs.length ∧ ¬ 65535 < xs.length := by
        unfold wr5E textE at h
        split at h
        · simp at h
        · split at h
          · simp at h
          · exact ⟨by assumption, by assumption⟩
      have hB : packB 5 n w xs = varB xs.length ++ xs := by unfold packB; rw [if_neg hc]; simp [wr5B, textV, hw.1, hw.2]
      have h1 := varB_len (xs.length : Int)
      have h2 := varL_mono 8 (xs.length : Int) w (by omega)
      have h3 : varV w = varB w := by unfold varV; rw [if_neg (by omega)]
      have h4 : (varB (xs.length : Int)).length ≤ (varB w).length := h2
      rw [hB, List.length_append]; unfold loV hiV; rw [h3]; simp; omega
theorem pre_len (fs : List Fld) (xs : List Itm) (hf : ∀ f ∈ fs, ¬ fldBad f) (hE : ∀ k, k < fs.length → packE (fs.getD k default).kind (xs.getD k default).n (fs.getD k default).width (xs.getD k default).xs = 0) :
    ∀ k, k ≤ fs.length → loL (fs.take k) ≤ (preB fs xs k).length ∧ ((preB fs xs k).length : Int) ≤ hiL (fs.take k) := by
  intro k
  induction k with
  | zero => intro _; simp [preB, loL, hiL]
  | succ k ih =>
    intro hk
    obtain ⟨i1, i2⟩ := ih (by omega)
    have hg : fs.getD k default = fs[k]'(by omega) := by simp [List.getD, show k < fs.length by omega]
    have hfm : fs.getD k default ∈ fs := by rw [hg]; exact List.getElem_mem _
    obtain ⟨l1, l2⟩ := pack_len (hf _ hfm) _ _ (hE k (by omega))
    rw [List.take_succ_eq_append_getElem (by omega), ← hg, loL_snoc, hiL_snoc, preB, List.length_append]
    omega
/-- What it means that Pack answers without an error. -/
theorem packV_ok {fs : List Fld} {xs : List Itm} (h : (packV fs xs).1 = 0) : checkV fs = 0 ∧ xs.length = fs.length ∧ (packL fs xs []).1 = 0 ∧ packV fs xs = packL fs xs [] := by
  unfold packV at h ⊢
  by_cases h1 : checkV fs ≠ 0
  · rw [if_pos h1] at h; exact absurd h h1
  · by_cases h2 : xs.length ≠ fs.length
    · rw [if_neg h1, if_pos h2] at h; simp at h
    · rw [if_neg h1, if_neg h2] at h ⊢
      exact ⟨by omega, by omega, h, rfl⟩
theorem packV_len {fs : List Fld} {xs : List Itm} (h : (packV fs xs).1 = 0) : loL fs ≤ ((packV fs xs).2.length : Int) ∧ ((packV fs xs).2.length : Int) ≤ hiL fs ∧ (packV fs xs).2.length ≤ 262720 := by
  obtain ⟨h1, h2, h3, h4⟩ := packV_ok h
  obtain ⟨e1, e2⟩ := packL_ok fs xs [] h2 h3
  have hf := (checkV_ok h1).2
  obtain ⟨a, b⟩ := pre_len fs xs hf e1 fs.length (Nat.le_refl _)
  have hb := sizeL_bd fs hf
  have h64 := (checkV_ok h1).1
  rw [List.take_length] at a b
  rw [h4, e2, List.nil_append]
  omega
end Go.Proofs.Ytlmknpljncpjiaa

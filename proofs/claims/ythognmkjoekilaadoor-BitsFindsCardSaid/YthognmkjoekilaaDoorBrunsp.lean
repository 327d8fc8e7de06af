/- Runs of one bit more, their sum and what lies in them (pure). -/
import Derived.Test.YthognmkjoekilaaDoorBis
namespace Go.Proofs.YthognmkjoekilaaDoor
set_option linter.unusedVariables false

/-- One bit more: the last run goes on, or one begins. -/
def stepR (b : Bool) (i : Nat) (L : List (Nat × Nat)) : List (Nat × Nat) :=
  if b then (if 0 < L.length ∧ (L.getD (L.length - 1) (0, 0)).1 + (L.getD (L.length - 1) (0, 0)).2 = i then L.set (L.length - 1) ((L.getD (L.length - 1) (0, 0)).1, (L.getD (L.length - 1) (0, 0)).2 + 1) else L ++ [(i, 1)]) else L
theorem stepR_cons (b : Bool) (i : Nat) (x : Nat × Nat) (L : List (Nat × Nat)) (h : L ≠ []) : stepR b i (x :: L) = x :: stepR b i L := by
  obtain ⟨n, hn⟩ : ∃ n, L.length = n + 1 := ⟨L.length - 1, by have := List.length_pos_iff.mpr h; omega⟩
  unfold stepR
  cases b with
  | false => rfl
  | true =>
    rw [if_pos rfl, if_pos rfl, List.length_cons, hn]
    have e : (x :: L).getD (n + 1 + 1 - 1) (0, 0) = L.getD (n + 1 - 1) (0, 0) := by simp
    rw [e]
    by_cases hc : (L.getD (n + 1 - 1) (0, 0)).1 + (L.getD (n + 1 - 1) (0, 0)).2 = i
    · rw [if_pos ⟨by omega, hc⟩, if_pos ⟨by omega, hc⟩]
      simp
    · rw [if_neg (fun h => hc h.2), if_neg (fun h => hc h.2)]
      simp
theorem seek_more_lt (bs : List Int) (N : Nat) (k : Bool) (a : Nat) (ha : a ≤ N) (h : seekV bs N k a < N) : seekV bs (N + 1) k a = seekV bs N k a := by
  obtain ⟨s1, s2, s3, s4⟩ := seekV_spec bs N k a ha
  exact seekV_eq bs (N + 1) k a _ s1 (by omega) s3 (fun _ => s4 h)
theorem seek_more_end (bs : List Int) (N : Nat) (k : Bool) (a : Nat) (ha : a ≤ N) (h : seekV bs N k a = N) : seekV bs (N + 1) k a = if bitV bs N = k then N else N + 1 := by
  obtain ⟨s1, s2, s3, s4⟩ := seekV_spec bs N k a ha
  rw [h] at s3
  by_cases hb : bitV bs N = k
  · rw [if_pos hb]
    exact seekV_eq bs (N + 1) k a N ha (by omega) s3 (fun _ => hb)
  · rw [if_neg hb]
    refine seekV_eq bs (N + 1) k a (N + 1) (by omega) (Nat.le_refl _) (fun t h1 h2 => ?_) (fun h => by omega)
    by_cases ht : t < N
    · exact s3 t h1 ht
    · obtain rfl : t = N := by omega
      exact hb
theorem rest_more (bs : List Int) (N : Nat) (on : Bool) : ∀ d a, N - a ≤ d → a < N → bitV bs a = on → restV bs (N + 1) on a = stepR (decide (bitV bs N = on)) N (restV bs N on a) := by
  intro d
  induction d with
  | zero => intro a h1 h2; omega
  | succ d ih =>
    intro a hd ha hb
    obtain ⟨s1, s2, s3, s4⟩ := run_step bs N on a ha hb
    rw [restV_next bs N on a ha hb, restV_next bs (N + 1) on a (by omega) hb]
    by_cases hs : seekV bs N (!on) a < N
    · rw [seek_more_lt bs N (!on) a (by omega) hs]
      by_cases ht : seekV bs N on (seekV bs N (!on) a) < N
      · rw [seek_more_lt bs N on _ s2 ht]
        have hbt := (seekV_spec bs N on _ s2).2.2.2 ht
        rw [ih _ (by omega) ht hbt]
        rw [stepR_cons]
        rw [restV_next bs N on _ ht hbt]
        simp
      · have hte : seekV bs N on (seekV bs N (!on) a) = N := by omega
        rw [seek_more_end bs N on _ s2 hte, hte, restV_end bs N on N (Nat.le_refl _)]
        by_cases hN : bitV bs N = on
        · rw [if_pos hN]
          have e1 : seekV bs (N + 1) (!on) N = N + 1 := seekV_eq bs (N + 1) (!on) N (N + 1) (by omega) (Nat.le_refl _) (fun t h1 h2 => by
            obtain rfl : t = N := by omega
            rw [hN]; cases on <;> simp) (fun h => by omega)
          rw [restV_next bs (N + 1) on N (by omega) hN, e1, seekV_end bs (N + 1) on (N + 1) (Nat.le_refl _), restV_end bs (N + 1) on _ (Nat.le_refl _)]
          unfold stepR
          rw [if_pos (by simp [hN]), if_neg (by simp; omega)]
          simp
        · rw [if_neg hN, restV_end bs (N + 1) on _ (Nat.le_refl _)]
          unfold stepR
          rw [if_neg (by simp [hN])]
    · have hse : seekV bs N (!on) a = N := by omega
      rw [seek_more_end bs N (!on) a (by omega) hse, hse, seekV_end bs N on N (Nat.le_refl _), restV_end bs N on N (Nat.le_refl _)]
      by_cases hN : bitV bs N = on
      · have hN2 : ¬ bitV bs N = !on := by rw [hN]; cases on <;> simp
        rw [if_neg hN2, seekV_end bs (N + 1) on (N + 1) (Nat.le_refl _), restV_end bs (N + 1) on _ (Nat.le_refl _)]
        unfold stepR
        rw [if_pos (by simp [hN]), if_pos (by simp; omega)]
        simp; omega
      · have hN2 : bitV bs N = !on := by cases h : bitV bs N <;> cases on <;> simp_all
        have e1 : seekV bs (N + 1) on N = N + 1 := seekV_eq bs (N + 1) on N (N + 1) (by omega) (Nat.le_refl _) (fun t h1 h2 => by
          obtain rfl : t = N := by omega
          exact hN) (fun h => by omega)
        rw [if_pos hN2, e1, restV_end bs (N + 1) on _ (Nat.le_refl _)]
        unfold stepR
        rw [if_neg (by simp [hN])]
theorem runs_eq (bs : List Int) (N : Nat) (on : Bool) : runsV bs N on = restV bs N on (seekV bs N on 0) := rfl
/-- The runs of one bit more. -/
theorem runs_more (bs : List Int) (N : Nat) (on : Bool) : runsV bs (N + 1) on = stepR (decide (bitV bs N = on)) N (runsV bs N on) := by
  rw [runs_eq, runs_eq]
  obtain ⟨s1, s2, s3, s4⟩ := seekV_spec bs N on 0 (Nat.zero_le _)
  by_cases h : seekV bs N on 0 < N
  · rw [seek_more_lt bs N on 0 (Nat.zero_le _) h]
    exact rest_more bs N on _ _ (Nat.le_refl _) h (s4 h)
  · have he : seekV bs N on 0 = N := by omega
    rw [seek_more_end bs N on 0 (Nat.zero_le _) he, he, restV_end bs N on N (Nat.le_refl _)]
    by_cases hN : bitV bs N = on
    · rw [if_pos hN]
      have e1 : seekV bs (N + 1) (!on) N = N + 1 := seekV_eq bs (N + 1) (!on) N (N + 1) (by omega) (Nat.le_refl _) (fun t h1 h2 => by
        obtain rfl : t = N := by omega
        rw [hN]; cases on <;> simp) (fun h => by omega)
      rw [restV_next bs (N + 1) on N (by omega) hN, e1, seekV_end bs (N + 1) on (N + 1) (Nat.le_refl _), restV_end bs (N + 1) on _ (Nat.le_refl _)]
      unfold stepR
      rw [if_pos (by simp [hN]), if_neg (by simp)]
      simp
    · rw [if_neg hN, restV_end bs (N + 1) on _ (Nat.le_refl _)]
      unfold stepR
      rw [if_neg (by simp [hN])]
theorem runs_zero (bs : List Int) (on : Bool) : runsV bs 0 on = [] := by
  rw [runs_eq]
  exact restV_end bs 0 on _ (Nat.zero_le _)
/-- How many bits some ranges have. -/
def sumR (L : List (Nat × Nat)) : Nat := (L.map (·.2)).sum
theorem sum_set : ∀ (l : List Nat) (k x : Nat), k < l.length → (l.set k x).sum + l.getD k 0 = l.sum + x
  | [], k, x, h => by simp at h
  | y :: l, 0, x, h => by simp; omega
  | y :: l, k + 1, x, h => by
    have := sum_set l k x (by simpa using h)
    simp only [List.set_cons_succ, List.sum_cons, List.getD_cons_succ]
    omega
theorem sumR_step (b : Bool) (i : Nat) (L : List (Nat × Nat)) : sumR (stepR b i L) = sumR L + if b then 1 else 0 := by
  unfold stepR
  cases b with
  | false => simp
  | true =>
    rw [if_pos rfl, if_pos rfl]
    split
    · rename_i h
      have hk : L.length - 1 < (L.map (·.2)).length := by rw [List.length_map]; omega
      have := sum_set (L.map (·.2)) (L.length - 1) ((L.getD (L.length - 1) (0, 0)).2 + 1) hk
      unfold sumR
      rw [List.map_set]
      have e : (L.map (·.2)).getD (L.length - 1) 0 = (L.getD (L.length - 1) (0, 0)).2 := by
        simp [List.getD, show L.length - 1 < L.length by omega]
      rw [e] at this
      simp only at this ⊢
      omega
    · simp [sumR]
/-- Whether a bit lies in some range. -/
def inR (L : List (Nat × Nat)) (j : Nat) : Bool := L.any fun r => decide (r.1 ≤ j) && decide (j < r.1 + r.2)
theorem inR_append (L M : List (Nat × Nat)) (j : Nat) : inR (L ++ M) j = (inR L j || inR M j) := by simp [inR]
theorem inR_step (b : Bool) (i : Nat) (L : List (Nat × Nat)) (j : Nat) : inR (stepR b i L) j = (inR L j || (b && decide (j = i))) := by
  unfold stepR
  cases b with
  | false => simp
  | true =>
    rw [if_pos rfl]
    split
    · rename_i h
      obtain ⟨h0, h1⟩ := h
      have hd : L = L.take (L.length - 1) ++ [L.getD (L.length - 1) (0, 0)] := by
        have e : L.getD (L.length - 1) (0, 0) = L[L.length - 1] := by simp [List.getD, show L.length - 1 < L.length by omega]
        rw [e]
        have := List.take_succ_eq_append_getElem (show L.length - 1 < L.length by omega)
        rw [show L.length - 1 + 1 = L.length by omega, List.take_length] at this
        exact this
      obtain ⟨x, hx⟩ : ∃ x, x = L.getD (L.length - 1) (0, 0) := ⟨_, rfl⟩
      obtain ⟨T, hT⟩ : ∃ T, T = L.take (L.length - 1) := ⟨_, rfl⟩
      have hTl : T.length = L.length - 1 := by rw [hT, List.length_take]; omega
      rw [← hx] at hd h1 ⊢
      rw [← hT] at hd
      rw [← hTl, hd, List.set_append_right _ _ (Nat.le_refl _), Nat.sub_self, List.set_cons_zero, inR_append, inR_append]
      simp only [inR, List.any_cons, List.any_nil, Bool.or_false, Bool.true_and, Bool.or_assoc]
      congr 1
      rw [Bool.eq_iff_iff]
      simp only [Bool.and_eq_true, Bool.or_eq_true, decide_eq_true_eq]
      omega
    · rw [inR_append]
      congr 1
      simp only [inR, List.any_cons, List.any_nil, Bool.or_false, Bool.true_and]
      rw [Bool.eq_iff_iff]
      simp only [Bool.and_eq_true, decide_eq_true_eq]
      omega
theorem sumR_runs (bs : List Int) : ∀ N, sumR (runsV bs N true) + sumR (runsV bs N false) = N
  | 0 => by simp [runs_zero, sumR]
  | N + 1 => by
    have := sumR_runs bs N
    rw [runs_more, runs_more, sumR_step, sumR_step]
    cases bitV bs N <;> simp <;> omega
theorem inR_runs (bs : List Int) (on : Bool) : ∀ N j, inR (runsV bs N on) j = (decide (j < N) && (bitV bs j == on))
  | 0, j => by simp [runs_zero, inR]
  | N + 1, j => by
    rw [runs_more, inR_step, inR_runs bs on N j]
    by_cases h : j = N
    · subst h
      cases bitV bs j <;> cases on <;> simp
    · rw [show decide (j < N + 1) = decide (j < N) by rw [Bool.eq_iff_iff]; simp; omega]
      simp [h]
end Go.Proofs.YthognmkjoekilaaDoor

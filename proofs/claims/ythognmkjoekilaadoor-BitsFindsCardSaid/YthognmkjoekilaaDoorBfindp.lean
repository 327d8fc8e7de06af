/- What Find answers, from the runs (pure). -/
import Derived.Test.YthognmkjoekilaaDoorBrsame
namespace Go.Proofs.YthognmkjoekilaaDoor
set_option linter.unusedVariables false

/-- One run more: which is taken. -/
def stepH (best : Bool) (many : Int) (s : Option (Nat × Nat)) (r : Nat × Nat) : Option (Nat × Nat) :=
  match s with
  | none => if many ≤ (r.2 : Int) then some r else none
  | some b => if best = true ∧ many ≤ (r.2 : Int) ∧ r.2 < b.2 then some r else some b
/-- The run that is taken: the first that is long enough, or the first of the shortest of these. -/
def selR (best : Bool) (many : Int) (L : List (Nat × Nat)) : Option (Nat × Nat) := L.foldl (stepH best many) none
theorem selR_snoc (best : Bool) (many : Int) (L : List (Nat × Nat)) (r : Nat × Nat) : selR best many (L ++ [r]) = stepH best many (selR best many L) r := by simp [selR]
theorem sel_some (best : Bool) (many : Int) : ∀ (L : List (Nat × Nat)) (s : Option (Nat × Nat)), (∀ b, s = some b → many ≤ (b.2 : Int)) → ∀ x, L.foldl (stepH best many) s = some x → many ≤ (x.2 : Int) ∧ (x ∈ L ∨ s = some x)
  | [], s, hs, x, h => ⟨hs x h, .inr h⟩
  | r :: L, s, hs, x, h => by
    have hs2 : ∀ b, stepH best many s r = some b → many ≤ (b.2 : Int) ∧ (b = r ∨ s = some b) := by
      intro b hb
      unfold stepH at hb
      cases s with
      | none =>
        simp only at hb
        split at hb
        · injection hb with hb; subst hb; exact ⟨by assumption, .inl rfl⟩
        · cases hb
      | some b0 =>
        simp only at hb
        split at hb
        · rename_i h1; injection hb with hb; subst hb; exact ⟨h1.2.1, .inl rfl⟩
        · injection hb with hb; subst hb; exact ⟨hs _ rfl, .inr rfl⟩
    obtain ⟨h1, h2⟩ := sel_some best many L (stepH best many s r) (fun b hb => (hs2 b hb).1) x h
    refine ⟨h1, ?_⟩
    rcases h2 with h2 | h2
    · exact .inl (List.mem_cons_of_mem _ h2)
    · rcases (hs2 x h2).2 with h3 | h3
      · exact .inl (h3 ▸ List.mem_cons_self)
      · exact .inr h3
theorem selR_some {best : Bool} {many : Int} {L : List (Nat × Nat)} {x : Nat × Nat} (h : selR best many L = some x) : many ≤ (x.2 : Int) ∧ x ∈ L := by
  obtain ⟨h1, h2⟩ := sel_some best many L none (fun b hb => by cases hb) x h
  rcases h2 with h2 | h2
  · exact ⟨h1, h2⟩
  · cases h2
theorem sel_stays (best : Bool) (many : Int) : ∀ (L : List (Nat × Nat)) (b : Nat × Nat), ∃ c, L.foldl (stepH best many) (some b) = some c
  | [], b => ⟨b, rfl⟩
  | r :: L, b => by
    simp only [List.foldl_cons]
    have : ∃ c, stepH best many (some b) r = some c := by
      simp only [stepH]
      split
      · exact ⟨_, rfl⟩
      · exact ⟨_, rfl⟩
    obtain ⟨c, hc⟩ := this
    rw [hc]
    exact sel_stays best many L c
theorem selR_none (best : Bool) (many : Int) : ∀ (L : List (Nat × Nat)), selR best many L = none ↔ ∀ r ∈ L, ¬ many ≤ (r.2 : Int)
  | [] => by simp [selR]
  | r :: L => by
    have ih := selR_none best many L
    unfold selR at ih ⊢
    simp only [List.foldl_cons]
    by_cases h : many ≤ (r.2 : Int)
    · have e : stepH best many none r = some r := by simp [stepH, h]
      rw [e]
      obtain ⟨c, hc⟩ := sel_stays best many L r
      rw [hc]
      exact ⟨fun h' => (by cases h'), fun h' => absurd h (h' r List.mem_cons_self)⟩
    · have e : stepH best many none r = none := by simp [stepH, h]
      rw [e, ih]
      refine ⟨fun h' x hx => ?_, fun h' x hx => h' x (List.mem_cons_of_mem _ hx)⟩
      rcases List.mem_cons.1 hx with rfl | hx
      · exact h
      · exact h' x hx
theorem sel_keep (many : Int) : ∀ (L : List (Nat × Nat)) (b : Nat × Nat), L.foldl (stepH false many) (some b) = some b
  | [], b => rfl
  | r :: L, b => by
    simp only [List.foldl_cons]
    have e : stepH false many (some b) r = some b := by simp [stepH]
    rw [e]
    exact sel_keep many L b
theorem selR_first (many : Int) : ∀ (L : List (Nat × Nat)), selR false many L = L.find? (fun r => decide (many ≤ (r.2 : Int)))
  | [] => rfl
  | r :: L => by
    have ih := selR_first many L
    unfold selR at ih ⊢
    simp only [List.foldl_cons]
    by_cases h : many ≤ (r.2 : Int)
    · have e : stepH false many none r = some r := by simp [stepH, h]
      rw [e, sel_keep]
      simp [h]
    · have e : stepH false many none r = none := by simp [stepH, h]
      rw [e, ih]
      simp [h]
theorem fit_zero (many : Int) (r : Nat × Nat) : fitB many 0 r = decide (many ≤ (r.2 : Int)) := by
  unfold fitB
  congr 1
  rw [eq_iff_iff]
  omega
theorem fit_long {many : Int} {near : Nat} {r : Nat × Nat} (h : fitB many near r = true) : many ≤ (r.2 : Int) := by
  unfold fitB at h
  have := of_decide_eq_true h
  omega
theorem next_zero (bs : List Int) (M : Nat) (many : Int) : nextV bs M many 0 = (selR false many (runsV bs M false)).map (·.1) := by
  unfold nextV
  rw [selR_first]
  have e : fitB many 0 = fun r => decide (many ≤ (r.2 : Int)) := funext (fit_zero many)
  rw [e]
  congr 1
  funext r
  simp
/-- What the reference's Find answers. -/
def refV (L : List (Nat × Nat)) (many : Int) (near how : Nat) : Int :=
  match (if how = 3 then L.find? (fitB many near) else none) with
  | some r => ((max r.1 near : Nat) : Int)
  | none => match selR (decide (how = 2)) many L with
    | some r => (r.1 : Int)
    | none => -1
/-- The longest of some runs. -/
def longR (L : List (Nat × Nat)) : Nat := L.foldl (fun m r => max m r.2) 0
theorem longR_snoc (L : List (Nat × Nat)) (r : Nat × Nat) : longR (L ++ [r]) = max (longR L) r.2 := by simp [longR]
theorem long_mono : ∀ (L : List (Nat × Nat)) (m : Nat), m ≤ L.foldl (fun m r => max m r.2) m
  | [], m => Nat.le_refl _
  | r :: L, m => by
    have := long_mono L (max m r.2)
    simp only [List.foldl_cons]
    omega
theorem long_ge : ∀ (L : List (Nat × Nat)) (m : Nat), ∀ r ∈ L, r.2 ≤ L.foldl (fun m r => max m r.2) m
  | [], m, r, h => by simp at h
  | x :: L, m, r, h => by
    simp only [List.foldl_cons]
    rcases List.mem_cons.1 h with rfl | h
    · have := long_mono L (max m r.2); omega
    · exact long_ge L _ r h
theorem long_le : ∀ (L : List (Nat × Nat)) (m B : Nat), m ≤ B → (∀ r ∈ L, r.2 ≤ B) → L.foldl (fun m r => max m r.2) m ≤ B
  | [], m, B, hm, h => hm
  | x :: L, m, B, hm, h => by
    simp only [List.foldl_cons]
    exact long_le L _ B (by have := h x List.mem_cons_self; omega) (fun r hr => h r (List.mem_cons_of_mem _ hr))
theorem longR_lt (L : List (Nat × Nat)) (many : Int) (h1 : 1 ≤ many) : (longR L : Int) < many ↔ ∀ r ∈ L, ¬ many ≤ (r.2 : Int) := by
  constructor
  · intro h r hr
    have := long_ge L 0 r hr
    unfold longR at h
    omega
  · intro h
    have := long_le L 0 (many.toNat - 1) (by omega) (fun r hr => by have := h r hr; omega)
    unfold longR
    omega
theorem cnt_zero (bs : List Int) (a : Nat) : ∀ e, (∀ j, a ≤ j → j < e → bitV bs j = false) → cntV bs a e = 0
  | 0, _ => by simp [cntV]
  | e + 1, h => by
    unfold cntV
    rw [List.range_succ, List.filter_append, List.length_append]
    have ih := cnt_zero bs a e (fun j h1 h2 => h j h1 (by omega))
    unfold cntV at ih
    rw [ih]
    by_cases ha : a ≤ e
    · simp [h e ha (by omega)]
    · simp [ha]
theorem run_clear {bs : List Int} {M : Nat} {r : Nat × Nat} (hr : r ∈ runsV bs M false) (x m : Nat) (h1 : r.1 ≤ x) (h2 : x + m ≤ r.1 + r.2) : x + m ≤ M ∧ cntV bs x (x + m) = 0 := by
  have hb := runsV_bd bs M false r hr
  refine ⟨by omega, cnt_zero bs x (x + m) (fun j h3 h4 => ?_)⟩
  have hin : inR (runsV bs M false) j = true := by
    unfold inR
    rw [List.any_eq_true]
    exact ⟨r, hr, by simp; omega⟩
  rw [inR_runs] at hin
  simpa using (by simpa using hin : j < M ∧ bitV bs j = false).2
/-- The shortest run that suffices. -/
def bstV (bs : List Int) (M : Nat) (many : Int) : Option Nat := (selR true many (runsV bs M false)).map (·.1)
theorem find_none (bs : List Int) (M : Nat) (many : Int) (near how : Nat) (h1 : 1 ≤ many) : findV bs M many near (bstV bs M many) how = none ↔ (longR (runsV bs M false) : Int) < many := by
  rw [longR_lt _ many h1]
  unfold findV
  by_cases h3 : how = 3
  · rw [if_pos h3]
    cases hn : nextV bs M many near with
    | none =>
      simp only
      rw [next_zero, Option.map_eq_none_iff, selR_none]
    | some x =>
      simp only [reduceCtorEq, false_iff]
      unfold nextV at hn
      obtain ⟨r, hr, -⟩ := Option.map_eq_some_iff.1 hn
      intro h
      exact h r (List.mem_of_find?_eq_some hr) (fit_long (List.find?_some hr))
  · rw [if_neg h3]
    by_cases h2 : how = 1
    · rw [if_pos h2, next_zero, Option.map_eq_none_iff, selR_none]
    · rw [if_neg h2]
      unfold bstV
      rw [Option.map_eq_none_iff, selR_none]
theorem find_some (bs : List Int) (M : Nat) (many : Int) (near how x : Nat) (hh1 : 1 ≤ how) (hh3 : how ≤ 3) (h : findV bs M many near (bstV bs M many) how = some x) :
    refV (runsV bs M false) many near how = (x : Int) ∧ ∃ r ∈ runsV bs M false, r.1 ≤ x ∧ (x : Int) + many ≤ (r.1 : Int) + (r.2 : Int) := by
  have hsel : ∀ best, (selR best many (runsV bs M false)).map (·.1) = some x → ∃ r, selR best many (runsV bs M false) = some r ∧ r.1 = x ∧ r ∈ runsV bs M false ∧ r.1 ≤ x ∧ (x : Int) + many ≤ (r.1 : Int) + (r.2 : Int) := fun best hb => by
    obtain ⟨r, hr, hx⟩ := Option.map_eq_some_iff.1 hb
    obtain ⟨k1, k2⟩ := selR_some hr
    exact ⟨r, hr, hx, k2, by omega, by omega⟩
  unfold findV at h
  unfold refV
  by_cases h3 : how = 3
  · rw [if_pos h3] at h
    rw [if_pos h3, show decide (how = 2) = false by simp; omega]
    unfold nextV at h
    cases hf : (runsV bs M false).find? (fitB many near) with
    | some r =>
      rw [hf] at h
      simp only [Option.map_some, Option.some.injEq] at h
      refine ⟨by simp only; rw [h], r, List.mem_of_find?_eq_some hf, by omega, ?_⟩
      have := List.find?_some hf
      unfold fitB at this
      have := of_decide_eq_true this
      omega
    | none =>
      rw [hf] at h
      simp only [Option.map_none] at h
      have h' := h
      rw [show ((runsV bs M false).find? (fitB many 0)).map (fun r => max r.1 0) = nextV bs M many 0 from rfl, next_zero] at h'
      obtain ⟨r, k1, k2, k3, k4, k5⟩ := hsel false h'
      simp only [k1]
      exact ⟨by simp only [k2], r, k3, k4, k5⟩
  · rw [if_neg h3] at h
    rw [if_neg h3]
    simp only
    by_cases h2 : how = 1
    · rw [if_pos h2, next_zero] at h
      rw [show decide (how = 2) = false by simp; omega]
      obtain ⟨r, k1, k2, k3, k4, k5⟩ := hsel false h
      rw [k1]
      exact ⟨by simp only [k2], r, k3, k4, k5⟩
    · rw [if_neg h2] at h
      rw [show decide (how = 2) = true by simp; omega]
      obtain ⟨r, k1, k2, k3, k4, k5⟩ := hsel true h
      rw [k1]
      exact ⟨by simp only [k2], r, k3, k4, k5⟩
end Go.Proofs.YthognmkjoekilaaDoor

/- Two proofs that lead to the same root, at the same index: the same, or two nodes of them collide. -/
import Derived.Test.YtjkkjfigoanplaaScollide
namespace Go.Proofs.Ytjkkjfigoanplaa
set_option linter.unusedVariables false
open Go.RowKit Go.Shelf

def noClash (la lb : List (List Int)) : Prop := ∀ (j : Nat) (x y : List Int), la[j]? = some x → lb[j]? = some y → clash x y = false
theorem clash_false {x y : List Int} (h : clash x y = false) (hd : digestV x = digestV y) : x = y := by
  unfold clash at h
  rw [hd] at h
  simpa using h
theorem clash_true {x y : List Int} (h : clash x y = true) : digestV x = digestV y ∧ x ≠ y := by
  unfold clash at h
  simpa using h
theorem climb_len (f : Nat) : ∀ (n i : Nat) (leaf other : List Int) (p q la lb : List (List Int)), climbN f n i leaf p = some la → climbN f n i other q = some lb → la.length = lb.length := by
  induction f with
  | zero => intro n i leaf other p q la lb h; rw [climbN] at h; cases h
  | succ f ih =>
    intro n i leaf other p q la lb h1 h2
    rw [climbN] at h1 h2
    by_cases hn : n = 1
    · rw [if_pos hn] at h1 h2
      split at h1
      · split at h2
        · simp only [Option.some.injEq] at h1 h2; rw [← h1, ← h2]; rfl
        · cases h2
      · cases h1
    · rw [if_neg hn] at h1 h2
      split at h1
      · cases h1
      split at h2
      · cases h2
      by_cases hk : i < halfV n
      · rw [if_pos hk] at h1 h2
        obtain ⟨l1, e1, r1⟩ := Option.map_eq_some_iff.1 h1
        obtain ⟨l2, e2, r2⟩ := Option.map_eq_some_iff.1 h2
        rw [← r1, ← r2]
        simp [ih _ _ _ _ _ _ _ _ e1 e2]
      · rw [if_neg hk] at h1 h2
        obtain ⟨l1, e1, r1⟩ := Option.map_eq_some_iff.1 h1
        obtain ⟨l2, e2, r2⟩ := Option.map_eq_some_iff.1 h2
        rw [← r1, ← r2]
        simp [ih _ _ _ _ _ _ _ _ e1 e2]
theorem last_is {p : List (List Int)} (h : p ≠ []) : p.getLast?.getD [] = p.getLast h := by
  have e := List.dropLast_concat_getLast h
  have h2 : (p.dropLast ++ [p.getLast h]).getLast?.getD [] = p.getLast h := by simp
  rw [e] at h2
  exact h2
theorem last_dig {p : List (List Int)} (hp : ∀ d ∈ p, d.length = 16) (hne : p ≠ []) : (p.getLast?.getD []).length = 16 := by
  rw [last_is hne]
  exact hp _ (List.getLast_mem hne)
theorem drop_dig {p : List (List Int)} (hp : ∀ d ∈ p, d.length = 16) : ∀ d ∈ p.dropLast, d.length = 16 := fun d hd => hp d (List.dropLast_subset _ hd)
theorem climb_small (f : Nat) : ∀ (n i : Nat) (leaf : List Int) (p la : List (List Int)), (∀ d ∈ p, d.length = 16) → climbN f n i leaf p = some la → ∀ x ∈ la, x.length ≤ leaf.length + 33 := by
  induction f with
  | zero => intro n i leaf p la _ h; rw [climbN] at h; cases h
  | succ f ih =>
    intro n i leaf p la hp h x hx
    rw [climbN] at h
    by_cases hn : n = 1
    · rw [if_pos hn] at h
      split at h
      · simp only [Option.some.injEq] at h; rw [← h] at hx; simp at hx; rw [hx]; simp
      · cases h
    · rw [if_neg hn] at h
      split at h
      · cases h
      rename_i hpn
      have hl := last_dig hp hpn
      by_cases hk : i < halfV n
      · rw [if_pos hk] at h
        obtain ⟨l1, e1, r1⟩ := Option.map_eq_some_iff.1 h
        rw [← r1] at hx
        rcases List.mem_append.1 hx with hx | hx
        · exact ih _ _ _ _ _ (drop_dig hp) e1 x hx
        · simp only [List.mem_singleton] at hx
          rw [hx, List.length_cons, List.length_append, digestV_len, hl]; omega
      · rw [if_neg hk] at h
        obtain ⟨l1, e1, r1⟩ := Option.map_eq_some_iff.1 h
        rw [← r1] at hx
        rcases List.mem_append.1 hx with hx | hx
        · exact ih _ _ _ _ _ (drop_dig hp) e1 x hx
        · simp only [List.mem_singleton] at hx
          rw [hx, List.length_cons, List.length_append, digestV_len, hl]; omega
theorem noClash_front {l m : List (List Int)} {x y : List Int} (h : noClash (l ++ [x]) (m ++ [y])) (hl : l.length = m.length) : noClash l m ∧ clash x y = false := by
  refine ⟨fun j a b ha hb => ?_, ?_⟩
  · have h1 := (List.getElem?_eq_some_iff.1 ha).1
    have h2 := (List.getElem?_eq_some_iff.1 hb).1
    exact h j a b (by rw [List.getElem?_append_left h1]; exact ha) (by rw [List.getElem?_append_left h2]; exact hb)
  · exact h l.length x y (by simp) (by rw [hl]; simp)
theorem path_ext {p q : List (List Int)} (hp : p ≠ []) (hq : q ≠ []) (h1 : p.dropLast = q.dropLast) (h2 : p.getLast?.getD [] = q.getLast?.getD []) : p = q := by
  rw [last_is hp, last_is hq] at h2
  rw [← List.dropLast_concat_getLast hp, ← List.dropLast_concat_getLast hq, h1]
  rw [h2]
theorem last_snoc (l : List (List Int)) (x : List Int) : ((l ++ [x]).getLast?.getD []) = x := by simp
theorem climb_binds (f : Nat) : ∀ (n i : Nat) (leaf other : List Int) (p q la lb : List (List Int)), (∀ d ∈ p, d.length = 16) → (∀ d ∈ q, d.length = 16) → climbN f n i leaf p = some la → climbN f n i other q = some lb →
    digestV (la.getLast?.getD []) = digestV (lb.getLast?.getD []) → noClash la lb → leaf = other ∧ p = q := by
  induction f with
  | zero => intro n i leaf other p q la lb _ _ h; rw [climbN] at h; cases h
  | succ f ih =>
    intro n i leaf other p q la lb hp hq h1 h2 hd hno
    rw [climbN] at h1 h2
    by_cases hn : n = 1
    · rw [if_pos hn] at h1 h2
      split at h1
      · rename_i hp0
        split at h2
        · rename_i hq0
          simp only [Option.some.injEq] at h1 h2
          subst h1 h2
          have := clash_false (hno 0 _ _ rfl rfl) hd
          simp only [List.cons.injEq, true_and] at this
          exact ⟨this, by rw [hp0, hq0]⟩
        · cases h2
      · cases h1
    · rw [if_neg hn] at h1 h2
      split at h1
      · cases h1
      rename_i hp0
      split at h2
      · cases h2
      rename_i hq0
      have hpl := last_dig hp hp0
      have hql := last_dig hq hq0
      by_cases hk : i < halfV n
      · rw [if_pos hk] at h1 h2
        obtain ⟨l1, e1, r1⟩ := Option.map_eq_some_iff.1 h1
        obtain ⟨l2, e2, r2⟩ := Option.map_eq_some_iff.1 h2
        subst r1 r2
        obtain ⟨hn1, hc⟩ := noClash_front hno (climb_len f _ _ _ _ _ _ _ _ e1 e2)
        rw [last_snoc, last_snoc] at hd
        have he := clash_false hc hd
        simp only [List.cons.injEq, true_and] at he
        obtain ⟨g1, g2⟩ := List.append_inj he (by rw [digestV_len, digestV_len])
        obtain ⟨t1, t2⟩ := ih _ _ _ _ _ _ _ _ (drop_dig hp) (drop_dig hq) e1 e2 g1 hn1
        exact ⟨t1, path_ext hp0 hq0 t2 g2⟩
      · rw [if_neg hk] at h1 h2
        obtain ⟨l1, e1, r1⟩ := Option.map_eq_some_iff.1 h1
        obtain ⟨l2, e2, r2⟩ := Option.map_eq_some_iff.1 h2
        subst r1 r2
        obtain ⟨hn1, hc⟩ := noClash_front hno (climb_len f _ _ _ _ _ _ _ _ e1 e2)
        rw [last_snoc, last_snoc] at hd
        have he := clash_false hc hd
        simp only [List.cons.injEq, true_and] at he
        obtain ⟨g1, g2⟩ := List.append_inj he (by rw [hpl, hql])
        obtain ⟨t1, t2⟩ := ih _ _ _ _ _ _ _ _ (drop_dig hp) (drop_dig hq) e1 e2 g2 hn1
        exact ⟨t1, path_ext hp0 hq0 t2 g1⟩
end Go.Proofs.Ytjkkjfigoanplaa

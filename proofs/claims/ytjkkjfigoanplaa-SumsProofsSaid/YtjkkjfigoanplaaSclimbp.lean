/- A leaf's path leads any leaf in its place to the root of the list with this leaf: pure. -/
import Derived.Test.YtjkkjfigoanplaaSclimb0
namespace Go.Proofs.Ytjkkjfigoanplaa
/-- With the path of a leaf, any leaf in its place leads to the root of the list with this leaf in it. -/
theorem climb_prove (f : Nat) : ∀ (l : List (List Int)) (i : Nat) (x : List Int), l.length ≤ f → i < l.length → l.length ≤ 4096 →
    ∃ ms, climbV l.length i x (proveV l i).reverse = some ms ∧ digestV (ms.getLast?.getD []) = rootV (l.set i x) := by
  induction f with
  | zero => intro l i x h hi _; omega
  | succ f ih =>
    intro l i x h hi hm
    by_cases h1 : l.length = 1
    · obtain ⟨y, rfl⟩ := List.length_eq_one_iff.1 h1
      have hi0 : i = 0 := by simpa using hi
      subst hi0
      refine ⟨[0 :: x], ?_, ?_⟩
      · rw [proveV_one _ _ (by simp), h1, climbV_one]; simp
      · simp [rootV_one]
    · have h2 : 2 ≤ l.length := by omega
      obtain ⟨b1, b2, b3⟩ := halfV_bd l.length h2 hm
      obtain ⟨k, hk⟩ : ∃ k, k = halfV l.length := ⟨_, rfl⟩
      rw [← hk] at b1 b2 b3
      have hset : (l.set i x).length = l.length := List.length_set
      rw [rootV_two (l.set i x) (by rw [hset]; exact h2) (by rw [hset]; exact hm), hset, climbV_two _ _ _ _ h2 hm, proveV_two l i h2 hm, ← hk]
      by_cases hki : k ≤ i
      · rw [if_pos hki, if_neg (by simp), if_neg (by omega), List.reverse_cons, List.dropLast_concat]
        have hlen : (l.drop k).length = l.length - k := List.length_drop
        obtain ⟨ms, e1, e2⟩ := ih (l.drop k) (i - k) x (by rw [hlen]; omega) (by rw [hlen]; omega) (by rw [hlen]; omega)
        rw [hlen] at e1
        rw [e1]
        refine ⟨_, rfl, ?_⟩
        have s1 : (l.set i x).take k = l.take k := by rw [List.take_set_of_le hki]
        have s2 : (l.set i x).drop k = (l.drop k).set (i - k) x := by rw [List.drop_set, if_neg (by omega)]
        rw [s1, s2, ← e2]
        simp
      · rw [if_neg hki, if_neg (by simp), if_pos (by omega), List.reverse_cons, List.dropLast_concat]
        have hlen : (l.take k).length = k := by rw [List.length_take]; omega
        obtain ⟨ms, e1, e2⟩ := ih (l.take k) i x (by rw [hlen]; omega) (by rw [hlen]; omega) (by rw [hlen]; omega)
        rw [hlen] at e1
        rw [e1]
        refine ⟨_, rfl, ?_⟩
        have s1 : (l.set i x).take k = (l.take k).set i x := by rw [List.take_set]
        have s2 : (l.set i x).drop k = l.drop k := by rw [List.drop_set, if_pos (by omega)]
        rw [s1, s2, ← e2]
        simp
end Go.Proofs.Ytjkkjfigoanplaa

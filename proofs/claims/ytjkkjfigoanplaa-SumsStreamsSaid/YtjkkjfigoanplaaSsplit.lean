/- Absorbing part by part is absorbing at once: pure. -/
import Derived.Test.YtjkkjfigoanplaaSabs
namespace Go.Proofs.Ytjkkjfigoanplaa
attribute [local irreducible] permV blkV
theorem absR_app (l m : List Int) : (l ++ m).drop (16 * (l.length / 16)) = absR l ++ m := by
  unfold absR
  rw [List.drop_append_of_le_length (by omega)]
theorem cut_low (l m : List Int) (k : Nat) (h : 16 * k + 16 ≤ l.length) : cutK (l ++ m) k = cutK l k := by
  unfold cutK
  rw [List.drop_append_of_le_length (by omega), List.take_append_of_le_length (by rw [List.length_drop]; omega)]
theorem cut_high (l m : List Int) (j : Nat) : cutK (l ++ m) (l.length / 16 + j) = cutK (absR l ++ m) j := by
  unfold cutK
  rw [← absR_app, List.drop_drop, Nat.mul_add]
theorem absL_nil (s : St) (l : List Int) : absL s l [] = s := by unfold absL; rw [List.foldl_nil]
theorem absL_cons (s : St) (l : List Int) (k : Nat) (ks : List Nat) : absL s l (k :: ks) = absL (blkV s (cutK l k)) l ks := by unfold absL; rw [List.foldl_cons]
theorem absL_low (l m : List Int) (ks : List Nat) (h : ∀ k ∈ ks, 16 * k + 16 ≤ l.length) : ∀ (s : St), absL s (l ++ m) ks = absL s l ks := by
  induction ks with
  | nil => intro s; rw [absL_nil, absL_nil]
  | cons k ks ih =>
    intro s
    rw [absL_cons, absL_cons]
    rw [cut_low l m k (h k (by simp)), ih (fun j hj => h j (by simp [hj]))]
theorem absL_high (l m : List Int) (ks : List Nat) : ∀ (s : St), absL s (l ++ m) (ks.map (l.length / 16 + ·)) = absL s (absR l ++ m) ks := by
  induction ks with
  | nil => intro s; rw [List.map_nil, absL_nil, absL_nil]
  | cons k ks ih =>
    intro s
    rw [List.map_cons, absL_cons, absL_cons]
    rw [cut_high, ih]
theorem len_split (l m : List Int) : (l ++ m).length / 16 = l.length / 16 + (absR l ++ m).length / 16 := by
  have : (absR l).length = l.length - 16 * (l.length / 16) := by unfold absR; rw [List.length_drop]
  rw [List.length_append, List.length_append, this]
  omega
/-- Absorbing two parts one behind the other is absorbing both at once: the state. -/
theorem absS_append (s : St) (l m : List Int) : absS s (l ++ m) = absS (absS s l) (absR l ++ m) := by
  have h1 : absS s (l ++ m) = absL (absL s (l ++ m) (List.range (l.length / 16))) (l ++ m) ((List.range ((absR l ++ m).length / 16)).map (l.length / 16 + ·)) := by
    unfold absS
    rw [len_split, List.range_add]
    unfold absL
    rw [List.foldl_append]
  rw [h1, absL_high, absL_low l m _ (fun k hk => by have := List.mem_range.1 hk; omega)]
  unfold absS
  rfl
/-- And what is left. -/
theorem absR_append (l m : List Int) : absR (l ++ m) = absR (absR l ++ m) := by
  show (l ++ m).drop (16 * ((l ++ m).length / 16)) = (absR l ++ m).drop (16 * ((absR l ++ m).length / 16))
  rw [len_split, Nat.mul_add, ← List.drop_drop, absR_app]
end Go.Proofs.Ytjkkjfigoanplaa

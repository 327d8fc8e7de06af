/- What a window that slides has as its rolling checksum: pure. -/
import Derived.Test.YtjkkjfigoanplaaSwin
namespace Go.Proofs.Ytjkkjfigoanplaa
/-- The sums without remainders. -/
def rawS (p : Int × Int) (x : Int) : Int × Int := (p.1 + x, p.2 + (p.1 + x))
theorem raw_mod (xs : List Int) : ∀ (a b : Int), xs.foldl rollS (a % 65521, b % 65521) = ((xs.foldl rawS (a, b)).1 % 65521, (xs.foldl rawS (a, b)).2 % 65521) := by
  induction xs with
  | nil => intro a b; rfl
  | cons x xs ih =>
    intro a b
    rw [List.foldl_cons, List.foldl_cons]
    have : rollS (a % 65521, b % 65521) x = ((a + x) % 65521, (b + (a + x)) % 65521) := by
      unfold rollS
      apply Prod.ext <;> simp only <;> omega
    rw [this, ih]
    rfl
theorem raw_off (xs : List Int) : ∀ (a b d e : Int), xs.foldl rawS (a + d, b + e) = ((xs.foldl rawS (a, b)).1 + d, (xs.foldl rawS (a, b)).2 + e + d * xs.length) := by
  induction xs with
  | nil => intro a b d e; simp
  | cons x xs ih =>
    intro a b d e
    rw [List.foldl_cons, List.foldl_cons]
    have : rawS (a + d, b + e) x = ((a + x) + d, (b + (a + x)) + (e + d)) := by
      unfold rawS
      apply Prod.ext <;> simp only <;> omega
    rw [this, ih]
    show _ = ((xs.foldl rawS (a + x, b + (a + x))).1 + d, (xs.foldl rawS (a + x, b + (a + x))).2 + e + d * ((x :: xs).length : Nat))
    apply Prod.ext
    · rfl
    · simp only [List.length_cons]
      have : d * (((xs.length + 1 : Nat)) : Int) = d * (xs.length : Int) + d := by rw [Int.natCast_add, Int.mul_add]; simp
      rw [this]
      omega
theorem roll_raw (xs : List Int) : rollV xs = ((xs.foldl rawS (0, 0)).1 % 65521, (xs.foldl rawS (0, 0)).2 % 65521) := raw_mod xs 0 0
/-- A window that has slid is the window behind it. -/
theorem roll_slide (x z : Int) (ys : List Int) : rollV (ys ++ [z]) = (slideA (rollV (x :: ys)).1 x z, slideB (rollV (x :: ys)).1 (rollV (x :: ys)).2 ((ys.length + 1 : Nat) : Int) x z) := by
  obtain ⟨sa, sb, hs⟩ : ∃ sa sb, ys.foldl rawS (0, 0) = (sa, sb) := ⟨_, _, rfl⟩
  have h1 : rollV (x :: ys) = ((sa + x) % 65521, (sb + x + x * ys.length) % 65521) := by
    rw [roll_raw, List.foldl_cons, show rawS (0, 0) x = (0 + x, 0 + x) from by simp [rawS], raw_off, hs]
  have h2 : rollV (ys ++ [z]) = ((sa + z) % 65521, (sb + (sa + z)) % 65521) := by
    rw [roll_raw, List.foldl_append, hs]
    rfl
  rw [h1, h2]
  have hn : ((ys.length + 1 : Nat) : Int) * x = x * ys.length + x := by rw [Int.natCast_add, Int.mul_comm, Int.mul_add]; simp
  unfold slideB slideA
  simp only [hn]
  obtain ⟨p, hp⟩ : ∃ p, p = x * (ys.length : Int) := ⟨_, rfl⟩
  rw [← hp]
  apply Prod.ext <;> simp only <;> omega
theorem slid_roll (xs : List Int) (n : Nat) (h1 : 1 ≤ n) : ∀ (k : Nat), k + n ≤ xs.length → slid xs n k = rollV ((xs.drop k).take n) := by
  intro k
  induction k with
  | zero => intro _; rw [List.drop_zero]; rfl
  | succ k ih =>
    intro h
    have ih := ih (by omega)
    have hk : k < xs.length := by omega
    have hkn : n + k < xs.length := by omega
    obtain ⟨m, rfl⟩ : ∃ m, n = m + 1 := ⟨n - 1, by omega⟩
    have e1 : (xs.drop k).take (m + 1) = xs[k] :: (xs.drop (k + 1)).take m := by
      rw [List.drop_eq_getElem_cons hk, List.take_succ_cons]
    have e2 : (xs.drop (k + 1)).take (m + 1) = (xs.drop (k + 1)).take m ++ [xs[m + 1 + k]] := by
      rw [List.take_add_one, List.getElem?_drop, List.getElem?_eq_getElem (show k + 1 + m < xs.length by omega)]
      simp only [Option.toList_some]
      congr 3
      omega
    have hl : ((xs.drop (k + 1)).take m).length = m := by rw [List.length_take, List.length_drop]; omega
    rw [e2, roll_slide xs[k] _ _, ← e1, hl]
    show (slideA (slid xs (m + 1) k).1 (xs.getD k 0) (xs.getD (m + 1 + k) 0), slideB (slid xs (m + 1) k).1 (slid xs (m + 1) k).2 ((m + 1 : Nat) : Int) (xs.getD k 0) (xs.getD (m + 1 + k) 0)) = _
    rw [ih, List.getD_eq_getElem?_getD, List.getD_eq_getElem?_getD, List.getElem?_eq_getElem hk, List.getElem?_eq_getElem hkn]
    rfl
end Go.Proofs.Ytjkkjfigoanplaa

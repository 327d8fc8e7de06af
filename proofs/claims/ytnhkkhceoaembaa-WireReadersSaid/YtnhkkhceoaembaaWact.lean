/- did and do of any act tell the same. -/
import Derived.Test.YtnhkkhceoaembaaWdid2
import Derived.Test.YtnhkkhceoaembaaWdo
import Derived.Test.YtnhkkhceoaembaaWdo2
import Derived.Test.YtnhkkhceoaembaaWdo3
import Derived.Test.YtnhkkhceoaembaaWdo4
namespace Go.Proofs.Ytnhkkhceoaembaa
set_option linter.unusedVariables false
open Go.RowKit

theorem numV_err (s : Bool) (xs : List Int) (h : (numV s xs).2 ≠ 0) : (numV s xs).1 = 0 := by
  cases s
  · unfold numV at h ⊢
    simp only [Bool.false_eq_true, if_false] at h ⊢
    unfold toUintV at h ⊢
    split
    · rfl
    · split
      · rfl
      · rename_i h1 h2; rw [if_neg h1, if_neg h2] at h; exact absurd rfl h
  · unfold numV at h ⊢
    simp only [if_true] at h ⊢
    unfold toIntV at h ⊢
    split
    · rfl
    · rename_i h1; rw [if_neg h1] at h; exact absurd rfl h
section
variable {w : World} {M p len cap : Nat} {a : Option Addr} {xs : List Int} (h : IsM w M p a len cap xs)
include h
theorem do_0 (wd : Int) (hw1 : -9223372036854775808 ≤ wd) (hw2 : wd ≤ 9223372036854775807) (hbig : len ≤ 140737488355328) :
    Calls Try.prog 55 #[.pointer (some ⟨M, 0, none⟩), .agg #[.int .i64 0, .int .i64 wd]] w (ToldM w M a len cap xs (rfixV xs p wd false).1 [] (rfixV xs p wd false).2.1 (p + (rfixV xs p wd false).2.2)) := by
  have hl := h.rd.hl
  have hp := h.hp
  unfold rfixV
  by_cases h1 : wd < 1
  · rw [if_pos (.inl h1)]; exact do_0lt h wd hw1 hw2 hbig h1
  · by_cases h2 : 8 < wd
    · rw [if_pos (.inr h2)]; exact do_0gt h wd hw1 hw2 hbig ⟨h1, h2⟩
    · rw [if_neg (by omega)]
      by_cases h3 : (xs.length : Int) - p < wd
      · rw [if_pos h3]; exact do_0few h wd hw1 hw2 hbig ⟨h1, h2, by omega⟩
      · rw [if_neg h3]
        obtain ⟨m, rfl⟩ := Int.eq_ofNat_of_zero_le (show 0 ≤ wd by omega)
        rw [Int.toNat_natCast]
        by_cases h4 : (numV false ((xs.drop p).take m)).2 ≠ 0
        · rw [if_pos h4]
          have := do_0read h m (by omega) (by omega) (by omega) _ _ p rfl rfl ⟨fun e => absurd e h4, fun _ => rfl⟩
          rw [numV_err _ _ h4] at this
          exact this
        · rw [if_neg h4]
          have h4' : (numV false ((xs.drop p).take m)).2 = 0 := by omega
          have := do_0read h m (by omega) (by omega) (by omega) _ _ (p + m) rfl rfl ⟨fun _ => rfl, fun e => absurd h4' e⟩
          rw [h4'] at this
          exact this
theorem do_1 (wd : Int) (hw1 : -9223372036854775808 ≤ wd) (hw2 : wd ≤ 9223372036854775807) (hbig : len ≤ 140737488355328) :
    Calls Try.prog 55 #[.pointer (some ⟨M, 0, none⟩), .agg #[.int .i64 1, .int .i64 wd]] w (ToldM w M a len cap xs (rfixV xs p wd true).1 [] (rfixV xs p wd true).2.1 (p + (rfixV xs p wd true).2.2)) := by
  have hl := h.rd.hl
  have hp := h.hp
  unfold rfixV
  by_cases h1 : wd < 1
  · rw [if_pos (.inl h1)]; exact do_1lt h wd hw1 hw2 hbig h1
  · by_cases h2 : 8 < wd
    · rw [if_pos (.inr h2)]; exact do_1gt h wd hw1 hw2 hbig ⟨h1, h2⟩
    · rw [if_neg (by omega)]
      by_cases h3 : (xs.length : Int) - p < wd
      · rw [if_pos h3]; exact do_1few h wd hw1 hw2 hbig ⟨h1, h2, by omega⟩
      · rw [if_neg h3]
        obtain ⟨m, rfl⟩ := Int.eq_ofNat_of_zero_le (show 0 ≤ wd by omega)
        rw [Int.toNat_natCast]
        by_cases h4 : (numV true ((xs.drop p).take m)).2 ≠ 0
        · rw [if_pos h4]
          have := do_1read h m (by omega) (by omega) (by omega) _ _ p rfl rfl ⟨fun e => absurd e h4, fun _ => rfl⟩
          rw [numV_err _ _ h4] at this
          exact this
        · rw [if_neg h4]
          have h4' : (numV true ((xs.drop p).take m)).2 = 0 := by omega
          have := do_1read h m (by omega) (by omega) (by omega) _ _ (p + m) rfl rfl ⟨fun _ => rfl, fun e => absurd h4' e⟩
          rw [h4'] at this
          exact this
theorem do_5 (wd : Int) (hw1 : -9223372036854775808 ≤ wd) (hw2 : wd ≤ 9223372036854775807) (hbig : len ≤ 140737488355328) :
    Calls Try.prog 55 #[.pointer (some ⟨M, 0, none⟩), .agg #[.int .i64 5, .int .i64 wd]] w (ToldM w M a len cap xs 0 [] (seekE len wd) (seekQ p len wd)) := by
  unfold seekE seekQ
  by_cases h1 : wd < 0
  · rw [if_pos (.inl h1), if_pos (.inl h1)]; exact do_5lt h wd hw1 hw2 hbig h1
  · by_cases h2 : (len : Int) < wd
    · rw [if_pos (.inr h2), if_pos (.inr h2)]; exact do_5gt h wd hw1 hw2 hbig ⟨h1, h2⟩
    · rw [if_neg (by omega), if_neg (by omega)]
      obtain ⟨m, rfl⟩ := Int.eq_ofNat_of_zero_le (show 0 ≤ wd by omega)
      rw [Int.toNat_natCast]
      exact do_5ok h m hbig (by omega)
theorem do_x (kd wd : Int) (hw1 : -9223372036854775808 ≤ wd) (hw2 : wd ≤ 9223372036854775807) (hbig : len ≤ 140737488355328) (hk : kd ≠ 0 ∧ kd ≠ 1 ∧ kd ≠ 2 ∧ kd ≠ 3 ∧ kd ≠ 5) :
    Calls Try.prog 55 #[.pointer (some ⟨M, 0, none⟩), .agg #[.int .i64 kd, .int .i64 wd]] w (ToldM w M a len cap xs 0 (aheadB xs p wd) (aheadE ((xs.length : Int) - p) wd) (p + stepV (aheadE ((xs.length : Int) - p) wd) wd)) := by
  have hl := h.rd.hl
  have hp := h.hp
  unfold aheadB stepV
  by_cases h1 : wd < 0
  · have hE : aheadE ((xs.length : Int) - p) wd = 1 := by unfold aheadE; rw [if_pos h1]
    rw [hE]
    exact do_xlt h kd wd hw1 hw2 hbig ⟨hk, h1⟩
  · by_cases h2 : (xs.length : Int) - p < wd
    · have hE : aheadE ((xs.length : Int) - p) wd = 4 := by unfold aheadE; rw [if_neg h1, if_pos h2]
      rw [hE]
      exact do_xfew h kd wd hw1 hw2 hbig ⟨hk, h1, by omega⟩
    · have hE : aheadE ((xs.length : Int) - p) wd = 0 := by unfold aheadE; rw [if_neg h1, if_neg h2]
      rw [hE, if_pos rfl, if_pos rfl]
      obtain ⟨m, rfl⟩ := Int.eq_ofNat_of_zero_le (show 0 ≤ wd by omega)
      rw [Int.toNat_natCast]
      exact do_xok h kd m hbig hk (by omega)
end
/-- What did answers: of a Sub that is well, a Reader of the part. -/
def DidPost (kd : Int) (R : Nat) (a : Option Addr) (len cap : Nat) (xs : List Int) (n : Int) (bs : List Int) (er : Int) (q : Nat) (u : World) (e : Ending) (w' : World) : Prop :=
  ∃ v pr, e = .returned (.tuple #[v, .pointer pr]) ∧
    ((kd = 6 ∧ er = 0 ∧ ∃ R2 a2 c2, pr = some ⟨R2, 0, none⟩ ∧ u.heap.size ≤ R2 ∧ IsR w' R2 0 a2 bs.length c2 bs ∧ Told u R a len cap xs 0 [] 0 q v w') ∨
     (¬ (kd = 6 ∧ er = 0) ∧ pr = none ∧ Told u R a len cap xs n bs er q v w'))
theorem both_act (kd wd : Int) (hw1 : -9223372036854775808 ≤ wd) (hw2 : wd ≤ 9223372036854775807) (xs : List Int) (p len : Nat) (hl : xs.length = len) (hp : p ≤ len) (hbig : len ≤ 140737488355328) :
    ∃ (n : Int) (bs : List Int) (er : Int) (q : Nat), (er = 0 → kd = 6 → bs.length ≤ len) ∧ (kd = 6 → n = 0) ∧
      (∀ u R a cap, IsR u R p a len cap xs → Calls Try.prog 54 #[.pointer (some ⟨R, 0, none⟩), .agg #[.int .i64 kd, .int .i64 wd]] u (DidPost kd R a len cap xs n bs er q u)) ∧
      (∀ u M a cap, IsM u M p a len cap xs → Calls Try.prog 55 #[.pointer (some ⟨M, 0, none⟩), .agg #[.int .i64 kd, .int .i64 wd]] u (ToldM u M a len cap xs n bs er q)) := by
  have lift : ∀ {u R a cap n bs er q}, kd ≠ 6 → Calls Try.prog 54 #[.pointer (some ⟨R, 0, none⟩), .agg #[.int .i64 kd, .int .i64 wd]] u (fun e w' => ∃ v, e = .returned (.tuple #[v, .pointer none]) ∧ Told u R a len cap xs n bs er q v w') → Calls Try.prog 54 #[.pointer (some ⟨R, 0, none⟩), .agg #[.int .i64 kd, .int .i64 wd]] u (DidPost kd R a len cap xs n bs er q u) := by
    intro u R a cap n bs er q h6 hc
    refine hc.mono ?_
    rintro e w' ⟨v, rfl, ht⟩
    exact ⟨v, none, rfl, .inr ⟨fun h => h6 h.1, rfl, ht⟩⟩
  by_cases k0 : kd = 0
  · subst k0
    exact ⟨_, _, _, _, fun _ h => absurd h (by decide), fun h => absurd h (by decide), fun u R a cap h => lift (by decide) (did_0 h 0 wd hw1 hw2 hbig rfl), fun u M a cap h => do_0 h wd hw1 hw2 hbig⟩
  by_cases k1 : kd = 1
  · subst k1
    exact ⟨_, _, _, _, fun _ h => absurd h (by decide), fun h => absurd h (by decide), fun u R a cap h => lift (by decide) (did_1 h 1 wd hw1 hw2 hbig rfl), fun u M a cap h => do_1 h wd hw1 hw2 hbig⟩
  by_cases k2 : kd = 2
  · subst k2
    exact ⟨_, _, _, _, fun _ h => absurd h (by decide), fun h => absurd h (by decide), fun u R a cap h => lift (by decide) (did_2 h 2 wd hw1 hw2 hbig rfl), fun u M a cap h => do_2 h wd hw1 hw2 hbig⟩
  by_cases k3 : kd = 3
  · subst k3
    exact ⟨_, _, _, _, fun _ h => absurd h (by decide), fun h => absurd h (by decide), fun u R a cap h => lift (by decide) (did_3 h 3 wd hw1 hw2 hbig rfl), fun u M a cap h => do_3 h wd hw1 hw2 hbig⟩
  by_cases k5 : kd = 5
  · subst k5
    exact ⟨_, _, _, _, fun _ h => absurd h (by decide), fun h => absurd h (by decide), fun u R a cap h => lift (by decide) (did_5 h 5 wd hw1 hw2 hbig rfl), fun u M a cap h => do_5 h wd hw1 hw2 hbig⟩
  by_cases k6 : kd = 6
  · subst k6
    by_cases hE : aheadE ((xs.length : Int) - p) wd = 0
    · have hz : 0 ≤ wd ∧ wd ≤ (xs.length : Int) - p := by unfold aheadE at hE; split at hE <;> first | (simp at hE; done) | (split at hE <;> first | (simp at hE; done) | omega)
      have hbl : (aheadB xs p wd).length = wd.toNat := by unfold aheadB; rw [if_pos hE, List.length_take, List.length_drop]; omega
      refine ⟨0, aheadB xs p wd, 0, p + wd.toNat, fun _ _ => by omega, fun _ => rfl, fun u R a cap h => ?_, fun u M a cap h => ?_⟩
      · refine (did_6 h wd hw1 hw2 hbig hE).mono ?_
        rintro e w' ⟨v, R2, a2, c2, rfl, h1, h2, h3⟩
        exact ⟨v, _, rfl, .inl ⟨rfl, rfl, R2, a2, c2, rfl, h1, by rw [hbl]; exact h2, h3⟩⟩
      · have := do_x h 6 wd hw1 hw2 hbig (by decide)
        rw [hE] at this
        exact this
    · have hB : aheadB xs p wd = [] := by unfold aheadB; rw [if_neg hE]
      have hS : stepV (aheadE ((xs.length : Int) - p) wd) wd = 0 := by unfold stepV; rw [if_neg hE]
      refine ⟨0, [], aheadE ((xs.length : Int) - p) wd, p, fun h => absurd h hE, fun _ => rfl, fun u R a cap h => ?_, fun u M a cap h => ?_⟩
      · refine (did_6e h wd hw1 hw2 hbig hE).mono ?_
        rintro e w' ⟨v, rfl, h1⟩
        exact ⟨v, none, rfl, .inr ⟨fun h => hE h.2, rfl, h1⟩⟩
      · have := do_x h 6 wd hw1 hw2 hbig (by decide)
        rw [hB, hS] at this
        exact this
  · exact ⟨_, _, _, _, fun _ h => absurd h k6, fun h => absurd h k6, fun u R a cap h => lift k6 (did_b h kd wd hw1 hw2 hbig ⟨k0, k1, k2, k3, k5, k6⟩), fun u M a cap h => do_x h kd wd hw1 hw2 hbig ⟨k0, k1, k2, k3, k5⟩⟩
end Go.Proofs.Ytnhkkhceoaembaa

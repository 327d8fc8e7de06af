/- A Reader gives bytes as the chapter says. -/
import Derived.Test.YtmfijcniaehooaaWreader
namespace Go.Proofs.Ytmfijcniaehooaa
set_option linter.unusedVariables false
open Go.RowKit

/-- The error of asking for n bytes where there are m. -/
def aheadE (m n : Int) : Int := if n < 0 then 1 else if m < n then 4 else 0
/-- The n bytes from the place p on. -/
def aheadB (xs : List Int) (p : Nat) (n : Int) : List Int := if aheadE ((xs.length : Int) - p) n = 0 then (xs.drop p).take n.toNat else []
/-- How far it is gone on. -/
def stepV (E n : Int) : Nat := if E = 0 then n.toNat else 0

section
variable {w : World} {R p len cap : Nat} {a : Option Addr} {xs : List Int} (h : IsR w R p a len cap xs)
include h
omit h in
set_option maxHeartbeats 400000 in
theorem ahead_bad1 (n : Int) (hn : n < 0) : Calls Try.prog 82 #[.pointer (some ⟨R, 0, none⟩), .int .i64 n] w fun e w' => e = .returned (.tuple #[.slice none 0 0, .int .i64 1]) ∧ w = w' := by
  go_enter Try.func82, Try.ntmps82
  go_wp2
  go_ret2
  exact ⟨rfl, rfl⟩
set_option maxHeartbeats 400000 in
theorem ahead_bad2 (n : Int) (hn : 0 ≤ n) (hn2 : (len : Int) - p < n) : Calls Try.prog 82 #[.pointer (some ⟨R, 0, none⟩), .int .i64 n] w fun e w' => e = .returned (.tuple #[.slice none 0 0, .int .i64 4]) ∧ ∃ m, w' = w.drewN m := by
  have H := Lib.hid h
  clear h
  go_enter Try.func82, Try.ntmps82
  go_wp2_with (go_at_call 53; refine (left_any H.out).mono ?_; rintro e w' ⟨rfl, m, rfl⟩)
  go_ret2
  exact ⟨rfl, _, rfl⟩
set_option maxHeartbeats 400000 in
theorem ahead_ok (n : Nat) (hn2 : (n : Int) ≤ (len : Int) - p) : Calls Try.prog 82 #[.pointer (some ⟨R, 0, none⟩), .int .i64 n] w fun e w' =>
    ∃ a2 l2 c2, e = .returned (.tuple #[.slice a2 l2 c2, .int .i64 0]) ∧ Rd w a2 l2 c2 ((xs.drop p).take n) ∧ ∃ m, w' = w.drewN m := by
  have H := Lib.hid h
  have c0 := h.c0
  have c1 := h.c1
  have hp := h.hp
  have hm := h.rd.hm
  have hc := h.rd.hc
  unfold maxLen at hm
  clear h
  go_enter Try.func82, Try.ntmps82
  go_wp2_with (go_at_call 53; refine (left_any H.out).mono ?_; rintro e w' ⟨rfl, m, rfl⟩)
  go_quiet (fail)
  go_wp2
  · have hn0 : n = 0 := by omega
    go_ret2
    refine ⟨a, n, 0, rfl, ?_, _, rfl⟩
    subst hn0
    exact H.out.rd.cut0
  · go_ret2
    exact ⟨_, n, _, rfl, H.out.rd.cut2 p n (by omega), _, rfl⟩
/-- The next n bytes, still the Reader's own. -/
theorem ahead_any (n : Int) (hn : n ≤ 9223372036854775807) : Calls Try.prog 82 #[.pointer (some ⟨R, 0, none⟩), .int .i64 n] w fun e w' =>
    ∃ a2 l2 c2, e = .returned (.tuple #[.slice a2 l2 c2, .int .i64 (aheadE ((xs.length : Int) - p) n)]) ∧ Rd w a2 l2 c2 (aheadB xs p n) ∧ ∃ m, w' = w.drewN m := by
  have hl := h.rd.hl
  by_cases h1 : n < 0
  · have hE : aheadE ((xs.length : Int) - p) n = 1 := by unfold aheadE; rw [if_pos h1]
    have hB : aheadB xs p n = [] := by unfold aheadB; rw [hE]; rfl
    rw [hE, hB]
    refine (ahead_bad1 n h1).mono ?_
    rintro e w' ⟨rfl, rfl⟩
    exact ⟨_, _, _, rfl, Rd.nil _, 0, rfl⟩
  · by_cases h2 : (len : Int) - p < n
    · have hE : aheadE ((xs.length : Int) - p) n = 4 := by unfold aheadE; rw [if_neg h1, if_pos (by omega)]
      have hB : aheadB xs p n = [] := by unfold aheadB; rw [hE]; rfl
      rw [hE, hB]
      refine (ahead_bad2 h n (by omega) h2).mono ?_
      rintro e w' ⟨rfl, m, rfl⟩
      exact ⟨_, _, _, rfl, Rd.nil _, m, rfl⟩
    · have hE : aheadE ((xs.length : Int) - p) n = 0 := by unfold aheadE; rw [if_neg h1, if_neg (by omega)]
      have hB : aheadB xs p n = (xs.drop p).take n.toNat := by unfold aheadB; rw [hE]; rfl
      rw [hE, hB]
      obtain ⟨k, rfl⟩ := Int.eq_ofNat_of_zero_le (show 0 ≤ n by omega)
      exact ahead_ok h k (by omega)

omit h in
theorem stepV_le {E n : Int} {p l : Nat} (hE : E = aheadE ((l : Int) - p) n) (hp : p ≤ l) : p + stepV E n ≤ l := by
  unfold stepV
  split
  · rename_i h0
    rw [h0] at hE
    unfold aheadE at hE
    split at hE
    · simp at hE
    · split at hE
      · simp at hE
      · omega
  · omega
set_option maxHeartbeats 400000 in
theorem bytes_any (n : Int) (hn : n ≤ 9223372036854775807) (hbig : len ≤ 140737488355328) : Calls Try.prog 80 #[.pointer (some ⟨R, 0, none⟩), .int .i64 n] w fun e w' =>
    ∃ v, e = .returned (.tuple #[v, .int .i64 (aheadE ((xs.length : Int) - p) n)]) ∧ Own w' w.heap.size v (aheadB xs p n) ∧ Moved w w' R (p + stepV (aheadE ((xs.length : Int) - p) n) n) a len cap xs := by
  have hl := h.rd.hl
  have H := Lib.hid h
  have hp := h.hp
  have hs := stepV_le (E := aheadE ((xs.length : Int) - p) n) (n := n) (p := p) (l := len) (by rw [hl]) hp
  by_cases hE : aheadE ((xs.length : Int) - p) n = 0
  · have hst : stepV (aheadE ((xs.length : Int) - p) n) n = n.toNat := by unfold stepV; rw [if_pos hE]
    rw [hst] at hs ⊢
    have hn0 : 0 ≤ n := by unfold aheadE at hE; split at hE <;> omega
    obtain ⟨k, rfl⟩ := Int.eq_ofNat_of_zero_le hn0
    rw [Int.toNat_natCast] at hs ⊢
    have HE := Lib.hid hE
    have hal : (aheadB xs p k).length ≤ len := by unfold aheadB; split <;> simp <;> omega
    clear h hE hst hl
    go_enter Try.func80, Try.ntmps80
    go_wp2_with fail
    refine (ahead_any H.out k hn).mono ?_
    rintro e w1 ⟨a2, l2, c2, rfl, hr, m, rfl⟩
    rw [HE.out]
    have hl2 := hr.hl
    have hl2' : l2 ≤ 140737488355328 := by omega
    have HR1 := Lib.hid (H.out.below (below_drewN w.heap.size w m) (Nat.le_refl _))
    have Hr := Lib.hid (hr.below (below_drewN w.heap.size w m) (Nat.le_refl _))
    have Hm0 := Lib.hid (Moved.of_below H.out (below_drewN w.heap.size w m))
    generalize w.drewN m = w1 at *
    clear hr hl2
    go_wp2_with fail
    refine (went_any HR1.out k hs).mono ?_
    rintro e w2 ⟨rfl, hm⟩
    have Hm := Lib.hid (Hm0.out.trans hm)
    have Hr2 := Lib.hid (hm.keeps _ _ _ _ Hr.out)
    clear hm
    go_wp2_with fail
    refine (clone_any _ _ _ _ _ Hr2.out hl2').mono ?_
    rintro e w3 ⟨v, rfl, ho, hb⟩
    have Ho := Lib.hid ho
    have Hm3 := Lib.hid (Hm.out.trans (Moved.of_below Hm.out.isR hb))
    have hsz : w.heap.size ≤ w2.heap.size := Hm.out.grown.size
    clear ho hb
    go_wp2
    go_ret2
    exact ⟨v, by rw [HE.out]; rfl, Ho.out.mono hsz, Hm3.out⟩
  · have hst : stepV (aheadE ((xs.length : Int) - p) n) n = 0 := by unfold stepV; rw [if_neg hE]
    have hB : aheadB xs p n = [] := by unfold aheadB; rw [if_neg hE]
    rw [hst, hB]
    have HE := Lib.hid hE
    have hE2 : (aheadE ((xs.length : Int) - p) n != 0) = true := by simpa using hE
    clear h hE hst hl hB hs
    go_enter Try.func80, Try.ntmps80
    go_wp2_with fail
    refine (ahead_any H.out n hn).mono ?_
    rintro e w1 ⟨a2, l2, c2, rfl, hr, m, rfl⟩
    have Hm0 := Lib.hid (Moved.of_below H.out (below_drewN w.heap.size w m))
    generalize w.drewN m = w1 at *
    clear hr
    go_wp2
    go_ret2
    exact ⟨_, rfl, Own.nil _ _, Hm0.out⟩
end
end Go.Proofs.Ytmfijcniaehooaa

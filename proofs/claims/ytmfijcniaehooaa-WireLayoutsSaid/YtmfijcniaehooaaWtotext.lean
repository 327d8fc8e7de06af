/- ToText answers as the chapter says. -/
import Derived.Test.YtmfijcniaehooaaWtext
namespace Go.Proofs.Ytmfijcniaehooaa
set_option linter.unusedVariables false
open Go.RowKit
theorem tvL_bd (xs : List Int) : ∀ (i : Nat) (acc : Int), i + xs.length ≤ 9 → (∀ x ∈ xs, 0 ≤ x ∧ x ≤ 255) → 0 ≤ acc → acc < 128 ^ i →
    0 ≤ (tvL i acc xs).1 ∧ (tvL i acc xs).1 ≤ 9223372036854775807 ∧ 0 ≤ (tvL i acc xs).2.1 ∧ (tvL i acc xs).2.1 ≤ i + xs.length ∧
      ((tvL i acc xs).2.2 = 0 ∧ 1 ≤ (tvL i acc xs).2.1 ∨ (tvL i acc xs).2.2 = 4 ∧ (tvL i acc xs).1 = 0 ∧ (tvL i acc xs).2.1 = 0) := by
  induction xs with
  | nil => intro i acc h1 h2 h3 h4; simp [tvL]
  | cons x xs ih =>
    intro i acc h1 h2 h3 h4
    have hx := h2 x (by simp)
    simp only [List.length_cons] at h1 ⊢
    have hp := pow7_bd i (by omega)
    have hor := or_step7 acc (x % 128) i (by omega) h3 h4 (by omega) (by omega)
    simp only [tvL]
    split
    · simp; omega
    · split
      · have e9 : (128 : Int) ^ (i + 1) ≤ 9223372036854775808 := by rw [Int.pow_succ]; omega
        refine ⟨hor.2.1, by simp only; omega, by simp only; omega, by simp only; omega, .inl ⟨rfl, by simp only; omega⟩⟩
      · have := ih (i + 1) (acc + x % 128 * 128 ^ i) (by omega) (fun y hy => h2 y (by simp [hy])) hor.2.1 hor.2.2
        refine ⟨this.1, this.2.1, this.2.2.1, by have := this.2.2.2.1; omega, this.2.2.2.2⟩
theorem toVarV_bd (xs : List Int) (hb : ∀ x ∈ xs, 0 ≤ x ∧ x ≤ 255) :
    0 ≤ (toVarV xs).1 ∧ (toVarV xs).1 ≤ 9223372036854775807 ∧ 0 ≤ (toVarV xs).2.1 ∧ (toVarV xs).2.1 ≤ 9 ∧ (toVarV xs).2.1 ≤ xs.length ∧
      ((toVarV xs).2.2 = 0 ∧ 1 ≤ (toVarV xs).2.1 ∨ (toVarV xs).2.2 = 4 ∧ (toVarV xs).1 = 0 ∧ (toVarV xs).2.1 = 0) := by
  have hl : (xs.take 9).length ≤ 9 ∧ (xs.take 9).length ≤ xs.length := by simp [List.length_take]; omega
  have := tvL_bd (xs.take 9) 0 0 (by omega) (fun x hx => hb x (List.mem_of_mem_take hx)) (by omega) (by decide)
  unfold toVarV
  refine ⟨this.1, this.2.1, this.2.2.1, by have := this.2.2.2.1; omega, by have := this.2.2.2.1; omega, this.2.2.2.2⟩

/-- What ToText answers: the bytes, how many were used, the error. -/
def toTextV (xs : List Int) : List Int × Int × Int :=
  if (toVarV xs).2.2 ≠ 0 then ([], 0, (toVarV xs).2.2)
  else if 65535 < (toVarV xs).1 then ([], 0, 2)
  else if (xs.length : Int) - (toVarV xs).2.1 < (toVarV xs).1 then ([], 0, 4)
  else ((xs.drop (toVarV xs).2.1.toNat).take (toVarV xs).1.toNat, (toVarV xs).2.1 + (toVarV xs).1, 0)

set_option maxRecDepth 100000 in
set_option maxHeartbeats 400000 in
theorem toText_ok (a : Option Addr) (len cap : Nat) (xs : List Int) (w : World) (h : Rd w a len cap xs) (n u : Int) (hv : toVarV xs = (n, u, 0)) (hn0 : 0 ≤ n) (hn : n ≤ 65535) (hu : 1 ≤ u) (hu9 : u ≤ 9) (hfit : n ≤ len - u) :
    Calls Try.prog 35 #[.slice a len cap] w fun e w' => ∃ v, e = .returned (.tuple #[v, .int .i64 (u + n), .int .i64 0]) ∧
      Own w' w.heap.size v ((xs.drop u.toNat).take n.toNat) ∧ Below w.heap.size w w' := by
  have hc := h.hc
  have hm := h.hm
  unfold maxLen at hm
  have Hv := Lib.hid hv
  obtain ⟨b, off, rfl, hcell⟩ := h.hr (by omega)
  have H := Lib.hid h
  clear hv hcell
  have HT : Hid (three (toVarV xs) = .returned (.tuple #[.int .i64 n, .int .i64 u, .int .i64 0])) := Lib.hid (by rw [Hv.out]; rfl)
  go_enter Try.func35, Try.ntmps35
  go_wp2_with fail
  refine (toVar_any _ _ _ xs _ H.out).mono ?_
  rintro e w1 ⟨rfl, rfl⟩
  rw [HT.out]
  clear h
  go_wp2_with fail
  all_goals
    have hcut : ∀ {x : Addr} {c : Nat}, (0 < n.toNat → x = ⟨b, off + u.toNat, none⟩) → n.toNat ≤ c → c ≤ maxLen → Rd w (some x) n.toNat c ((xs.drop u.toNat).take n.toNat) :=
      fun h1 h2 h3 => Rd.cut H.out u.toNat n.toNat (by omega) h1 h2 h3
    rw [show (u + n).toNat - u.toNat = n.toNat from by omega]
    refine (clone_any _ _ _ _ _ (hcut (by intro h0; first | rfl | (exfalso; omega)) (by omega) (by unfold maxLen; omega)) (by omega)).mono ?_
    clear hcut
    rintro e w2 ⟨v, rfl, ho, hb⟩
    have Ho := Lib.hid ho
    have Hb := Lib.hid hb
    clear ho hb
    go_wp2
    go_ret3
    exact ⟨v, rfl, Ho.out, Hb.out⟩

theorem toText_bad (a : Option Addr) (len cap : Nat) (xs : List Int) (w : World) (h : Rd w a len cap xs) (n u : Int) (hv : toVarV xs = (n, u, 0)) (hn0 : 0 ≤ n) (hn : n ≤ 9223372036854775807) (hu : 1 ≤ u) (hu9 : u ≤ 9) (hlen : u ≤ len) (hbad : 65535 < n) :
    Calls Try.prog 35 #[.slice a len cap] w fun e w' => e = .returned (.tuple #[.slice none 0 0, .int .i64 0, .int .i64 2]) ∧ w = w' := by
  have hm := h.hm
  have hc := h.hc
  unfold maxLen at hm
  have HT : Hid (three (toVarV xs) = .returned (.tuple #[.int .i64 n, .int .i64 u, .int .i64 0])) := Lib.hid (by rw [hv]; rfl)
  clear hv
  go_enter Try.func35, Try.ntmps35
  go_wp2_with fail
  refine (toVar_any _ _ _ xs _ h).mono ?_
  rintro e w1 ⟨rfl, rfl⟩
  rw [HT.out]
  go_wp2
  go_ret3
  exact ⟨rfl, rfl⟩
theorem toText_short (a : Option Addr) (len cap : Nat) (xs : List Int) (w : World) (h : Rd w a len cap xs) (n u : Int) (hv : toVarV xs = (n, u, 0)) (hn0 : 0 ≤ n) (hn : n ≤ 65535) (hu : 1 ≤ u) (hu9 : u ≤ 9) (hlen : u ≤ len) (hbad : len - u < n) :
    Calls Try.prog 35 #[.slice a len cap] w fun e w' => e = .returned (.tuple #[.slice none 0 0, .int .i64 0, .int .i64 4]) ∧ w = w' := by
  have hm := h.hm
  have hc := h.hc
  unfold maxLen at hm
  have HT : Hid (three (toVarV xs) = .returned (.tuple #[.int .i64 n, .int .i64 u, .int .i64 0])) := Lib.hid (by rw [hv]; rfl)
  clear hv
  go_enter Try.func35, Try.ntmps35
  go_wp2_with fail
  refine (toVar_any _ _ _ xs _ h).mono ?_
  rintro e w1 ⟨rfl, rfl⟩
  rw [HT.out]
  go_wp2
  go_ret3
  exact ⟨rfl, rfl⟩
theorem toText_err (a : Option Addr) (len cap : Nat) (xs : List Int) (w : World) (h : Rd w a len cap xs) (hv : toVarV xs = (0, 0, 4)) :
    Calls Try.prog 35 #[.slice a len cap] w fun e w' => e = .returned (.tuple #[.slice none 0 0, .int .i64 0, .int .i64 4]) ∧ w = w' := by
  have HT : Hid (three (toVarV xs) = .returned (.tuple #[.int .i64 0, .int .i64 0, .int .i64 4])) := Lib.hid (by rw [hv]; rfl)
  clear hv
  go_enter Try.func35, Try.ntmps35
  go_wp2_with fail
  refine (toVar_any _ _ _ xs _ h).mono ?_
  rintro e w1 ⟨rfl, rfl⟩
  rw [HT.out]
  go_wp2
  go_ret3
  exact ⟨rfl, rfl⟩

theorem toText_any (a : Option Addr) (len cap : Nat) (xs : List Int) (w : World) (h : Rd w a len cap xs) :
    Calls Try.prog 35 #[.slice a len cap] w fun e w' => ∃ v, e = .returned (.tuple #[v, .int .i64 (toTextV xs).2.1, .int .i64 (toTextV xs).2.2]) ∧
      Own w' w.heap.size v (toTextV xs).1 ∧ Below w.heap.size w w' := by
  have hb := toVarV_bd xs h.hb
  have hl := h.hl
  rcases hv : toVarV xs with ⟨n, u, e⟩
  rw [hv] at hb
  simp only at hb
  obtain ⟨b1, b2, b3, b4, b5, ⟨rfl, b6⟩ | ⟨rfl, rfl, rfl⟩⟩ := hb
  · by_cases c1 : 65535 < n
    · have e1 : toTextV xs = ([], 0, 2) := by unfold toTextV; simp [hv, c1]
      rw [e1]
      refine (toText_bad a len cap xs w h n u hv b1 b2 b6 b4 (by omega) c1).mono ?_
      rintro e w' ⟨rfl, rfl⟩
      exact ⟨_, rfl, Own.nil _ _, Below.refl _ _⟩
    · by_cases c2 : (xs.length : Int) - u < n
      · have e1 : toTextV xs = ([], 0, 4) := by unfold toTextV; simp [hv, c1, c2]
        rw [e1]
        refine (toText_short a len cap xs w h n u hv b1 (by omega) b6 b4 (by omega) (by omega)).mono ?_
        rintro e w' ⟨rfl, rfl⟩
        exact ⟨_, rfl, Own.nil _ _, Below.refl _ _⟩
      · have e1 : toTextV xs = ((xs.drop u.toNat).take n.toNat, u + n, 0) := by unfold toTextV; simp [hv, c1, c2]
        rw [e1]
        exact toText_ok a len cap xs w h n u hv b1 (by omega) b6 b4 (by omega)
  · have e1 : toTextV xs = ([], 0, 4) := by unfold toTextV; simp [hv]
    rw [e1]
    refine (toText_err a len cap xs w h hv).mono ?_
    rintro e w' ⟨rfl, rfl⟩
    exact ⟨_, rfl, Own.nil _ _, Below.refl _ _⟩
end Go.Proofs.Ytmfijcniaehooaa

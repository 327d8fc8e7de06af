/- Seek and Sub of a Reader. -/
import Derived.Test.YtnhkkhceoaembaaWrnum
import Derived.Test.YtnhkkhceoaembaaWrbytes
namespace Go.Proofs.Ytnhkkhceoaembaa
set_option linter.unusedVariables false
open Go.RowKit

theorem IsR.moved {w : World} {R p len cap : Nat} {a : Option Addr} {xs : List Int} (h : IsR w R p a len cap xs) (q : Nat) (hq : q ≤ len) : Moved w (w.setCell ⟨R, 0, none⟩ (.int .i64 q)) R q a len cap xs :=
  ⟨h.move q hq, grown_setCell _ _ _ _, fun a2 l2 c2 ys hr => hr.set h _, fun B v ys ho => ho.set h _⟩
section
variable {w : World} {R p len cap : Nat} {a : Option Addr} {xs : List Int} (h : IsR w R p a len cap xs)
include h
set_option maxHeartbeats 400000 in
theorem seek_ok (n : Nat) (hn : n ≤ len) : Calls Try.prog 57 #[.pointer (some ⟨R, 0, none⟩), .int .i64 n] w fun e w' => e = .returned (.int .i64 0) ∧ Moved w w' R n a len cap xs := by
  have c0 := h.c0
  have c1 := h.c1
  have f0 := h.f0
  have hm := h.rd.hm
  have hc := h.rd.hc
  unfold maxLen at hm
  have HM := Lib.hid (h.moved n hn)
  have g1 : ¬ (n : Int) < 0 := by omega
  have g2 : ¬ (len : Int) < (n : Int) := by omega
  clear h
  go_enter Try.func57, Try.ntmps57
  go_wp2
  go_ret
  exact ⟨rfl, HM.out⟩
set_option maxHeartbeats 400000 in
theorem seek_bad (n : Int) (hn : n < 0 ∨ (len : Int) < n) : Calls Try.prog 57 #[.pointer (some ⟨R, 0, none⟩), .int .i64 n] w fun e w' => e = .returned (.int .i64 1) ∧ w' = w := by
  have c0 := h.c0
  have c1 := h.c1
  clear h
  rcases Decidable.em (n < 0) with h1 | h1
  · go_enter Try.func57, Try.ntmps57
    go_wp2
    go_ret
    exact ⟨rfl, rfl⟩
  · have h2 : (len : Int) < n := by omega
    go_enter Try.func57, Try.ntmps57
    go_wp2
    go_ret
    exact ⟨rfl, rfl⟩
/-- What Sub answers. -/
def SubPost (w : World) (R p : Nat) (a : Option Addr) (len cap : Nat) (xs : List Int) (n : Int) (e : Ending) (w' : World) : Prop :=
  (aheadE ((xs.length : Int) - p) n = 0 ∧ ∃ R2 a2 c2, e = .returned (.tuple #[.pointer (some ⟨R2, 0, none⟩), .int .i64 0]) ∧ w.heap.size ≤ R2 ∧ IsR w' R2 0 a2 n.toNat c2 (aheadB xs p n) ∧ Moved w w' R (p + n.toNat) a len cap xs) ∨
  (aheadE ((xs.length : Int) - p) n ≠ 0 ∧ e = .returned (.tuple #[.pointer none, .int .i64 (aheadE ((xs.length : Int) - p) n)]) ∧ Below w.heap.size w w')
set_option maxHeartbeats 400000 in
theorem sub_any (n : Int) (hn : n ≤ 9223372036854775807) (hbig : len ≤ 140737488355328) : Calls Try.prog 58 #[.pointer (some ⟨R, 0, none⟩), .int .i64 n] w (SubPost w R p a len cap xs n) := by
  have hl := h.rd.hl
  have H := Lib.hid h
  have hp := h.hp
  have hs := stepV_le (E := aheadE ((xs.length : Int) - p) n) (n := n) (p := p) (l := len) (by rw [hl]) hp
  by_cases hE : aheadE ((xs.length : Int) - p) n = 0
  · have hst : stepV (aheadE ((xs.length : Int) - p) n) n = n.toNat := by unfold stepV; rw [if_pos hE]
    rw [hst] at hs
    have hn0 : 0 ≤ n := by unfold aheadE at hE; split at hE <;> omega
    obtain ⟨k, rfl⟩ := Int.eq_ofNat_of_zero_le hn0
    rw [Int.toNat_natCast] at hs
    have HE := Lib.hid hE
    have hal : (aheadB xs p k).length = k := by unfold aheadB; rw [if_pos hE]; simp; omega
    clear h hE hst hl
    go_enter Try.func58, Try.ntmps58
    go_wp2_with fail
    refine (ahead_any H.out k hn).mono ?_
    rintro e w1 ⟨a2, l2, c2, rfl, hr, m, rfl⟩
    rw [HE.out]
    have hl2 := hr.hl
    rw [hal] at hl2
    subst hl2
    have hl2' : k ≤ 140737488355328 := by omega
    have HR1 := Lib.hid (H.out.below (below_drewN w.heap.size w m) (Nat.le_refl _))
    have Hr := Lib.hid (hr.below (below_drewN w.heap.size w m) (Nat.le_refl _))
    have Hm0 := Lib.hid (Moved.of_below H.out (below_drewN w.heap.size w m))
    generalize w.drewN m = w1 at *
    clear hr
    go_wp2_with fail
    refine (went_any HR1.out k hs).mono ?_
    rintro e w2 ⟨rfl, hm⟩
    have Hm := Lib.hid (Hm0.out.trans hm)
    have Hr2 := Lib.hid (hm.keeps _ _ _ _ Hr.out)
    clear hm
    go_wp2_with fail
    refine (newReader_any _ _ _ _ _ Hr2.out hl2').mono ?_
    rintro e w3 ⟨R2, a3, c3, rfl, hR2, hi, hb⟩
    have Hi := Lib.hid hi
    have Hm3 := Lib.hid (Hm.out.trans (Moved.of_below Hm.out.isR hb))
    have hsz : w.heap.size ≤ w2.heap.size := Hm.out.grown.size
    have hR3 : w.heap.size ≤ R2 := by omega
    clear hi hb
    go_wp2
    go_ret2
    exact .inl ⟨HE.out, R2, a3, c3, rfl, hR3, by rw [Int.toNat_natCast]; exact Hi.out, by rw [Int.toNat_natCast]; exact Hm3.out⟩
  · have HE := Lib.hid hE
    have hE2 : (aheadE ((xs.length : Int) - p) n != 0) = true := by simpa using hE
    clear h hE hl hs
    go_enter Try.func58, Try.ntmps58
    go_wp2_with fail
    refine (ahead_any H.out n hn).mono ?_
    rintro e w1 ⟨a2, l2, c2, rfl, hr, m, rfl⟩
    have Hb := Lib.hid (below_drewN w.heap.size w m)
    clear hr
    obtain ⟨E, hEE⟩ : ∃ E, E = aheadE ((xs.length : Int) - p) n := ⟨_, rfl⟩
    rw [← hEE] at hE2 HE ⊢
    have HEE := Lib.hid hEE
    clear hEE
    generalize w.drewN m = w1 at *
    go_wp2
    go_ret2
    exact .inr ⟨by rw [← HEE.out]; exact HE.out, by rw [← HEE.out]; rfl, Hb.out⟩
end
end Go.Proofs.Ytnhkkhceoaembaa

/- A Reader gives variable numbers as the chapter says. -/
import Derived.Test.YtmfijcniaehooaaWrbytes
namespace Go.Proofs.Ytmfijcniaehooaa
set_option linter.unusedVariables false
open Go.RowKit

theorem toVar_same (a : Option Addr) (len cap : Nat) (xs : List Int) (w : World) (h : Rd w a len cap xs) :
    Calls Try.prog 27 #[.slice a len cap] w fun e w' => e = .returned (.tuple #[.int .i64 (toVarV xs).1, .int .i64 (toVarV xs).2.1, .int .i64 (toVarV xs).2.2]) ∧ w' = w :=
  (toVar_any a len cap xs w h).mono fun _ _ ⟨he, hw⟩ => ⟨he, hw.symm⟩
section
variable {w : World} {R p len cap : Nat} {a : Option Addr} {xs : List Int} (h : IsR w R p a len cap xs)
include h
set_option maxHeartbeats 400000 in
theorem rvar_any : Calls Try.prog 60 #[.pointer (some ⟨R, 0, none⟩)] w fun e w' =>
    e = .returned (.tuple #[.int .i64 (toVarV (xs.drop p)).1, .int .i64 (toVarV (xs.drop p)).2.2]) ∧ Moved w w' R (p + (toVarV (xs.drop p)).2.1.toNat) a len cap xs := by
  have hl := h.rd.hl
  have H := Lib.hid h
  have hp := h.hp
  have c0 := h.c0
  have c1 := h.c1
  have hc := h.rd.hc
  have hm := h.rd.hm
  unfold maxLen at hm
  have hb := toVarV_bd (xs.drop p) (fun x hx => h.rd.hb x (List.mem_of_mem_drop hx))
  rw [List.length_drop] at hb
  rcases hT : toVarV (xs.drop p) with ⟨n, u, er⟩
  rw [hT] at hb
  obtain ⟨b1, b2, b3, b4, b5, -⟩ := hb
  simp only at b1 b2 b3 b4 b5 ⊢
  obtain ⟨k, rfl⟩ := Int.eq_ofNat_of_zero_le b3
  rw [Int.toNat_natCast]
  have HT := Lib.hid hT
  have hs : p + k ≤ len := by omega
  clear h hT b5
  by_cases hcp : p < cap
  · have hrd := H.out.rd.cut2 p (len - p) (by omega)
    rw [List.take_of_length_le (by simp; omega)] at hrd
    have Hrd := Lib.hid hrd
    have hcall : ∀ W : World, Rd W (a.map (fun x => x.add p)) (len - p) (cap - p) (xs.drop p) → Calls Try.prog 27 #[.slice (a.map (fun x => x.add p)) (len - p) (cap - p)] W fun e w' => e = .returned (.tuple #[.int .i64 n, .int .i64 k, .int .i64 er]) ∧ w' = W := fun W hW => by
      have := toVar_same _ _ _ _ W hW
      rw [HT.out] at this
      exact this
    have Hcall := Lib.hid hcall
    clear hrd hl hcall
    go_enter Try.func60, Try.ntmps60
    go_wp2
    go_quiet ((go_at_call 27; exact Calls.quiet_of_same (Hcall.out _ (Hrd.out.below (below_drewN w.heap.size w _) (Nat.le_refl _)))))
    have Hm0 := Lib.hid (Moved.of_below H.out (below_drewN w.heap.size w nq))
    generalize w.drewN nq = w1 at *
    clear c0 c1
    go_wp2_with fail
    refine (went_any Hm0.out.isR k hs).mono ?_
    rintro e w2 ⟨rfl, hm⟩
    have Hm := Lib.hid (Hm0.out.trans hm)
    clear hm
    go_wp2
    go_ret2
    exact ⟨rfl, Hm.out⟩
  · have hcp2 : cap = p := by omega
    subst hcp2
    have hlc : len = cap := by omega
    subst hlc
    have hx0 : xs.drop len = [] := List.drop_of_length_le (by omega)
    rw [hx0] at HT
    have hrd := H.out.rd.cut0
    have Hrd := Lib.hid hrd
    have hcall : ∀ W : World, Rd W a 0 0 [] → Calls Try.prog 27 #[.slice a 0 0] W fun e w' => e = .returned (.tuple #[.int .i64 n, .int .i64 k, .int .i64 er]) ∧ w' = W := fun W hW => by
      have := toVar_same _ _ _ _ W hW
      rw [HT.out] at this
      exact this
    have Hcall := Lib.hid hcall
    clear hrd hl hcall hx0
    go_enter Try.func60, Try.ntmps60
    go_wp2
    go_quiet ((go_at_call 27; exact Calls.quiet_of_same (Hcall.out _ (Hrd.out.below (below_drewN w.heap.size w _) (Nat.le_refl _)))))
    have Hm0 := Lib.hid (Moved.of_below H.out (below_drewN w.heap.size w nq))
    generalize w.drewN nq = w1 at *
    clear c0 c1
    go_wp2_with fail
    refine (went_any Hm0.out.isR k hs).mono ?_
    rintro e w2 ⟨rfl, hm⟩
    have Hm := Lib.hid (Hm0.out.trans hm)
    clear hm
    go_wp2
    go_ret2
    exact ⟨rfl, Hm.out⟩
end
end Go.Proofs.Ytmfijcniaehooaa

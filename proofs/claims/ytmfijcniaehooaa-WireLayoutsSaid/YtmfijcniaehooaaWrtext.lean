/- A Reader gives texts as the chapter says. -/
import Derived.Test.YtmfijcniaehooaaWrvar
import Derived.Deep.RegionHeld3
namespace Go.Proofs.Ytmfijcniaehooaa
set_option linter.unusedVariables false
open Go.RowKit

theorem toTextV_bd (xs : List Int) (hb : ∀ x ∈ xs, 0 ≤ x ∧ x ≤ 255) : 0 ≤ (toTextV xs).2.1 ∧ (toTextV xs).2.1 ≤ xs.length := by
  have h := toVarV_bd xs hb
  unfold toTextV
  split
  · simp
  · split
    · simp
    · split
      · simp
      · simp only; omega
section
variable {w : World} {R p len cap : Nat} {a : Option Addr} {xs : List Int} (h : IsR w R p a len cap xs)
include h
set_option maxRecDepth 100000 in
set_option maxHeartbeats 400000 in
theorem rtext_any : Calls Try.prog 63 #[.pointer (some ⟨R, 0, none⟩)] w fun e w' =>
    ∃ v, e = .returned (.tuple #[v, .int .i64 (toTextV (xs.drop p)).2.2]) ∧ Own w' w.heap.size v (toTextV (xs.drop p)).1 ∧ Moved w w' R (p + (toTextV (xs.drop p)).2.1.toNat) a len cap xs := by
  have hl := h.rd.hl
  have H := Lib.hid h
  have hp := h.hp
  have c0 := h.c0
  have c1 := h.c1
  have hR := h.lt
  have hc := h.rd.hc
  have hm := h.rd.hm
  unfold maxLen at hm
  have hb := toTextV_bd (xs.drop p) (fun x hx => h.rd.hb x (List.mem_of_mem_drop hx))
  rw [List.length_drop] at hb
  rcases hT : toTextV (xs.drop p) with ⟨bs, u, er⟩
  rw [hT] at hb
  obtain ⟨b3, b5⟩ := hb
  simp only at b3 b5 ⊢
  obtain ⟨k, rfl⟩ := Int.eq_ofNat_of_zero_le b3
  rw [Int.toNat_natCast]
  have hs : p + k ≤ len := by omega
  have hcall : ∀ (W : World) (a1 : Option Addr) (l1 c1 : Nat), Rd W a1 l1 c1 (xs.drop p) → Calls Try.prog 35 #[.slice a1 l1 c1] W fun e w' => ∃ v, e = .returned (.tuple #[v, .int .i64 k, .int .i64 er]) ∧ Own w' W.heap.size v bs ∧ Below W.heap.size W w' := fun W a1 l1 c1 hW => by
    have := toText_any _ _ _ _ W hW
    rw [hT] at this
    exact this
  have Hcall := Lib.hid hcall
  clear h hT b5 hcall
  by_cases hcp : cap = p
  · subst hcp
    have hlc : len = cap := by omega
    subst hlc
    have hx0 : xs.drop len = [] := List.drop_of_length_le (by omega)
    rw [hx0] at Hcall
    have hrd := H.out.rd.cut0
    have Hrd := Lib.hid hrd
    clear hrd hl hx0
    go_enter Try.func63, Try.ntmps63
    go_wp2
    go_region_held3 (fun w' => w'.cell? ⟨R, 0, none⟩ = some (.int .i64 len) ∧ w'.cell? ⟨R, 1, none⟩ = some (.slice a len len))
      (first | go_keep | (go_split_ands; refine ⟨?_, ?_⟩ <;> (rw [hb3.cell (by first | (simp; done) | (simp; omega))]; assumption)))
      ((go_at_call 35; refine (Hcall.out _ _ _ _ (Hrd.out.below (Below.refl w.heap.size w).drew (Nat.le_refl _))).mono ?_; rintro e w2 ⟨v, rfl, ho3, hb3⟩))
    have hb : Below w.heap.size w w2 := (Below.refl w.heap.size w).drew.trans hb3
    have Hm0 := Lib.hid (Moved.of_below H.out hb)
    have Ho := Lib.hid ho3
    clear hb3 ho3 hb
    go_wp2_with fail
    refine (went_any Hm0.out.isR k hs).mono ?_
    rintro e w3 ⟨rfl, hm3⟩
    have Hm3 := Lib.hid (Hm0.out.trans hm3)
    have Ho3 := Lib.hid (hm3.owns _ _ _ Ho.out)
    clear hm3
    go_wp2
    go_ret2
    exact ⟨v, rfl, Ho3.out, Hm3.out⟩
  · have hrd : Rd w (Option.map (fun x => x.add p) a) (len - p) (cap - p) (xs.drop p) := by
      have h2 := H.out.rd.cut2 p (len - p) (by omega)
      rw [List.take_of_length_le (by simp; omega)] at h2
      exact h2
    have Hrd := Lib.hid hrd
    clear hrd hl
    go_enter Try.func63, Try.ntmps63
    go_wp2
    go_region_held3 (fun w' => w'.cell? ⟨R, 0, none⟩ = some (.int .i64 p) ∧ w'.cell? ⟨R, 1, none⟩ = some (.slice a len cap))
      (first | go_keep | (go_split_ands; refine ⟨?_, ?_⟩ <;> (rw [hb3.cell (by first | (simp; done) | (simp; omega))]; assumption)))
      ((go_at_call 35; refine (Hcall.out _ _ _ _ (Hrd.out.below (Below.refl w.heap.size w).drew (Nat.le_refl _))).mono ?_; rintro e w2 ⟨v, rfl, ho3, hb3⟩))
    have hb : Below w.heap.size w w2 := (Below.refl w.heap.size w).drew.trans hb3
    have Hm0 := Lib.hid (Moved.of_below H.out hb)
    have Ho := Lib.hid ho3
    clear hb3 ho3 hb
    go_wp2_with fail
    refine (went_any Hm0.out.isR k hs).mono ?_
    rintro e w3 ⟨rfl, hm3⟩
    have Hm3 := Lib.hid (Hm0.out.trans hm3)
    have Ho3 := Lib.hid (hm3.owns _ _ _ Ho.out)
    clear hm3
    go_wp2
    go_ret2
    exact ⟨v, rfl, Ho3.out, Hm3.out⟩
end
end Go.Proofs.Ytmfijcniaehooaa

/- Whether a layout, items and bytes are few enough to be looked at. -/
import Derived.Test.YtmfijcniaehooaaWpackall
import Derived.Deep.QuietTactic
import Derived.BigQuiet
namespace Go.Proofs.Ytmfijcniaehooaa
set_option linter.unusedVariables false
open Go.RowKit

def sumL (xs : List Itm) : Nat := (xs.map (·.len)).sum
theorem sumL_snoc (xs : List Itm) (k : Nat) (h : k < xs.length) : sumL (xs.take (k + 1)) = sumL (xs.take k) + (xs.getD k default).len := by
  unfold sumL
  rw [List.take_succ_eq_append_getElem h, List.map_append, List.sum_append, List.map_singleton, List.sum_singleton]
  simp [List.getD, h]
theorem sumL_bd (xs : List Itm) (B : Nat) (h : ∀ x ∈ xs, x.len ≤ B) : sumL xs ≤ xs.length * B := by
  unfold sumL
  induction xs with
  | nil => simp
  | cons x xs ih =>
    have h1 := h x (by simp)
    have h2 := ih (fun y hy => h y (by simp [hy]))
    rw [List.map_cons, List.sum_cons, List.length_cons, Nat.add_mul, Nat.one_mul]
    omega
/-- What few answers. -/
def fewV (len len1 len2 : Nat) (xs : List Itm) : Bool := decide (len ≤ 100) && decide (len1 ≤ 100) && decide (len2 + sumL xs ≤ 70000)
set_option maxRecDepth 100000 in
set_option maxHeartbeats 1000000 in
theorem few_any (a : Option Addr) (len cap : Nat) (a1 : Option Addr) (len1 cap1 : Nat) (xs : List Itm) (a2 : Option Addr) (len2 cap2 : Nat) (w : World) (h1 : RdI w a1 len1 cap1 xs) (hcap : ∀ x ∈ xs, x.cap ≤ 140737488351232) (hlen : len ≤ 9223372036854775807) (h2 : len2 ≤ 140737488351232) :
    Calls Try.prog 37 #[.slice a len cap, .slice a1 len1 cap1, .slice a2 len2 cap2] w fun e w' => e = .returned (.bool (fewV len len1 len2 xs)) ∧ w = w' := by
  have hl := h1.hl
  have hc := h1.hc
  have hm := h1.hm
  unfold maxLen at hm
  by_cases hfew : len1 ≤ 100
  · have hbd : ∀ x ∈ xs, x.len ≤ 140737488351232 := fun x hx => Nat.le_trans (h1.hb x hx).r.hc (hcap x hx)
    have hsum := fun k => sumL_bd (xs.take k) 140737488351232 (fun x hx => hbd x (List.mem_of_mem_take hx))
    have H1 := Lib.hid h1
    have Hs := Lib.hid hsum
    have Hl := Lib.hid hl
    clear h1 hcap hbd hsum hl
    go_enter Try.func37, Try.ntmps37
    go_wp2_with fail
    go_loop [7, 8] (fun n i => ∃ k : Nat, k ≤ len1 ∧ i = .int .i64 k ∧ n = .int .i64 ((len2 + sumL (xs.take k) : Nat) : Int)) (fun _ i => len1 - (intOf i).toNat)
    case atStart => exact ⟨0, Nat.zero_le _, rfl, by simp [sumL]⟩
    case round =>
      obtain ⟨k, hk, rfl, rfl⟩ := hrel
      have hb := Hs.out k
      have hkl : (xs.take k).length ≤ k := List.length_take_le _ _
      have hb2 : (xs.take k).length * 140737488351232 ≤ 100 * 140737488351232 := Nat.mul_le_mul_right _ (by omega)
      by_cases hlt : k < len1
      · have Hsn := Lib.hid (sumL_snoc xs k (by rw [Hl.out]; exact hlt))
        have hb3 := Hs.out (k + 1)
        have hb4 : (xs.take (k + 1)).length * 140737488351232 ≤ 101 * 140737488351232 := Nat.mul_le_mul_right _ (by have : (xs.take (k + 1)).length ≤ k + 1 := List.length_take_le _ _; omega)
        rw [Hsn.out] at hb3
        obtain ⟨b, off, rfl, hcell⟩ := H1.out.hr (by omega)
        obtain ⟨c0, c1⟩ := hcell k hlt
        obtain ⟨x, hx⟩ : ∃ x, x = xs.getD k default := ⟨_, rfl⟩
        obtain ⟨S, hS⟩ : ∃ S, S = sumL (xs.take k) := ⟨_, rfl⟩
        rw [← hx] at c0 c1 Hsn hb3
        rw [← hS] at Hsn hb3 hb ⊢
        have hS2 : len2 + S ≤ 9223372036854775807 := by omega
        have hS3 : len2 + S + x.len ≤ 9223372036854775807 := by omega
        clear hx hcell hS hb hb2 hb3 hb4 hkl
        go_wp2
        go_round
        case rel => exact ⟨k + 1, by omega, by go_num, by rw [Hsn.out]; go_num⟩
        case measure => simp [intOf]; omega
      · obtain rfl : k = len1 := by omega
        have ht : xs.take k = xs := List.take_of_length_le (by rw [Hl.out]; omega)
        rw [ht] at hb ⊢
        obtain ⟨S, hS⟩ : ∃ S, S = sumL xs := ⟨_, rfl⟩
        have hf : fewV len k len2 xs = (decide ((len : Int) ≤ 100) && decide (((len2 + S : Nat) : Int) ≤ 70000)) := by
          unfold fewV
          rw [← hS, decide_eq_true hfew, Bool.and_true]
          congr 1 <;> rw [decide_eq_decide] <;> omega
        have HF := Lib.hid hf
        clear hf hb hb2 ht hkl
        rw [← hS]
        clear hS
        have hk1 : ¬ (k : Int) < k := by omega
        by_cases h100 : (len : Int) ≤ 100
        · have HF := Lib.hid (show fewV len k len2 xs = decide ((len2 : Int) + (S : Int) ≤ 70000) by rw [HF.out, decide_eq_true h100, Bool.true_and, Int.natCast_add])
          go_wp2
          go_ret
          rw [HF.out]
          exact ⟨rfl, rfl⟩
        · have HF := Lib.hid (show fewV len k len2 xs = false by rw [HF.out, decide_eq_false h100]; rfl)
          go_wp2
          go_ret
          rw [HF.out]
          exact ⟨rfl, rfl⟩
  · have hf : fewV len len1 len2 xs = false := by unfold fewV; rw [decide_eq_false hfew]; simp
    rw [hf]
    have H1 := Lib.hid h1
    have Hl := Lib.hid hl
    clear h1 hcap hl hf
    go_enter Try.func37, Try.ntmps37
    go_wp2_with fail
    go_loop [7, 8] (fun n i => ∃ (k : Nat) (v : Int), k ≤ len1 ∧ i = .int .i64 k ∧ n = .int .i64 v) (fun _ i => len1 - (intOf i).toNat)
    case atStart => exact ⟨0, _, Nat.zero_le _, rfl, rfl⟩
    case round =>
      obtain ⟨k, v, hk, rfl, rfl⟩ := hrel
      by_cases hlt : k < len1
      · obtain ⟨b, off, rfl, hcell⟩ := H1.out.hr (by omega)
        obtain ⟨c0, c1⟩ := hcell k hlt
        obtain ⟨x, hx⟩ : ∃ x, x = xs.getD k default := ⟨_, rfl⟩
        rw [← hx] at c0 c1
        clear hx hcell
        go_wp2
        go_round
        case rel => exact ⟨k + 1, _, by omega, by go_num, rfl⟩
        case measure => simp [intOf]; omega
      · obtain rfl : k = len1 := by omega
        have hk1 : ¬ (k : Int) < k := by omega
        have hk2 : ¬ (k : Int) ≤ 100 := by omega
        by_cases h100 : (len : Int) ≤ 100
        · go_wp2
          go_ret
          exact ⟨rfl, rfl⟩
        · go_wp2
          go_ret
          exact ⟨rfl, rfl⟩
end Go.Proofs.Ytmfijcniaehooaa

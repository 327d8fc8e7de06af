/- The reference's Text, told in plain values. -/
import Derived.Test.YtnhkkhceoaembaaRtovar
import Derived.Test.YtnhkkhceoaembaaWtotext
namespace Go.Proofs.Ytnhkkhceoaembaa
set_option linter.unusedVariables false
open Go.RowKit

theorem run_rawB (a : Option Addr) (l c : Nat) (n m : Int) (w : World) : (Instr.field 28 (.agg #[.slice a l c, .int .i64 n, .int .i64 m]) 0).run Try.prog w = .ok (.slice a l c) w := by kernel_rfl
set_option maxRecDepth 100000 in
set_option maxHeartbeats 1000000 in
theorem refText_any (a : Option Addr) (len cap : Nat) (xs : List Int) (w : World) (h : Rd w a len cap xs) :
    Calls Try.prog 34 #[.slice a len cap] w fun e w' => ∃ v, e = .returned (.agg #[v, .int .i64 (textV xs).length, .int .i64 (textE xs)]) ∧ Own w' w.heap.size v (textV xs) ∧ Below w.heap.size w w' := by
  have hl := h.hl
  have hm := h.hm
  have hc := h.hc
  unfold maxLen at hm
  have hg0 := heap_alloc_last w (.cells #[.slice none 0 0, .int .i64 0, .int .i64 0] 28)
  by_cases hbig : 65535 < len
  · have hE : textE xs = 2 := by unfold textE; rw [if_pos (by omega)]
    have hV : textV xs = [] := by unfold textV; rw [if_pos (by omega)]
    rw [hE, hV]
    have Hg := Lib.hid hg0
    clear hE hV h hl hg0
    go_enter Try.func34, Try.ntmps34
    go_wp2_with (refine wpList_store_row rfl 28 (.tmp 2) (.tmp 7) rfl w.heap.size #[.slice none 0 0, .int .i64 0, .int .i64 2] rfl rfl 28 #[.slice none 0 0, .int .i64 0, .int .i64 0] Hg.out (Try.sizeRaw _ _ _) rfl (oneRaw _ _ _ _ _) ?_)
    refine bodyPost_ret (v := .agg #[.slice none 0 0, .int .i64 0, .int .i64 2]) ?_ rfl ?_
    · exact results_cell_row rfl _ _ w.heap.size 28 #[.slice none 0 0, .int .i64 0, .int .i64 2] (0, 0) _ rfl (setRow_heap _ _ _ _ _ _ Hg.out) Try.underlying28 rfl (Try.sizeRaw _ _ _)
    · exact ⟨_, rfl, Own.nil _ _, ((Below.refl _ w).alloc (Nat.le_refl _) _).trans (below_setRow' _ _ _ _ (Nat.le_refl _))⟩
  · have hE : textE xs = 0 := by unfold textE; rw [if_neg (by omega)]
    have hV : textV xs = varB len ++ xs := by unfold textV; rw [if_neg (by omega), hl]
    rw [hE, hV]
    have HE : Hid (varE len = 0 ∧ varV len = varB len) := Lib.hid (by unfold varE varV; rw [if_neg (by omega), if_neg (by omega)]; exact ⟨rfl, rfl⟩)
    obtain ⟨W0, hW0⟩ : ∃ W0, W0 = w.alloc (.cells #[.slice none 0 0, .int .i64 0, .int .i64 0] 28) := ⟨_, rfl⟩
    have hs0 : W0.heap.size = w.heap.size + 1 := by rw [hW0]; simp
    have hb0 : Below w.heap.size w W0 := by rw [hW0]; exact (Below.refl _ w).alloc (Nat.le_refl _) _
    rw [← hW0] at hg0
    have H0 := Lib.hid (h.below hb0 (Nat.le_refl _))
    have Hb0 := Lib.hid hb0
    have HW0 := Lib.hid hW0
    have Hg := Lib.hid hg0
    have Hl := Lib.hid hl
    clear hE hV hg0 hW0 hb0 h hl
    go_enter Try.func34, Try.ntmps34
    go_wp2_with fail
    rw [← HW0.out]
    clear HW0
    refine (refVar_any len W0 (by omega)).mono ?_
    rintro e w1 ⟨v, rfl, ho, hb⟩
    rw [HE.out.1]
    rw [HE.out.2] at ho ⊢
    have hvl := varB_len len
    have hsz := hb.size
    have H1 := Lib.hid (H0.out.below hb (Nat.le_refl _))
    have Ho := Lib.hid ho
    have Hb := Lib.hid hb
    obtain ⟨a1, c1, rfl, _⟩ := ho.rd
    clear ho hb HE
    have hrb := run_rawB
    go_wp2_with (first
      | (refine wpList_append_rd rfl (.tmp 11) (.tmp 12) 22 rfl W0.heap.size Try.infoB Try.underlying22 _ _ rfl Ho.out _ _ _ _ rfl H1.out (by omega) (by omega) ?_; intro v' w2 ho2 hg2; obtain ⟨a2, c2, hv2, hr2⟩ := ho2.rd; subst hv2; have Ho2 := Lib.hid ho2; have hb2 := Hb.out.grown hg2 (by omega) (fun k hk => (Ho.out.1.lt k hk).1); have Hb2 := Lib.hid hb2; have Hg2 := Lib.hid ((hb2.block w.heap.size (by omega)).trans Hg.out); clear ho2 hr2 hb2 hg2)
      | (refine wpList_store_row rfl 28 (.tmp 2) (.tmp 17) rfl w.heap.size #[.slice a2 ((varB len).length + xs.length) c2, .int .i64 (((varB len).length : Int) + (xs.length : Int)), .int .i64 0] rfl rfl 28 #[.slice none 0 0, .int .i64 0, .int .i64 0] Hg2.out (Try.sizeRaw _ _ _) rfl (oneRaw _ _ _ _ _) ?_))
    refine bodyPost_ret (v := .agg #[.slice a2 ((varB len).length + xs.length) c2, .int .i64 (((varB len).length : Int) + (xs.length : Int)), .int .i64 0]) ?_ rfl ?_
    · exact results_cell_row rfl _ _ w.heap.size 28 #[.slice a2 ((varB len).length + xs.length) c2, .int .i64 (((varB len).length : Int) + (xs.length : Int)), .int .i64 0] (0, 0) _ rfl (setRow_heap _ _ _ _ _ _ Hg2.out) Try.underlying28 rfl (Try.sizeRaw _ _ _)
    · refine ⟨.slice a2 ((varB len).length + xs.length) c2, by simp, ?_, (Hb0.out.trans (Hb2.out.mono (by omega))).trans (below_setRow' _ _ _ _ (Nat.le_refl _))⟩
      have ho2 := Ho2.out
      rw [List.length_append] at ho2
      exact (ho2.setRow (by omega) _).mono (by omega)
end Go.Proofs.Ytnhkkhceoaembaa

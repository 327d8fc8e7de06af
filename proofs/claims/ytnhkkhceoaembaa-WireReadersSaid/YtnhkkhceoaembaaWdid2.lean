/- What the law's did answers, of Seek and Sub. -/
import Derived.Test.YtnhkkhceoaembaaWdid
namespace Go.Proofs.Ytnhkkhceoaembaa
set_option linter.unusedVariables false
open Go.RowKit

theorem Rd.apart {w w' : World} {g : Nat} {cs : Array Value} {t : TypeId} {a : Option Addr} {len cap : Nat} {xs : List Int} (h : Rd w a len cap xs) (hg : w.heap[g]? = some (.cells cs t (0, 0))) (hno : ∀ (i : Nat) (m : Int), cs[i]? ≠ some (Value.int .u8 m)) (hk : ∀ k, k ≠ g → w'.heap[k]? = w.heap[k]?) : Rd w' a len cap xs := by
  refine ⟨h.hl, h.hc, h.hm, h.hb, h.hn, fun h0 => ?_⟩
  obtain ⟨b, off, ha, hc⟩ := h.hr h0
  have hne : b ≠ g := by
    rintro rfl
    have := hc 0 h0
    rw [cell_of_row _ _ _ _ _ _ hg] at this
    exact hno _ _ this
  exact ⟨b, off, ha, fun i hi => by rw [← hc i hi]; exact World.cell?_of_block (w := w) (hk b hne)⟩
theorem Own.apart {w w' : World} {g B : Nat} {cs : Array Value} {t : TypeId} {v : Value} {xs : List Int} (h : Own w B v xs) (hg : w.heap[g]? = some (.cells cs t (0, 0))) (ht : t ≠ 5) (hk : ∀ k, k ≠ g → w'.heap[k]? = w.heap[k]?) : Own w' B v xs := by
  refine ⟨⟨h.1.1, ?_⟩, h.2⟩
  rcases h.1.2 with hn | ⟨k, cap, cur, rfl, hk0, hkk, rest⟩
  · exact .inl hn
  · refine .inr ⟨k, cap, cur, rfl, hk0, ?_, rest⟩
    rw [hk k ?_]
    · exact hkk
    · rintro rfl
      have := hg.symm.trans hkk
      simp only [Option.some.injEq, Obj.cells.injEq] at this
      exact ht this.2.1
theorem told_no (x z : Int) (v : Value) (hv : ∀ m, v ≠ .int .u8 m) : ∀ (i : Nat) (m : Int), (#[.int .i64 x, v, .int .i64 z] : Array Value)[i]? ≠ some (.int .u8 m) := by
  intro i m
  rcases i with _ | _ | _ | i
  · simp
  · simp; exact hv m
  · simp
  · simp
theorem IsR.apart {w w' : World} {R p len cap g : Nat} {a : Option Addr} {xs : List Int} {cs : Array Value} {t : TypeId} (h : IsR w R p a len cap xs) (hg : w.heap[g]? = some (.cells cs t (0, 0))) (hno : ∀ (i : Nat) (m : Int), cs[i]? ≠ some (Value.int .u8 m)) (hne : R ≠ g) (hk : ∀ k, k ≠ g → w'.heap[k]? = w.heap[k]?) : IsR w' R p a len cap xs :=
  ⟨(hk R hne).trans h.blk, h.rd.apart hg hno hk, h.hp⟩
/-- Where Seek leads. -/
def seekE (len : Nat) (n : Int) : Int := if n < 0 ∨ (len : Int) < n then 1 else 0
def seekQ (p len : Nat) (n : Int) : Nat := if n < 0 ∨ (len : Int) < n then p else n.toNat
theorem seek_any {w : World} {R p len cap : Nat} {a : Option Addr} {xs : List Int} (h : IsR w R p a len cap xs) (n : Int) :
    Calls Try.prog 57 #[.pointer (some ⟨R, 0, none⟩), .int .i64 n] w fun e w' => e = .returned (.int .i64 (seekE len n)) ∧ Moved w w' R (seekQ p len n) a len cap xs := by
  by_cases hn : n < 0 ∨ (len : Int) < n
  · unfold seekE seekQ
    rw [if_pos hn, if_pos hn]
    refine (seek_bad h n hn).mono ?_
    rintro e w' ⟨rfl, rfl⟩
    exact ⟨rfl, Moved.of_below h (Below.refl _ _)⟩
  · unfold seekE seekQ
    rw [if_neg hn, if_neg hn]
    obtain ⟨k, rfl⟩ := Int.eq_ofNat_of_zero_le (show 0 ≤ n by omega)
    rw [Int.toNat_natCast]
    exact seek_ok h k (by omega)
set_option maxRecDepth 100000 in
set_option maxHeartbeats 4000000 in
theorem did_5 {w : World} {R p len cap : Nat} {a : Option Addr} {xs : List Int} (h : IsR w R p a len cap xs) (kd wd : Int) (hw1 : -9223372036854775808 ≤ wd) (hw2 : wd ≤ 9223372036854775807) (hbig : len ≤ 140737488355328) (hk : kd = 5) :
    Calls Try.prog 54 #[.pointer (some ⟨R, 0, none⟩), .agg #[.int .i64 kd, .int .i64 wd]] w fun e w' => ∃ v, e = .returned (.tuple #[v, .pointer none]) ∧ Told w R a len cap xs (0) ([]) (seekE len wd) (seekQ p len wd) v w' := by
  obtain ⟨Wa, hWa⟩ : ∃ Wa, Wa = (w.alloc (.cells #[.int .i64 kd, .int .i64 wd] 87)).alloc (.cells #[.int .i64 0, .slice none 0 0, .int .i64 0] 83) := ⟨_, rfl⟩
  have hsa : Wa.heap.size = w.heap.size + 2 := by rw [hWa]; simp
  have hFa : Wa.heap[w.heap.size]? = some (.cells #[.int .i64 kd, .int .i64 wd] 87 (0, 0)) := by rw [hWa, heap_alloc_old _ _ _ (by simp), heap_alloc_last]
  have h4a : Wa.heap[w.heap.size + 1]? = some (.cells #[.int .i64 0, .slice none 0 0, .int .i64 0] 83 (0, 0)) := by
    rw [hWa]; have := heap_alloc_last (w.alloc (.cells #[.int .i64 kd, .int .i64 wd] 87)) (.cells #[.int .i64 0, .slice none 0 0, .int .i64 0] 83); simpa using this
  have hba : Below w.heap.size w Wa := by rw [hWa]; exact ((Below.refl _ w).alloc (Nat.le_refl _) _).alloc (by simp) _
  obtain ⟨Wz, hWz⟩ : ∃ Wz, Wz = Wa.alloc (.cells #[.int .i64 0, .slice none 0 0, .int .i64 0] 83) := ⟨_, rfl⟩
  have hsz : Wz.heap.size = w.heap.size + 3 := by rw [hWz]; simp [hsa]
  have h5z : Wz.heap[w.heap.size + 2]? = some (.cells #[.int .i64 0, .slice none 0 0, .int .i64 0] 83 (0, 0)) := by rw [hWz, ← hsa, heap_alloc_last]
  have hbz : Below w.heap.size w Wz := by rw [hWz]; exact hba.alloc (by omega) _
  have hFz : Wz.heap[w.heap.size]? = some (.cells #[.int .i64 kd, .int .i64 wd] 87 (0, 0)) := by rw [hWz, heap_alloc_old _ _ _ (by omega)]; exact hFa
  have h4z : Wz.heap[w.heap.size + 1]? = some (.cells #[.int .i64 0, .slice none 0 0, .int .i64 0] 83 (0, 0)) := by rw [hWz, heap_alloc_old _ _ _ (by omega)]; exact h4a
  obtain ⟨W0, hW0⟩ : ∃ W0, W0 = Wz.setRow (w.heap.size + 2) #[.int .i64 0, .slice none 0 0, .int .i64 0] := ⟨_, rfl⟩
  have h50 : W0.heap[w.heap.size + 2]? = some (.cells #[.int .i64 0, .slice none 0 0, .int .i64 0] 83 (0, 0)) := by rw [hW0]; exact setRow_heap _ _ _ _ _ _ h5z
  have h40 : W0.heap[w.heap.size + 1]? = some (.cells #[.int .i64 0, .slice none 0 0, .int .i64 0] 83 (0, 0)) := by rw [hW0]; exact (setRow_other _ _ _ _ (by omega)).trans h4z
  have hF0 : W0.heap[w.heap.size]? = some (.cells #[.int .i64 kd, .int .i64 wd] 87 (0, 0)) := by rw [hW0]; exact (setRow_other _ _ _ _ (by omega)).trans hFz
  have hb0 : Below w.heap.size w W0 := by rw [hW0]; exact hbz.trans (below_setRow' _ _ _ _ (by omega))
  have hs0 : W0.heap.size = w.heap.size + 3 := by rw [hW0]; simp [hsz]
  have H0 := Lib.hid (h.below hb0 (Nat.le_refl _))
  have H := Lib.hid h
  have hR := h.lt
  have cs := fun (i : Nat) => cell_of_row W0 w.heap.size i _ _ _ hF0
  have HWa := Lib.hid hWa
  have HWz := Lib.hid hWz
  have HW0 := Lib.hid hW0
  have H5z := Lib.hid h5z
  have H50 := Lib.hid h50
  have H40 := Lib.hid h40
  have Hb0 := Lib.hid hb0
  have Hsa := Lib.hid hsa
  have Hs0 := Lib.hid hs0
  have kc : W0.cell? ⟨w.heap.size, 0, none⟩ = some (.int .i64 kd) := by rw [cs 0]; rfl
  have wc : W0.cell? ⟨w.heap.size, 1, none⟩ = some (.int .i64 wd) := by rw [cs 1]; rfl
  have hcall := seek_any H0.out wd
  obtain ⟨er, her⟩ : ∃ er, er = seekE len wd := ⟨_, rfl⟩
  obtain ⟨q, hq⟩ : ∃ q, q = seekQ p len wd := ⟨_, rfl⟩
  rw [← her, ← hq] at hcall ⊢
  have HC := Lib.hid hcall
  clear hcall her hq
  clear cs hWa hWz hW0 h5z h50 h40 hb0 h hFa h4a hFz h4z hF0 hba hbz hsa hsz hs0
  subst hk
  go_enter Try.func54, Try.ntmps54
  go_upto_region 1 with fail
  rw [← HWa.out]
  go_upto_region 2 with (rw [Hsa.out, ← HWz.out]; refine wpList_store_row rfl 83 (.tmp 6) (.tmp 8) rfl (w.heap.size + 2) #[.int .i64 0, .slice none 0 0, .int .i64 0] rfl rfl 83 #[.int .i64 0, .slice none 0 0, .int .i64 0] H5z.out (Try.sizeTold _ _ _) rfl (oneTold _ _ _ _ _) ?_)
  rw [← HW0.out]
  clear HWa HWz HW0 H5z Hsa
  go_wp2_with fail
  refine HC.out.mono ?_
  rintro e w1 ⟨rfl, hm⟩
  have k5 := grown_blk hm.grown H50.out (by omega)
  have k4 := grown_blk hm.grown H40.out (by omega)
  have Hm := Lib.hid (Moved.pre Hb0.out hm)
  clear hm H0 H50 H40 HC
  obtain ⟨W3, e3, k53, k43, bk3, ok3⟩ := told_set k5 k4 (by omega : w.heap.size + 1 ≠ w.heap.size + 2) 2 (.int .i64 er) (B := w.heap.size) (by omega)
  have p1 : w1.cell? ⟨w.heap.size + 2, 2, none⟩ = some (.int .i64 0) := by rw [cell_of_row _ _ _ _ _ _ k5]; rfl
  have q1 := frozen_of_row w1 (w.heap.size + 2) 2 _ _ k5
  have k53' : W3.heap[w.heap.size + 2]? = some (.cells #[.int .i64 0, .slice none 0 0, .int .i64 er] 83 (0, 0)) := k53
  have hk3 : ∀ k, k ≠ w.heap.size + 2 → W3.heap[k]? = w1.heap[k]? := fun k hk => by rw [← e3]; exact heap_setCell_other w1 ⟨w.heap.size + 2, 2, none⟩ k _ hk
  have B3 := Lib.hid bk3
  have E3 := Lib.hid e3
  have K53 := Lib.hid k53'
  have K43 := Lib.hid k43
  have HK3 := Lib.hid hk3
  have HK5 := Lib.hid k5
  clear e3 bk3 k53 k53' k43 ok3 k5 k4 hk3
  go_upto_region 17 with fail
  rw [E3.out]
  clear E3 p1 q1
  have c5 := fun (i : Nat) => cell_of_row W3 (w.heap.size + 2) i _ _ _ K53.out
  have d0 : W3.cell? ⟨w.heap.size + 2, 0, none⟩ = some (.int .i64 0) := by rw [c5 0]; rfl
  have d1 : W3.cell? ⟨w.heap.size + 2, 1, none⟩ = some (.slice none 0 0) := by rw [c5 1]; rfl
  have d2 : W3.cell? ⟨w.heap.size + 2, 2, none⟩ = some (.int .i64 er) := by rw [c5 2]; rfl
  clear c5
  go_wp2_with (refine wpList_store_row rfl 83 (.tmp 4) (.tmp 77) rfl (w.heap.size + 1) #[.int .i64 0, .slice none 0 0, .int .i64 er] rfl rfl 83 #[.int .i64 0, .slice none 0 0, .int .i64 0] K43.out (Try.sizeTold _ _ _) rfl (oneTold _ _ _ _ _) ?_)
  refine bodyPost_ret (v := .tuple #[.agg #[.int .i64 0, .slice none 0 0, .int .i64 er], .pointer none]) ?_ rfl ?_
  · exact results_cell_two (p := 4) (q := 5) rfl _ _ (w.heap.size + 1) 83 #[.int .i64 0, .slice none 0 0, .int .i64 er] (0, 0) _ rfl (setRow_heap _ _ _ _ _ _ K43.out) Try.underlying83 rfl (Try.sizeTold _ _ _) _ rfl
  · exact ⟨_, rfl, none, 0, 0, rfl, Own.nil _ _, Moved.low H.out Hm.out (B3.out.trans (below_setRow' _ _ _ _ (by omega)))⟩
set_option maxRecDepth 100000 in
set_option maxHeartbeats 4000000 in
theorem did_6 {w : World} {R p len cap : Nat} {a : Option Addr} {xs : List Int} (h : IsR w R p a len cap xs) (wd : Int) (hw1 : -9223372036854775808 ≤ wd) (hw2 : wd ≤ 9223372036854775807) (hbig : len ≤ 140737488355328) (hE : aheadE ((xs.length : Int) - p) wd = 0) :
    Calls Try.prog 54 #[.pointer (some ⟨R, 0, none⟩), .agg #[.int .i64 6, .int .i64 wd]] w fun e w' => ∃ v R2 a2 c2, e = .returned (.tuple #[v, .pointer (some ⟨R2, 0, none⟩)]) ∧ w.heap.size ≤ R2 ∧ IsR w' R2 0 a2 wd.toNat c2 (aheadB xs p wd) ∧ Told w R a len cap xs 0 [] 0 (p + wd.toNat) v w' := by
  obtain ⟨Wa, hWa⟩ : ∃ Wa, Wa = (w.alloc (.cells #[.int .i64 6, .int .i64 wd] 87)).alloc (.cells #[.int .i64 0, .slice none 0 0, .int .i64 0] 83) := ⟨_, rfl⟩
  have hsa : Wa.heap.size = w.heap.size + 2 := by rw [hWa]; simp
  have hFa : Wa.heap[w.heap.size]? = some (.cells #[.int .i64 6, .int .i64 wd] 87 (0, 0)) := by rw [hWa, heap_alloc_old _ _ _ (by simp), heap_alloc_last]
  have h4a : Wa.heap[w.heap.size + 1]? = some (.cells #[.int .i64 0, .slice none 0 0, .int .i64 0] 83 (0, 0)) := by
    rw [hWa]; have := heap_alloc_last (w.alloc (.cells #[.int .i64 6, .int .i64 wd] 87)) (.cells #[.int .i64 0, .slice none 0 0, .int .i64 0] 83); simpa using this
  have hba : Below w.heap.size w Wa := by rw [hWa]; exact ((Below.refl _ w).alloc (Nat.le_refl _) _).alloc (by simp) _
  obtain ⟨Wz, hWz⟩ : ∃ Wz, Wz = Wa.alloc (.cells #[.int .i64 0, .slice none 0 0, .int .i64 0] 83) := ⟨_, rfl⟩
  have hsz : Wz.heap.size = w.heap.size + 3 := by rw [hWz]; simp [hsa]
  have h5z : Wz.heap[w.heap.size + 2]? = some (.cells #[.int .i64 0, .slice none 0 0, .int .i64 0] 83 (0, 0)) := by rw [hWz, ← hsa, heap_alloc_last]
  have hbz : Below w.heap.size w Wz := by rw [hWz]; exact hba.alloc (by omega) _
  have hFz : Wz.heap[w.heap.size]? = some (.cells #[.int .i64 6, .int .i64 wd] 87 (0, 0)) := by rw [hWz, heap_alloc_old _ _ _ (by omega)]; exact hFa
  have h4z : Wz.heap[w.heap.size + 1]? = some (.cells #[.int .i64 0, .slice none 0 0, .int .i64 0] 83 (0, 0)) := by rw [hWz, heap_alloc_old _ _ _ (by omega)]; exact h4a
  obtain ⟨W0, hW0⟩ : ∃ W0, W0 = Wz.setRow (w.heap.size + 2) #[.int .i64 0, .slice none 0 0, .int .i64 0] := ⟨_, rfl⟩
  have h50 : W0.heap[w.heap.size + 2]? = some (.cells #[.int .i64 0, .slice none 0 0, .int .i64 0] 83 (0, 0)) := by rw [hW0]; exact setRow_heap _ _ _ _ _ _ h5z
  have h40 : W0.heap[w.heap.size + 1]? = some (.cells #[.int .i64 0, .slice none 0 0, .int .i64 0] 83 (0, 0)) := by rw [hW0]; exact (setRow_other _ _ _ _ (by omega)).trans h4z
  have hF0 : W0.heap[w.heap.size]? = some (.cells #[.int .i64 6, .int .i64 wd] 87 (0, 0)) := by rw [hW0]; exact (setRow_other _ _ _ _ (by omega)).trans hFz
  have hb0 : Below w.heap.size w W0 := by rw [hW0]; exact hbz.trans (below_setRow' _ _ _ _ (by omega))
  have hs0 : W0.heap.size = w.heap.size + 3 := by rw [hW0]; simp [hsz]
  have H0 := Lib.hid (h.below hb0 (Nat.le_refl _))
  have H := Lib.hid h
  have hR := h.lt
  have cs := fun (i : Nat) => cell_of_row W0 w.heap.size i _ _ _ hF0
  have HWa := Lib.hid hWa
  have HWz := Lib.hid hWz
  have HW0 := Lib.hid hW0
  have H5z := Lib.hid h5z
  have H50 := Lib.hid h50
  have H40 := Lib.hid h40
  have Hb0 := Lib.hid hb0
  have Hsa := Lib.hid hsa
  have Hs0 := Lib.hid hs0
  have kc : W0.cell? ⟨w.heap.size, 0, none⟩ = some (.int .i64 6) := by rw [cs 0]; rfl
  have wc : W0.cell? ⟨w.heap.size, 1, none⟩ = some (.int .i64 wd) := by rw [cs 1]; rfl
  have hcall : Calls Try.prog 58 #[.pointer (some ⟨R, 0, none⟩), .int .i64 wd] W0 fun e w' => ∃ R2 a2 c2, e = .returned (.tuple #[.pointer (some ⟨R2, 0, none⟩), .int .i64 0]) ∧ W0.heap.size ≤ R2 ∧ IsR w' R2 0 a2 wd.toNat c2 (aheadB xs p wd) ∧ Moved W0 w' R (p + wd.toNat) a len cap xs := by
    refine (sub_any H0.out wd hw2 hbig).mono ?_
    intro e w' hp
    rcases hp with ⟨_, hp⟩ | ⟨h1, _⟩
    · exact hp
    · exact absurd hE h1
  have HC := Lib.hid hcall
  clear hcall hE
  clear cs hWa hWz hW0 h5z h50 h40 hb0 h hFa h4a hFz h4z hF0 hba hbz hsa hsz hs0
  go_enter Try.func54, Try.ntmps54
  go_upto_region 1 with fail
  rw [← HWa.out]
  go_upto_region 2 with (rw [Hsa.out, ← HWz.out]; refine wpList_store_row rfl 83 (.tmp 6) (.tmp 8) rfl (w.heap.size + 2) #[.int .i64 0, .slice none 0 0, .int .i64 0] rfl rfl 83 #[.int .i64 0, .slice none 0 0, .int .i64 0] H5z.out (Try.sizeTold _ _ _) rfl (oneTold _ _ _ _ _) ?_)
  rw [← HW0.out]
  clear HWa HWz HW0 H5z Hsa
  go_wp2_with fail
  refine HC.out.mono ?_
  rintro e w1 ⟨R2, a2, c2, rfl, hR2, hI2, hm⟩
  have hs0 := Hs0.out
  have k5 := grown_blk hm.grown H50.out (by omega)
  have k4 := grown_blk hm.grown H40.out (by omega)
  have Hm := Lib.hid (Moved.pre Hb0.out hm)
  have I2 := Lib.hid hI2
  have hne5 : R2 ≠ w.heap.size + 2 := by omega
  have hne4 : R2 ≠ w.heap.size + 1 := by omega
  have hge : w.heap.size ≤ R2 := by omega
  clear hm H0 H50 H40 HC hI2 hR2
  obtain ⟨W3, e3, k53, k43, bk3, ok3⟩ := told_set k5 k4 (by omega : w.heap.size + 1 ≠ w.heap.size + 2) 2 (.int .i64 0) (B := w.heap.size) (by omega)
  have p1 : w1.cell? ⟨w.heap.size + 2, 2, none⟩ = some (.int .i64 0) := by rw [cell_of_row _ _ _ _ _ _ k5]; rfl
  have q1 := frozen_of_row w1 (w.heap.size + 2) 2 _ _ k5
  have k53' : W3.heap[w.heap.size + 2]? = some (.cells #[.int .i64 0, .slice none 0 0, .int .i64 0] 83 (0, 0)) := k53
  have hk3 : ∀ k, k ≠ w.heap.size + 2 → W3.heap[k]? = w1.heap[k]? := fun k hk => by rw [← e3]; exact heap_setCell_other w1 ⟨w.heap.size + 2, 2, none⟩ k _ hk
  have B3 := Lib.hid bk3
  have E3 := Lib.hid e3
  have K53 := Lib.hid k53'
  have K43 := Lib.hid k43
  have HK3 := Lib.hid hk3
  have HK5 := Lib.hid k5
  clear e3 bk3 k53 k53' k43 ok3 k5 k4 hk3
  go_upto_region 17 with fail
  rw [E3.out]
  clear E3 p1 q1
  have c5 := fun (i : Nat) => cell_of_row W3 (w.heap.size + 2) i _ _ _ K53.out
  have d0 : W3.cell? ⟨w.heap.size + 2, 0, none⟩ = some (.int .i64 0) := by rw [c5 0]; rfl
  have d1 : W3.cell? ⟨w.heap.size + 2, 1, none⟩ = some (.slice none 0 0) := by rw [c5 1]; rfl
  have d2 : W3.cell? ⟨w.heap.size + 2, 2, none⟩ = some (.int .i64 0) := by rw [c5 2]; rfl
  clear c5
  go_wp2_with (refine wpList_store_row rfl 83 (.tmp 4) (.tmp 77) rfl (w.heap.size + 1) #[.int .i64 0, .slice none 0 0, .int .i64 0] rfl rfl 83 #[.int .i64 0, .slice none 0 0, .int .i64 0] K43.out (Try.sizeTold _ _ _) rfl (oneTold _ _ _ _ _) ?_)
  refine bodyPost_ret (v := .tuple #[.agg #[.int .i64 0, .slice none 0 0, .int .i64 0], .pointer (some ⟨R2, 0, none⟩)]) ?_ rfl ?_
  · exact results_cell_two (p := 4) (q := 5) rfl _ _ (w.heap.size + 1) 83 #[.int .i64 0, .slice none 0 0, .int .i64 0] (0, 0) _ rfl (setRow_heap _ _ _ _ _ _ K43.out) Try.underlying83 rfl (Try.sizeTold _ _ _) _ rfl
  · refine ⟨_, R2, a2, c2, rfl, hge, ?_, none, 0, 0, rfl, Own.nil _ _, Moved.low H.out Hm.out (B3.out.trans (below_setRow' _ _ _ _ (by omega)))⟩
    exact (I2.out.apart HK5.out (told_no 0 0 _ (by simp)) hne5 HK3.out).apart K43.out (told_no 0 0 _ (by simp)) hne4 (fun k hk => setRow_other _ _ _ _ hk)
set_option maxRecDepth 100000 in
set_option maxHeartbeats 4000000 in
theorem did_6e {w : World} {R p len cap : Nat} {a : Option Addr} {xs : List Int} (h : IsR w R p a len cap xs) (wd : Int) (hw1 : -9223372036854775808 ≤ wd) (hw2 : wd ≤ 9223372036854775807) (hbig : len ≤ 140737488355328) (hE : aheadE ((xs.length : Int) - p) wd ≠ 0) :
    Calls Try.prog 54 #[.pointer (some ⟨R, 0, none⟩), .agg #[.int .i64 6, .int .i64 wd]] w fun e w' => ∃ v, e = .returned (.tuple #[v, .pointer none]) ∧ Told w R a len cap xs 0 [] (aheadE ((xs.length : Int) - p) wd) p v w' := by
  obtain ⟨Wa, hWa⟩ : ∃ Wa, Wa = (w.alloc (.cells #[.int .i64 6, .int .i64 wd] 87)).alloc (.cells #[.int .i64 0, .slice none 0 0, .int .i64 0] 83) := ⟨_, rfl⟩
  have hsa : Wa.heap.size = w.heap.size + 2 := by rw [hWa]; simp
  have hFa : Wa.heap[w.heap.size]? = some (.cells #[.int .i64 6, .int .i64 wd] 87 (0, 0)) := by rw [hWa, heap_alloc_old _ _ _ (by simp), heap_alloc_last]
  have h4a : Wa.heap[w.heap.size + 1]? = some (.cells #[.int .i64 0, .slice none 0 0, .int .i64 0] 83 (0, 0)) := by
    rw [hWa]; have := heap_alloc_last (w.alloc (.cells #[.int .i64 6, .int .i64 wd] 87)) (.cells #[.int .i64 0, .slice none 0 0, .int .i64 0] 83); simpa using this
  have hba : Below w.heap.size w Wa := by rw [hWa]; exact ((Below.refl _ w).alloc (Nat.le_refl _) _).alloc (by simp) _
  obtain ⟨Wz, hWz⟩ : ∃ Wz, Wz = Wa.alloc (.cells #[.int .i64 0, .slice none 0 0, .int .i64 0] 83) := ⟨_, rfl⟩
  have hsz : Wz.heap.size = w.heap.size + 3 := by rw [hWz]; simp [hsa]
  have h5z : Wz.heap[w.heap.size + 2]? = some (.cells #[.int .i64 0, .slice none 0 0, .int .i64 0] 83 (0, 0)) := by rw [hWz, ← hsa, heap_alloc_last]
  have hbz : Below w.heap.size w Wz := by rw [hWz]; exact hba.alloc (by omega) _
  have hFz : Wz.heap[w.heap.size]? = some (.cells #[.int .i64 6, .int .i64 wd] 87 (0, 0)) := by rw [hWz, heap_alloc_old _ _ _ (by omega)]; exact hFa
  have h4z : Wz.heap[w.heap.size + 1]? = some (.cells #[.int .i64 0, .slice none 0 0, .int .i64 0] 83 (0, 0)) := by rw [hWz, heap_alloc_old _ _ _ (by omega)]; exact h4a
  obtain ⟨W0, hW0⟩ : ∃ W0, W0 = Wz.setRow (w.heap.size + 2) #[.int .i64 0, .slice none 0 0, .int .i64 0] := ⟨_, rfl⟩
  have h50 : W0.heap[w.heap.size + 2]? = some (.cells #[.int .i64 0, .slice none 0 0, .int .i64 0] 83 (0, 0)) := by rw [hW0]; exact setRow_heap _ _ _ _ _ _ h5z
  have h40 : W0.heap[w.heap.size + 1]? = some (.cells #[.int .i64 0, .slice none 0 0, .int .i64 0] 83 (0, 0)) := by rw [hW0]; exact (setRow_other _ _ _ _ (by omega)).trans h4z
  have hF0 : W0.heap[w.heap.size]? = some (.cells #[.int .i64 6, .int .i64 wd] 87 (0, 0)) := by rw [hW0]; exact (setRow_other _ _ _ _ (by omega)).trans hFz
  have hb0 : Below w.heap.size w W0 := by rw [hW0]; exact hbz.trans (below_setRow' _ _ _ _ (by omega))
  have hs0 : W0.heap.size = w.heap.size + 3 := by rw [hW0]; simp [hsz]
  have H0 := Lib.hid (h.below hb0 (Nat.le_refl _))
  have H := Lib.hid h
  have hR := h.lt
  have cs := fun (i : Nat) => cell_of_row W0 w.heap.size i _ _ _ hF0
  have HWa := Lib.hid hWa
  have HWz := Lib.hid hWz
  have HW0 := Lib.hid hW0
  have H5z := Lib.hid h5z
  have H50 := Lib.hid h50
  have H40 := Lib.hid h40
  have Hb0 := Lib.hid hb0
  have Hsa := Lib.hid hsa
  have Hs0 := Lib.hid hs0
  have kc : W0.cell? ⟨w.heap.size, 0, none⟩ = some (.int .i64 6) := by rw [cs 0]; rfl
  have wc : W0.cell? ⟨w.heap.size, 1, none⟩ = some (.int .i64 wd) := by rw [cs 1]; rfl
  have hcall : Calls Try.prog 58 #[.pointer (some ⟨R, 0, none⟩), .int .i64 wd] W0 fun e w' => e = .returned (.tuple #[.pointer none, .int .i64 (aheadE ((xs.length : Int) - p) wd)]) ∧ Moved W0 w' R p a len cap xs := by
    refine (sub_any H0.out wd hw2 hbig).mono ?_
    intro e w' hp
    rcases hp with ⟨h1, _⟩ | ⟨_, h1, h2⟩
    · exact absurd h1 hE
    · exact ⟨h1, Moved.of_below H0.out h2⟩
  obtain ⟨er, her⟩ : ∃ er, er = aheadE ((xs.length : Int) - p) wd := ⟨_, rfl⟩
  rw [← her] at hcall ⊢
  have HC := Lib.hid hcall
  clear hcall hE her
  clear cs hWa hWz hW0 h5z h50 h40 hb0 h hFa h4a hFz h4z hF0 hba hbz hsa hsz hs0
  go_enter Try.func54, Try.ntmps54
  go_upto_region 1 with fail
  rw [← HWa.out]
  go_upto_region 2 with (rw [Hsa.out, ← HWz.out]; refine wpList_store_row rfl 83 (.tmp 6) (.tmp 8) rfl (w.heap.size + 2) #[.int .i64 0, .slice none 0 0, .int .i64 0] rfl rfl 83 #[.int .i64 0, .slice none 0 0, .int .i64 0] H5z.out (Try.sizeTold _ _ _) rfl (oneTold _ _ _ _ _) ?_)
  rw [← HW0.out]
  clear HWa HWz HW0 H5z Hsa
  go_wp2_with fail
  refine HC.out.mono ?_
  rintro e w1 ⟨rfl, hm⟩
  have hs0 := Hs0.out
  have k5 := grown_blk hm.grown H50.out (by omega)
  have k4 := grown_blk hm.grown H40.out (by omega)
  have Hm := Lib.hid (Moved.pre Hb0.out hm)
  clear hm H0 H50 H40 HC
  obtain ⟨W3, e3, k53, k43, bk3, ok3⟩ := told_set k5 k4 (by omega : w.heap.size + 1 ≠ w.heap.size + 2) 2 (.int .i64 er) (B := w.heap.size) (by omega)
  have p1 : w1.cell? ⟨w.heap.size + 2, 2, none⟩ = some (.int .i64 0) := by rw [cell_of_row _ _ _ _ _ _ k5]; rfl
  have q1 := frozen_of_row w1 (w.heap.size + 2) 2 _ _ k5
  have k53' : W3.heap[w.heap.size + 2]? = some (.cells #[.int .i64 0, .slice none 0 0, .int .i64 er] 83 (0, 0)) := k53
  have hk3 : ∀ k, k ≠ w.heap.size + 2 → W3.heap[k]? = w1.heap[k]? := fun k hk => by rw [← e3]; exact heap_setCell_other w1 ⟨w.heap.size + 2, 2, none⟩ k _ hk
  have B3 := Lib.hid bk3
  have E3 := Lib.hid e3
  have K53 := Lib.hid k53'
  have K43 := Lib.hid k43
  have HK3 := Lib.hid hk3
  have HK5 := Lib.hid k5
  clear e3 bk3 k53 k53' k43 ok3 k5 k4 hk3
  go_upto_region 17 with fail
  rw [E3.out]
  clear E3 p1 q1
  have c5 := fun (i : Nat) => cell_of_row W3 (w.heap.size + 2) i _ _ _ K53.out
  have d0 : W3.cell? ⟨w.heap.size + 2, 0, none⟩ = some (.int .i64 0) := by rw [c5 0]; rfl
  have d1 : W3.cell? ⟨w.heap.size + 2, 1, none⟩ = some (.slice none 0 0) := by rw [c5 1]; rfl
  have d2 : W3.cell? ⟨w.heap.size + 2, 2, none⟩ = some (.int .i64 er) := by rw [c5 2]; rfl
  clear c5
  go_wp2_with (refine wpList_store_row rfl 83 (.tmp 4) (.tmp 77) rfl (w.heap.size + 1) #[.int .i64 0, .slice none 0 0, .int .i64 er] rfl rfl 83 #[.int .i64 0, .slice none 0 0, .int .i64 0] K43.out (Try.sizeTold _ _ _) rfl (oneTold _ _ _ _ _) ?_)
  refine bodyPost_ret (v := .tuple #[.agg #[.int .i64 0, .slice none 0 0, .int .i64 er], .pointer none]) ?_ rfl ?_
  · exact results_cell_two (p := 4) (q := 5) rfl _ _ (w.heap.size + 1) 83 #[.int .i64 0, .slice none 0 0, .int .i64 er] (0, 0) _ rfl (setRow_heap _ _ _ _ _ _ K43.out) Try.underlying83 rfl (Try.sizeTold _ _ _) _ rfl
  · exact ⟨_, rfl, none, 0, 0, rfl, Own.nil _ _, Moved.low H.out Hm.out (B3.out.trans (below_setRow' _ _ _ _ (by omega)))⟩
end Go.Proofs.Ytnhkkhceoaembaa

/- What the law's read answers, of any field. -/
import Derived.Test.YtnhkkhceoaembaaWread5
import Derived.Test.YtnhkkhceoaembaaWrtext
import Derived.Test.YtnhkkhceoaembaaWrvar
import Derived.Deep.DeepCutAuto
namespace Go.Proofs.Ytnhkkhceoaembaa
set_option linter.unusedVariables false
open Go.RowKit

/-- What a call of a Reader tells. -/
def Told (w : World) (R : Nat) (a : Option Addr) (len cap : Nat) (xs : List Int) (n : Int) (bs : List Int) (er : Int) (q : Nat) (v : Value) (w' : World) : Prop :=
  ∃ a1 l1 c1, v = .agg #[.int .i64 n, .slice a1 l1 c1, .int .i64 er] ∧ Own w' w.heap.size (.slice a1 l1 c1) bs ∧ Moved w w' R q a len cap xs
theorem Try.sizeTold (u v x : Value) : (Try.prog.info? 83).map (·.size) = some (#[u, v, x] : Array Value).size := by kernel_rfl
theorem oneTold (n : Int) (a : Option Addr) (l c : Nat) (e : Int) : (#[.int .i64 n, .slice a l c, .int .i64 e] : Array Value).all (fun x => x.oneCell') = true := by kernel_rfl
theorem told_set {w1 : World} {T4 T5 B : Nat} {t : TypeId} {cs zs : Array Value} (h5 : w1.heap[T5]? = some (.cells cs t (0, 0))) (h4 : w1.heap[T4]? = some (.cells zs t (0, 0))) (hne : T4 ≠ T5) (i : Nat) (x : Value) (hB : B ≤ T5) :
    ∃ W, w1.setCell ⟨T5, i, none⟩ x = W ∧ W.heap[T5]? = some (.cells (cs.setIfInBounds i x) t (0, 0)) ∧ W.heap[T4]? = some (.cells zs t (0, 0)) ∧ Below B w1 W ∧ (∀ B' v ys, T5 < B' → Own w1 B' v ys → Own W B' v ys) := by
  refine ⟨_, rfl, heap_setCell_same _ _ _ _ _ _ h5, (heap_setCell_other w1 ⟨T5, i, none⟩ T4 x hne).trans h4, (Below.refl B w1).setCell (p := ⟨T5, i, none⟩) hB x, fun B' v ys hlt ho => ?_⟩
  refine ⟨⟨ho.1.1, ?_⟩, ho.2⟩
  rcases ho.1.2 with hn | ⟨k, cap, cur, rfl, hk, hkk, rest⟩
  · exact .inl hn
  · exact .inr ⟨k, cap, cur, rfl, hk, (heap_setCell_other w1 ⟨T5, i, none⟩ k x (by show k ≠ T5; omega)).trans hkk, rest⟩
/-- A block of a row, when what is below stays but for a Reader. -/
theorem grown_blk {w w1 : World} {R g : Nat} {o : Obj} (hg : w.grownBy w1 (some R)) (h : w.heap[g]? = some o) (hne : g ≠ R) : w1.heap[g]? = some o :=
  (hg.block g (Array.getElem?_eq_some_iff.1 h).1 (by intro e; exact hne (by simpa using e))).trans h
set_option maxRecDepth 100000 in
set_option maxHeartbeats 4000000 in
theorem lread_1 {w : World} {R p len cap : Nat} {a : Option Addr} {xs : List Int} (h : IsR w R p a len cap xs) (nm : ByteArray) (kd wd : Int) (hw1 : -9223372036854775808 ≤ wd) (hw2 : wd ≤ 9223372036854775807) (hbig : len ≤ 140737488355328) (hk : kd = 1) :
    Calls Try.prog 59 #[.pointer (some ⟨R, 0, none⟩), .agg #[.string nm, .int .i64 kd, .int .i64 wd]] w fun e w' => ∃ v, e = .returned v ∧ Told w R a len cap xs ((rfixV xs p wd false).1) ([]) ((rfixV xs p wd false).2.1) (p + (rfixV xs p wd false).2.2) v w' := by
  obtain ⟨Wa, hWa⟩ : ∃ Wa, Wa = (w.alloc (.cells #[.string nm, .int .i64 kd, .int .i64 wd] 101)).alloc (.cells #[.int .i64 0, .slice none 0 0, .int .i64 0] 83) := ⟨_, rfl⟩
  have hsa : Wa.heap.size = w.heap.size + 2 := by rw [hWa]; simp
  have hFa : Wa.heap[w.heap.size]? = some (.cells #[.string nm, .int .i64 kd, .int .i64 wd] 101 (0, 0)) := by rw [hWa, heap_alloc_old _ _ _ (by simp), heap_alloc_last]
  have h4a : Wa.heap[w.heap.size + 1]? = some (.cells #[.int .i64 0, .slice none 0 0, .int .i64 0] 83 (0, 0)) := by
    rw [hWa]; have := heap_alloc_last (w.alloc (.cells #[.string nm, .int .i64 kd, .int .i64 wd] 101)) (.cells #[.int .i64 0, .slice none 0 0, .int .i64 0] 83); simpa using this
  have hba : Below w.heap.size w Wa := by rw [hWa]; exact ((Below.refl _ w).alloc (Nat.le_refl _) _).alloc (by simp) _
  obtain ⟨Wz, hWz⟩ : ∃ Wz, Wz = Wa.alloc (.cells #[.int .i64 0, .slice none 0 0, .int .i64 0] 83) := ⟨_, rfl⟩
  have hsz : Wz.heap.size = w.heap.size + 3 := by rw [hWz]; simp [hsa]
  have h5z : Wz.heap[w.heap.size + 2]? = some (.cells #[.int .i64 0, .slice none 0 0, .int .i64 0] 83 (0, 0)) := by rw [hWz, ← hsa, heap_alloc_last]
  have hbz : Below w.heap.size w Wz := by rw [hWz]; exact hba.alloc (by omega) _
  have hFz : Wz.heap[w.heap.size]? = some (.cells #[.string nm, .int .i64 kd, .int .i64 wd] 101 (0, 0)) := by rw [hWz, heap_alloc_old _ _ _ (by omega)]; exact hFa
  have h4z : Wz.heap[w.heap.size + 1]? = some (.cells #[.int .i64 0, .slice none 0 0, .int .i64 0] 83 (0, 0)) := by rw [hWz, heap_alloc_old _ _ _ (by omega)]; exact h4a
  obtain ⟨W0, hW0⟩ : ∃ W0, W0 = Wz.setRow (w.heap.size + 2) #[.int .i64 0, .slice none 0 0, .int .i64 0] := ⟨_, rfl⟩
  have h50 : W0.heap[w.heap.size + 2]? = some (.cells #[.int .i64 0, .slice none 0 0, .int .i64 0] 83 (0, 0)) := by rw [hW0]; exact setRow_heap _ _ _ _ _ _ h5z
  have h40 : W0.heap[w.heap.size + 1]? = some (.cells #[.int .i64 0, .slice none 0 0, .int .i64 0] 83 (0, 0)) := by rw [hW0]; exact (setRow_other _ _ _ _ (by omega)).trans h4z
  have hF0 : W0.heap[w.heap.size]? = some (.cells #[.string nm, .int .i64 kd, .int .i64 wd] 101 (0, 0)) := by rw [hW0]; exact (setRow_other _ _ _ _ (by omega)).trans hFz
  have hb0 : Below w.heap.size w W0 := by rw [hW0]; exact hbz.trans (below_setRow' _ _ _ _ (by omega))
  have hs0 : W0.heap.size = w.heap.size + 3 := by rw [hW0]; simp [hsz]
  have H0 := Lib.hid (h.below hb0 (Nat.le_refl _))
  have H := Lib.hid h
  have hR := h.lt
  have cs := fun (i : Nat) => cell_of_row W0 w.heap.size i _ _ _ hF0
  have HWa := Lib.hid hWa
  have HWz := Lib.hid hWz
  have HW0 := Lib.hid hW0
  have H5z := Lib.hid h5z
  have H50 := Lib.hid h50
  have H40 := Lib.hid h40
  have Hb0 := Lib.hid hb0
  have Hsa := Lib.hid hsa
  have Hs0 := Lib.hid hs0
  have kc : W0.cell? ⟨w.heap.size, 1, none⟩ = some (.int .i64 kd) := by rw [cs 1]; rfl
  have wc : W0.cell? ⟨w.heap.size, 2, none⟩ = some (.int .i64 wd) := by rw [cs 2]; rfl
  have hcall := ruint_any H0.out wd hw1 hw2
  obtain ⟨n, hn⟩ : ∃ n, n = (rfixV xs p wd false).1 := ⟨_, rfl⟩
  obtain ⟨er, her⟩ : ∃ er, er = (rfixV xs p wd false).2.1 := ⟨_, rfl⟩
  obtain ⟨q, hq⟩ : ∃ q, q = p + (rfixV xs p wd false).2.2 := ⟨_, rfl⟩
  rw [← hn, ← her, ← hq] at hcall ⊢
  have HC := Lib.hid hcall
  clear hcall hn her hq
  clear cs hWa hWz hW0 h5z h50 h40 hb0 h hFa h4a hFz h4z hF0 hba hbz hsa hsz hs0
  subst hk
  go_enter Try.func59, Try.ntmps59
  go_upto_region 1 with fail
  rw [← HWa.out]
  go_upto_region 2 with (rw [Hsa.out, ← HWz.out]; refine wpList_store_row rfl 83 (.tmp 5) (.tmp 6) rfl (w.heap.size + 2) #[.int .i64 0, .slice none 0 0, .int .i64 0] rfl rfl 83 #[.int .i64 0, .slice none 0 0, .int .i64 0] H5z.out (Try.sizeTold _ _ _) rfl (oneTold _ _ _ _ _) ?_)
  rw [← HW0.out]
  clear HWa HWz HW0 H5z Hsa
  go_wp2_with fail
  refine HC.out.mono ?_
  rintro e w1 ⟨rfl, hm⟩
  have k5 := grown_blk hm.grown H50.out (by omega)
  have k4 := grown_blk hm.grown H40.out (by omega)
  have Hm := Lib.hid (Moved.pre Hb0.out hm)
  clear hm H0 H50 H40 HC
  obtain ⟨W2, e2, k52, k42, bk2, ok2⟩ := told_set k5 k4 (by omega : w.heap.size + 1 ≠ w.heap.size + 2) 0 (.int .i64 n) (B := w.heap.size) (by omega)
  obtain ⟨W3, e3, k53, k43, bk3, ok3⟩ := told_set k52 k42 (by omega : w.heap.size + 1 ≠ w.heap.size + 2) 2 (.int .i64 er) (B := w.heap.size) (by omega)
  have p1 : w1.cell? ⟨w.heap.size + 2, 0, none⟩ = some (.int .i64 0) := by rw [cell_of_row _ _ _ _ _ _ k5]; rfl
  have q1 := frozen_of_row w1 (w.heap.size + 2) 0 _ _ k5
  have p2 : W2.cell? ⟨w.heap.size + 2, 2, none⟩ = some (.int .i64 0) := by rw [cell_of_row _ _ _ _ _ _ k52]; rfl
  have q2 := frozen_of_row W2 (w.heap.size + 2) 2 _ _ k52
  have p2' : (w1.setCell ⟨w.heap.size + 2, 0, none⟩ (.int .i64 n)).cell? ⟨w.heap.size + 2, 2, none⟩ = some (.int .i64 0) := by rw [e2]; exact p2
  have q2' : (w1.setCell ⟨w.heap.size + 2, 0, none⟩ (.int .i64 n)).frozen? ⟨w.heap.size + 2, 2, none⟩ = false := by rw [e2]; exact q2
  have p3 : w1.cell? ⟨w.heap.size + 2, 2, none⟩ = some (.int .i64 0) := by rw [cell_of_row _ _ _ _ _ _ k5]; rfl
  have q3 := frozen_of_row w1 (w.heap.size + 2) 2 _ _ k5
  have k53' : W3.heap[w.heap.size + 2]? = some (.cells #[.int .i64 n, .slice none 0 0, .int .i64 er] 83 (0, 0)) := k53
  have B3 := Lib.hid (bk2.trans bk3)
  have E2 := Lib.hid e2
  have E3 := Lib.hid e3
  have K53 := Lib.hid k53'
  have K43 := Lib.hid k43
  have O3 := Lib.hid (And.intro ok2 ok3)
  clear e2 e3 bk2 bk3 k52 k42 k53 k53' k43 ok2 ok3 k5 k4
  go_upto_region 12 with fail
  rw [E2.out, E3.out]
  clear E2 E3 p1 p2 q1 q2 p2' q2' p3 q3
  have c5 := fun (i : Nat) => cell_of_row W3 (w.heap.size + 2) i _ _ _ K53.out
  have d0 : W3.cell? ⟨w.heap.size + 2, 0, none⟩ = some (.int .i64 n) := by rw [c5 0]; rfl
  have d1 : W3.cell? ⟨w.heap.size + 2, 1, none⟩ = some (.slice none 0 0) := by rw [c5 1]; rfl
  have d2 : W3.cell? ⟨w.heap.size + 2, 2, none⟩ = some (.int .i64 er) := by rw [c5 2]; rfl
  clear c5
  go_wp2_with (refine wpList_store_row rfl 83 (.tmp 4) (.tmp 58) rfl (w.heap.size + 1) #[.int .i64 n, .slice none 0 0, .int .i64 er] rfl rfl 83 #[.int .i64 0, .slice none 0 0, .int .i64 0] K43.out (Try.sizeTold _ _ _) rfl (oneTold _ _ _ _ _) ?_)
  refine bodyPost_ret (v := .agg #[.int .i64 n, .slice none 0 0, .int .i64 er]) ?_ rfl ?_
  · exact results_cell_row rfl _ _ (w.heap.size + 1) 83 #[.int .i64 n, .slice none 0 0, .int .i64 er] (0, 0) _ rfl (setRow_heap _ _ _ _ _ _ K43.out) Try.underlying83 rfl (Try.sizeTold _ _ _)
  · exact ⟨_, rfl, none, 0, 0, rfl, Own.nil _ _, Moved.low H.out Hm.out (B3.out.trans (below_setRow' _ _ _ _ (by omega)))⟩
set_option maxRecDepth 100000 in
set_option maxHeartbeats 4000000 in
theorem lread_2 {w : World} {R p len cap : Nat} {a : Option Addr} {xs : List Int} (h : IsR w R p a len cap xs) (nm : ByteArray) (kd wd : Int) (hw1 : -9223372036854775808 ≤ wd) (hw2 : wd ≤ 9223372036854775807) (hbig : len ≤ 140737488355328) (hk : kd = 2) :
    Calls Try.prog 59 #[.pointer (some ⟨R, 0, none⟩), .agg #[.string nm, .int .i64 kd, .int .i64 wd]] w fun e w' => ∃ v, e = .returned v ∧ Told w R a len cap xs ((rfixV xs p wd true).1) ([]) ((rfixV xs p wd true).2.1) (p + (rfixV xs p wd true).2.2) v w' := by
  obtain ⟨Wa, hWa⟩ : ∃ Wa, Wa = (w.alloc (.cells #[.string nm, .int .i64 kd, .int .i64 wd] 101)).alloc (.cells #[.int .i64 0, .slice none 0 0, .int .i64 0] 83) := ⟨_, rfl⟩
  have hsa : Wa.heap.size = w.heap.size + 2 := by rw [hWa]; simp
  have hFa : Wa.heap[w.heap.size]? = some (.cells #[.string nm, .int .i64 kd, .int .i64 wd] 101 (0, 0)) := by rw [hWa, heap_alloc_old _ _ _ (by simp), heap_alloc_last]
  have h4a : Wa.heap[w.heap.size + 1]? = some (.cells #[.int .i64 0, .slice none 0 0, .int .i64 0] 83 (0, 0)) := by
    rw [hWa]; have := heap_alloc_last (w.alloc (.cells #[.string nm, .int .i64 kd, .int .i64 wd] 101)) (.cells #[.int .i64 0, .slice none 0 0, .int .i64 0] 83); simpa using this
  have hba : Below w.heap.size w Wa := by rw [hWa]; exact ((Below.refl _ w).alloc (Nat.le_refl _) _).alloc (by simp) _
  obtain ⟨Wz, hWz⟩ : ∃ Wz, Wz = Wa.alloc (.cells #[.int .i64 0, .slice none 0 0, .int .i64 0] 83) := ⟨_, rfl⟩
  have hsz : Wz.heap.size = w.heap.size + 3 := by rw [hWz]; simp [hsa]
  have h5z : Wz.heap[w.heap.size + 2]? = some (.cells #[.int .i64 0, .slice none 0 0, .int .i64 0] 83 (0, 0)) := by rw [hWz, ← hsa, heap_alloc_last]
  have hbz : Below w.heap.size w Wz := by rw [hWz]; exact hba.alloc (by omega) _
  have hFz : Wz.heap[w.heap.size]? = some (.cells #[.string nm, .int .i64 kd, .int .i64 wd] 101 (0, 0)) := by rw [hWz, heap_alloc_old _ _ _ (by omega)]; exact hFa
  have h4z : Wz.heap[w.heap.size + 1]? = some (.cells #[.int .i64 0, .slice none 0 0, .int .i64 0] 83 (0, 0)) := by rw [hWz, heap_alloc_old _ _ _ (by omega)]; exact h4a
  obtain ⟨W0, hW0⟩ : ∃ W0, W0 = Wz.setRow (w.heap.size + 2) #[.int .i64 0, .slice none 0 0, .int .i64 0] := ⟨_, rfl⟩
  have h50 : W0.heap[w.heap.size + 2]? = some (.cells #[.int .i64 0, .slice none 0 0, .int .i64 0] 83 (0, 0)) := by rw [hW0]; exact setRow_heap _ _ _ _ _ _ h5z
  have h40 : W0.heap[w.heap.size + 1]? = some (.cells #[.int .i64 0, .slice none 0 0, .int .i64 0] 83 (0, 0)) := by rw [hW0]; exact (setRow_other _ _ _ _ (by omega)).trans h4z
  have hF0 : W0.heap[w.heap.size]? = some (.cells #[.string nm, .int .i64 kd, .int .i64 wd] 101 (0, 0)) := by rw [hW0]; exact (setRow_other _ _ _ _ (by omega)).trans hFz
  have hb0 : Below w.heap.size w W0 := by rw [hW0]; exact hbz.trans (below_setRow' _ _ _ _ (by omega))
  have hs0 : W0.heap.size = w.heap.size + 3 := by rw [hW0]; simp [hsz]
  have H0 := Lib.hid (h.below hb0 (Nat.le_refl _))
  have H := Lib.hid h
  have hR := h.lt
  have cs := fun (i : Nat) => cell_of_row W0 w.heap.size i _ _ _ hF0
  have HWa := Lib.hid hWa
  have HWz := Lib.hid hWz
  have HW0 := Lib.hid hW0
  have H5z := Lib.hid h5z
  have H50 := Lib.hid h50
  have H40 := Lib.hid h40
  have Hb0 := Lib.hid hb0
  have Hsa := Lib.hid hsa
  have Hs0 := Lib.hid hs0
  have kc : W0.cell? ⟨w.heap.size, 1, none⟩ = some (.int .i64 kd) := by rw [cs 1]; rfl
  have wc : W0.cell? ⟨w.heap.size, 2, none⟩ = some (.int .i64 wd) := by rw [cs 2]; rfl
  have hcall := rint_any H0.out wd hw1 hw2
  obtain ⟨n, hn⟩ : ∃ n, n = (rfixV xs p wd true).1 := ⟨_, rfl⟩
  obtain ⟨er, her⟩ : ∃ er, er = (rfixV xs p wd true).2.1 := ⟨_, rfl⟩
  obtain ⟨q, hq⟩ : ∃ q, q = p + (rfixV xs p wd true).2.2 := ⟨_, rfl⟩
  rw [← hn, ← her, ← hq] at hcall ⊢
  have HC := Lib.hid hcall
  clear hcall hn her hq
  clear cs hWa hWz hW0 h5z h50 h40 hb0 h hFa h4a hFz h4z hF0 hba hbz hsa hsz hs0
  subst hk
  go_enter Try.func59, Try.ntmps59
  go_upto_region 1 with fail
  rw [← HWa.out]
  go_upto_region 2 with (rw [Hsa.out, ← HWz.out]; refine wpList_store_row rfl 83 (.tmp 5) (.tmp 6) rfl (w.heap.size + 2) #[.int .i64 0, .slice none 0 0, .int .i64 0] rfl rfl 83 #[.int .i64 0, .slice none 0 0, .int .i64 0] H5z.out (Try.sizeTold _ _ _) rfl (oneTold _ _ _ _ _) ?_)
  rw [← HW0.out]
  clear HWa HWz HW0 H5z Hsa
  go_wp2_with fail
  refine HC.out.mono ?_
  rintro e w1 ⟨rfl, hm⟩
  have k5 := grown_blk hm.grown H50.out (by omega)
  have k4 := grown_blk hm.grown H40.out (by omega)
  have Hm := Lib.hid (Moved.pre Hb0.out hm)
  clear hm H0 H50 H40 HC
  obtain ⟨W2, e2, k52, k42, bk2, ok2⟩ := told_set k5 k4 (by omega : w.heap.size + 1 ≠ w.heap.size + 2) 0 (.int .i64 n) (B := w.heap.size) (by omega)
  obtain ⟨W3, e3, k53, k43, bk3, ok3⟩ := told_set k52 k42 (by omega : w.heap.size + 1 ≠ w.heap.size + 2) 2 (.int .i64 er) (B := w.heap.size) (by omega)
  have p1 : w1.cell? ⟨w.heap.size + 2, 0, none⟩ = some (.int .i64 0) := by rw [cell_of_row _ _ _ _ _ _ k5]; rfl
  have q1 := frozen_of_row w1 (w.heap.size + 2) 0 _ _ k5
  have p2 : W2.cell? ⟨w.heap.size + 2, 2, none⟩ = some (.int .i64 0) := by rw [cell_of_row _ _ _ _ _ _ k52]; rfl
  have q2 := frozen_of_row W2 (w.heap.size + 2) 2 _ _ k52
  have p2' : (w1.setCell ⟨w.heap.size + 2, 0, none⟩ (.int .i64 n)).cell? ⟨w.heap.size + 2, 2, none⟩ = some (.int .i64 0) := by rw [e2]; exact p2
  have q2' : (w1.setCell ⟨w.heap.size + 2, 0, none⟩ (.int .i64 n)).frozen? ⟨w.heap.size + 2, 2, none⟩ = false := by rw [e2]; exact q2
  have p3 : w1.cell? ⟨w.heap.size + 2, 2, none⟩ = some (.int .i64 0) := by rw [cell_of_row _ _ _ _ _ _ k5]; rfl
  have q3 := frozen_of_row w1 (w.heap.size + 2) 2 _ _ k5
  have k53' : W3.heap[w.heap.size + 2]? = some (.cells #[.int .i64 n, .slice none 0 0, .int .i64 er] 83 (0, 0)) := k53
  have B3 := Lib.hid (bk2.trans bk3)
  have E2 := Lib.hid e2
  have E3 := Lib.hid e3
  have K53 := Lib.hid k53'
  have K43 := Lib.hid k43
  have O3 := Lib.hid (And.intro ok2 ok3)
  clear e2 e3 bk2 bk3 k52 k42 k53 k53' k43 ok2 ok3 k5 k4
  go_upto_region 12 with fail
  rw [E2.out, E3.out]
  clear E2 E3 p1 p2 q1 q2 p2' q2' p3 q3
  have c5 := fun (i : Nat) => cell_of_row W3 (w.heap.size + 2) i _ _ _ K53.out
  have d0 : W3.cell? ⟨w.heap.size + 2, 0, none⟩ = some (.int .i64 n) := by rw [c5 0]; rfl
  have d1 : W3.cell? ⟨w.heap.size + 2, 1, none⟩ = some (.slice none 0 0) := by rw [c5 1]; rfl
  have d2 : W3.cell? ⟨w.heap.size + 2, 2, none⟩ = some (.int .i64 er) := by rw [c5 2]; rfl
  clear c5
  go_wp2_with (refine wpList_store_row rfl 83 (.tmp 4) (.tmp 58) rfl (w.heap.size + 1) #[.int .i64 n, .slice none 0 0, .int .i64 er] rfl rfl 83 #[.int .i64 0, .slice none 0 0, .int .i64 0] K43.out (Try.sizeTold _ _ _) rfl (oneTold _ _ _ _ _) ?_)
  refine bodyPost_ret (v := .agg #[.int .i64 n, .slice none 0 0, .int .i64 er]) ?_ rfl ?_
  · exact results_cell_row rfl _ _ (w.heap.size + 1) 83 #[.int .i64 n, .slice none 0 0, .int .i64 er] (0, 0) _ rfl (setRow_heap _ _ _ _ _ _ K43.out) Try.underlying83 rfl (Try.sizeTold _ _ _)
  · exact ⟨_, rfl, none, 0, 0, rfl, Own.nil _ _, Moved.low H.out Hm.out (B3.out.trans (below_setRow' _ _ _ _ (by omega)))⟩
set_option maxRecDepth 100000 in
set_option maxHeartbeats 4000000 in
theorem lread_3 {w : World} {R p len cap : Nat} {a : Option Addr} {xs : List Int} (h : IsR w R p a len cap xs) (nm : ByteArray) (kd wd : Int) (hw1 : -9223372036854775808 ≤ wd) (hw2 : wd ≤ 9223372036854775807) (hbig : len ≤ 140737488355328) (hk : kd = 3) :
    Calls Try.prog 59 #[.pointer (some ⟨R, 0, none⟩), .agg #[.string nm, .int .i64 kd, .int .i64 wd]] w fun e w' => ∃ v, e = .returned v ∧ Told w R a len cap xs ((toVarV (xs.drop p)).1) ([]) ((toVarV (xs.drop p)).2.2) (p + (toVarV (xs.drop p)).2.1.toNat) v w' := by
  obtain ⟨Wa, hWa⟩ : ∃ Wa, Wa = (w.alloc (.cells #[.string nm, .int .i64 kd, .int .i64 wd] 101)).alloc (.cells #[.int .i64 0, .slice none 0 0, .int .i64 0] 83) := ⟨_, rfl⟩
  have hsa : Wa.heap.size = w.heap.size + 2 := by rw [hWa]; simp
  have hFa : Wa.heap[w.heap.size]? = some (.cells #[.string nm, .int .i64 kd, .int .i64 wd] 101 (0, 0)) := by rw [hWa, heap_alloc_old _ _ _ (by simp), heap_alloc_last]
  have h4a : Wa.heap[w.heap.size + 1]? = some (.cells #[.int .i64 0, .slice none 0 0, .int .i64 0] 83 (0, 0)) := by
    rw [hWa]; have := heap_alloc_last (w.alloc (.cells #[.string nm, .int .i64 kd, .int .i64 wd] 101)) (.cells #[.int .i64 0, .slice none 0 0, .int .i64 0] 83); simpa using this
  have hba : Below w.heap.size w Wa := by rw [hWa]; exact ((Below.refl _ w).alloc (Nat.le_refl _) _).alloc (by simp) _
  obtain ⟨Wz, hWz⟩ : ∃ Wz, Wz = Wa.alloc (.cells #[.int .i64 0, .slice none 0 0, .int .i64 0] 83) := ⟨_, rfl⟩
  have hsz : Wz.heap.size = w.heap.size + 3 := by rw [hWz]; simp [hsa]
  have h5z : Wz.heap[w.heap.size + 2]? = some (.cells #[.int .i64 0, .slice none 0 0, .int .i64 0] 83 (0, 0)) := by rw [hWz, ← hsa, heap_alloc_last]
  have hbz : Below w.heap.size w Wz := by rw [hWz]; exact hba.alloc (by omega) _
  have hFz : Wz.heap[w.heap.size]? = some (.cells #[.string nm, .int .i64 kd, .int .i64 wd] 101 (0, 0)) := by rw [hWz, heap_alloc_old _ _ _ (by omega)]; exact hFa
  have h4z : Wz.heap[w.heap.size + 1]? = some (.cells #[.int .i64 0, .slice none 0 0, .int .i64 0] 83 (0, 0)) := by rw [hWz, heap_alloc_old _ _ _ (by omega)]; exact h4a
  obtain ⟨W0, hW0⟩ : ∃ W0, W0 = Wz.setRow (w.heap.size + 2) #[.int .i64 0, .slice none 0 0, .int .i64 0] := ⟨_, rfl⟩
  have h50 : W0.heap[w.heap.size + 2]? = some (.cells #[.int .i64 0, .slice none 0 0, .int .i64 0] 83 (0, 0)) := by rw [hW0]; exact setRow_heap _ _ _ _ _ _ h5z
  have h40 : W0.heap[w.heap.size + 1]? = some (.cells #[.int .i64 0, .slice none 0 0, .int .i64 0] 83 (0, 0)) := by rw [hW0]; exact (setRow_other _ _ _ _ (by omega)).trans h4z
  have hF0 : W0.heap[w.heap.size]? = some (.cells #[.string nm, .int .i64 kd, .int .i64 wd] 101 (0, 0)) := by rw [hW0]; exact (setRow_other _ _ _ _ (by omega)).trans hFz
  have hb0 : Below w.heap.size w W0 := by rw [hW0]; exact hbz.trans (below_setRow' _ _ _ _ (by omega))
  have hs0 : W0.heap.size = w.heap.size + 3 := by rw [hW0]; simp [hsz]
  have H0 := Lib.hid (h.below hb0 (Nat.le_refl _))
  have H := Lib.hid h
  have hR := h.lt
  have cs := fun (i : Nat) => cell_of_row W0 w.heap.size i _ _ _ hF0
  have HWa := Lib.hid hWa
  have HWz := Lib.hid hWz
  have HW0 := Lib.hid hW0
  have H5z := Lib.hid h5z
  have H50 := Lib.hid h50
  have H40 := Lib.hid h40
  have Hb0 := Lib.hid hb0
  have Hsa := Lib.hid hsa
  have Hs0 := Lib.hid hs0
  have kc : W0.cell? ⟨w.heap.size, 1, none⟩ = some (.int .i64 kd) := by rw [cs 1]; rfl
  have wc : W0.cell? ⟨w.heap.size, 2, none⟩ = some (.int .i64 wd) := by rw [cs 2]; rfl
  have hcall := rvar_any H0.out
  obtain ⟨n, hn⟩ : ∃ n, n = (toVarV (xs.drop p)).1 := ⟨_, rfl⟩
  obtain ⟨er, her⟩ : ∃ er, er = (toVarV (xs.drop p)).2.2 := ⟨_, rfl⟩
  obtain ⟨q, hq⟩ : ∃ q, q = p + (toVarV (xs.drop p)).2.1.toNat := ⟨_, rfl⟩
  rw [← hn, ← her, ← hq] at hcall ⊢
  have HC := Lib.hid hcall
  clear hcall hn her hq
  clear cs hWa hWz hW0 h5z h50 h40 hb0 h hFa h4a hFz h4z hF0 hba hbz hsa hsz hs0
  subst hk
  go_enter Try.func59, Try.ntmps59
  go_upto_region 1 with fail
  rw [← HWa.out]
  go_upto_region 2 with (rw [Hsa.out, ← HWz.out]; refine wpList_store_row rfl 83 (.tmp 5) (.tmp 6) rfl (w.heap.size + 2) #[.int .i64 0, .slice none 0 0, .int .i64 0] rfl rfl 83 #[.int .i64 0, .slice none 0 0, .int .i64 0] H5z.out (Try.sizeTold _ _ _) rfl (oneTold _ _ _ _ _) ?_)
  rw [← HW0.out]
  clear HWa HWz HW0 H5z Hsa
  go_wp2_with fail
  refine HC.out.mono ?_
  rintro e w1 ⟨rfl, hm⟩
  have k5 := grown_blk hm.grown H50.out (by omega)
  have k4 := grown_blk hm.grown H40.out (by omega)
  have Hm := Lib.hid (Moved.pre Hb0.out hm)
  clear hm H0 H50 H40 HC
  obtain ⟨W2, e2, k52, k42, bk2, ok2⟩ := told_set k5 k4 (by omega : w.heap.size + 1 ≠ w.heap.size + 2) 0 (.int .i64 n) (B := w.heap.size) (by omega)
  obtain ⟨W3, e3, k53, k43, bk3, ok3⟩ := told_set k52 k42 (by omega : w.heap.size + 1 ≠ w.heap.size + 2) 2 (.int .i64 er) (B := w.heap.size) (by omega)
  have p1 : w1.cell? ⟨w.heap.size + 2, 0, none⟩ = some (.int .i64 0) := by rw [cell_of_row _ _ _ _ _ _ k5]; rfl
  have q1 := frozen_of_row w1 (w.heap.size + 2) 0 _ _ k5
  have p2 : W2.cell? ⟨w.heap.size + 2, 2, none⟩ = some (.int .i64 0) := by rw [cell_of_row _ _ _ _ _ _ k52]; rfl
  have q2 := frozen_of_row W2 (w.heap.size + 2) 2 _ _ k52
  have p2' : (w1.setCell ⟨w.heap.size + 2, 0, none⟩ (.int .i64 n)).cell? ⟨w.heap.size + 2, 2, none⟩ = some (.int .i64 0) := by rw [e2]; exact p2
  have q2' : (w1.setCell ⟨w.heap.size + 2, 0, none⟩ (.int .i64 n)).frozen? ⟨w.heap.size + 2, 2, none⟩ = false := by rw [e2]; exact q2
  have p3 : w1.cell? ⟨w.heap.size + 2, 2, none⟩ = some (.int .i64 0) := by rw [cell_of_row _ _ _ _ _ _ k5]; rfl
  have q3 := frozen_of_row w1 (w.heap.size + 2) 2 _ _ k5
  have k53' : W3.heap[w.heap.size + 2]? = some (.cells #[.int .i64 n, .slice none 0 0, .int .i64 er] 83 (0, 0)) := k53
  have B3 := Lib.hid (bk2.trans bk3)
  have E2 := Lib.hid e2
  have E3 := Lib.hid e3
  have K53 := Lib.hid k53'
  have K43 := Lib.hid k43
  have O3 := Lib.hid (And.intro ok2 ok3)
  clear e2 e3 bk2 bk3 k52 k42 k53 k53' k43 ok2 ok3 k5 k4
  go_upto_region 12 with fail
  rw [E2.out, E3.out]
  clear E2 E3 p1 p2 q1 q2 p2' q2' p3 q3
  have c5 := fun (i : Nat) => cell_of_row W3 (w.heap.size + 2) i _ _ _ K53.out
  have d0 : W3.cell? ⟨w.heap.size + 2, 0, none⟩ = some (.int .i64 n) := by rw [c5 0]; rfl
  have d1 : W3.cell? ⟨w.heap.size + 2, 1, none⟩ = some (.slice none 0 0) := by rw [c5 1]; rfl
  have d2 : W3.cell? ⟨w.heap.size + 2, 2, none⟩ = some (.int .i64 er) := by rw [c5 2]; rfl
  clear c5
  go_wp2_with (refine wpList_store_row rfl 83 (.tmp 4) (.tmp 58) rfl (w.heap.size + 1) #[.int .i64 n, .slice none 0 0, .int .i64 er] rfl rfl 83 #[.int .i64 0, .slice none 0 0, .int .i64 0] K43.out (Try.sizeTold _ _ _) rfl (oneTold _ _ _ _ _) ?_)
  refine bodyPost_ret (v := .agg #[.int .i64 n, .slice none 0 0, .int .i64 er]) ?_ rfl ?_
  · exact results_cell_row rfl _ _ (w.heap.size + 1) 83 #[.int .i64 n, .slice none 0 0, .int .i64 er] (0, 0) _ rfl (setRow_heap _ _ _ _ _ _ K43.out) Try.underlying83 rfl (Try.sizeTold _ _ _)
  · exact ⟨_, rfl, none, 0, 0, rfl, Own.nil _ _, Moved.low H.out Hm.out (B3.out.trans (below_setRow' _ _ _ _ (by omega)))⟩
set_option maxRecDepth 100000 in
set_option maxHeartbeats 4000000 in
theorem lread_5 {w : World} {R p len cap : Nat} {a : Option Addr} {xs : List Int} (h : IsR w R p a len cap xs) (nm : ByteArray) (kd wd : Int) (hw1 : -9223372036854775808 ≤ wd) (hw2 : wd ≤ 9223372036854775807) (hbig : len ≤ 140737488355328) (hk : kd = 5) :
    Calls Try.prog 59 #[.pointer (some ⟨R, 0, none⟩), .agg #[.string nm, .int .i64 kd, .int .i64 wd]] w fun e w' => ∃ v, e = .returned v ∧ Told w R a len cap xs (0) ((toTextV (xs.drop p)).1) ((toTextV (xs.drop p)).2.2) (p + (toTextV (xs.drop p)).2.1.toNat) v w' := by
  obtain ⟨Wa, hWa⟩ : ∃ Wa, Wa = (w.alloc (.cells #[.string nm, .int .i64 kd, .int .i64 wd] 101)).alloc (.cells #[.int .i64 0, .slice none 0 0, .int .i64 0] 83) := ⟨_, rfl⟩
  have hsa : Wa.heap.size = w.heap.size + 2 := by rw [hWa]; simp
  have hFa : Wa.heap[w.heap.size]? = some (.cells #[.string nm, .int .i64 kd, .int .i64 wd] 101 (0, 0)) := by rw [hWa, heap_alloc_old _ _ _ (by simp), heap_alloc_last]
  have h4a : Wa.heap[w.heap.size + 1]? = some (.cells #[.int .i64 0, .slice none 0 0, .int .i64 0] 83 (0, 0)) := by
    rw [hWa]; have := heap_alloc_last (w.alloc (.cells #[.string nm, .int .i64 kd, .int .i64 wd] 101)) (.cells #[.int .i64 0, .slice none 0 0, .int .i64 0] 83); simpa using this
  have hba : Below w.heap.size w Wa := by rw [hWa]; exact ((Below.refl _ w).alloc (Nat.le_refl _) _).alloc (by simp) _
  obtain ⟨Wz, hWz⟩ : ∃ Wz, Wz = Wa.alloc (.cells #[.int .i64 0, .slice none 0 0, .int .i64 0] 83) := ⟨_, rfl⟩
  have hsz : Wz.heap.size = w.heap.size + 3 := by rw [hWz]; simp [hsa]
  have h5z : Wz.heap[w.heap.size + 2]? = some (.cells #[.int .i64 0, .slice none 0 0, .int .i64 0] 83 (0, 0)) := by rw [hWz, ← hsa, heap_alloc_last]
  have hbz : Below w.heap.size w Wz := by rw [hWz]; exact hba.alloc (by omega) _
  have hFz : Wz.heap[w.heap.size]? = some (.cells #[.string nm, .int .i64 kd, .int .i64 wd] 101 (0, 0)) := by rw [hWz, heap_alloc_old _ _ _ (by omega)]; exact hFa
  have h4z : Wz.heap[w.heap.size + 1]? = some (.cells #[.int .i64 0, .slice none 0 0, .int .i64 0] 83 (0, 0)) := by rw [hWz, heap_alloc_old _ _ _ (by omega)]; exact h4a
  obtain ⟨W0, hW0⟩ : ∃ W0, W0 = Wz.setRow (w.heap.size + 2) #[.int .i64 0, .slice none 0 0, .int .i64 0] := ⟨_, rfl⟩
  have h50 : W0.heap[w.heap.size + 2]? = some (.cells #[.int .i64 0, .slice none 0 0, .int .i64 0] 83 (0, 0)) := by rw [hW0]; exact setRow_heap _ _ _ _ _ _ h5z
  have h40 : W0.heap[w.heap.size + 1]? = some (.cells #[.int .i64 0, .slice none 0 0, .int .i64 0] 83 (0, 0)) := by rw [hW0]; exact (setRow_other _ _ _ _ (by omega)).trans h4z
  have hF0 : W0.heap[w.heap.size]? = some (.cells #[.string nm, .int .i64 kd, .int .i64 wd] 101 (0, 0)) := by rw [hW0]; exact (setRow_other _ _ _ _ (by omega)).trans hFz
  have hb0 : Below w.heap.size w W0 := by rw [hW0]; exact hbz.trans (below_setRow' _ _ _ _ (by omega))
  have hs0 : W0.heap.size = w.heap.size + 3 := by rw [hW0]; simp [hsz]
  have H0 := Lib.hid (h.below hb0 (Nat.le_refl _))
  have H := Lib.hid h
  have hR := h.lt
  have cs := fun (i : Nat) => cell_of_row W0 w.heap.size i _ _ _ hF0
  have HWa := Lib.hid hWa
  have HWz := Lib.hid hWz
  have HW0 := Lib.hid hW0
  have H5z := Lib.hid h5z
  have H50 := Lib.hid h50
  have H40 := Lib.hid h40
  have Hb0 := Lib.hid hb0
  have Hsa := Lib.hid hsa
  have Hs0 := Lib.hid hs0
  have kc : W0.cell? ⟨w.heap.size, 1, none⟩ = some (.int .i64 kd) := by rw [cs 1]; rfl
  have wc : W0.cell? ⟨w.heap.size, 2, none⟩ = some (.int .i64 wd) := by rw [cs 2]; rfl
  have hcall := rtext_any H0.out
  obtain ⟨bs, hbs⟩ : ∃ bs, bs = (toTextV (xs.drop p)).1 := ⟨_, rfl⟩
  obtain ⟨er, her⟩ : ∃ er, er = (toTextV (xs.drop p)).2.2 := ⟨_, rfl⟩
  obtain ⟨q, hq⟩ : ∃ q, q = p + (toTextV (xs.drop p)).2.1.toNat := ⟨_, rfl⟩
  rw [← hbs, ← hq, ← her] at hcall ⊢
  have HC := Lib.hid hcall
  clear hcall hbs her hq
  clear cs hWa hWz hW0 h5z h50 h40 hb0 h hFa h4a hFz h4z hF0 hba hbz hsa hsz hs0
  subst hk
  go_enter Try.func59, Try.ntmps59
  go_upto_region 1 with fail
  rw [← HWa.out]
  go_upto_region 2 with (rw [Hsa.out, ← HWz.out]; refine wpList_store_row rfl 83 (.tmp 5) (.tmp 6) rfl (w.heap.size + 2) #[.int .i64 0, .slice none 0 0, .int .i64 0] rfl rfl 83 #[.int .i64 0, .slice none 0 0, .int .i64 0] H5z.out (Try.sizeTold _ _ _) rfl (oneTold _ _ _ _ _) ?_)
  rw [← HW0.out]
  clear HWa HWz HW0 H5z Hsa
  go_wp2_with fail
  refine HC.out.mono ?_
  rintro e w1 ⟨v, rfl, ho, hm⟩
  have hs0 := Hs0.out
  obtain ⟨a1, c1, rfl, hr⟩ := ho.rd
  obtain ⟨m, hml⟩ : ∃ m, m = bs.length := ⟨_, rfl⟩
  rw [← hml] at ho ⊢
  have k5 := grown_blk hm.grown H50.out (by omega)
  have k4 := grown_blk hm.grown H40.out (by omega)
  have Hm := Lib.hid (Moved.pre Hb0.out hm)
  have Ho := Lib.hid ho
  clear hm H0 H50 H40 HC ho hr hml
  obtain ⟨W2, e2, k52, k42, bk2, ok2⟩ := told_set k5 k4 (by omega : w.heap.size + 1 ≠ w.heap.size + 2) 1 (.slice a1 m c1) (B := w.heap.size) (by omega)
  obtain ⟨W3, e3, k53, k43, bk3, ok3⟩ := told_set k52 k42 (by omega : w.heap.size + 1 ≠ w.heap.size + 2) 2 (.int .i64 er) (B := w.heap.size) (by omega)
  have p1 : w1.cell? ⟨w.heap.size + 2, 1, none⟩ = some (.slice none 0 0) := by rw [cell_of_row _ _ _ _ _ _ k5]; rfl
  have q1 := frozen_of_row w1 (w.heap.size + 2) 1 _ _ k5
  have p2 : W2.cell? ⟨w.heap.size + 2, 2, none⟩ = some (.int .i64 0) := by rw [cell_of_row _ _ _ _ _ _ k52]; rfl
  have q2 := frozen_of_row W2 (w.heap.size + 2) 2 _ _ k52
  have p2' : (w1.setCell ⟨w.heap.size + 2, 1, none⟩ (.slice a1 m c1)).cell? ⟨w.heap.size + 2, 2, none⟩ = some (.int .i64 0) := by rw [e2]; exact p2
  have q2' : (w1.setCell ⟨w.heap.size + 2, 1, none⟩ (.slice a1 m c1)).frozen? ⟨w.heap.size + 2, 2, none⟩ = false := by rw [e2]; exact q2
  have p3 : w1.cell? ⟨w.heap.size + 2, 2, none⟩ = some (.int .i64 0) := by rw [cell_of_row _ _ _ _ _ _ k5]; rfl
  have q3 := frozen_of_row w1 (w.heap.size + 2) 2 _ _ k5
  have k53' : W3.heap[w.heap.size + 2]? = some (.cells #[.int .i64 0, .slice a1 m c1, .int .i64 er] 83 (0, 0)) := k53
  have B3 := Lib.hid (bk2.trans bk3)
  have E2 := Lib.hid e2
  have E3 := Lib.hid e3
  have K53 := Lib.hid k53'
  have K43 := Lib.hid k43
  have O3 := Lib.hid (And.intro ok2 ok3)
  clear e2 e3 bk2 bk3 k52 k42 k53 k53' k43 ok2 ok3 k5 k4
  go_upto_region 12 with fail
  rw [E2.out, E3.out]
  clear E2 E3 p1 p2 q1 q2 p2' q2' p3 q3
  have c5 := fun (i : Nat) => cell_of_row W3 (w.heap.size + 2) i _ _ _ K53.out
  have d0 : W3.cell? ⟨w.heap.size + 2, 0, none⟩ = some (.int .i64 0) := by rw [c5 0]; rfl
  have d1 : W3.cell? ⟨w.heap.size + 2, 1, none⟩ = some (.slice a1 m c1) := by rw [c5 1]; rfl
  have d2 : W3.cell? ⟨w.heap.size + 2, 2, none⟩ = some (.int .i64 er) := by rw [c5 2]; rfl
  clear c5
  go_wp2_with (refine wpList_store_row rfl 83 (.tmp 4) (.tmp 58) rfl (w.heap.size + 1) #[.int .i64 0, .slice a1 m c1, .int .i64 er] rfl rfl 83 #[.int .i64 0, .slice none 0 0, .int .i64 0] K43.out (Try.sizeTold _ _ _) rfl (oneTold _ _ _ _ _) ?_)
  refine bodyPost_ret (v := .agg #[.int .i64 0, .slice a1 m c1, .int .i64 er]) ?_ rfl ?_
  · exact results_cell_row rfl _ _ (w.heap.size + 1) 83 #[.int .i64 0, .slice a1 m c1, .int .i64 er] (0, 0) _ rfl (setRow_heap _ _ _ _ _ _ K43.out) Try.underlying83 rfl (Try.sizeTold _ _ _)
  · exact ⟨_, rfl, a1, m, c1, rfl, ((O3.out.2 _ _ _ (by omega) (O3.out.1 _ _ _ (by omega) Ho.out)).setRow (by omega) _).mono (by omega), Moved.low H.out Hm.out (B3.out.trans (below_setRow' _ _ _ _ (by omega)))⟩
set_option maxRecDepth 100000 in
set_option maxHeartbeats 4000000 in
theorem lread_4 {w : World} {R p len cap : Nat} {a : Option Addr} {xs : List Int} (h : IsR w R p a len cap xs) (nm : ByteArray) (kd wd : Int) (hw1 : -9223372036854775808 ≤ wd) (hw2 : wd ≤ 9223372036854775807) (hbig : len ≤ 140737488355328) (hk : kd = 4) :
    Calls Try.prog 59 #[.pointer (some ⟨R, 0, none⟩), .agg #[.string nm, .int .i64 kd, .int .i64 wd]] w fun e w' => ∃ v, e = .returned v ∧ Told w R a len cap xs (0) (aheadB xs p wd) (aheadE ((xs.length : Int) - p) wd) (p + stepV (aheadE ((xs.length : Int) - p) wd) wd) v w' := by
  obtain ⟨Wa, hWa⟩ : ∃ Wa, Wa = (w.alloc (.cells #[.string nm, .int .i64 kd, .int .i64 wd] 101)).alloc (.cells #[.int .i64 0, .slice none 0 0, .int .i64 0] 83) := ⟨_, rfl⟩
  have hsa : Wa.heap.size = w.heap.size + 2 := by rw [hWa]; simp
  have hFa : Wa.heap[w.heap.size]? = some (.cells #[.string nm, .int .i64 kd, .int .i64 wd] 101 (0, 0)) := by rw [hWa, heap_alloc_old _ _ _ (by simp), heap_alloc_last]
  have h4a : Wa.heap[w.heap.size + 1]? = some (.cells #[.int .i64 0, .slice none 0 0, .int .i64 0] 83 (0, 0)) := by
    rw [hWa]; have := heap_alloc_last (w.alloc (.cells #[.string nm, .int .i64 kd, .int .i64 wd] 101)) (.cells #[.int .i64 0, .slice none 0 0, .int .i64 0] 83); simpa using this
  have hba : Below w.heap.size w Wa := by rw [hWa]; exact ((Below.refl _ w).alloc (Nat.le_refl _) _).alloc (by simp) _
  obtain ⟨Wz, hWz⟩ : ∃ Wz, Wz = Wa.alloc (.cells #[.int .i64 0, .slice none 0 0, .int .i64 0] 83) := ⟨_, rfl⟩
  have hsz : Wz.heap.size = w.heap.size + 3 := by rw [hWz]; simp [hsa]
  have h5z : Wz.heap[w.heap.size + 2]? = some (.cells #[.int .i64 0, .slice none 0 0, .int .i64 0] 83 (0, 0)) := by rw [hWz, ← hsa, heap_alloc_last]
  have hbz : Below w.heap.size w Wz := by rw [hWz]; exact hba.alloc (by omega) _
  have hFz : Wz.heap[w.heap.size]? = some (.cells #[.string nm, .int .i64 kd, .int .i64 wd] 101 (0, 0)) := by rw [hWz, heap_alloc_old _ _ _ (by omega)]; exact hFa
  have h4z : Wz.heap[w.heap.size + 1]? = some (.cells #[.int .i64 0, .slice none 0 0, .int .i64 0] 83 (0, 0)) := by rw [hWz, heap_alloc_old _ _ _ (by omega)]; exact h4a
  obtain ⟨W0, hW0⟩ : ∃ W0, W0 = Wz.setRow (w.heap.size + 2) #[.int .i64 0, .slice none 0 0, .int .i64 0] := ⟨_, rfl⟩
  have h50 : W0.heap[w.heap.size + 2]? = some (.cells #[.int .i64 0, .slice none 0 0, .int .i64 0] 83 (0, 0)) := by rw [hW0]; exact setRow_heap _ _ _ _ _ _ h5z
  have h40 : W0.heap[w.heap.size + 1]? = some (.cells #[.int .i64 0, .slice none 0 0, .int .i64 0] 83 (0, 0)) := by rw [hW0]; exact (setRow_other _ _ _ _ (by omega)).trans h4z
  have hF0 : W0.heap[w.heap.size]? = some (.cells #[.string nm, .int .i64 kd, .int .i64 wd] 101 (0, 0)) := by rw [hW0]; exact (setRow_other _ _ _ _ (by omega)).trans hFz
  have hb0 : Below w.heap.size w W0 := by rw [hW0]; exact hbz.trans (below_setRow' _ _ _ _ (by omega))
  have hs0 : W0.heap.size = w.heap.size + 3 := by rw [hW0]; simp [hsz]
  have H0 := Lib.hid (h.below hb0 (Nat.le_refl _))
  have H := Lib.hid h
  have hR := h.lt
  have cs := fun (i : Nat) => cell_of_row W0 w.heap.size i _ _ _ hF0
  have HWa := Lib.hid hWa
  have HWz := Lib.hid hWz
  have HW0 := Lib.hid hW0
  have H5z := Lib.hid h5z
  have H50 := Lib.hid h50
  have H40 := Lib.hid h40
  have Hb0 := Lib.hid hb0
  have Hsa := Lib.hid hsa
  have Hs0 := Lib.hid hs0
  have kc : W0.cell? ⟨w.heap.size, 1, none⟩ = some (.int .i64 kd) := by rw [cs 1]; rfl
  have wc : W0.cell? ⟨w.heap.size, 2, none⟩ = some (.int .i64 wd) := by rw [cs 2]; rfl
  have hcall := bytes_any H0.out wd hw2 hbig
  obtain ⟨bs, hbs⟩ : ∃ bs, bs = aheadB xs p wd := ⟨_, rfl⟩
  obtain ⟨er, her⟩ : ∃ er, er = aheadE ((xs.length : Int) - p) wd := ⟨_, rfl⟩
  obtain ⟨q, hq⟩ : ∃ q, q = p + stepV (aheadE ((xs.length : Int) - p) wd) wd := ⟨_, rfl⟩
  rw [← hbs, ← hq, ← her] at hcall ⊢
  have HC := Lib.hid hcall
  clear hcall hbs her hq
  clear cs hWa hWz hW0 h5z h50 h40 hb0 h hFa h4a hFz h4z hF0 hba hbz hsa hsz hs0
  subst hk
  go_enter Try.func59, Try.ntmps59
  go_upto_region 1 with fail
  rw [← HWa.out]
  go_upto_region 2 with (rw [Hsa.out, ← HWz.out]; refine wpList_store_row rfl 83 (.tmp 5) (.tmp 6) rfl (w.heap.size + 2) #[.int .i64 0, .slice none 0 0, .int .i64 0] rfl rfl 83 #[.int .i64 0, .slice none 0 0, .int .i64 0] H5z.out (Try.sizeTold _ _ _) rfl (oneTold _ _ _ _ _) ?_)
  rw [← HW0.out]
  clear HWa HWz HW0 H5z Hsa
  go_wp2_with fail
  refine HC.out.mono ?_
  rintro e w1 ⟨v, rfl, ho, hm⟩
  have hs0 := Hs0.out
  obtain ⟨a1, c1, rfl, hr⟩ := ho.rd
  obtain ⟨m, hml⟩ : ∃ m, m = bs.length := ⟨_, rfl⟩
  rw [← hml] at ho ⊢
  have k5 := grown_blk hm.grown H50.out (by omega)
  have k4 := grown_blk hm.grown H40.out (by omega)
  have Hm := Lib.hid (Moved.pre Hb0.out hm)
  have Ho := Lib.hid ho
  clear hm H0 H50 H40 HC ho hr hml
  obtain ⟨W2, e2, k52, k42, bk2, ok2⟩ := told_set k5 k4 (by omega : w.heap.size + 1 ≠ w.heap.size + 2) 1 (.slice a1 m c1) (B := w.heap.size) (by omega)
  obtain ⟨W3, e3, k53, k43, bk3, ok3⟩ := told_set k52 k42 (by omega : w.heap.size + 1 ≠ w.heap.size + 2) 2 (.int .i64 er) (B := w.heap.size) (by omega)
  have p1 : w1.cell? ⟨w.heap.size + 2, 1, none⟩ = some (.slice none 0 0) := by rw [cell_of_row _ _ _ _ _ _ k5]; rfl
  have q1 := frozen_of_row w1 (w.heap.size + 2) 1 _ _ k5
  have p2 : W2.cell? ⟨w.heap.size + 2, 2, none⟩ = some (.int .i64 0) := by rw [cell_of_row _ _ _ _ _ _ k52]; rfl
  have q2 := frozen_of_row W2 (w.heap.size + 2) 2 _ _ k52
  have p2' : (w1.setCell ⟨w.heap.size + 2, 1, none⟩ (.slice a1 m c1)).cell? ⟨w.heap.size + 2, 2, none⟩ = some (.int .i64 0) := by rw [e2]; exact p2
  have q2' : (w1.setCell ⟨w.heap.size + 2, 1, none⟩ (.slice a1 m c1)).frozen? ⟨w.heap.size + 2, 2, none⟩ = false := by rw [e2]; exact q2
  have p3 : w1.cell? ⟨w.heap.size + 2, 2, none⟩ = some (.int .i64 0) := by rw [cell_of_row _ _ _ _ _ _ k5]; rfl
  have q3 := frozen_of_row w1 (w.heap.size + 2) 2 _ _ k5
  have k53' : W3.heap[w.heap.size + 2]? = some (.cells #[.int .i64 0, .slice a1 m c1, .int .i64 er] 83 (0, 0)) := k53
  have B3 := Lib.hid (bk2.trans bk3)
  have E2 := Lib.hid e2
  have E3 := Lib.hid e3
  have K53 := Lib.hid k53'
  have K43 := Lib.hid k43
  have O3 := Lib.hid (And.intro ok2 ok3)
  clear e2 e3 bk2 bk3 k52 k42 k53 k53' k43 ok2 ok3 k5 k4
  go_upto_region 12 with fail
  rw [E2.out, E3.out]
  clear E2 E3 p1 p2 q1 q2 p2' q2' p3 q3
  have c5 := fun (i : Nat) => cell_of_row W3 (w.heap.size + 2) i _ _ _ K53.out
  have d0 : W3.cell? ⟨w.heap.size + 2, 0, none⟩ = some (.int .i64 0) := by rw [c5 0]; rfl
  have d1 : W3.cell? ⟨w.heap.size + 2, 1, none⟩ = some (.slice a1 m c1) := by rw [c5 1]; rfl
  have d2 : W3.cell? ⟨w.heap.size + 2, 2, none⟩ = some (.int .i64 er) := by rw [c5 2]; rfl
  clear c5
  go_wp2_with (refine wpList_store_row rfl 83 (.tmp 4) (.tmp 58) rfl (w.heap.size + 1) #[.int .i64 0, .slice a1 m c1, .int .i64 er] rfl rfl 83 #[.int .i64 0, .slice none 0 0, .int .i64 0] K43.out (Try.sizeTold _ _ _) rfl (oneTold _ _ _ _ _) ?_)
  refine bodyPost_ret (v := .agg #[.int .i64 0, .slice a1 m c1, .int .i64 er]) ?_ rfl ?_
  · exact results_cell_row rfl _ _ (w.heap.size + 1) 83 #[.int .i64 0, .slice a1 m c1, .int .i64 er] (0, 0) _ rfl (setRow_heap _ _ _ _ _ _ K43.out) Try.underlying83 rfl (Try.sizeTold _ _ _)
  · exact ⟨_, rfl, a1, m, c1, rfl, ((O3.out.2 _ _ _ (by omega) (O3.out.1 _ _ _ (by omega) Ho.out)).setRow (by omega) _).mono (by omega), Moved.low H.out Hm.out (B3.out.trans (below_setRow' _ _ _ _ (by omega)))⟩
end Go.Proofs.Ytnhkkhceoaembaa

import Derived.Test.YtmfijcniaehooaaWread5
import Derived.Test.YtmfijcniaehooaaWrtext
import Derived.Test.YtmfijcniaehooaaWrvar
import Derived.Deep.DeepCutAuto
import Derived.Test.YtmfijcniaehooaaWrnum
import Derived.Test.YtmfijcniaehooaaWrbytes
/- What the law's read answers, of any field. -/
namespace Go.Proofs.Ytmfijcniaehooaa
set_option linter.unusedVariables false
open Go.RowKit

/-- What a call of a Reader tells. -/
def Told (w : World) (R : Nat) (a : Option Addr) (len cap : Nat) (xs : List Int) (n : Int) (bs : List Int) (er : Int) (q : Nat) (v : Value) (w' : World) : Prop :=
  ∃ a1 l1 c1, v = .agg #[.int .i64 n, .slice a1 l1 c1, .int .i64 er] ∧ Own w' w.heap.size (.slice a1 l1 c1) bs ∧ Moved w w' R q a len cap xs
theorem Try.sizeTold (u v x : Value) : (Try.prog.info? 83).map (·.size) = some (#[u, v, x] : Array Value).size := by kernel_rfl
theorem oneTold (n : Int) (a : Option Addr) (l c : Nat) (e : Int) : (#[.int .i64 n, .slice a l c, .int .i64 e] : Array Value).all (fun x => x.oneCell') = true := by kernel_rfl
theorem told_set {w1 : World} {T4 T5 B : Nat} {t : TypeId} {cs zs : Array Value} (h5 : w1.heap[T5]? = some (.cells cs t (0, 0))) (h4 : w1.heap[T4]? = some (.cells zs t (0, 0))) (hne : T4 ≠ T5) (i : Nat) (x : Value) (hB : B ≤ T5) :
    ∃ W, w1.setCell ⟨T5, i, none⟩ x = W ∧ W.heap[T5]? = some (.cells (cs.setIfInBounds i x) t (0, 0)) ∧ W.heap[T4]? = some (.cells zs t (0, 0)) ∧ Below B w1 W ∧ (∀ B' v ys, T5 < B' → Own w1 B' v ys → Own W B' v ys) := by
  refine ⟨_, rfl, heap_setCell_same _ _ _ _ _ _ h5, (heap_setCell_other w1 ⟨T5, i, none⟩ T4 x hne).trans h4, (Below.refl B w1).setCell (p := ⟨T5, i, none⟩) hB x, fun B' v ys hlt ho => ?_⟩
  refine ⟨⟨ho.1.1, ?_⟩, ho.2⟩
  rcases ho.1.2 with hn | ⟨k, cap, cur, rfl, hk, hkk, rest⟩
  · exact .inl hn
  · exact .inr ⟨k, cap, cur, rfl, hk, (heap_setCell_other w1 ⟨T5, i, none⟩ k x (by show k ≠ T5; omega)).trans hkk, rest⟩
/-- A block of a row, when what is below stays but for a Reader. -/
theorem grown_blk {w w1 : World} {R g : Nat} {o : Obj} (hg : w.grownBy w1 (some R)) (h : w.heap[g]? = some o) (hne : g ≠ R) : w1.heap[g]? = some o :=
  (hg.block g (Array.getElem?_eq_some_iff.1 h).1 (by intro e; exact hne (by simpa using e))).trans h
set_option maxRecDepth 100000 in
set_option maxHeartbeats 4000000 in
theorem lread_1 {w : World} {R p len cap : Nat} {a : Option Addr} {xs : List Int} (h : IsR w R p a len cap xs) (nm : ByteArray) (kd wd : Int) (hw1 : -9223372036854775808 ≤ wd) (hw2 : wd ≤ 9223372036854775807) (hbig : len ≤ 140737488355328) (hk : kd = 1) :
    Calls Try.prog 59 #[.pointer (some ⟨R, 0, none⟩), .agg #[.string nm, .int .i64 kd, .int .i64 wd]] w fun e w' => ∃ v, e = .returned v ∧ Told w R a len cap xs ((rfixV xs p wd false).1) ([]) ((rfixV xs p wd false).2.1) (p + (rfixV xs p wd false).2.2) v w' := by
  obtain ⟨Wa, hWa⟩ : ∃ Wa, Wa = (w.alloc (.cells #[.string nm, .int .i64 kd, .int .i64 wd] 101)).alloc (.cells #[.int .i64 0, .slice none 0 0, .int .i64 0] 83) := ⟨_, rfl⟩
  have hsa : Wa.heap.size = w.heap.size + 2 := by rw [hWa]; simp
  have hFa : Wa.heap[w.heap.size]? = some (.cells #[.string nm, .int .i64 kd, .int .i64 wd] 101 (0, 0)) := by rw [hWa, heap_alloc_old _ _ _ (by simp), heap_alloc_last]
  have h4a : Wa.heap[w.heap.size + 1]? = some (.cells #[.int .i64 0, .slice none 0 0, .int .i64 0] 83 (0, 0)) := by
    rw [hWa]; have := heap_alloc_last (w.alloc (.cells #[.string nm, .int .i64 kd, .int .i64 wd] 101)) (.cells #[.int .i64 0, .slice none 0 0, .int .i64 0] 83); simpa using this
  have hba : Below w.heap.size w Wa := by rw [hWa]; exact ((Below.refl _ w).alloc (Nat.le_refl _) _).alloc (by simp) _
  obtain ⟨Wz, hWz⟩ : ∃ Wz, Wz = Wa.alloc (.cells #[.int .i64 0, .slice none 0 0, .int .i64 0] 83) := ⟨_, rfl⟩
  have hsz : Wz.heap.size = w.heap.size + 3 := by rw [hWz]; simp [hsa]
  have h5z : Wz.heap[w.heap.size + 2]? = some (.cells #[.int .i64 0, .slice none 0 0, .int .i64 0] 83 (0, 0)) := by rw [hWz, ← hsa, heap_alloc_last]
  have hbz : Below w.heap.size w Wz := by rw [hWz]; exact hba.alloc (by omega) _
  have hFz : Wz.heap[w.heap.size]? = some (.cells #[.string nm, .int .i64 kd, .int .i64 wd] 101 (0, 0)) := by rw [hWz, heap_alloc_old _ _ _ (by omega)]; exact hFa
  have h4z : Wz.heap[w.heap.size + 1]? = some (.cells #[.int .i64 0, .slice none 0 0, .int .i64 0] 83 (0, 0)) := by rw [hWz, heap_alloc_old _ _ _ (by omega)]; exact h4a
  obtain ⟨W0, hW0⟩ : ∃ W0, W0 = Wz.setRow (w.heap.size + 2) #[.int .i64 0, .slice none 0 0, .int .i64 0] := ⟨_, rfl⟩
  have h50 : W0.heap[w.heap.size + 2]? = some (.cells #[.int .i64 0, .slice none 0 0, .int .i64 0] 83 (0, 0)) := by rw [hW0]; exact setRow_heap _ _ _ _ _ _ h5z
  have h40 : W0.heap[w.heap.size + 1]? = some (.cells #[.int .i64 0, .slice none 0 0, .int .i64 0] 83 (0, 0)) := by rw [hW0]; exact (setRow_other _ _ _ _ (by omega)).trans h4z
  have hF0 : W0.heap[w.heap.size]? = some (.cells #[.string nm, .int .i64 kd, .int .i64 wd] 101 (0, 0)) := by rw [hW0]; exact (setRow_other _ _ _ _ (by omega)).trans hFz
  have hb0 : Below w.heap.size w W0 := by rw [hW0]; exact hbz.trans (below_setRow' _ _ _ _ (by omega))
  have hs0 : W0.heap.size = w.heap.size + 3 := by rw [hW0]; simp [hsz]
  have H0 := Lib.hid (h.below hb0 (Nat.le_refl _))
  have H := Lib.hid h
  have hR := h.lt
  have cs := fun (i : Nat) => cell_of_row W0 w.heap.size i _ _ _ hF0
  have HWa := Lib.hid hWa
  have HWz := Lib.hid hWz
  have HW0 := Lib.hid hW0
  have H5z := Lib.hid h5z
  have H50 := Lib.hid h50
  have H40 := Lib.hid h40
  have Hb0 := Lib.hid hb0
  have Hsa := Lib.hid hsa
  have Hs0 := Lib.hid hs0
  have kc : W0.cell? ⟨w.heap.size, 1, none⟩ = some (.int .i64 kd) := by rw [cs 1]; rfl
  have wc : W0.cell? ⟨w.heap.size, 2, none⟩ = some (.int .i64 wd) := by rw [cs 2]; rfl
  have hcall := ruint_any H0.out wd hw1 hw2
  obtain ⟨n, hn⟩ : ∃ n, n = (rfixV xs p wd false).1 := ⟨_, rfl⟩
  obtain ⟨er, her⟩ : ∃ er, er = (rfixV xs p wd false).2.1 := ⟨_, rfl⟩
  obtain ⟨q, hq⟩ : ∃ q, q = p + (rfixV xs p wd false).2.2 := ⟨_, rfl⟩
  rw [← hn, ← her, ← hq] at hcall ⊢
  have HC := Lib.hid hcall
  clear hcall hn her hq
  clear cs hWa hWz hW0 h5z h50 h40 hb0 h hFa h4a hFz h4z hF0 hba hbz hsa hsz hs0
  subst hk
  go_enter Try.func59, Try.ntmps59
  go_upto_region 1 with fail
  rw [← HWa.out]
  go_upto_region 2 with (rw [Hsa.out, ← HWz.out]; refine wpList_store_row rfl 83 (.tmp 5) (.tmp 6) rfl (w.heap.size + 2) #[.int .i64 0, .slice none 0 0, .int .i64 0] rfl rfl 83 #[.int .i64 0, .slice none 0 0, .int .i64 0] H5z.out (Try.sizeTold _ _ _) rfl (oneTold _ _ _ _ _) ?_)
  rw [← HW0.out]
  clear HWa HWz HW0 H5z Hsa
  go_wp2_with fail
  refine HC.out.mono ?_
  rintro e w1 ⟨rfl, hm⟩
  have k5 := grown_blk hm.grown H50.out (by omega)
  have k4 := grown_blk hm.grown H40.out (by omega)
  have Hm := Lib.hid (Moved.pre Hb0.out hm)
  clear hm H0 H50 H40 HC
  obtain ⟨W2, e2, k52, k42, bk2, ok2⟩ := told_set k5 k4 (by omega : w.heap.size + 1 ≠ w.heap.size + 2) 0 (.int .i64 n) (B := w.heap.size) (by omega)
  obtain ⟨W3, e3, k53, k43, bk3, ok3⟩ := told_set k52 k42 (by omega : w.heap.size + 1 ≠ w.heap.size + 2) 2 (.int .i64 er) (B := w.heap.size) (by omega)
  have p1 : w1.cell? ⟨w.heap.size + 2, 0, none⟩ = some (.int .i64 0) := by rw [cell_of_row _ _ _ _ _ _ k5]; rfl
  have q1 := frozen_of_row w1 (w.heap.size + 2) 0 _ _ k5
  have p2 : W2.cell? ⟨w.heap.size + 2, 2, none⟩ = some (.int .i64 0) := by rw [cell_of_row _ _ _ _ _ _ k52]; rfl
  have q2 := frozen_of_row W2 (w.heap.size + 2) 2 _ _ k52
  have p2' : (w1.setCell ⟨w.heap.size + 2, 0, none⟩ (.int .i64 n)).cell? ⟨w.heap.size + 2, 2, none⟩ = some (.int .i64 0) := by rw [e2]; exact p2
  have q2' : (w1.setCell ⟨w.heap.size + 2, 0, none⟩ (.int .i64 n)).frozen? ⟨w.heap.size + 2, 2, none⟩ = false := by rw [e2]; exact q2
  have p3 : w1.cell? ⟨w.heap.size + 2, 2, none⟩ = some (.int .i64 0) := by rw [cell_of_row _ _ _ _ _ _ k5]; rfl
  have q3 := frozen_of_row w1 (w.heap.size + 2) 2 _ _ k5
  have k53' : W3.heap[w.heap.size + 2]? = some (.cells #[.int .i64 n, .slice none 0 0, .int .i64 er] 83 (0, 0)) := k53
  have B3 := Lib.hid (bk2.trans bk3)
  have E2 := Lib.hid e2
  have E3 := Lib.hid e3
  have K53 := Lib.hid k53'
  have K43 := Lib.hid k43
  have O3 := Lib.hid (And.intro ok2 ok3)
  clear e2 e3 bk2 bk3 k52 k42 k53 k53' k43 ok2 ok3 k5 k4
  go_upto_region 12 with fail
  rw [E2.out, E3.out]
  clear E2 E3 p1 p2 q1 q2 p2' q2' p3 q3
  have c5 := fun (i : Nat) => cell_of_row W3 (w.heap.size + 2) i _ _ _ K53.out
  have d0 : W3.cell? ⟨w.heap.size + 2, 0, none⟩ = some (.int .i64 n) := by rw [c5 0]; rfl
  have d1 : W3.cell? ⟨w.heap.size + 2, 1, none⟩ = some (.slice none 0 0) := by rw [c5 1]; rfl
  have d2 : W3.cell? ⟨w.heap.size + 2, 2, none⟩ = some (.int .i64 er) := by rw [c5 2]; rfl
  clear c5
  go_wp2_with (refine wpList_store_row rfl 83 (.tmp 4) (.tmp 58) rfl (w.heap.size + 1) #[.int .i64 n, .slice none 0 0, .int .i64 er] rfl rfl 83 #[.int .i64 0, .slice none 0 0, .int .i64 0] K43.out (Try.sizeTold _ _ _) rfl (oneTold _ _ _ _ _) ?_)
  refine bodyPost_ret (v := .agg #[.int .i64 n, .slice none 0 0, .int .i64 er]) ?_ rfl ?_
  · exact results_cell_row rfl _ _ (w.heap.size + 1) 83 #[.int .i64 n, .slice none 0 0, .int .i64 er] (0, 0) _ rfl (setRow_heap _ _ _ _ _ _ K43.out) Try.underlying83 rfl (Try.sizeTold _ _ _)
  · exact ⟨_, rfl, none, 0, 0, rfl, Own.nil _ _, Moved.low H.out Hm.out (B3.out.trans (below_setRow' _ _ _ _ (by omega)))⟩
set_option maxRecDepth 100000 in
set_option maxHeartbeats 4000000 in
theorem lread_2 {w : World} {R p len cap : Nat} {a : Option Addr} {xs : List Int} (h : IsR w R p a len cap xs) (nm : ByteArray) (kd wd : Int) (hw1 : -9223372036854775808 ≤ wd) (hw2 : wd ≤ 9223372036854775807) (hbig : len ≤ 140737488355328) (hk : kd = 2) :
    Calls Try.prog 59 #[.pointer (some ⟨R, 0, none⟩), .agg #[.string nm, .int .i64 kd, .int .i64 wd]] w fun e w' => ∃ v, e = .returned v ∧ Told w R a len cap xs ((rfixV xs p wd true).1) ([]) ((rfixV xs p wd true).2.1) (p + (rfixV xs p wd true).2.2) v w' := by
  obtain ⟨Wa, hWa⟩ : ∃ Wa, Wa = (w.alloc (.cells #[.string nm, .int .i64 kd, .int .i64 wd] 101)).alloc (.cells #[.int .i64 0, .slice none 0 0, .int .i64 0] 83) := ⟨_, rfl⟩
  have hsa : Wa.heap.size = w.heap.size + 2 := by rw [hWa]; simp
  have hFa : Wa.heap[w.heap.size]? = some (.cells #[.string nm, .int .i64 kd, .int .i64 wd] 101 (0, 0)) := by rw [hWa, heap_alloc_old _ _ _ (by simp), heap_alloc_last]
  have h4a : Wa.heap[w.heap.size + 1]? = some (.cells #[.int .i64 0, .slice none 0 0, .int .i64 0] 83 (0, 0)) := by
    rw [hWa]; have := heap_alloc_last (w.alloc (.cells #[.string nm, .int .i64 kd, .int .i64 wd] 101)) (.cells #[.int .i64 0, .slice none 0 0, .int .i64 0] 83); simpa using this
  have hba : Below w.heap.size w Wa := by rw [hWa]; exact ((Below.refl _ w).alloc (Nat.le_refl _) _).alloc (by simp) _
  obtain ⟨Wz, hWz⟩ : ∃ Wz, Wz = Wa.alloc (.cells #[.int .i64 0, .slice none 0 0, .int .i64 0] 83) := ⟨_, rfl⟩
  have hsz : Wz.heap.size = w.heap.size + 3 := by rw [hWz]; simp [hsa]
  have h5z : Wz.heap[w.heap.size + 2]? = some (.cells #[.int .i64 0, .slice none 0 0, .int .i64 0] 83 (0, 0)) := by rw [hWz, ← hsa, heap_alloc_last]
  have hbz : Below w.heap.size w Wz := by rw [hWz]; exact hba.alloc (by omega) _
  have hFz : Wz.heap[w.heap.size]? = some (.cells #[.string nm, .int .i64 kd, .int .i64 wd] 101 (0, 0)) := by rw [hWz, heap_alloc_old _ _ _ (by omega)]; exact hFa
  have h4z : Wz.heap[w.heap.size + 1]? = some (.cells #[.int .i64 0, .slice none 0 0, .int .i64 0] 83 (0, 0)) := by rw [hWz, heap_alloc_old _ _ _ (by omega)]; exact h4a
  obtain ⟨W0, hW0⟩ : ∃ W0, W0 = Wz.setRow (w.heap.size + 2) #[.int .i64 0, .slice none 0 0, .int .i64 0] := ⟨_, rfl⟩
  have h50 : W0.heap[w.heap.size + 2]? = some (.cells #[.int .i64 0, .slice none 0 0, .int .i64 0] 83 (0, 0)) := by rw [hW0]; exact setRow_heap _ _ _ _ _ _ h5z
  have h40 : W0.heap[w.heap.size + 1]? = some (.cells #[.int .i64 0, .slice none 0 0, .int .i64 0] 83 (0, 0)) := by rw [hW0]; exact (setRow_other _ _ _ _ (by omega)).trans h4z
  have hF0 : W0.heap[w.heap.size]? = some (.cells #[.string nm, .int .i64 kd, .int .i64 wd] 101 (0, 0)) := by rw [hW0]; exact (setRow_other _ _ _ _ (by omega)).trans hFz
  have hb0 : Below w.heap.size w W0 := by rw [hW0]; exact hbz.trans (below_setRow' _ _ _ _ (by omega))
  have hs0 : W0.heap.size = w.heap.size + 3 := by rw [hW0]; simp [hsz]
  have H0 := Lib.hid (h.below hb0 (Nat.le_refl _))
  have H := Lib.hid h
  have hR := h.lt
  have cs := fun (i : Nat) => cell_of_row W0 w.heap.size i _ _ _ hF0
  have HWa := Lib.hid hWa
  have HWz := Lib.hid hWz
  have HW0 := Lib.hid hW0
  have H5z := Lib.hid h5z
  have H50 := Lib.hid h50
  have H40 := Lib.hid h40
  have Hb0 := Lib.hid hb0
  have Hsa := Lib.hid hsa
  have Hs0 := Lib.hid hs0
  have kc : W0.cell? ⟨w.heap.size, 1, none⟩ = some (.int .i64 kd) := by rw [cs 1]; rfl
  have wc : W0.cell? ⟨w.heap.size, 2, none⟩ = some (.int .i64 wd) := by rw [cs 2]; rfl
  have hcall := rint_any H0.out wd hw1 hw2
  obtain ⟨n, hn⟩ : ∃ n, n = (rfixV xs p wd true).1 := ⟨_, rfl⟩
  obtain ⟨er, her⟩ : ∃ er, er = (rfixV xs p wd true).2.1 := ⟨_, rfl⟩
  obtain ⟨q, hq⟩ : ∃ q, q = p + (rfixV xs p wd true).2.2 := ⟨_, rfl⟩
  rw [← hn, ← her, ← hq] at hcall ⊢
  have HC := Lib.hid hcall
  clear hcall hn her hq
  clear cs hWa hWz hW0 h5z h50 h40 hb0 h hFa h4a hFz h4z hF0 hba hbz hsa hsz hs0
  subst hk
  go_enter Try.func59, Try.ntmps59
  go_upto_region 1 with fail
  rw [← HWa.out]
  go_upto_region 2 with (rw [Hsa.out, ← HWz.out]; refine wpList_store_row rfl 83 (.tmp 5) (.tmp 6) rfl (w.heap.size + 2) #[.int .i64 0, .slice none 0 0, .int .i64 0] rfl rfl 83 #[.int .i64 0, .slice none 0 0, .int .i64 0] H5z.out (Try.sizeTold _ _ _) rfl (oneTold _ _ _ _ _) ?_)
  rw [← HW0.out]
  clear HWa HWz HW0 H5z Hsa
  go_wp2_with fail
  refine HC.out.mono ?_
  rintro e w1 ⟨rfl, hm⟩
  have k5 := grown_blk hm.grown H50.out (by omega)
  have k4 := grown_blk hm.grown H40.out (by omega)
  have Hm := Lib.hid (Moved.pre Hb0.out hm)
  clear hm H0 H50 H40 HC
  obtain ⟨W2, e2, k52, k42, bk2, ok2⟩ := told_set k5 k4 (by omega : w.heap.size + 1 ≠ w.heap.size + 2) 0 (.int .i64 n) (B := w.heap.size) (by omega)
  obtain ⟨W3, e3, k53, k43, bk3, ok3⟩ := told_set k52 k42 (by omega : w.heap.size + 1 ≠ w.heap.size + 2) 2 (.int .i64 er) (B := w.heap.size) (by omega)
  have p1 : w1.cell? ⟨w.heap.size + 2, 0, none⟩ = some (.int .i64 0) := by rw [cell_of_row _ _ _ _ _ _ k5]; rfl
  have q1 := frozen_of_row w1 (w.heap.size + 2) 0 _ _ k5
  have p2 : W2.cell? ⟨w.heap.size + 2, 2, none⟩ = some (.int .i64 0) := by rw [cell_of_row _ _ _ _ _ _ k52]; rfl
  have q2 := frozen_of_row W2 (w.heap.size + 2) 2 _ _ k52
  have p2' : (w1.setCell ⟨w.heap.size + 2, 0, none⟩ (.int .i64 n)).cell? ⟨w.heap.size + 2, 2, none⟩ = some (.int .i64 0) := by rw [e2]; exact p2
  have q2' : (w1.setCell ⟨w.heap.size + 2, 0, none⟩ (.int .i64 n)).frozen? ⟨w.heap.size + 2, 2, none⟩ = false := by rw [e2]; exact q2
  have p3 : w1.cell? ⟨w.heap.size + 2, 2, none⟩ = some (.int .i64 0) := by rw [cell_of_row _ _ _ _ _ _ k5]; rfl
  have q3 := frozen_of_row w1 (w.heap.size + 2) 2 _ _ k5
  have k53' : W3.heap[w.heap.size + 2]? = some (.cells #[.int .i64 n, .slice none 0 0, .int .i64 er] 83 (0, 0)) := k53
  have B3 := Lib.hid (bk2.trans bk3)
  have E2 := Lib.hid e2
  have E3 := Lib.hid e3
  have K53 := Lib.hid k53'
  have K43 := Lib.hid k43
  have O3 := Lib.hid (And.intro ok2 ok3)
  clear e2 e3 bk2 bk3 k52 k42 k53 k53' k43 ok2 ok3 k5 k4
  go_upto_region 12 with fail
  rw [E2.out, E3.out]
  clear E2 E3 p1 p2 q1 q2 p2' q2' p3 q3
  have c5 := fun (i : Nat) => cell_of_row W3 (w.heap.size + 2) i _ _ _ K53.out
  have d0 : W3.cell? ⟨w.heap.size + 2, 0, none⟩ = some (.int .i64 n) := by rw [c5 0]; rfl
  have d1 : W3.cell? ⟨w.heap.size + 2, 1, none⟩ = some (.slice none 0 0) := by rw [c5 1]; rfl
  have d2 : W3.cell? ⟨w.heap.size + 2, 2, none⟩ = some (.int .i64 er) := by rw [c5 2]; rfl
  clear c5
  go_wp2_with (refine wpList_store_row rfl 83 (.tmp 4) (.tmp 58) rfl (w.heap.size + 1) #[.int .i64 n, .slice none 0 0, .int .i64 er] rfl rfl 83 #[.int .i64 0, .slice none 0 0, .int .i64 0] K43.out (Try.sizeTold _ _ _) rfl (oneTold _ _ _ _ _) ?_)
  refine bodyPost_ret (v := .agg #[.int .i64 n, .slice none 0 0, .int .i64 er]) ?_ rfl ?_
  · exact results_cell_row rfl _ _ (w.heap.size + 1) 83 #[.int .i64 n, .slice none 0 0, .int .i64 er] (0, 0) _ rfl (setRow_heap _ _ _ _ _ _ K43.out) Try.underlying83 rfl (Try.sizeTold _ _ _)
  · exact ⟨_, rfl, none, 0, 0, rfl, Own.nil _ _, Moved.low H.out Hm.out (B3.out.trans (below_setRow' _ _ _ _ (by omega)))⟩
set_option maxRecDepth 100000 in
set_option maxHeartbeats 4000000 in
theorem lread_3 {w : World} {R p len cap : Nat} {a : Option Addr} {xs : List Int} (h : IsR w R p a len cap xs) (nm : ByteArray) (kd wd : Int) (hw1 : -9223372036854775808 ≤ wd) (hw2 : wd ≤ 9223372036854775807) (hbig : len ≤ 140737488355328) (hk : kd = 3) :
    Calls Try.prog 59 #[.pointer (some ⟨R, 0, none⟩), .agg #[.string nm, .int .i64 kd, .int .i64 wd]] w fun e w' => ∃ v, e = .returned v ∧ Told w R a len cap xs ((toVarV (xs.drop p)).1) ([]) ((toVarV (xs.drop p)).2.2) (p + (toVarV (xs.drop p)).2.1.toNat) v w' := by
  obtain ⟨Wa, hWa⟩ : ∃ Wa, Wa = (w.alloc (.cells #[.string nm, .int .i64 kd, .int .i64 wd] 101)).alloc (.cells #[.int .i64 0, .slice none 0 0, .int .i64 0] 83) := ⟨_, rfl⟩
  have hsa : Wa.heap.size = w.heap.size + 2 := by rw [hWa]; simp
  have hFa : Wa.heap[w.heap.size]? = some (.cells #[.string nm, .int .i64 kd, .int .i64 wd] 101 (0, 0)) := by rw [hWa, heap_alloc_old _ _ _ (by simp), heap_alloc_last]
  have h4a : Wa.heap[w.heap.size + 1]? = some (.cells #[.int .i64 0, .slice none 0 0, .int .i64 0] 83 (0, 0)) := by
    rw [hWa]; have := heap_alloc_last (w.alloc (.cells #[.string nm, .int .i64 kd, .int .i64 wd] 101)) (.cells #[.int .i64 0, .slice none 0 0, .int .i64 0] 83); simpa using this
  have hba : Below w.heap.size w Wa := by rw [hWa]; exact ((Below.refl _ w).alloc (Nat.le_refl _) _).alloc (by simp) _
  obtain ⟨Wz, hWz⟩ : ∃ Wz, Wz = Wa.alloc (.cells #[.int .i64 0, .slice none 0 0, .int .i64 0] 83) := ⟨_, rfl⟩
  have hsz : Wz.heap.size = w.heap.size + 3 := by rw [hWz]; simp [hsa]
  have h5z : Wz.heap[w.heap.size + 2]? = some (.cells #[.int .i64 0, .slice none 0 0, .int .i64 0] 83 (0, 0)) := by rw [hWz, ← hsa, heap_alloc_last]
  have hbz : Below w.heap.size w Wz := by rw [hWz]; exact hba.alloc (by omega) _
  have hFz : Wz.heap[w.heap.size]? = some (.cells #[.string nm, .int .i64 kd, .int .i64 wd] 101 (0, 0)) := by rw [hWz, heap_alloc_old _ _ _ (by omega)]; exact hFa
  have h4z : Wz.heap[w.heap.size + 1]? = some (.cells #[.int .i64 0, .slice none 0 0, .int .i64 0] 83 (0, 0)) := by rw [hWz, heap_alloc_old _ _ _ (by omega)]; exact h4a
  obtain ⟨W0, hW0⟩ : ∃ W0, W0 = Wz.setRow (w.heap.size + 2) #[.int .i64 0, .slice none 0 0, .int .i64 0] := ⟨_, rfl⟩
  have h50 : W0.heap[w.heap.size + 2]? = some (.cells #[.int .i64 0, .slice none 0 0, .int .i64 0] 83 (0, 0)) := by rw [hW0]; exact setRow_heap _ _ _ _ _ _ h5z
  have h40 : W0.heap[w.heap.size + 1]? = some (.cells #[.int .i64 0, .slice none 0 0, .int .i64 0] 83 (0, 0)) := by rw [hW0]; exact (setRow_other _ _ _ _ (by omega)).trans h4z
  have hF0 : W0.heap[w.heap.size]? = some (.cells #[.string nm, .int .i64 kd, .int .i64 wd] 101 (0, 0)) := by rw [hW0]; exact (setRow_other _ _ _ _ (by omega)).trans hFz
  have hb0 : Below w.heap.size w W0 := by rw [hW0]; exact hbz.trans (below_setRow' _ _ _ _ (by omega))
  have hs0 : W0.heap.size = w.heap.size + 3 := by rw [hW0]; simp [hsz]
  have H0 := Lib.hid (h.below hb0 (Nat.le_refl _))
  have H := Lib.hid h
  have hR := h.lt
  have cs := fun (i : Nat) => cell_of_row W0 w.heap.size i _ _ _ hF0
  have HWa := Lib.hid hWa
  have HWz := Lib.hid hWz
  have HW0 := Lib.hid hW0
  have H5z := Lib.hid h5z
  have H50 := Lib.hid h50
  have H40 := Lib.hid h40
  have Hb0 := Lib.hid hb0
  have Hsa := Lib.hid hsa
  have Hs0 := Lib.hid hs0
  have kc : W0.cell? ⟨w.heap.size, 1, none⟩ = some (.int .i64 kd) := by rw [cs 1]; rfl
  have wc : W0.cell? ⟨w.heap.size, 2, none⟩ = some (.int .i64 wd) := by rw [cs 2]; rfl
  have hcall := rvar_any H0.out
  obtain ⟨n, hn⟩ : ∃ n, n = (toVarV (xs.drop p)).1 := ⟨_, rfl⟩
  obtain ⟨er, her⟩ : ∃ er, er = (toVarV (xs.drop p)).2.2 := ⟨_, rfl⟩
  obtain ⟨q, hq⟩ : ∃ q, q = p + (toVarV (xs.drop p)).2.1.toNat := ⟨_, rfl⟩
  rw [← hn, ← her, ← hq] at hcall ⊢
  have HC := Lib.hid hcall
  clear hcall hn her hq
  clear cs hWa hWz hW0 h5z h50 h40 hb0 h hFa h4a hFz h4z hF0 hba hbz hsa hsz hs0
  subst hk
  go_enter Try.func59, Try.ntmps59
  go_upto_region 1 with fail
  rw [← HWa.out]
  go_upto_region 2 with (rw [Hsa.out, ← HWz.out]; refine wpList_store_row rfl 83 (.tmp 5) (.tmp 6) rfl (w.heap.size + 2) #[.int .i64 0, .slice none 0 0, .int .i64 0] rfl rfl 83 #[.int .i64 0, .slice none 0 0, .int .i64 0] H5z.out (Try.sizeTold _ _ _) rfl (oneTold _ _ _ _ _) ?_)
  rw [← HW0.out]
  clear HWa HWz HW0 H5z Hsa
  go_wp2_with fail
  refine HC.out.mono ?_
  rintro e w1 ⟨rfl, hm⟩
  have k5 := grown_blk hm.grown H50.out (by omega)
  have k4 := grown_blk hm.grown H40.out (by omega)
  have Hm := Lib.hid (Moved.pre Hb0.out hm)
  clear hm H0 H50 H40 HC
  obtain ⟨W2, e2, k52, k42, bk2, ok2⟩ := told_set k5 k4 (by omega : w.heap.size + 1 ≠ w.heap.size + 2) 0 (.int .i64 n) (B := w.heap.size) (by omega)
  obtain ⟨W3, e3, k53, k43, bk3, ok3⟩ := told_set k52 k42 (by omega : w.heap.size + 1 ≠ w.heap.size + 2) 2 (.int .i64 er) (B := w.heap.size) (by omega)
  have p1 : w1.cell? ⟨w.heap.size + 2, 0, none⟩ = some (.int .i64 0) := by rw [cell_of_row _ _ _ _ _ _ k5]; rfl
  have q1 := frozen_of_row w1 (w.heap.size + 2) 0 _ _ k5
  have p2 : W2.cell? ⟨w.heap.size + 2, 2, none⟩ = some (.int .i64 0) := by rw [cell_of_row _ _ _ _ _ _ k52]; rfl
  have q2 := frozen_of_row W2 (w.heap.size + 2) 2 _ _ k52
  have p2' : (w1.setCell ⟨w.heap.size + 2, 0, none⟩ (.int .i64 n)).cell? ⟨w.heap.size + 2, 2, none⟩ = some (.int .i64 0) := by rw [e2]; exact p2
  have q2' : (w1.setCell ⟨w.heap.size + 2, 0, none⟩ (.int .i64 n)).frozen? ⟨w.heap.size + 2, 2, none⟩ = false := by rw [e2]; exact q2
  have p3 : w1.cell? ⟨w.heap.size + 2, 2, none⟩ = some (.int .i64 0) := by rw [cell_of_row _ _ _ _ _ _ k5]; rfl
  have q3 := frozen_of_row w1 (w.heap.size + 2) 2 _ _ k5
  have k53' : W3.heap[w.heap.size + 2]? = some (.cells #[.int .i64 n, .slice none 0 0, .int .i64 er] 83 (0, 0)) := k53
  have B3 := Lib.hid (bk2.trans bk3)
  have E2 := Lib.hid e2
  have E3 := Lib.hid e3
  have K53 := Lib.hid k53'
  have K43 := Lib.hid k43
  have O3 := Lib.hid (And.intro ok2 ok3)
  clear e2 e3 bk2 bk3 k52 k42 k53 k53' k43 ok2 ok3 k5 k4
  go_upto_region 12 with fail
  rw [E2.out, E3.out]
  clear E2 E3 p1 p2 q1 q2 p2' q2' p3 q3
  have c5 := fun (i : Nat) => cell_of_row W3 (w.heap.size + 2) i _ _ _ K53.out
  have d0 : W3.cell? ⟨w.heap.size + 2, 0, none⟩ = some (.int .i64 n) := by rw [c5 0]; rfl
  have d1 : W3.cell? ⟨w.heap.size + 2, 1, none⟩ = some (.slice none 0 0) := by rw [c5 1]; rfl
  have d2 : W3.cell? ⟨w.heap.size + 2, 2, none⟩ = some (.int .i64 er) := by rw [c5 2]; rfl
  clear c5
  go_wp2_with (refine wpList_store_row rfl 83 (.tmp 4) (.tmp 58) rfl (w.heap.size + 1) #[.int .i64 n, .slice none 0 0, .int .i64 er] rfl rfl 83 #[.int .i64 0, .slice none 0 0, .int .i64 0] K43.out (Try.sizeTold _ _ _) rfl (oneTold _ _ _ _ _) ?_)
  refine bodyPost_ret (v := .agg #[.int .i64 n, .slice none 0 0, .int .i64 er]) ?_ rfl ?_
  · exact results_cell_row rfl _ _ (w.heap.size + 1) 83 #[.int .i64 n, .slice none 0 0, .int .i64 er] (0, 0) _ rfl (setRow_heap _ _ _ _ _ _ K43.out) Try.underlying83 rfl (Try.sizeTold _ _ _)
  · exact ⟨_, rfl, none, 0, 0, rfl, Own.nil _ _, Moved.low H.out Hm.out (B3.out.trans (below_setRow' _ _ _ _ (by omega)))⟩
set_option maxRecDepth 100000 in
set_option maxHeartbeats 4000000 in
theorem lread_5 {w : World} {R p len cap : Nat} {a : Option Addr} {xs : List Int} (h : IsR w R p a len cap xs) (nm : ByteArray) (kd wd : Int) (hw1 : -9223372036854775808 ≤ wd) (hw2 : wd ≤ 9223372036854775807) (hbig : len ≤ 140737488355328) (hk : kd = 5) :
    Calls Try.prog 59 #[.pointer (some ⟨R, 0, none⟩), .agg #[.string nm, .int .i64 kd, .int .i64 wd]] w fun e w' => ∃ v, e = .returned v ∧ Told w R a len cap xs (0) ((toTextV (xs.drop p)).1) ((toTextV (xs.drop p)).2.2) (p + (toTextV (xs.drop p)).2.1.toNat) v w' := by
  obtain ⟨Wa, hWa⟩ : ∃ Wa, Wa = (w.alloc (.cells #[.string nm, .int .i64 kd, .int .i64 wd] 101)).alloc (.cells #[.int .i64 0, .slice none 0 0, .int .i64 0] 83) := ⟨_, rfl⟩
  have hsa : Wa.heap.size = w.heap.size + 2 := by rw [hWa]; simp
  have hFa : Wa.heap[w.heap.size]? = some (.cells #[.string nm, .int .i64 kd, .int .i64 wd] 101 (0, 0)) := by rw [hWa, heap_alloc_old _ _ _ (by simp), heap_alloc_last]
  have h4a : Wa.heap[w.heap.size + 1]? = some (.cells #[.int .i64 0, .slice none 0 0, .int .i64 0] 83 (0, 0)) := by
    rw [hWa]; have := heap_alloc_last (w.alloc (.cells #[.string nm, .int .i64 kd, .int .i64 wd] 101)) (.cells #[.int .i64 0, .slice none 0 0, .int .i64 0] 83); simpa using this
  have hba : Below w.heap.size w Wa := by rw [hWa]; exact ((Below.refl _ w).alloc (Nat.le_refl _) _).alloc (by simp) _
  obtain ⟨Wz, hWz⟩ : ∃ Wz, Wz = Wa.alloc (.cells #[.int .i64 0, .slice none 0 0, .int .i64 0] 83) := ⟨_, rfl⟩
  have hsz : Wz.heap.size = w.heap.size + 3 := by rw [hWz]; simp [hsa]
  have h5z : Wz.heap[w.heap.size + 2]? = some (.cells #[.int .i64 0, .slice none 0 0, .int .i64 0] 83 (0, 0)) := by rw [hWz, ← hsa, heap_alloc_last]
  have hbz : Below w.heap.size w Wz := by rw [hWz]; exact hba.alloc (by omega) _
  have hFz : Wz.heap[w.heap.size]? = some (.cells #[.string nm, .int .i64 kd, .int .i64 wd] 101 (0, 0)) := by rw [hWz, heap_alloc_old _ _ _ (by omega)]; exact hFa
  have h4z : Wz.heap[w.heap.size + 1]? = some (.cells #[.int .i64 0, .slice none 0 0, .int .i64 0] 83 (0, 0)) := by rw [hWz, heap_alloc_old _ _ _ (by omega)]; exact h4a
  obtain ⟨W0, hW0⟩ : ∃ W0, W0 = Wz.setRow (w.heap.size + 2) #[.int .i64 0, .slice none 0 0, .int .i64 0] := ⟨_, rfl⟩
  have h50 : W0.heap[w.heap.size + 2]? = some (.cells #[.int .i64 0, .slice none 0 0, .int .i64 0] 83 (0, 0)) := by rw [hW0]; exact setRow_heap _ _ _ _ _ _ h5z
  have h40 : W0.heap[w.heap.size + 1]? = some (.cells #[.int .i64 0, .slice none 0 0, .int .i64 0] 83 (0, 0)) := by rw [hW0]; exact (setRow_other _ _ _ _ (by omega)).trans h4z
  have hF0 : W0.heap[w.heap.size]? = some (.cells #[.string nm, .int .i64 kd, .int .i64 wd] 101 (0, 0)) := by rw [hW0]; exact (setRow_other _ _ _ _ (by omega)).trans hFz
  have hb0 : Below w.heap.size w W0 := by rw [hW0]; exact hbz.trans (below_setRow' _ _ _ _ (by omega))
  have hs0 : W0.heap.size = w.heap.size + 3 := by rw [hW0]; simp [hsz]
  have H0 := Lib.hid (h.below hb0 (Nat.le_refl _))
  have H := Lib.hid h
  have hR := h.lt
  have cs := fun (i : Nat) => cell_of_row W0 w.heap.size i _ _ _ hF0
  have HWa := Lib.hid hWa
  have HWz := Lib.hid hWz
  have HW0 := Lib.hid hW0
  have H5z := Lib.hid h5z
  have H50 := Lib.hid h50
  have H40 := Lib.hid h40
  have Hb0 := Lib.hid hb0
  have Hsa := Lib.hid hsa
  have Hs0 := Lib.hid hs0
  have kc : W0.cell? ⟨w.heap.size, 1, none⟩ = some (.int .i64 kd) := by rw [cs 1]; rfl
  have wc : W0.cell? ⟨w.heap.size, 2, none⟩ = some (.int .i64 wd) := by rw [cs 2]; rfl
  have hcall := rtext_any H0.out
  obtain ⟨bs, hbs⟩ : ∃ bs, bs = (toTextV (xs.drop p)).1 := ⟨_, rfl⟩
  obtain ⟨er, her⟩ : ∃ er, er = (toTextV (xs.drop p)).2.2 := ⟨_, rfl⟩
  obtain ⟨q, hq⟩ : ∃ q, q = p + (toTextV (xs.drop p)).2.1.toNat := ⟨_, rfl⟩
  rw [← hbs, ← hq, ← her] at hcall ⊢
  have HC := Lib.hid hcall
  clear hcall hbs her hq
  clear cs hWa hWz hW0 h5z h50 h40 hb0 h hFa h4a hFz h4z hF0 hba hbz hsa hsz hs0
  subst hk
  go_enter Try.func59, Try.ntmps59
  go_upto_region 1 with fail
  rw [← HWa.out]
  go_upto_region 2 with (rw [Hsa.out, ← HWz.out]; refine wpList_store_row rfl 83 (.tmp 5) (.tmp 6) rfl (w.heap.size + 2) #[.int .i64 0, .slice none 0 0, .int .i64 0] rfl rfl 83 #[.int .i64 0, .slice none 0 0, .int .i64 0] H5z.out (Try.sizeTold _ _ _) rfl (oneTold _ _ _ _ _) ?_)
  rw [← HW0.out]
  clear HWa HWz HW0 H5z Hsa
  go_wp2_with fail
  refine HC.out.mono ?_
  rintro e w1 ⟨v, rfl, ho, hm⟩
  have hs0 := Hs0.out
  obtain ⟨a1, c1, rfl, hr⟩ := ho.rd
  obtain ⟨m, hml⟩ : ∃ m, m = bs.length := ⟨_, rfl⟩
  rw [← hml] at ho ⊢
  have k5 := grown_blk hm.grown H50.out (by omega)
  have k4 := grown_blk hm.grown H40.out (by omega)
  have Hm := Lib.hid (Moved.pre Hb0.out hm)
  have Ho := Lib.hid ho
  clear hm H0 H50 H40 HC ho hr hml
  obtain ⟨W2, e2, k52, k42, bk2, ok2⟩ := told_set k5 k4 (by omega : w.heap.size + 1 ≠ w.heap.size + 2) 1 (.slice a1 m c1) (B := w.heap.size) (by omega)
  obtain ⟨W3, e3, k53, k43, bk3, ok3⟩ := told_set k52 k42 (by omega : w.heap.size + 1 ≠ w.heap.size + 2) 2 (.int .i64 er) (B := w.heap.size) (by omega)
  have p1 : w1.cell? ⟨w.heap.size + 2, 1, none⟩ = some (.slice none 0 0) := by rw [cell_of_row _ _ _ _ _ _ k5]; rfl
  have q1 := frozen_of_row w1 (w.heap.size + 2) 1 _ _ k5
  have p2 : W2.cell? ⟨w.heap.size + 2, 2, none⟩ = some (.int .i64 0) := by rw [cell_of_row _ _ _ _ _ _ k52]; rfl
  have q2 := frozen_of_row W2 (w.heap.size + 2) 2 _ _ k52
  have p2' : (w1.setCell ⟨w.heap.size + 2, 1, none⟩ (.slice a1 m c1)).cell? ⟨w.heap.size + 2, 2, none⟩ = some (.int .i64 0) := by rw [e2]; exact p2
  have q2' : (w1.setCell ⟨w.heap.size + 2, 1, none⟩ (.slice a1 m c1)).frozen? ⟨w.heap.size + 2, 2, none⟩ = false := by rw [e2]; exact q2
  have p3 : w1.cell? ⟨w.heap.size + 2, 2, none⟩ = some (.int .i64 0) := by rw [cell_of_row _ _ _ _ _ _ k5]; rfl
  have q3 := frozen_of_row w1 (w.heap.size + 2) 2 _ _ k5
  have k53' : W3.heap[w.heap.size + 2]? = some (.cells #[.int .i64 0, .slice a1 m c1, .int .i64 er] 83 (0, 0)) := k53
  have B3 := Lib.hid (bk2.trans bk3)
  have E2 := Lib.hid e2
  have E3 := Lib.hid e3
  have K53 := Lib.hid k53'
  have K43 := Lib.hid k43
  have O3 := Lib.hid (And.intro ok2 ok3)
  clear e2 e3 bk2 bk3 k52 k42 k53 k53' k43 ok2 ok3 k5 k4
  go_upto_region 12 with fail
  rw [E2.out, E3.out]
  clear E2 E3 p1 p2 q1 q2 p2' q2' p3 q3
  have c5 := fun (i : Nat) => cell_of_row W3 (w.heap.size + 2) i _ _ _ K53.out
  have d0 : W3.cell? ⟨w.heap.size + 2, 0, none⟩ = some (.int .i64 0) := by rw [c5 0]; rfl
  have d1 : W3.cell? ⟨w.heap.size + 2, 1, none⟩ = some (.slice a1 m c1) := by rw [c5 1]; rfl
  have d2 : W3.cell? ⟨w.heap.size + 2, 2, none⟩ = some (.int .i64 er) := by rw [c5 2]; rfl
  clear c5
  go_wp2_with (refine wpList_store_row rfl 83 (.tmp 4) (.tmp 58) rfl (w.heap.size + 1) #[.int .i64 0, .slice a1 m c1, .int .i64 er] rfl rfl 83 #[.int .i64 0, .slice none 0 0, .int .i64 0] K43.out (Try.sizeTold _ _ _) rfl (oneTold _ _ _ _ _) ?_)
  refine bodyPost_ret (v := .agg #[.int .i64 0, .slice a1 m c1, .int .i64 er]) ?_ rfl ?_
  · exact results_cell_row rfl _ _ (w.heap.size + 1) 83 #[.int .i64 0, .slice a1 m c1, .int .i64 er] (0, 0) _ rfl (setRow_heap _ _ _ _ _ _ K43.out) Try.underlying83 rfl (Try.sizeTold _ _ _)
  · exact ⟨_, rfl, a1, m, c1, rfl, ((O3.out.2 _ _ _ (by omega) (O3.out.1 _ _ _ (by omega) Ho.out)).setRow (by omega) _).mono (by omega), Moved.low H.out Hm.out (B3.out.trans (below_setRow' _ _ _ _ (by omega)))⟩
set_option maxRecDepth 100000 in
set_option maxHeartbeats 4000000 in
theorem lread_4 {w : World} {R p len cap : Nat} {a : Option Addr} {xs : List Int} (h : IsR w R p a len cap xs) (nm : ByteArray) (kd wd : Int) (hw1 : -9223372036854775808 ≤ wd) (hw2 : wd ≤ 9223372036854775807) (hbig : len ≤ 140737488355328) (hk : kd = 4) :
    Calls Try.prog 59 #[.pointer (some ⟨R, 0, none⟩), .agg #[.string nm, .int .i64 kd, .int .i64 wd]] w fun e w' => ∃ v, e = .returned v ∧ Told w R a len cap xs (0) (aheadB xs p wd) (aheadE ((xs.length : Int) - p) wd) (p + stepV (aheadE ((xs.length : Int) - p) wd) wd) v w' := by
  obtain ⟨Wa, hWa⟩ : ∃ Wa, Wa = (w.alloc (.cells #[.string nm, .int .i64 kd, .int .i64 wd] 101)).alloc (.cells #[.int .i64 0, .slice none 0 0, .int .i64 0] 83) := ⟨_, rfl⟩
  have hsa : Wa.heap.size = w.heap.size + 2 := by rw [hWa]; simp
  have hFa : Wa.heap[w.heap.size]? = some (.cells #[.string nm, .int .i64 kd, .int .i64 wd] 101 (0, 0)) := by rw [hWa, heap_alloc_old _ _ _ (by simp), heap_alloc_last]
  have h4a : Wa.heap[w.heap.size + 1]? = some (.cells #[.int .i64 0, .slice none 0 0, .int .i64 0] 83 (0, 0)) := by
    rw [hWa]; have := heap_alloc_last (w.alloc (.cells #[.string nm, .int .i64 kd, .int .i64 wd] 101)) (.cells #[.int .i64 0, .slice none 0 0, .int .i64 0] 83); simpa using this
  have hba : Below w.heap.size w Wa := by rw [hWa]; exact ((Below.refl _ w).alloc (Nat.le_refl _) _).alloc (by simp) _
  obtain ⟨Wz, hWz⟩ : ∃ Wz, Wz = Wa.alloc (.cells #[.int .i64 0, .slice none 0 0, .int .i64 0] 83) := ⟨_, rfl⟩
  have hsz : Wz.heap.size = w.heap.size + 3 := by rw [hWz]; simp [hsa]
  have h5z : Wz.heap[w.heap.size + 2]? = some (.cells #[.int .i64 0, .slice none 0 0, .int .i64 0] 83 (0, 0)) := by rw [hWz, ← hsa, heap_alloc_last]
  have hbz : Below w.heap.size w Wz := by rw [hWz]; exact hba.alloc (by omega) _
  have hFz : Wz.heap[w.heap.size]? = some (.cells #[.string nm, .int .i64 kd, .int .i64 wd] 101 (0, 0)) := by rw [hWz, heap_alloc_old _ _ _ (by omega)]; exact hFa
  have h4z : Wz.heap[w.heap.size + 1]? = some (.cells #[.int .i64 0, .slice none 0 0, .int .i64 0] 83 (0, 0)) := by rw [hWz, heap_alloc_old _ _ _ (by omega)]; exact h4a
  obtain ⟨W0, hW0⟩ : ∃ W0, W0 = Wz.setRow (w.heap.size + 2) #[.int .i64 0, .slice none 0 0, .int .i64 0] := ⟨_, rfl⟩
  have h50 : W0.heap[w.heap.size + 2]? = some (.cells #[.int .i64 0, .slice none 0 0, .int .i64 0] 83 (0, 0)) := by rw [hW0]; exact setRow_heap _ _ _ _ _ _ h5z
  have h40 : W0.heap[w.heap.size + 1]? = some (.cells #[.int .i64 0, .slice none 0 0, .int .i64 0] 83 (0, 0)) := by rw [hW0]; exact (setRow_other _ _ _ _ (by omega)).trans h4z
  have hF0 : W0.heap[w.heap.size]? = some (.cells #[.string nm, .int .i64 kd, .int .i64 wd] 101 (0, 0)) := by rw [hW0]; exact (setRow_other _ _ _ _ (by omega)).trans hFz
  have hb0 : Below w.heap.size w W0 := by rw [hW0]; exact hbz.trans (below_setRow' _ _ _ _ (by omega))
  have hs0 : W0.heap.size = w.heap.size + 3 := by rw [hW0]; simp [hsz]
  have H0 := Lib.hid (h.below hb0 (Nat.le_refl _))
  have H := Lib.hid h
  have hR := h.lt
  have cs := fun (i : Nat) => cell_of_row W0 w.heap.size i _ _ _ hF0
  have HWa := Lib.hid hWa
  have HWz := Lib.hid hWz
  have HW0 := Lib.hid hW0
  have H5z := Lib.hid h5z
  have H50 := Lib.hid h50
  have H40 := Lib.hid h40
  have Hb0 := Lib.hid hb0
  have Hsa := Lib.hid hsa
  have Hs0 := Lib.hid hs0
  have kc : W0.cell? ⟨w.heap.size, 1, none⟩ = some (.int .i64 kd) := by rw [cs 1]; rfl
  have wc : W0.cell? ⟨w.heap.size, 2, none⟩ = some (.int .i64 wd) := by rw [cs 2]; rfl
  have hcall := bytes_any H0.out wd hw2 hbig
  obtain ⟨bs, hbs⟩ : ∃ bs, bs = aheadB xs p wd := ⟨_, rfl⟩
  obtain ⟨er, her⟩ : ∃ er, er = aheadE ((xs.length : Int) - p) wd := ⟨_, rfl⟩
  obtain ⟨q, hq⟩ : ∃ q, q = p + stepV (aheadE ((xs.length : Int) - p) wd) wd := ⟨_, rfl⟩
  rw [← hbs, ← hq, ← her] at hcall ⊢
  have HC := Lib.hid hcall
  clear hcall hbs her hq
  clear cs hWa hWz hW0 h5z h50 h40 hb0 h hFa h4a hFz h4z hF0 hba hbz hsa hsz hs0
  subst hk
  go_enter Try.func59, Try.ntmps59
  go_upto_region 1 with fail
  rw [← HWa.out]
  go_upto_region 2 with (rw [Hsa.out, ← HWz.out]; refine wpList_store_row rfl 83 (.tmp 5) (.tmp 6) rfl (w.heap.size + 2) #[.int .i64 0, .slice none 0 0, .int .i64 0] rfl rfl 83 #[.int .i64 0, .slice none 0 0, .int .i64 0] H5z.out (Try.sizeTold _ _ _) rfl (oneTold _ _ _ _ _) ?_)
  rw [← HW0.out]
  clear HWa HWz HW0 H5z Hsa
  go_wp2_with fail
  refine HC.out.mono ?_
  rintro e w1 ⟨v, rfl, ho, hm⟩
  have hs0 := Hs0.out
  obtain ⟨a1, c1, rfl, hr⟩ := ho.rd
  obtain ⟨m, hml⟩ : ∃ m, m = bs.length := ⟨_, rfl⟩
  rw [← hml] at ho ⊢
  have k5 := grown_blk hm.grown H50.out (by omega)
  have k4 := grown_blk hm.grown H40.out (by omega)
  have Hm := Lib.hid (Moved.pre Hb0.out hm)
  have Ho := Lib.hid ho
  clear hm H0 H50 H40 HC ho hr hml
  obtain ⟨W2, e2, k52, k42, bk2, ok2⟩ := told_set k5 k4 (by omega : w.heap.size + 1 ≠ w.heap.size + 2) 1 (.slice a1 m c1) (B := w.heap.size) (by omega)
  obtain ⟨W3, e3, k53, k43, bk3, ok3⟩ := told_set k52 k42 (by omega : w.heap.size + 1 ≠ w.heap.size + 2) 2 (.int .i64 er) (B := w.heap.size) (by omega)
  have p1 : w1.cell? ⟨w.heap.size + 2, 1, none⟩ = some (.slice none 0 0) := by rw [cell_of_row _ _ _ _ _ _ k5]; rfl
  have q1 := frozen_of_row w1 (w.heap.size + 2) 1 _ _ k5
  have p2 : W2.cell? ⟨w.heap.size + 2, 2, none⟩ = some (.int .i64 0) := by rw [cell_of_row _ _ _ _ _ _ k52]; rfl
  have q2 := frozen_of_row W2 (w.heap.size + 2) 2 _ _ k52
  have p2' : (w1.setCell ⟨w.heap.size + 2, 1, none⟩ (.slice a1 m c1)).cell? ⟨w.heap.size + 2, 2, none⟩ = some (.int .i64 0) := by rw [e2]; exact p2
  have q2' : (w1.setCell ⟨w.heap.size + 2, 1, none⟩ (.slice a1 m c1)).frozen? ⟨w.heap.size + 2, 2, none⟩ = false := by rw [e2]; exact q2
  have p3 : w1.cell? ⟨w.heap.size + 2, 2, none⟩ = some (.int .i64 0) := by rw [cell_of_row _ _ _ _ _ _ k5]; rfl
  have q3 := frozen_of_row w1 (w.heap.size + 2) 2 _ _ k5
  have k53' : W3.heap[w.heap.size + 2]? = some (.cells #[.int .i64 0, .slice a1 m c1, .int .i64 er] 83 (0, 0)) := k53
  have B3 := Lib.hid (bk2.trans bk3)
  have E2 := Lib.hid e2
  have E3 := Lib.hid e3
  have K53 := Lib.hid k53'
  have K43 := Lib.hid k43
  have O3 := Lib.hid (And.intro ok2 ok3)
  clear e2 e3 bk2 bk3 k52 k42 k53 k53' k43 ok2 ok3 k5 k4
  go_upto_region 12 with fail
  rw [E2.out, E3.out]
  clear E2 E3 p1 p2 q1 q2 p2' q2' p3 q3
  have c5 := fun (i : Nat) => cell_of_row W3 (w.heap.size + 2) i _ _ _ K53.out
  have d0 : W3.cell? ⟨w.heap.size + 2, 0, none⟩ = some (.int .i64 0) := by rw [c5 0]; rfl
  have d1 : W3.cell? ⟨w.heap.size + 2, 1, none⟩ = some (.slice a1 m c1) := by rw [c5 1]; rfl
  have d2 : W3.cell? ⟨w.heap.size + 2, 2, none⟩ = some (.int .i64 er) := by rw [c5 2]; rfl
  clear c5
  go_wp2_with (refine wpList_store_row rfl 83 (.tmp 4) (.tmp 58) rfl (w.heap.size + 1) #[.int .i64 0, .slice a1 m c1, .int .i64 er] rfl rfl 83 #[.int .i64 0, .slice none 0 0, .int .i64 0] K43.out (Try.sizeTold _ _ _) rfl (oneTold _ _ _ _ _) ?_)
  refine bodyPost_ret (v := .agg #[.int .i64 0, .slice a1 m c1, .int .i64 er]) ?_ rfl ?_
  · exact results_cell_row rfl _ _ (w.heap.size + 1) 83 #[.int .i64 0, .slice a1 m c1, .int .i64 er] (0, 0) _ rfl (setRow_heap _ _ _ _ _ _ K43.out) Try.underlying83 rfl (Try.sizeTold _ _ _)
  · exact ⟨_, rfl, a1, m, c1, rfl, ((O3.out.2 _ _ _ (by omega) (O3.out.1 _ _ _ (by omega) Ho.out)).setRow (by omega) _).mono (by omega), Moved.low H.out Hm.out (B3.out.trans (below_setRow' _ _ _ _ (by omega)))⟩
end Go.Proofs.Ytmfijcniaehooaa

/- Seek and Sub of a Reader. -/
namespace Go.Proofs.Ytmfijcniaehooaa
set_option linter.unusedVariables false
open Go.RowKit

theorem IsR.moved {w : World} {R p len cap : Nat} {a : Option Addr} {xs : List Int} (h : IsR w R p a len cap xs) (q : Nat) (hq : q ≤ len) : Moved w (w.setCell ⟨R, 0, none⟩ (.int .i64 q)) R q a len cap xs :=
  ⟨h.move q hq, grown_setCell _ _ _ _, fun a2 l2 c2 ys hr => hr.set h _, fun B v ys ho => ho.set h _⟩
section
variable {w : World} {R p len cap : Nat} {a : Option Addr} {xs : List Int} (h : IsR w R p a len cap xs)
include h
set_option maxHeartbeats 400000 in
theorem seek_ok (n : Nat) (hn : n ≤ len) : Calls Try.prog 57 #[.pointer (some ⟨R, 0, none⟩), .int .i64 n] w fun e w' => e = .returned (.int .i64 0) ∧ Moved w w' R n a len cap xs := by
  have c0 := h.c0
  have c1 := h.c1
  have f0 := h.f0
  have hm := h.rd.hm
  have hc := h.rd.hc
  unfold maxLen at hm
  have HM := Lib.hid (h.moved n hn)
  have g1 : ¬ (n : Int) < 0 := by omega
  have g2 : ¬ (len : Int) < (n : Int) := by omega
  clear h
  go_enter Try.func57, Try.ntmps57
  go_wp2
  go_ret
  exact ⟨rfl, HM.out⟩
set_option maxHeartbeats 400000 in
theorem seek_bad (n : Int) (hn : n < 0 ∨ (len : Int) < n) : Calls Try.prog 57 #[.pointer (some ⟨R, 0, none⟩), .int .i64 n] w fun e w' => e = .returned (.int .i64 1) ∧ w' = w := by
  have c0 := h.c0
  have c1 := h.c1
  clear h
  rcases Decidable.em (n < 0) with h1 | h1
  · go_enter Try.func57, Try.ntmps57
    go_wp2
    go_ret
    exact ⟨rfl, rfl⟩
  · have h2 : (len : Int) < n := by omega
    go_enter Try.func57, Try.ntmps57
    go_wp2
    go_ret
    exact ⟨rfl, rfl⟩
/-- What Sub answers. -/
def SubPost (w : World) (R p : Nat) (a : Option Addr) (len cap : Nat) (xs : List Int) (n : Int) (e : Ending) (w' : World) : Prop :=
  (aheadE ((xs.length : Int) - p) n = 0 ∧ ∃ R2 a2 c2, e = .returned (.tuple #[.pointer (some ⟨R2, 0, none⟩), .int .i64 0]) ∧ w.heap.size ≤ R2 ∧ IsR w' R2 0 a2 n.toNat c2 (aheadB xs p n) ∧ Moved w w' R (p + n.toNat) a len cap xs) ∨
  (aheadE ((xs.length : Int) - p) n ≠ 0 ∧ e = .returned (.tuple #[.pointer none, .int .i64 (aheadE ((xs.length : Int) - p) n)]) ∧ Below w.heap.size w w')
set_option maxHeartbeats 400000 in
theorem sub_any (n : Int) (hn : n ≤ 9223372036854775807) (hbig : len ≤ 140737488355328) : Calls Try.prog 58 #[.pointer (some ⟨R, 0, none⟩), .int .i64 n] w (SubPost w R p a len cap xs n) := by
  have hl := h.rd.hl
  have H := Lib.hid h
  have hp := h.hp
  have hs := stepV_le (E := aheadE ((xs.length : Int) - p) n) (n := n) (p := p) (l := len) (by rw [hl]) hp
  by_cases hE : aheadE ((xs.length : Int) - p) n = 0
  · have hst : stepV (aheadE ((xs.length : Int) - p) n) n = n.toNat := by unfold stepV; rw [if_pos hE]
    rw [hst] at hs
    have hn0 : 0 ≤ n := by unfold aheadE at hE; split at hE <;> omega
    obtain ⟨k, rfl⟩ := Int.eq_ofNat_of_zero_le hn0
    rw [Int.toNat_natCast] at hs
    have HE := Lib.hid hE
    have hal : (aheadB xs p k).length = k := by unfold aheadB; rw [if_pos hE]; simp; omega
    clear h hE hst hl
    go_enter Try.func58, Try.ntmps58
    go_wp2_with fail
    refine (ahead_any H.out k hn).mono ?_
    rintro e w1 ⟨a2, l2, c2, rfl, hr, m, rfl⟩
    rw [HE.out]
    have hl2 := hr.hl
    rw [hal] at hl2
    subst hl2
    have hl2' : k ≤ 140737488355328 := by omega
    have HR1 := Lib.hid (H.out.below (below_drewN w.heap.size w m) (Nat.le_refl _))
    have Hr := Lib.hid (hr.below (below_drewN w.heap.size w m) (Nat.le_refl _))
    have Hm0 := Lib.hid (Moved.of_below H.out (below_drewN w.heap.size w m))
    generalize w.drewN m = w1 at *
    clear hr
    go_wp2_with fail
    refine (went_any HR1.out k hs).mono ?_
    rintro e w2 ⟨rfl, hm⟩
    have Hm := Lib.hid (Hm0.out.trans hm)
    have Hr2 := Lib.hid (hm.keeps _ _ _ _ Hr.out)
    clear hm
    go_wp2_with fail
    refine (newReader_any _ _ _ _ _ Hr2.out hl2').mono ?_
    rintro e w3 ⟨R2, a3, c3, rfl, hR2, hi, hb⟩
    have Hi := Lib.hid hi
    have Hm3 := Lib.hid (Hm.out.trans (Moved.of_below Hm.out.isR hb))
    have hsz : w.heap.size ≤ w2.heap.size := Hm.out.grown.size
    have hR3 : w.heap.size ≤ R2 := by omega
    clear hi hb
    go_wp2
    go_ret2
    exact .inl ⟨HE.out, R2, a3, c3, rfl, hR3, by rw [Int.toNat_natCast]; exact Hi.out, by rw [Int.toNat_natCast]; exact Hm3.out⟩
  · have HE := Lib.hid hE
    have hE2 : (aheadE ((xs.length : Int) - p) n != 0) = true := by simpa using hE
    clear h hE hl hs
    go_enter Try.func58, Try.ntmps58
    go_wp2_with fail
    refine (ahead_any H.out n hn).mono ?_
    rintro e w1 ⟨a2, l2, c2, rfl, hr, m, rfl⟩
    have Hb := Lib.hid (below_drewN w.heap.size w m)
    clear hr
    obtain ⟨E, hEE⟩ : ∃ E, E = aheadE ((xs.length : Int) - p) n := ⟨_, rfl⟩
    rw [← hEE] at hE2 HE ⊢
    have HEE := Lib.hid hEE
    clear hEE
    generalize w.drewN m = w1 at *
    go_wp2
    go_ret2
    exact .inr ⟨by rw [← HEE.out]; exact HE.out, by rw [← HEE.out]; rfl, Hb.out⟩
end
end Go.Proofs.Ytmfijcniaehooaa

/- What the law's did answers, of any act. -/
namespace Go.Proofs.Ytmfijcniaehooaa
set_option linter.unusedVariables false
open Go.RowKit

theorem results_cell_two {P : Program} {fn : Func} {p q : Tmp} {ty : TypeId} (h : fn.results = #[.cell p ty, .tmp q]) (tmps : Array Value) (w : World) (g : Nat) (t : TypeId) (cs : Array Value) (fr : Nat × Nat) (d : TypeDesc)
    (hp : tmps.getD p undef = .pointer (some ⟨g, 0, none⟩)) (hg : w.heap[g]? = some (.cells cs t fr))
    (hu : P.underlying ty = some d) (hd : (match d with | .struct _ | .array _ _ => true | _ => false) = true) (hi : (P.info? ty).map (·.size) = some cs.size) (v : Value) (hq : tmps.getD q undef = v) :
    (results fn tmps).run P w = .ok (.tuple #[.agg cs, v]) w := by
  subst hq
  have hp' : tmps[p]?.getD undef = .pointer (some ⟨g, 0, none⟩) := by simpa using hp
  simp [results, h, hp', asAddr, run_loadVar_row w g t ty cs fr d hg hu hd hi]
set_option maxRecDepth 100000 in
set_option maxHeartbeats 4000000 in
theorem did_0 {w : World} {R p len cap : Nat} {a : Option Addr} {xs : List Int} (h : IsR w R p a len cap xs) (kd wd : Int) (hw1 : -9223372036854775808 ≤ wd) (hw2 : wd ≤ 9223372036854775807) (hbig : len ≤ 140737488355328) (hk : kd = 0) :
    Calls Try.prog 54 #[.pointer (some ⟨R, 0, none⟩), .agg #[.int .i64 kd, .int .i64 wd]] w fun e w' => ∃ v, e = .returned (.tuple #[v, .pointer none]) ∧ Told w R a len cap xs ((rfixV xs p wd false).1) ([]) ((rfixV xs p wd false).2.1) (p + (rfixV xs p wd false).2.2) v w' := by
  obtain ⟨Wa, hWa⟩ : ∃ Wa, Wa = (w.alloc (.cells #[.int .i64 kd, .int .i64 wd] 87)).alloc (.cells #[.int .i64 0, .slice none 0 0, .int .i64 0] 83) := ⟨_, rfl⟩
  have hsa : Wa.heap.size = w.heap.size + 2 := by rw [hWa]; simp
  have hFa : Wa.heap[w.heap.size]? = some (.cells #[.int .i64 kd, .int .i64 wd] 87 (0, 0)) := by rw [hWa, heap_alloc_old _ _ _ (by simp), heap_alloc_last]
  have h4a : Wa.heap[w.heap.size + 1]? = some (.cells #[.int .i64 0, .slice none 0 0, .int .i64 0] 83 (0, 0)) := by
    rw [hWa]; have := heap_alloc_last (w.alloc (.cells #[.int .i64 kd, .int .i64 wd] 87)) (.cells #[.int .i64 0, .slice none 0 0, .int .i64 0] 83); simpa using this
  have hba : Below w.heap.size w Wa := by rw [hWa]; exact ((Below.refl _ w).alloc (Nat.le_refl _) _).alloc (by simp) _
  obtain ⟨Wz, hWz⟩ : ∃ Wz, Wz = Wa.alloc (.cells #[.int .i64 0, .slice none 0 0, .int .i64 0] 83) := ⟨_, rfl⟩
  have hsz : Wz.heap.size = w.heap.size + 3 := by rw [hWz]; simp [hsa]
  have h5z : Wz.heap[w.heap.size + 2]? = some (.cells #[.int .i64 0, .slice none 0 0, .int .i64 0] 83 (0, 0)) := by rw [hWz, ← hsa, heap_alloc_last]
  have hbz : Below w.heap.size w Wz := by rw [hWz]; exact hba.alloc (by omega) _
  have hFz : Wz.heap[w.heap.size]? = some (.cells #[.int .i64 kd, .int .i64 wd] 87 (0, 0)) := by rw [hWz, heap_alloc_old _ _ _ (by omega)]; exact hFa
  have h4z : Wz.heap[w.heap.size + 1]? = some (.cells #[.int .i64 0, .slice none 0 0, .int .i64 0] 83 (0, 0)) := by rw [hWz, heap_alloc_old _ _ _ (by omega)]; exact h4a
  obtain ⟨W0, hW0⟩ : ∃ W0, W0 = Wz.setRow (w.heap.size + 2) #[.int .i64 0, .slice none 0 0, .int .i64 0] := ⟨_, rfl⟩
  have h50 : W0.heap[w.heap.size + 2]? = some (.cells #[.int .i64 0, .slice none 0 0, .int .i64 0] 83 (0, 0)) := by rw [hW0]; exact setRow_heap _ _ _ _ _ _ h5z
  have h40 : W0.heap[w.heap.size + 1]? = some (.cells #[.int .i64 0, .slice none 0 0, .int .i64 0] 83 (0, 0)) := by rw [hW0]; exact (setRow_other _ _ _ _ (by omega)).trans h4z
  have hF0 : W0.heap[w.heap.size]? = some (.cells #[.int .i64 kd, .int .i64 wd] 87 (0, 0)) := by rw [hW0]; exact (setRow_other _ _ _ _ (by omega)).trans hFz
  have hb0 : Below w.heap.size w W0 := by rw [hW0]; exact hbz.trans (below_setRow' _ _ _ _ (by omega))
  have hs0 : W0.heap.size = w.heap.size + 3 := by rw [hW0]; simp [hsz]
  have H0 := Lib.hid (h.below hb0 (Nat.le_refl _))
  have H := Lib.hid h
  have hR := h.lt
  have cs := fun (i : Nat) => cell_of_row W0 w.heap.size i _ _ _ hF0
  have HWa := Lib.hid hWa
  have HWz := Lib.hid hWz
  have HW0 := Lib.hid hW0
  have H5z := Lib.hid h5z
  have H50 := Lib.hid h50
  have H40 := Lib.hid h40
  have Hb0 := Lib.hid hb0
  have Hsa := Lib.hid hsa
  have Hs0 := Lib.hid hs0
  have kc : W0.cell? ⟨w.heap.size, 0, none⟩ = some (.int .i64 kd) := by rw [cs 0]; rfl
  have wc : W0.cell? ⟨w.heap.size, 1, none⟩ = some (.int .i64 wd) := by rw [cs 1]; rfl
  have hcall := ruint_any H0.out wd hw1 hw2
  obtain ⟨n, hn⟩ : ∃ n, n = (rfixV xs p wd false).1 := ⟨_, rfl⟩
  obtain ⟨er, her⟩ : ∃ er, er = (rfixV xs p wd false).2.1 := ⟨_, rfl⟩
  obtain ⟨q, hq⟩ : ∃ q, q = p + (rfixV xs p wd false).2.2 := ⟨_, rfl⟩
  rw [← hn, ← her, ← hq] at hcall ⊢
  have HC := Lib.hid hcall
  clear hcall hn her hq
  clear cs hWa hWz hW0 h5z h50 h40 hb0 h hFa h4a hFz h4z hF0 hba hbz hsa hsz hs0
  subst hk
  go_enter Try.func54, Try.ntmps54
  go_upto_region 1 with fail
  rw [← HWa.out]
  go_upto_region 2 with (rw [Hsa.out, ← HWz.out]; refine wpList_store_row rfl 83 (.tmp 6) (.tmp 8) rfl (w.heap.size + 2) #[.int .i64 0, .slice none 0 0, .int .i64 0] rfl rfl 83 #[.int .i64 0, .slice none 0 0, .int .i64 0] H5z.out (Try.sizeTold _ _ _) rfl (oneTold _ _ _ _ _) ?_)
  rw [← HW0.out]
  clear HWa HWz HW0 H5z Hsa
  go_wp2_with fail
  refine HC.out.mono ?_
  rintro e w1 ⟨rfl, hm⟩
  have k5 := grown_blk hm.grown H50.out (by omega)
  have k4 := grown_blk hm.grown H40.out (by omega)
  have Hm := Lib.hid (Moved.pre Hb0.out hm)
  clear hm H0 H50 H40 HC
  obtain ⟨W2, e2, k52, k42, bk2, ok2⟩ := told_set k5 k4 (by omega : w.heap.size + 1 ≠ w.heap.size + 2) 0 (.int .i64 n) (B := w.heap.size) (by omega)
  obtain ⟨W3, e3, k53, k43, bk3, ok3⟩ := told_set k52 k42 (by omega : w.heap.size + 1 ≠ w.heap.size + 2) 2 (.int .i64 er) (B := w.heap.size) (by omega)
  have p1 : w1.cell? ⟨w.heap.size + 2, 0, none⟩ = some (.int .i64 0) := by rw [cell_of_row _ _ _ _ _ _ k5]; rfl
  have q1 := frozen_of_row w1 (w.heap.size + 2) 0 _ _ k5
  have p2 : W2.cell? ⟨w.heap.size + 2, 2, none⟩ = some (.int .i64 0) := by rw [cell_of_row _ _ _ _ _ _ k52]; rfl
  have q2 := frozen_of_row W2 (w.heap.size + 2) 2 _ _ k52
  have p2' : (w1.setCell ⟨w.heap.size + 2, 0, none⟩ (.int .i64 n)).cell? ⟨w.heap.size + 2, 2, none⟩ = some (.int .i64 0) := by rw [e2]; exact p2
  have q2' : (w1.setCell ⟨w.heap.size + 2, 0, none⟩ (.int .i64 n)).frozen? ⟨w.heap.size + 2, 2, none⟩ = false := by rw [e2]; exact q2
  have p3 : w1.cell? ⟨w.heap.size + 2, 2, none⟩ = some (.int .i64 0) := by rw [cell_of_row _ _ _ _ _ _ k5]; rfl
  have q3 := frozen_of_row w1 (w.heap.size + 2) 2 _ _ k5
  have k53' : W3.heap[w.heap.size + 2]? = some (.cells #[.int .i64 n, .slice none 0 0, .int .i64 er] 83 (0, 0)) := k53
  have B3 := Lib.hid (bk2.trans bk3)
  have E2 := Lib.hid e2
  have E3 := Lib.hid e3
  have K53 := Lib.hid k53'
  have K43 := Lib.hid k43
  have O3 := Lib.hid (And.intro ok2 ok3)
  clear e2 e3 bk2 bk3 k52 k42 k53 k53' k43 ok2 ok3 k5 k4
  go_upto_region 17 with fail
  rw [E2.out, E3.out]
  clear E2 E3 p1 p2 q1 q2 p2' q2' p3 q3
  have c5 := fun (i : Nat) => cell_of_row W3 (w.heap.size + 2) i _ _ _ K53.out
  have d0 : W3.cell? ⟨w.heap.size + 2, 0, none⟩ = some (.int .i64 n) := by rw [c5 0]; rfl
  have d1 : W3.cell? ⟨w.heap.size + 2, 1, none⟩ = some (.slice none 0 0) := by rw [c5 1]; rfl
  have d2 : W3.cell? ⟨w.heap.size + 2, 2, none⟩ = some (.int .i64 er) := by rw [c5 2]; rfl
  clear c5
  go_wp2_with (refine wpList_store_row rfl 83 (.tmp 4) (.tmp 77) rfl (w.heap.size + 1) #[.int .i64 n, .slice none 0 0, .int .i64 er] rfl rfl 83 #[.int .i64 0, .slice none 0 0, .int .i64 0] K43.out (Try.sizeTold _ _ _) rfl (oneTold _ _ _ _ _) ?_)
  refine bodyPost_ret (v := .tuple #[.agg #[.int .i64 n, .slice none 0 0, .int .i64 er], .pointer none]) ?_ rfl ?_
  · exact results_cell_two (p := 4) (q := 5) rfl _ _ (w.heap.size + 1) 83 #[.int .i64 n, .slice none 0 0, .int .i64 er] (0, 0) _ rfl (setRow_heap _ _ _ _ _ _ K43.out) Try.underlying83 rfl (Try.sizeTold _ _ _) _ rfl
  · exact ⟨_, rfl, none, 0, 0, rfl, Own.nil _ _, Moved.low H.out Hm.out (B3.out.trans (below_setRow' _ _ _ _ (by omega)))⟩
set_option maxRecDepth 100000 in
set_option maxHeartbeats 4000000 in
theorem did_1 {w : World} {R p len cap : Nat} {a : Option Addr} {xs : List Int} (h : IsR w R p a len cap xs) (kd wd : Int) (hw1 : -9223372036854775808 ≤ wd) (hw2 : wd ≤ 9223372036854775807) (hbig : len ≤ 140737488355328) (hk : kd = 1) :
    Calls Try.prog 54 #[.pointer (some ⟨R, 0, none⟩), .agg #[.int .i64 kd, .int .i64 wd]] w fun e w' => ∃ v, e = .returned (.tuple #[v, .pointer none]) ∧ Told w R a len cap xs ((rfixV xs p wd true).1) ([]) ((rfixV xs p wd true).2.1) (p + (rfixV xs p wd true).2.2) v w' := by
  obtain ⟨Wa, hWa⟩ : ∃ Wa, Wa = (w.alloc (.cells #[.int .i64 kd, .int .i64 wd] 87)).alloc (.cells #[.int .i64 0, .slice none 0 0, .int .i64 0] 83) := ⟨_, rfl⟩
  have hsa : Wa.heap.size = w.heap.size + 2 := by rw [hWa]; simp
  have hFa : Wa.heap[w.heap.size]? = some (.cells #[.int .i64 kd, .int .i64 wd] 87 (0, 0)) := by rw [hWa, heap_alloc_old _ _ _ (by simp), heap_alloc_last]
  have h4a : Wa.heap[w.heap.size + 1]? = some (.cells #[.int .i64 0, .slice none 0 0, .int .i64 0] 83 (0, 0)) := by
    rw [hWa]; have := heap_alloc_last (w.alloc (.cells #[.int .i64 kd, .int .i64 wd] 87)) (.cells #[.int .i64 0, .slice none 0 0, .int .i64 0] 83); simpa using this
  have hba : Below w.heap.size w Wa := by rw [hWa]; exact ((Below.refl _ w).alloc (Nat.le_refl _) _).alloc (by simp) _
  obtain ⟨Wz, hWz⟩ : ∃ Wz, Wz = Wa.alloc (.cells #[.int .i64 0, .slice none 0 0, .int .i64 0] 83) := ⟨_, rfl⟩
  have hsz : Wz.heap.size = w.heap.size + 3 := by rw [hWz]; simp [hsa]
  have h5z : Wz.heap[w.heap.size + 2]? = some (.cells #[.int .i64 0, .slice none 0 0, .int .i64 0] 83 (0, 0)) := by rw [hWz, ← hsa, heap_alloc_last]
  have hbz : Below w.heap.size w Wz := by rw [hWz]; exact hba.alloc (by omega) _
  have hFz : Wz.heap[w.heap.size]? = some (.cells #[.int .i64 kd, .int .i64 wd] 87 (0, 0)) := by rw [hWz, heap_alloc_old _ _ _ (by omega)]; exact hFa
  have h4z : Wz.heap[w.heap.size + 1]? = some (.cells #[.int .i64 0, .slice none 0 0, .int .i64 0] 83 (0, 0)) := by rw [hWz, heap_alloc_old _ _ _ (by omega)]; exact h4a
  obtain ⟨W0, hW0⟩ : ∃ W0, W0 = Wz.setRow (w.heap.size + 2) #[.int .i64 0, .slice none 0 0, .int .i64 0] := ⟨_, rfl⟩
  have h50 : W0.heap[w.heap.size + 2]? = some (.cells #[.int .i64 0, .slice none 0 0, .int .i64 0] 83 (0, 0)) := by rw [hW0]; exact setRow_heap _ _ _ _ _ _ h5z
  have h40 : W0.heap[w.heap.size + 1]? = some (.cells #[.int .i64 0, .slice none 0 0, .int .i64 0] 83 (0, 0)) := by rw [hW0]; exact (setRow_other _ _ _ _ (by omega)).trans h4z
  have hF0 : W0.heap[w.heap.size]? = some (.cells #[.int .i64 kd, .int .i64 wd] 87 (0, 0)) := by rw [hW0]; exact (setRow_other _ _ _ _ (by omega)).trans hFz
  have hb0 : Below w.heap.size w W0 := by rw [hW0]; exact hbz.trans (below_setRow' _ _ _ _ (by omega))
  have hs0 : W0.heap.size = w.heap.size + 3 := by rw [hW0]; simp [hsz]
  have H0 := Lib.hid (h.below hb0 (Nat.le_refl _))
  have H := Lib.hid h
  have hR := h.lt
  have cs := fun (i : Nat) => cell_of_row W0 w.heap.size i _ _ _ hF0
  have HWa := Lib.hid hWa
  have HWz := Lib.hid hWz
  have HW0 := Lib.hid hW0
  have H5z := Lib.hid h5z
  have H50 := Lib.hid h50
  have H40 := Lib.hid h40
  have Hb0 := Lib.hid hb0
  have Hsa := Lib.hid hsa
  have Hs0 := Lib.hid hs0
  have kc : W0.cell? ⟨w.heap.size, 0, none⟩ = some (.int .i64 kd) := by rw [cs 0]; rfl
  have wc : W0.cell? ⟨w.heap.size, 1, none⟩ = some (.int .i64 wd) := by rw [cs 1]; rfl
  have hcall := rint_any H0.out wd hw1 hw2
  obtain ⟨n, hn⟩ : ∃ n, n = (rfixV xs p wd true).1 := ⟨_, rfl⟩
  obtain ⟨er, her⟩ : ∃ er, er = (rfixV xs p wd true).2.1 := ⟨_, rfl⟩
  obtain ⟨q, hq⟩ : ∃ q, q = p + (rfixV xs p wd true).2.2 := ⟨_, rfl⟩
  rw [← hn, ← her, ← hq] at hcall ⊢
  have HC := Lib.hid hcall
  clear hcall hn her hq
  clear cs hWa hWz hW0 h5z h50 h40 hb0 h hFa h4a hFz h4z hF0 hba hbz hsa hsz hs0
  subst hk
  go_enter Try.func54, Try.ntmps54
  go_upto_region 1 with fail
  rw [← HWa.out]
  go_upto_region 2 with (rw [Hsa.out, ← HWz.out]; refine wpList_store_row rfl 83 (.tmp 6) (.tmp 8) rfl (w.heap.size + 2) #[.int .i64 0, .slice none 0 0, .int .i64 0] rfl rfl 83 #[.int .i64 0, .slice none 0 0, .int .i64 0] H5z.out (Try.sizeTold _ _ _) rfl (oneTold _ _ _ _ _) ?_)
  rw [← HW0.out]
  clear HWa HWz HW0 H5z Hsa
  go_wp2_with fail
  refine HC.out.mono ?_
  rintro e w1 ⟨rfl, hm⟩
  have k5 := grown_blk hm.grown H50.out (by omega)
  have k4 := grown_blk hm.grown H40.out (by omega)
  have Hm := Lib.hid (Moved.pre Hb0.out hm)
  clear hm H0 H50 H40 HC
  obtain ⟨W2, e2, k52, k42, bk2, ok2⟩ := told_set k5 k4 (by omega : w.heap.size + 1 ≠ w.heap.size + 2) 0 (.int .i64 n) (B := w.heap.size) (by omega)
  obtain ⟨W3, e3, k53, k43, bk3, ok3⟩ := told_set k52 k42 (by omega : w.heap.size + 1 ≠ w.heap.size + 2) 2 (.int .i64 er) (B := w.heap.size) (by omega)
  have p1 : w1.cell? ⟨w.heap.size + 2, 0, none⟩ = some (.int .i64 0) := by rw [cell_of_row _ _ _ _ _ _ k5]; rfl
  have q1 := frozen_of_row w1 (w.heap.size + 2) 0 _ _ k5
  have p2 : W2.cell? ⟨w.heap.size + 2, 2, none⟩ = some (.int .i64 0) := by rw [cell_of_row _ _ _ _ _ _ k52]; rfl
  have q2 := frozen_of_row W2 (w.heap.size + 2) 2 _ _ k52
  have p2' : (w1.setCell ⟨w.heap.size + 2, 0, none⟩ (.int .i64 n)).cell? ⟨w.heap.size + 2, 2, none⟩ = some (.int .i64 0) := by rw [e2]; exact p2
  have q2' : (w1.setCell ⟨w.heap.size + 2, 0, none⟩ (.int .i64 n)).frozen? ⟨w.heap.size + 2, 2, none⟩ = false := by rw [e2]; exact q2
  have p3 : w1.cell? ⟨w.heap.size + 2, 2, none⟩ = some (.int .i64 0) := by rw [cell_of_row _ _ _ _ _ _ k5]; rfl
  have q3 := frozen_of_row w1 (w.heap.size + 2) 2 _ _ k5
  have k53' : W3.heap[w.heap.size + 2]? = some (.cells #[.int .i64 n, .slice none 0 0, .int .i64 er] 83 (0, 0)) := k53
  have B3 := Lib.hid (bk2.trans bk3)
  have E2 := Lib.hid e2
  have E3 := Lib.hid e3
  have K53 := Lib.hid k53'
  have K43 := Lib.hid k43
  have O3 := Lib.hid (And.intro ok2 ok3)
  clear e2 e3 bk2 bk3 k52 k42 k53 k53' k43 ok2 ok3 k5 k4
  go_upto_region 17 with fail
  rw [E2.out, E3.out]
  clear E2 E3 p1 p2 q1 q2 p2' q2' p3 q3
  have c5 := fun (i : Nat) => cell_of_row W3 (w.heap.size + 2) i _ _ _ K53.out
  have d0 : W3.cell? ⟨w.heap.size + 2, 0, none⟩ = some (.int .i64 n) := by rw [c5 0]; rfl
  have d1 : W3.cell? ⟨w.heap.size + 2, 1, none⟩ = some (.slice none 0 0) := by rw [c5 1]; rfl
  have d2 : W3.cell? ⟨w.heap.size + 2, 2, none⟩ = some (.int .i64 er) := by rw [c5 2]; rfl
  clear c5
  go_wp2_with (refine wpList_store_row rfl 83 (.tmp 4) (.tmp 77) rfl (w.heap.size + 1) #[.int .i64 n, .slice none 0 0, .int .i64 er] rfl rfl 83 #[.int .i64 0, .slice none 0 0, .int .i64 0] K43.out (Try.sizeTold _ _ _) rfl (oneTold _ _ _ _ _) ?_)
  refine bodyPost_ret (v := .tuple #[.agg #[.int .i64 n, .slice none 0 0, .int .i64 er], .pointer none]) ?_ rfl ?_
  · exact results_cell_two (p := 4) (q := 5) rfl _ _ (w.heap.size + 1) 83 #[.int .i64 n, .slice none 0 0, .int .i64 er] (0, 0) _ rfl (setRow_heap _ _ _ _ _ _ K43.out) Try.underlying83 rfl (Try.sizeTold _ _ _) _ rfl
  · exact ⟨_, rfl, none, 0, 0, rfl, Own.nil _ _, Moved.low H.out Hm.out (B3.out.trans (below_setRow' _ _ _ _ (by omega)))⟩
set_option maxRecDepth 100000 in
set_option maxHeartbeats 4000000 in
theorem did_2 {w : World} {R p len cap : Nat} {a : Option Addr} {xs : List Int} (h : IsR w R p a len cap xs) (kd wd : Int) (hw1 : -9223372036854775808 ≤ wd) (hw2 : wd ≤ 9223372036854775807) (hbig : len ≤ 140737488355328) (hk : kd = 2) :
    Calls Try.prog 54 #[.pointer (some ⟨R, 0, none⟩), .agg #[.int .i64 kd, .int .i64 wd]] w fun e w' => ∃ v, e = .returned (.tuple #[v, .pointer none]) ∧ Told w R a len cap xs ((toVarV (xs.drop p)).1) ([]) ((toVarV (xs.drop p)).2.2) (p + (toVarV (xs.drop p)).2.1.toNat) v w' := by
  obtain ⟨Wa, hWa⟩ : ∃ Wa, Wa = (w.alloc (.cells #[.int .i64 kd, .int .i64 wd] 87)).alloc (.cells #[.int .i64 0, .slice none 0 0, .int .i64 0] 83) := ⟨_, rfl⟩
  have hsa : Wa.heap.size = w.heap.size + 2 := by rw [hWa]; simp
  have hFa : Wa.heap[w.heap.size]? = some (.cells #[.int .i64 kd, .int .i64 wd] 87 (0, 0)) := by rw [hWa, heap_alloc_old _ _ _ (by simp), heap_alloc_last]
  have h4a : Wa.heap[w.heap.size + 1]? = some (.cells #[.int .i64 0, .slice none 0 0, .int .i64 0] 83 (0, 0)) := by
    rw [hWa]; have := heap_alloc_last (w.alloc (.cells #[.int .i64 kd, .int .i64 wd] 87)) (.cells #[.int .i64 0, .slice none 0 0, .int .i64 0] 83); simpa using this
  have hba : Below w.heap.size w Wa := by rw [hWa]; exact ((Below.refl _ w).alloc (Nat.le_refl _) _).alloc (by simp) _
  obtain ⟨Wz, hWz⟩ : ∃ Wz, Wz = Wa.alloc (.cells #[.int .i64 0, .slice none 0 0, .int .i64 0] 83) := ⟨_, rfl⟩
  have hsz : Wz.heap.size = w.heap.size + 3 := by rw [hWz]; simp [hsa]
  have h5z : Wz.heap[w.heap.size + 2]? = some (.cells #[.int .i64 0, .slice none 0 0, .int .i64 0] 83 (0, 0)) := by rw [hWz, ← hsa, heap_alloc_last]
  have hbz : Below w.heap.size w Wz := by rw [hWz]; exact hba.alloc (by omega) _
  have hFz : Wz.heap[w.heap.size]? = some (.cells #[.int .i64 kd, .int .i64 wd] 87 (0, 0)) := by rw [hWz, heap_alloc_old _ _ _ (by omega)]; exact hFa
  have h4z : Wz.heap[w.heap.size + 1]? = some (.cells #[.int .i64 0, .slice none 0 0, .int .i64 0] 83 (0, 0)) := by rw [hWz, heap_alloc_old _ _ _ (by omega)]; exact h4a
  obtain ⟨W0, hW0⟩ : ∃ W0, W0 = Wz.setRow (w.heap.size + 2) #[.int .i64 0, .slice none 0 0, .int .i64 0] := ⟨_, rfl⟩
  have h50 : W0.heap[w.heap.size + 2]? = some (.cells #[.int .i64 0, .slice none 0 0, .int .i64 0] 83 (0, 0)) := by rw [hW0]; exact setRow_heap _ _ _ _ _ _ h5z
  have h40 : W0.heap[w.heap.size + 1]? = some (.cells #[.int .i64 0, .slice none 0 0, .int .i64 0] 83 (0, 0)) := by rw [hW0]; exact (setRow_other _ _ _ _ (by omega)).trans h4z
  have hF0 : W0.heap[w.heap.size]? = some (.cells #[.int .i64 kd, .int .i64 wd] 87 (0, 0)) := by rw [hW0]; exact (setRow_other _ _ _ _ (by omega)).trans hFz
  have hb0 : Below w.heap.size w W0 := by rw [hW0]; exact hbz.trans (below_setRow' _ _ _ _ (by omega))
  have hs0 : W0.heap.size = w.heap.size + 3 := by rw [hW0]; simp [hsz]
  have H0 := Lib.hid (h.below hb0 (Nat.le_refl _))
  have H := Lib.hid h
  have hR := h.lt
  have cs := fun (i : Nat) => cell_of_row W0 w.heap.size i _ _ _ hF0
  have HWa := Lib.hid hWa
  have HWz := Lib.hid hWz
  have HW0 := Lib.hid hW0
  have H5z := Lib.hid h5z
  have H50 := Lib.hid h50
  have H40 := Lib.hid h40
  have Hb0 := Lib.hid hb0
  have Hsa := Lib.hid hsa
  have Hs0 := Lib.hid hs0
  have kc : W0.cell? ⟨w.heap.size, 0, none⟩ = some (.int .i64 kd) := by rw [cs 0]; rfl
  have wc : W0.cell? ⟨w.heap.size, 1, none⟩ = some (.int .i64 wd) := by rw [cs 1]; rfl
  have hcall := rvar_any H0.out
  obtain ⟨n, hn⟩ : ∃ n, n = (toVarV (xs.drop p)).1 := ⟨_, rfl⟩
  obtain ⟨er, her⟩ : ∃ er, er = (toVarV (xs.drop p)).2.2 := ⟨_, rfl⟩
  obtain ⟨q, hq⟩ : ∃ q, q = p + (toVarV (xs.drop p)).2.1.toNat := ⟨_, rfl⟩
  rw [← hn, ← her, ← hq] at hcall ⊢
  have HC := Lib.hid hcall
  clear hcall hn her hq
  clear cs hWa hWz hW0 h5z h50 h40 hb0 h hFa h4a hFz h4z hF0 hba hbz hsa hsz hs0
  subst hk
  go_enter Try.func54, Try.ntmps54
  go_upto_region 1 with fail
  rw [← HWa.out]
  go_upto_region 2 with (rw [Hsa.out, ← HWz.out]; refine wpList_store_row rfl 83 (.tmp 6) (.tmp 8) rfl (w.heap.size + 2) #[.int .i64 0, .slice none 0 0, .int .i64 0] rfl rfl 83 #[.int .i64 0, .slice none 0 0, .int .i64 0] H5z.out (Try.sizeTold _ _ _) rfl (oneTold _ _ _ _ _) ?_)
  rw [← HW0.out]
  clear HWa HWz HW0 H5z Hsa
  go_wp2_with fail
  refine HC.out.mono ?_
  rintro e w1 ⟨rfl, hm⟩
  have k5 := grown_blk hm.grown H50.out (by omega)
  have k4 := grown_blk hm.grown H40.out (by omega)
  have Hm := Lib.hid (Moved.pre Hb0.out hm)
  clear hm H0 H50 H40 HC
  obtain ⟨W2, e2, k52, k42, bk2, ok2⟩ := told_set k5 k4 (by omega : w.heap.size + 1 ≠ w.heap.size + 2) 0 (.int .i64 n) (B := w.heap.size) (by omega)
  obtain ⟨W3, e3, k53, k43, bk3, ok3⟩ := told_set k52 k42 (by omega : w.heap.size + 1 ≠ w.heap.size + 2) 2 (.int .i64 er) (B := w.heap.size) (by omega)
  have p1 : w1.cell? ⟨w.heap.size + 2, 0, none⟩ = some (.int .i64 0) := by rw [cell_of_row _ _ _ _ _ _ k5]; rfl
  have q1 := frozen_of_row w1 (w.heap.size + 2) 0 _ _ k5
  have p2 : W2.cell? ⟨w.heap.size + 2, 2, none⟩ = some (.int .i64 0) := by rw [cell_of_row _ _ _ _ _ _ k52]; rfl
  have q2 := frozen_of_row W2 (w.heap.size + 2) 2 _ _ k52
  have p2' : (w1.setCell ⟨w.heap.size + 2, 0, none⟩ (.int .i64 n)).cell? ⟨w.heap.size + 2, 2, none⟩ = some (.int .i64 0) := by rw [e2]; exact p2
  have q2' : (w1.setCell ⟨w.heap.size + 2, 0, none⟩ (.int .i64 n)).frozen? ⟨w.heap.size + 2, 2, none⟩ = false := by rw [e2]; exact q2
  have p3 : w1.cell? ⟨w.heap.size + 2, 2, none⟩ = some (.int .i64 0) := by rw [cell_of_row _ _ _ _ _ _ k5]; rfl
  have q3 := frozen_of_row w1 (w.heap.size + 2) 2 _ _ k5
  have k53' : W3.heap[w.heap.size + 2]? = some (.cells #[.int .i64 n, .slice none 0 0, .int .i64 er] 83 (0, 0)) := k53
  have B3 := Lib.hid (bk2.trans bk3)
  have E2 := Lib.hid e2
  have E3 := Lib.hid e3
  have K53 := Lib.hid k53'
  have K43 := Lib.hid k43
  have O3 := Lib.hid (And.intro ok2 ok3)
  clear e2 e3 bk2 bk3 k52 k42 k53 k53' k43 ok2 ok3 k5 k4
  go_upto_region 17 with fail
  rw [E2.out, E3.out]
  clear E2 E3 p1 p2 q1 q2 p2' q2' p3 q3
  have c5 := fun (i : Nat) => cell_of_row W3 (w.heap.size + 2) i _ _ _ K53.out
  have d0 : W3.cell? ⟨w.heap.size + 2, 0, none⟩ = some (.int .i64 n) := by rw [c5 0]; rfl
  have d1 : W3.cell? ⟨w.heap.size + 2, 1, none⟩ = some (.slice none 0 0) := by rw [c5 1]; rfl
  have d2 : W3.cell? ⟨w.heap.size + 2, 2, none⟩ = some (.int .i64 er) := by rw [c5 2]; rfl
  clear c5
  go_wp2_with (refine wpList_store_row rfl 83 (.tmp 4) (.tmp 77) rfl (w.heap.size + 1) #[.int .i64 n, .slice none 0 0, .int .i64 er] rfl rfl 83 #[.int .i64 0, .slice none 0 0, .int .i64 0] K43.out (Try.sizeTold _ _ _) rfl (oneTold _ _ _ _ _) ?_)
  refine bodyPost_ret (v := .tuple #[.agg #[.int .i64 n, .slice none 0 0, .int .i64 er], .pointer none]) ?_ rfl ?_
  · exact results_cell_two (p := 4) (q := 5) rfl _ _ (w.heap.size + 1) 83 #[.int .i64 n, .slice none 0 0, .int .i64 er] (0, 0) _ rfl (setRow_heap _ _ _ _ _ _ K43.out) Try.underlying83 rfl (Try.sizeTold _ _ _) _ rfl
  · exact ⟨_, rfl, none, 0, 0, rfl, Own.nil _ _, Moved.low H.out Hm.out (B3.out.trans (below_setRow' _ _ _ _ (by omega)))⟩
set_option maxRecDepth 100000 in
set_option maxHeartbeats 4000000 in
theorem did_3 {w : World} {R p len cap : Nat} {a : Option Addr} {xs : List Int} (h : IsR w R p a len cap xs) (kd wd : Int) (hw1 : -9223372036854775808 ≤ wd) (hw2 : wd ≤ 9223372036854775807) (hbig : len ≤ 140737488355328) (hk : kd = 3) :
    Calls Try.prog 54 #[.pointer (some ⟨R, 0, none⟩), .agg #[.int .i64 kd, .int .i64 wd]] w fun e w' => ∃ v, e = .returned (.tuple #[v, .pointer none]) ∧ Told w R a len cap xs (0) ((toTextV (xs.drop p)).1) ((toTextV (xs.drop p)).2.2) (p + (toTextV (xs.drop p)).2.1.toNat) v w' := by
  obtain ⟨Wa, hWa⟩ : ∃ Wa, Wa = (w.alloc (.cells #[.int .i64 kd, .int .i64 wd] 87)).alloc (.cells #[.int .i64 0, .slice none 0 0, .int .i64 0] 83) := ⟨_, rfl⟩
  have hsa : Wa.heap.size = w.heap.size + 2 := by rw [hWa]; simp
  have hFa : Wa.heap[w.heap.size]? = some (.cells #[.int .i64 kd, .int .i64 wd] 87 (0, 0)) := by rw [hWa, heap_alloc_old _ _ _ (by simp), heap_alloc_last]
  have h4a : Wa.heap[w.heap.size + 1]? = some (.cells #[.int .i64 0, .slice none 0 0, .int .i64 0] 83 (0, 0)) := by
    rw [hWa]; have := heap_alloc_last (w.alloc (.cells #[.int .i64 kd, .int .i64 wd] 87)) (.cells #[.int .i64 0, .slice none 0 0, .int .i64 0] 83); simpa using this
  have hba : Below w.heap.size w Wa := by rw [hWa]; exact ((Below.refl _ w).alloc (Nat.le_refl _) _).alloc (by simp) _
  obtain ⟨Wz, hWz⟩ : ∃ Wz, Wz = Wa.alloc (.cells #[.int .i64 0, .slice none 0 0, .int .i64 0] 83) := ⟨_, rfl⟩
  have hsz : Wz.heap.size = w.heap.size + 3 := by rw [hWz]; simp [hsa]
  have h5z : Wz.heap[w.heap.size + 2]? = some (.cells #[.int .i64 0, .slice none 0 0, .int .i64 0] 83 (0, 0)) := by rw [hWz, ← hsa, heap_alloc_last]
  have hbz : Below w.heap.size w Wz := by rw [hWz]; exact hba.alloc (by omega) _
  have hFz : Wz.heap[w.heap.size]? = some (.cells #[.int .i64 kd, .int .i64 wd] 87 (0, 0)) := by rw [hWz, heap_alloc_old _ _ _ (by omega)]; exact hFa
  have h4z : Wz.heap[w.heap.size + 1]? = some (.cells #[.int .i64 0, .slice none 0 0, .int .i64 0] 83 (0, 0)) := by rw [hWz, heap_alloc_old _ _ _ (by omega)]; exact h4a
  obtain ⟨W0, hW0⟩ : ∃ W0, W0 = Wz.setRow (w.heap.size + 2) #[.int .i64 0, .slice none 0 0, .int .i64 0] := ⟨_, rfl⟩
  have h50 : W0.heap[w.heap.size + 2]? = some (.cells #[.int .i64 0, .slice none 0 0, .int .i64 0] 83 (0, 0)) := by rw [hW0]; exact setRow_heap _ _ _ _ _ _ h5z
  have h40 : W0.heap[w.heap.size + 1]? = some (.cells #[.int .i64 0, .slice none 0 0, .int .i64 0] 83 (0, 0)) := by rw [hW0]; exact (setRow_other _ _ _ _ (by omega)).trans h4z
  have hF0 : W0.heap[w.heap.size]? = some (.cells #[.int .i64 kd, .int .i64 wd] 87 (0, 0)) := by rw [hW0]; exact (setRow_other _ _ _ _ (by omega)).trans hFz
  have hb0 : Below w.heap.size w W0 := by rw [hW0]; exact hbz.trans (below_setRow' _ _ _ _ (by omega))
  have hs0 : W0.heap.size = w.heap.size + 3 := by rw [hW0]; simp [hsz]
  have H0 := Lib.hid (h.below hb0 (Nat.le_refl _))
  have H := Lib.hid h
  have hR := h.lt
  have cs := fun (i : Nat) => cell_of_row W0 w.heap.size i _ _ _ hF0
  have HWa := Lib.hid hWa
  have HWz := Lib.hid hWz
  have HW0 := Lib.hid hW0
  have H5z := Lib.hid h5z
  have H50 := Lib.hid h50
  have H40 := Lib.hid h40
  have Hb0 := Lib.hid hb0
  have Hsa := Lib.hid hsa
  have Hs0 := Lib.hid hs0
  have kc : W0.cell? ⟨w.heap.size, 0, none⟩ = some (.int .i64 kd) := by rw [cs 0]; rfl
  have wc : W0.cell? ⟨w.heap.size, 1, none⟩ = some (.int .i64 wd) := by rw [cs 1]; rfl
  have hcall := rtext_any H0.out
  obtain ⟨bs, hbs⟩ : ∃ bs, bs = (toTextV (xs.drop p)).1 := ⟨_, rfl⟩
  obtain ⟨er, her⟩ : ∃ er, er = (toTextV (xs.drop p)).2.2 := ⟨_, rfl⟩
  obtain ⟨q, hq⟩ : ∃ q, q = p + (toTextV (xs.drop p)).2.1.toNat := ⟨_, rfl⟩
  rw [← hbs, ← hq, ← her] at hcall ⊢
  have HC := Lib.hid hcall
  clear hcall hbs her hq
  clear cs hWa hWz hW0 h5z h50 h40 hb0 h hFa h4a hFz h4z hF0 hba hbz hsa hsz hs0
  subst hk
  go_enter Try.func54, Try.ntmps54
  go_upto_region 1 with fail
  rw [← HWa.out]
  go_upto_region 2 with (rw [Hsa.out, ← HWz.out]; refine wpList_store_row rfl 83 (.tmp 6) (.tmp 8) rfl (w.heap.size + 2) #[.int .i64 0, .slice none 0 0, .int .i64 0] rfl rfl 83 #[.int .i64 0, .slice none 0 0, .int .i64 0] H5z.out (Try.sizeTold _ _ _) rfl (oneTold _ _ _ _ _) ?_)
  rw [← HW0.out]
  clear HWa HWz HW0 H5z Hsa
  go_wp2_with fail
  refine HC.out.mono ?_
  rintro e w1 ⟨v, rfl, ho, hm⟩
  have hs0 := Hs0.out
  obtain ⟨a1, c1, rfl, hr⟩ := ho.rd
  obtain ⟨m, hml⟩ : ∃ m, m = bs.length := ⟨_, rfl⟩
  rw [← hml] at ho ⊢
  have k5 := grown_blk hm.grown H50.out (by omega)
  have k4 := grown_blk hm.grown H40.out (by omega)
  have Hm := Lib.hid (Moved.pre Hb0.out hm)
  have Ho := Lib.hid ho
  clear hm H0 H50 H40 HC ho hr hml
  obtain ⟨W2, e2, k52, k42, bk2, ok2⟩ := told_set k5 k4 (by omega : w.heap.size + 1 ≠ w.heap.size + 2) 1 (.slice a1 m c1) (B := w.heap.size) (by omega)
  obtain ⟨W3, e3, k53, k43, bk3, ok3⟩ := told_set k52 k42 (by omega : w.heap.size + 1 ≠ w.heap.size + 2) 2 (.int .i64 er) (B := w.heap.size) (by omega)
  have p1 : w1.cell? ⟨w.heap.size + 2, 1, none⟩ = some (.slice none 0 0) := by rw [cell_of_row _ _ _ _ _ _ k5]; rfl
  have q1 := frozen_of_row w1 (w.heap.size + 2) 1 _ _ k5
  have p2 : W2.cell? ⟨w.heap.size + 2, 2, none⟩ = some (.int .i64 0) := by rw [cell_of_row _ _ _ _ _ _ k52]; rfl
  have q2 := frozen_of_row W2 (w.heap.size + 2) 2 _ _ k52
  have p2' : (w1.setCell ⟨w.heap.size + 2, 1, none⟩ (.slice a1 m c1)).cell? ⟨w.heap.size + 2, 2, none⟩ = some (.int .i64 0) := by rw [e2]; exact p2
  have q2' : (w1.setCell ⟨w.heap.size + 2, 1, none⟩ (.slice a1 m c1)).frozen? ⟨w.heap.size + 2, 2, none⟩ = false := by rw [e2]; exact q2
  have p3 : w1.cell? ⟨w.heap.size + 2, 2, none⟩ = some (.int .i64 0) := by rw [cell_of_row _ _ _ _ _ _ k5]; rfl
  have q3 := frozen_of_row w1 (w.heap.size + 2) 2 _ _ k5
  have k53' : W3.heap[w.heap.size + 2]? = some (.cells #[.int .i64 0, .slice a1 m c1, .int .i64 er] 83 (0, 0)) := k53
  have B3 := Lib.hid (bk2.trans bk3)
  have E2 := Lib.hid e2
  have E3 := Lib.hid e3
  have K53 := Lib.hid k53'
  have K43 := Lib.hid k43
  have O3 := Lib.hid (And.intro ok2 ok3)
  clear e2 e3 bk2 bk3 k52 k42 k53 k53' k43 ok2 ok3 k5 k4
  go_upto_region 17 with fail
  rw [E2.out, E3.out]
  clear E2 E3 p1 p2 q1 q2 p2' q2' p3 q3
  have c5 := fun (i : Nat) => cell_of_row W3 (w.heap.size + 2) i _ _ _ K53.out
  have d0 : W3.cell? ⟨w.heap.size + 2, 0, none⟩ = some (.int .i64 0) := by rw [c5 0]; rfl
  have d1 : W3.cell? ⟨w.heap.size + 2, 1, none⟩ = some (.slice a1 m c1) := by rw [c5 1]; rfl
  have d2 : W3.cell? ⟨w.heap.size + 2, 2, none⟩ = some (.int .i64 er) := by rw [c5 2]; rfl
  clear c5
  go_wp2_with (refine wpList_store_row rfl 83 (.tmp 4) (.tmp 77) rfl (w.heap.size + 1) #[.int .i64 0, .slice a1 m c1, .int .i64 er] rfl rfl 83 #[.int .i64 0, .slice none 0 0, .int .i64 0] K43.out (Try.sizeTold _ _ _) rfl (oneTold _ _ _ _ _) ?_)
  refine bodyPost_ret (v := .tuple #[.agg #[.int .i64 0, .slice a1 m c1, .int .i64 er], .pointer none]) ?_ rfl ?_
  · exact results_cell_two (p := 4) (q := 5) rfl _ _ (w.heap.size + 1) 83 #[.int .i64 0, .slice a1 m c1, .int .i64 er] (0, 0) _ rfl (setRow_heap _ _ _ _ _ _ K43.out) Try.underlying83 rfl (Try.sizeTold _ _ _) _ rfl
  · exact ⟨_, rfl, a1, m, c1, rfl, ((O3.out.2 _ _ _ (by omega) (O3.out.1 _ _ _ (by omega) Ho.out)).setRow (by omega) _).mono (by omega), Moved.low H.out Hm.out (B3.out.trans (below_setRow' _ _ _ _ (by omega)))⟩
set_option maxRecDepth 100000 in
set_option maxHeartbeats 4000000 in
theorem did_b {w : World} {R p len cap : Nat} {a : Option Addr} {xs : List Int} (h : IsR w R p a len cap xs) (kd wd : Int) (hw1 : -9223372036854775808 ≤ wd) (hw2 : wd ≤ 9223372036854775807) (hbig : len ≤ 140737488355328) (hk : kd ≠ 0 ∧ kd ≠ 1 ∧ kd ≠ 2 ∧ kd ≠ 3 ∧ kd ≠ 5 ∧ kd ≠ 6) :
    Calls Try.prog 54 #[.pointer (some ⟨R, 0, none⟩), .agg #[.int .i64 kd, .int .i64 wd]] w fun e w' => ∃ v, e = .returned (.tuple #[v, .pointer none]) ∧ Told w R a len cap xs (0) (aheadB xs p wd) (aheadE ((xs.length : Int) - p) wd) (p + stepV (aheadE ((xs.length : Int) - p) wd) wd) v w' := by
  obtain ⟨Wa, hWa⟩ : ∃ Wa, Wa = (w.alloc (.cells #[.int .i64 kd, .int .i64 wd] 87)).alloc (.cells #[.int .i64 0, .slice none 0 0, .int .i64 0] 83) := ⟨_, rfl⟩
  have hsa : Wa.heap.size = w.heap.size + 2 := by rw [hWa]; simp
  have hFa : Wa.heap[w.heap.size]? = some (.cells #[.int .i64 kd, .int .i64 wd] 87 (0, 0)) := by rw [hWa, heap_alloc_old _ _ _ (by simp), heap_alloc_last]
  have h4a : Wa.heap[w.heap.size + 1]? = some (.cells #[.int .i64 0, .slice none 0 0, .int .i64 0] 83 (0, 0)) := by
    rw [hWa]; have := heap_alloc_last (w.alloc (.cells #[.int .i64 kd, .int .i64 wd] 87)) (.cells #[.int .i64 0, .slice none 0 0, .int .i64 0] 83); simpa using this
  have hba : Below w.heap.size w Wa := by rw [hWa]; exact ((Below.refl _ w).alloc (Nat.le_refl _) _).alloc (by simp) _
  obtain ⟨Wz, hWz⟩ : ∃ Wz, Wz = Wa.alloc (.cells #[.int .i64 0, .slice none 0 0, .int .i64 0] 83) := ⟨_, rfl⟩
  have hsz : Wz.heap.size = w.heap.size + 3 := by rw [hWz]; simp [hsa]
  have h5z : Wz.heap[w.heap.size + 2]? = some (.cells #[.int .i64 0, .slice none 0 0, .int .i64 0] 83 (0, 0)) := by rw [hWz, ← hsa, heap_alloc_last]
  have hbz : Below w.heap.size w Wz := by rw [hWz]; exact hba.alloc (by omega) _
  have hFz : Wz.heap[w.heap.size]? = some (.cells #[.int .i64 kd, .int .i64 wd] 87 (0, 0)) := by rw [hWz, heap_alloc_old _ _ _ (by omega)]; exact hFa
  have h4z : Wz.heap[w.heap.size + 1]? = some (.cells #[.int .i64 0, .slice none 0 0, .int .i64 0] 83 (0, 0)) := by rw [hWz, heap_alloc_old _ _ _ (by omega)]; exact h4a
  obtain ⟨W0, hW0⟩ : ∃ W0, W0 = Wz.setRow (w.heap.size + 2) #[.int .i64 0, .slice none 0 0, .int .i64 0] := ⟨_, rfl⟩
  have h50 : W0.heap[w.heap.size + 2]? = some (.cells #[.int .i64 0, .slice none 0 0, .int .i64 0] 83 (0, 0)) := by rw [hW0]; exact setRow_heap _ _ _ _ _ _ h5z
  have h40 : W0.heap[w.heap.size + 1]? = some (.cells #[.int .i64 0, .slice none 0 0, .int .i64 0] 83 (0, 0)) := by rw [hW0]; exact (setRow_other _ _ _ _ (by omega)).trans h4z
  have hF0 : W0.heap[w.heap.size]? = some (.cells #[.int .i64 kd, .int .i64 wd] 87 (0, 0)) := by rw [hW0]; exact (setRow_other _ _ _ _ (by omega)).trans hFz
  have hb0 : Below w.heap.size w W0 := by rw [hW0]; exact hbz.trans (below_setRow' _ _ _ _ (by omega))
  have hs0 : W0.heap.size = w.heap.size + 3 := by rw [hW0]; simp [hsz]
  have H0 := Lib.hid (h.below hb0 (Nat.le_refl _))
  have H := Lib.hid h
  have hR := h.lt
  have cs := fun (i : Nat) => cell_of_row W0 w.heap.size i _ _ _ hF0
  have HWa := Lib.hid hWa
  have HWz := Lib.hid hWz
  have HW0 := Lib.hid hW0
  have H5z := Lib.hid h5z
  have H50 := Lib.hid h50
  have H40 := Lib.hid h40
  have Hb0 := Lib.hid hb0
  have Hsa := Lib.hid hsa
  have Hs0 := Lib.hid hs0
  have kc : W0.cell? ⟨w.heap.size, 0, none⟩ = some (.int .i64 kd) := by rw [cs 0]; rfl
  have wc : W0.cell? ⟨w.heap.size, 1, none⟩ = some (.int .i64 wd) := by rw [cs 1]; rfl
  have hcall := bytes_any H0.out wd hw2 hbig
  obtain ⟨bs, hbs⟩ : ∃ bs, bs = aheadB xs p wd := ⟨_, rfl⟩
  obtain ⟨er, her⟩ : ∃ er, er = aheadE ((xs.length : Int) - p) wd := ⟨_, rfl⟩
  obtain ⟨q, hq⟩ : ∃ q, q = p + stepV (aheadE ((xs.length : Int) - p) wd) wd := ⟨_, rfl⟩
  rw [← hbs, ← hq, ← her] at hcall ⊢
  have HC := Lib.hid hcall
  clear hcall hbs her hq
  clear cs hWa hWz hW0 h5z h50 h40 hb0 h hFa h4a hFz h4z hF0 hba hbz hsa hsz hs0
  have g0 : (kd == 0) = false := by simp; omega
  have g1 : (kd == 1) = false := by simp; omega
  have g2 : (kd == 2) = false := by simp; omega
  have g3 : (kd == 3) = false := by simp; omega
  have g5 : (kd == 5) = false := by simp; omega
  have g6 : (kd == 6) = false := by simp; omega
  go_enter Try.func54, Try.ntmps54
  go_upto_region 1 with fail
  rw [← HWa.out]
  go_upto_region 2 with (rw [Hsa.out, ← HWz.out]; refine wpList_store_row rfl 83 (.tmp 6) (.tmp 8) rfl (w.heap.size + 2) #[.int .i64 0, .slice none 0 0, .int .i64 0] rfl rfl 83 #[.int .i64 0, .slice none 0 0, .int .i64 0] H5z.out (Try.sizeTold _ _ _) rfl (oneTold _ _ _ _ _) ?_)
  rw [← HW0.out]
  clear HWa HWz HW0 H5z Hsa
  go_wp2_with fail
  refine HC.out.mono ?_
  rintro e w1 ⟨v, rfl, ho, hm⟩
  have hs0 := Hs0.out
  obtain ⟨a1, c1, rfl, hr⟩ := ho.rd
  obtain ⟨m, hml⟩ : ∃ m, m = bs.length := ⟨_, rfl⟩
  rw [← hml] at ho ⊢
  have k5 := grown_blk hm.grown H50.out (by omega)
  have k4 := grown_blk hm.grown H40.out (by omega)
  have Hm := Lib.hid (Moved.pre Hb0.out hm)
  have Ho := Lib.hid ho
  clear hm H0 H50 H40 HC ho hr hml
  obtain ⟨W2, e2, k52, k42, bk2, ok2⟩ := told_set k5 k4 (by omega : w.heap.size + 1 ≠ w.heap.size + 2) 1 (.slice a1 m c1) (B := w.heap.size) (by omega)
  obtain ⟨W3, e3, k53, k43, bk3, ok3⟩ := told_set k52 k42 (by omega : w.heap.size + 1 ≠ w.heap.size + 2) 2 (.int .i64 er) (B := w.heap.size) (by omega)
  have p1 : w1.cell? ⟨w.heap.size + 2, 1, none⟩ = some (.slice none 0 0) := by rw [cell_of_row _ _ _ _ _ _ k5]; rfl
  have q1 := frozen_of_row w1 (w.heap.size + 2) 1 _ _ k5
  have p2 : W2.cell? ⟨w.heap.size + 2, 2, none⟩ = some (.int .i64 0) := by rw [cell_of_row _ _ _ _ _ _ k52]; rfl
  have q2 := frozen_of_row W2 (w.heap.size + 2) 2 _ _ k52
  have p2' : (w1.setCell ⟨w.heap.size + 2, 1, none⟩ (.slice a1 m c1)).cell? ⟨w.heap.size + 2, 2, none⟩ = some (.int .i64 0) := by rw [e2]; exact p2
  have q2' : (w1.setCell ⟨w.heap.size + 2, 1, none⟩ (.slice a1 m c1)).frozen? ⟨w.heap.size + 2, 2, none⟩ = false := by rw [e2]; exact q2
  have p3 : w1.cell? ⟨w.heap.size + 2, 2, none⟩ = some (.int .i64 0) := by rw [cell_of_row _ _ _ _ _ _ k5]; rfl
  have q3 := frozen_of_row w1 (w.heap.size + 2) 2 _ _ k5
  have k53' : W3.heap[w.heap.size + 2]? = some (.cells #[.int .i64 0, .slice a1 m c1, .int .i64 er] 83 (0, 0)) := k53
  have B3 := Lib.hid (bk2.trans bk3)
  have E2 := Lib.hid e2
  have E3 := Lib.hid e3
  have K53 := Lib.hid k53'
  have K43 := Lib.hid k43
  have O3 := Lib.hid (And.intro ok2 ok3)
  clear e2 e3 bk2 bk3 k52 k42 k53 k53' k43 ok2 ok3 k5 k4
  go_upto_region 17 with fail
  rw [E2.out, E3.out]
  clear E2 E3 p1 p2 q1 q2 p2' q2' p3 q3
  have c5 := fun (i : Nat) => cell_of_row W3 (w.heap.size + 2) i _ _ _ K53.out
  have d0 : W3.cell? ⟨w.heap.size + 2, 0, none⟩ = some (.int .i64 0) := by rw [c5 0]; rfl
  have d1 : W3.cell? ⟨w.heap.size + 2, 1, none⟩ = some (.slice a1 m c1) := by rw [c5 1]; rfl
  have d2 : W3.cell? ⟨w.heap.size + 2, 2, none⟩ = some (.int .i64 er) := by rw [c5 2]; rfl
  clear c5
  go_wp2_with (refine wpList_store_row rfl 83 (.tmp 4) (.tmp 77) rfl (w.heap.size + 1) #[.int .i64 0, .slice a1 m c1, .int .i64 er] rfl rfl 83 #[.int .i64 0, .slice none 0 0, .int .i64 0] K43.out (Try.sizeTold _ _ _) rfl (oneTold _ _ _ _ _) ?_)
  refine bodyPost_ret (v := .tuple #[.agg #[.int .i64 0, .slice a1 m c1, .int .i64 er], .pointer none]) ?_ rfl ?_
  · exact results_cell_two (p := 4) (q := 5) rfl _ _ (w.heap.size + 1) 83 #[.int .i64 0, .slice a1 m c1, .int .i64 er] (0, 0) _ rfl (setRow_heap _ _ _ _ _ _ K43.out) Try.underlying83 rfl (Try.sizeTold _ _ _) _ rfl
  · exact ⟨_, rfl, a1, m, c1, rfl, ((O3.out.2 _ _ _ (by omega) (O3.out.1 _ _ _ (by omega) Ho.out)).setRow (by omega) _).mono (by omega), Moved.low H.out Hm.out (B3.out.trans (below_setRow' _ _ _ _ (by omega)))⟩
end Go.Proofs.Ytmfijcniaehooaa

/- What the law's did answers, of Seek and Sub. -/
namespace Go.Proofs.Ytmfijcniaehooaa
set_option linter.unusedVariables false
open Go.RowKit

theorem Rd.apart {w w' : World} {g : Nat} {cs : Array Value} {t : TypeId} {a : Option Addr} {len cap : Nat} {xs : List Int} (h : Rd w a len cap xs) (hg : w.heap[g]? = some (.cells cs t (0, 0))) (hno : ∀ (i : Nat) (m : Int), cs[i]? ≠ some (Value.int .u8 m)) (hk : ∀ k, k ≠ g → w'.heap[k]? = w.heap[k]?) : Rd w' a len cap xs := by
  refine ⟨h.hl, h.hc, h.hm, h.hb, h.hn, fun h0 => ?_⟩
  obtain ⟨b, off, ha, hc⟩ := h.hr h0
  have hne : b ≠ g := by
    rintro rfl
    have := hc 0 h0
    rw [cell_of_row _ _ _ _ _ _ hg] at this
    exact hno _ _ this
  exact ⟨b, off, ha, fun i hi => by rw [← hc i hi]; exact World.cell?_of_block (w := w) (hk b hne)⟩
theorem Own.apart {w w' : World} {g B : Nat} {cs : Array Value} {t : TypeId} {v : Value} {xs : List Int} (h : Own w B v xs) (hg : w.heap[g]? = some (.cells cs t (0, 0))) (ht : t ≠ 5) (hk : ∀ k, k ≠ g → w'.heap[k]? = w.heap[k]?) : Own w' B v xs := by
  refine ⟨⟨h.1.1, ?_⟩, h.2⟩
  rcases h.1.2 with hn | ⟨k, cap, cur, rfl, hk0, hkk, rest⟩
  · exact .inl hn
  · refine .inr ⟨k, cap, cur, rfl, hk0, ?_, rest⟩
    rw [hk k ?_]
    · exact hkk
    · rintro rfl
      have := hg.symm.trans hkk
      simp only [Option.some.injEq, Obj.cells.injEq] at this
      exact ht this.2.1
theorem told_no (x z : Int) (v : Value) (hv : ∀ m, v ≠ .int .u8 m) : ∀ (i : Nat) (m : Int), (#[.int .i64 x, v, .int .i64 z] : Array Value)[i]? ≠ some (.int .u8 m) := by
  intro i m
  rcases i with _ | _ | _ | i
  · simp
  · simp; exact hv m
  · simp
  · simp
theorem IsR.apart {w w' : World} {R p len cap g : Nat} {a : Option Addr} {xs : List Int} {cs : Array Value} {t : TypeId} (h : IsR w R p a len cap xs) (hg : w.heap[g]? = some (.cells cs t (0, 0))) (hno : ∀ (i : Nat) (m : Int), cs[i]? ≠ some (Value.int .u8 m)) (hne : R ≠ g) (hk : ∀ k, k ≠ g → w'.heap[k]? = w.heap[k]?) : IsR w' R p a len cap xs :=
  ⟨(hk R hne).trans h.blk, h.rd.apart hg hno hk, h.hp⟩
/-- Where Seek leads. -/
def seekE (len : Nat) (n : Int) : Int := if n < 0 ∨ (len : Int) < n then 1 else 0
def seekQ (p len : Nat) (n : Int) : Nat := if n < 0 ∨ (len : Int) < n then p else n.toNat
theorem seek_any {w : World} {R p len cap : Nat} {a : Option Addr} {xs : List Int} (h : IsR w R p a len cap xs) (n : Int) :
    Calls Try.prog 57 #[.pointer (some ⟨R, 0, none⟩), .int .i64 n] w fun e w' => e = .returned (.int .i64 (seekE len n)) ∧ Moved w w' R (seekQ p len n) a len cap xs := by
  by_cases hn : n < 0 ∨ (len : Int) < n
  · unfold seekE seekQ
    rw [if_pos hn, if_pos hn]
    refine (seek_bad h n hn).mono ?_
    rintro e w' ⟨rfl, rfl⟩
    exact ⟨rfl, Moved.of_below h (Below.refl _ _)⟩
  · unfold seekE seekQ
    rw [if_neg hn, if_neg hn]
    obtain ⟨k, rfl⟩ := Int.eq_ofNat_of_zero_le (show 0 ≤ n by omega)
    rw [Int.toNat_natCast]
    exact seek_ok h k (by omega)
set_option maxRecDepth 100000 in
set_option maxHeartbeats 4000000 in
theorem did_5 {w : World} {R p len cap : Nat} {a : Option Addr} {xs : List Int} (h : IsR w R p a len cap xs) (kd wd : Int) (hw1 : -9223372036854775808 ≤ wd) (hw2 : wd ≤ 9223372036854775807) (hbig : len ≤ 140737488355328) (hk : kd = 5) :
    Calls Try.prog 54 #[.pointer (some ⟨R, 0, none⟩), .agg #[.int .i64 kd, .int .i64 wd]] w fun e w' => ∃ v, e = .returned (.tuple #[v, .pointer none]) ∧ Told w R a len cap xs (0) ([]) (seekE len wd) (seekQ p len wd) v w' := by
  obtain ⟨Wa, hWa⟩ : ∃ Wa, Wa = (w.alloc (.cells #[.int .i64 kd, .int .i64 wd] 87)).alloc (.cells #[.int .i64 0, .slice none 0 0, .int .i64 0] 83) := ⟨_, rfl⟩
  have hsa : Wa.heap.size = w.heap.size + 2 := by rw [hWa]; simp
  have hFa : Wa.heap[w.heap.size]? = some (.cells #[.int .i64 kd, .int .i64 wd] 87 (0, 0)) := by rw [hWa, heap_alloc_old _ _ _ (by simp), heap_alloc_last]
  have h4a : Wa.heap[w.heap.size + 1]? = some (.cells #[.int .i64 0, .slice none 0 0, .int .i64 0] 83 (0, 0)) := by
    rw [hWa]; have := heap_alloc_last (w.alloc (.cells #[.int .i64 kd, .int .i64 wd] 87)) (.cells #[.int .i64 0, .slice none 0 0, .int .i64 0] 83); simpa using this
  have hba : Below w.heap.size w Wa := by rw [hWa]; exact ((Below.refl _ w).alloc (Nat.le_refl _) _).alloc (by simp) _
  obtain ⟨Wz, hWz⟩ : ∃ Wz, Wz = Wa.alloc (.cells #[.int .i64 0, .slice none 0 0, .int .i64 0] 83) := ⟨_, rfl⟩
  have hsz : Wz.heap.size = w.heap.size + 3 := by rw [hWz]; simp [hsa]
  have h5z : Wz.heap[w.heap.size + 2]? = some (.cells #[.int .i64 0, .slice none 0 0, .int .i64 0] 83 (0, 0)) := by rw [hWz, ← hsa, heap_alloc_last]
  have hbz : Below w.heap.size w Wz := by rw [hWz]; exact hba.alloc (by omega) _
  have hFz : Wz.heap[w.heap.size]? = some (.cells #[.int .i64 kd, .int .i64 wd] 87 (0, 0)) := by rw [hWz, heap_alloc_old _ _ _ (by omega)]; exact hFa
  have h4z : Wz.heap[w.heap.size + 1]? = some (.cells #[.int .i64 0, .slice none 0 0, .int .i64 0] 83 (0, 0)) := by rw [hWz, heap_alloc_old _ _ _ (by omega)]; exact h4a
  obtain ⟨W0, hW0⟩ : ∃ W0, W0 = Wz.setRow (w.heap.size + 2) #[.int .i64 0, .slice none 0 0, .int .i64 0] := ⟨_, rfl⟩
  have h50 : W0.heap[w.heap.size + 2]? = some (.cells #[.int .i64 0, .slice none 0 0, .int .i64 0] 83 (0, 0)) := by rw [hW0]; exact setRow_heap _ _ _ _ _ _ h5z
  have h40 : W0.heap[w.heap.size + 1]? = some (.cells #[.int .i64 0, .slice none 0 0, .int .i64 0] 83 (0, 0)) := by rw [hW0]; exact (setRow_other _ _ _ _ (by omega)).trans h4z
  have hF0 : W0.heap[w.heap.size]? = some (.cells #[.int .i64 kd, .int .i64 wd] 87 (0, 0)) := by rw [hW0]; exact (setRow_other _ _ _ _ (by omega)).trans hFz
  have hb0 : Below w.heap.size w W0 := by rw [hW0]; exact hbz.trans (below_setRow' _ _ _ _ (by omega))
  have hs0 : W0.heap.size = w.heap.size + 3 := by rw [hW0]; simp [hsz]
  have H0 := Lib.hid (h.below hb0 (Nat.le_refl _))
  have H := Lib.hid h
  have hR := h.lt
  have cs := fun (i : Nat) => cell_of_row W0 w.heap.size i _ _ _ hF0
  have HWa := Lib.hid hWa
  have HWz := Lib.hid hWz
  have HW0 := Lib.hid hW0
  have H5z := Lib.hid h5z
  have H50 := Lib.hid h50
  have H40 := Lib.hid h40
  have Hb0 := Lib.hid hb0
  have Hsa := Lib.hid hsa
  have Hs0 := Lib.hid hs0
  have kc : W0.cell? ⟨w.heap.size, 0, none⟩ = some (.int .i64 kd) := by rw [cs 0]; rfl
  have wc : W0.cell? ⟨w.heap.size, 1, none⟩ = some (.int .i64 wd) := by rw [cs 1]; rfl
  have hcall := seek_any H0.out wd
  obtain ⟨er, her⟩ : ∃ er, er = seekE len wd := ⟨_, rfl⟩
  obtain ⟨q, hq⟩ : ∃ q, q = seekQ p len wd := ⟨_, rfl⟩
  rw [← her, ← hq] at hcall ⊢
  have HC := Lib.hid hcall
  clear hcall her hq
  clear cs hWa hWz hW0 h5z h50 h40 hb0 h hFa h4a hFz h4z hF0 hba hbz hsa hsz hs0
  subst hk
  go_enter Try.func54, Try.ntmps54
  go_upto_region 1 with fail
  rw [← HWa.out]
  go_upto_region 2 with (rw [Hsa.out, ← HWz.out]; refine wpList_store_row rfl 83 (.tmp 6) (.tmp 8) rfl (w.heap.size + 2) #[.int .i64 0, .slice none 0 0, .int .i64 0] rfl rfl 83 #[.int .i64 0, .slice none 0 0, .int .i64 0] H5z.out (Try.sizeTold _ _ _) rfl (oneTold _ _ _ _ _) ?_)
  rw [← HW0.out]
  clear HWa HWz HW0 H5z Hsa
  go_wp2_with fail
  refine HC.out.mono ?_
  rintro e w1 ⟨rfl, hm⟩
  have k5 := grown_blk hm.grown H50.out (by omega)
  have k4 := grown_blk hm.grown H40.out (by omega)
  have Hm := Lib.hid (Moved.pre Hb0.out hm)
  clear hm H0 H50 H40 HC
  obtain ⟨W3, e3, k53, k43, bk3, ok3⟩ := told_set k5 k4 (by omega : w.heap.size + 1 ≠ w.heap.size + 2) 2 (.int .i64 er) (B := w.heap.size) (by omega)
  have p1 : w1.cell? ⟨w.heap.size + 2, 2, none⟩ = some (.int .i64 0) := by rw [cell_of_row _ _ _ _ _ _ k5]; rfl
  have q1 := frozen_of_row w1 (w.heap.size + 2) 2 _ _ k5
  have k53' : W3.heap[w.heap.size + 2]? = some (.cells #[.int .i64 0, .slice none 0 0, .int .i64 er] 83 (0, 0)) := k53
  have hk3 : ∀ k, k ≠ w.heap.size + 2 → W3.heap[k]? = w1.heap[k]? := fun k hk => by rw [← e3]; exact heap_setCell_other w1 ⟨w.heap.size + 2, 2, none⟩ k _ hk
  have B3 := Lib.hid bk3
  have E3 := Lib.hid e3
  have K53 := Lib.hid k53'
  have K43 := Lib.hid k43
  have HK3 := Lib.hid hk3
  have HK5 := Lib.hid k5
  clear e3 bk3 k53 k53' k43 ok3 k5 k4 hk3
  go_upto_region 17 with fail
  rw [E3.out]
  clear E3 p1 q1
  have c5 := fun (i : Nat) => cell_of_row W3 (w.heap.size + 2) i _ _ _ K53.out
  have d0 : W3.cell? ⟨w.heap.size + 2, 0, none⟩ = some (.int .i64 0) := by rw [c5 0]; rfl
  have d1 : W3.cell? ⟨w.heap.size + 2, 1, none⟩ = some (.slice none 0 0) := by rw [c5 1]; rfl
  have d2 : W3.cell? ⟨w.heap.size + 2, 2, none⟩ = some (.int .i64 er) := by rw [c5 2]; rfl
  clear c5
  go_wp2_with (refine wpList_store_row rfl 83 (.tmp 4) (.tmp 77) rfl (w.heap.size + 1) #[.int .i64 0, .slice none 0 0, .int .i64 er] rfl rfl 83 #[.int .i64 0, .slice none 0 0, .int .i64 0] K43.out (Try.sizeTold _ _ _) rfl (oneTold _ _ _ _ _) ?_)
  refine bodyPost_ret (v := .tuple #[.agg #[.int .i64 0, .slice none 0 0, .int .i64 er], .pointer none]) ?_ rfl ?_
  · exact results_cell_two (p := 4) (q := 5) rfl _ _ (w.heap.size + 1) 83 #[.int .i64 0, .slice none 0 0, .int .i64 er] (0, 0) _ rfl (setRow_heap _ _ _ _ _ _ K43.out) Try.underlying83 rfl (Try.sizeTold _ _ _) _ rfl
  · exact ⟨_, rfl, none, 0, 0, rfl, Own.nil _ _, Moved.low H.out Hm.out (B3.out.trans (below_setRow' _ _ _ _ (by omega)))⟩
set_option maxRecDepth 100000 in
set_option maxHeartbeats 4000000 in
theorem did_6 {w : World} {R p len cap : Nat} {a : Option Addr} {xs : List Int} (h : IsR w R p a len cap xs) (wd : Int) (hw1 : -9223372036854775808 ≤ wd) (hw2 : wd ≤ 9223372036854775807) (hbig : len ≤ 140737488355328) (hE : aheadE ((xs.length : Int) - p) wd = 0) :
    Calls Try.prog 54 #[.pointer (some ⟨R, 0, none⟩), .agg #[.int .i64 6, .int .i64 wd]] w fun e w' => ∃ v R2 a2 c2, e = .returned (.tuple #[v, .pointer (some ⟨R2, 0, none⟩)]) ∧ w.heap.size ≤ R2 ∧ IsR w' R2 0 a2 wd.toNat c2 (aheadB xs p wd) ∧ Told w R a len cap xs 0 [] 0 (p + wd.toNat) v w' := by
  obtain ⟨Wa, hWa⟩ : ∃ Wa, Wa = (w.alloc (.cells #[.int .i64 6, .int .i64 wd] 87)).alloc (.cells #[.int .i64 0, .slice none 0 0, .int .i64 0] 83) := ⟨_, rfl⟩
  have hsa : Wa.heap.size = w.heap.size + 2 := by rw [hWa]; simp
  have hFa : Wa.heap[w.heap.size]? = some (.cells #[.int .i64 6, .int .i64 wd] 87 (0, 0)) := by rw [hWa, heap_alloc_old _ _ _ (by simp), heap_alloc_last]
  have h4a : Wa.heap[w.heap.size + 1]? = some (.cells #[.int .i64 0, .slice none 0 0, .int .i64 0] 83 (0, 0)) := by
    rw [hWa]; have := heap_alloc_last (w.alloc (.cells #[.int .i64 6, .int .i64 wd] 87)) (.cells #[.int .i64 0, .slice none 0 0, .int .i64 0] 83); simpa using this
  have hba : Below w.heap.size w Wa := by rw [hWa]; exact ((Below.refl _ w).alloc (Nat.le_refl _) _).alloc (by simp) _
  obtain ⟨Wz, hWz⟩ : ∃ Wz, Wz = Wa.alloc (.cells #[.int .i64 0, .slice none 0 0, .int .i64 0] 83) := ⟨_, rfl⟩
  have hsz : Wz.heap.size = w.heap.size + 3 := by rw [hWz]; simp [hsa]
  have h5z : Wz.heap[w.heap.size + 2]? = some (.cells #[.int .i64 0, .slice none 0 0, .int .i64 0] 83 (0, 0)) := by rw [hWz, ← hsa, heap_alloc_last]
  have hbz : Below w.heap.size w Wz := by rw [hWz]; exact hba.alloc (by omega) _
  have hFz : Wz.heap[w.heap.size]? = some (.cells #[.int .i64 6, .int .i64 wd] 87 (0, 0)) := by rw [hWz, heap_alloc_old _ _ _ (by omega)]; exact hFa
  have h4z : Wz.heap[w.heap.size + 1]? = some (.cells #[.int .i64 0, .slice none 0 0, .int .i64 0] 83 (0, 0)) := by rw [hWz, heap_alloc_old _ _ _ (by omega)]; exact h4a
  obtain ⟨W0, hW0⟩ : ∃ W0, W0 = Wz.setRow (w.heap.size + 2) #[.int .i64 0, .slice none 0 0, .int .i64 0] := ⟨_, rfl⟩
  have h50 : W0.heap[w.heap.size + 2]? = some (.cells #[.int .i64 0, .slice none 0 0, .int .i64 0] 83 (0, 0)) := by rw [hW0]; exact setRow_heap _ _ _ _ _ _ h5z
  have h40 : W0.heap[w.heap.size + 1]? = some (.cells #[.int .i64 0, .slice none 0 0, .int .i64 0] 83 (0, 0)) := by rw [hW0]; exact (setRow_other _ _ _ _ (by omega)).trans h4z
  have hF0 : W0.heap[w.heap.size]? = some (.cells #[.int .i64 6, .int .i64 wd] 87 (0, 0)) := by rw [hW0]; exact (setRow_other _ _ _ _ (by omega)).trans hFz
  have hb0 : Below w.heap.size w W0 := by rw [hW0]; exact hbz.trans (below_setRow' _ _ _ _ (by omega))
  have hs0 : W0.heap.size = w.heap.size + 3 := by rw [hW0]; simp [hsz]
  have H0 := Lib.hid (h.below hb0 (Nat.le_refl _))
  have H := Lib.hid h
  have hR := h.lt
  have cs := fun (i : Nat) => cell_of_row W0 w.heap.size i _ _ _ hF0
  have HWa := Lib.hid hWa
  have HWz := Lib.hid hWz
  have HW0 := Lib.hid hW0
  have H5z := Lib.hid h5z
  have H50 := Lib.hid h50
  have H40 := Lib.hid h40
  have Hb0 := Lib.hid hb0
  have Hsa := Lib.hid hsa
  have Hs0 := Lib.hid hs0
  have kc : W0.cell? ⟨w.heap.size, 0, none⟩ = some (.int .i64 6) := by rw [cs 0]; rfl
  have wc : W0.cell? ⟨w.heap.size, 1, none⟩ = some (.int .i64 wd) := by rw [cs 1]; rfl
  have hcall : Calls Try.prog 58 #[.pointer (some ⟨R, 0, none⟩), .int .i64 wd] W0 fun e w' => ∃ R2 a2 c2, e = .returned (.tuple #[.pointer (some ⟨R2, 0, none⟩), .int .i64 0]) ∧ W0.heap.size ≤ R2 ∧ IsR w' R2 0 a2 wd.toNat c2 (aheadB xs p wd) ∧ Moved W0 w' R (p + wd.toNat) a len cap xs := by
    refine (sub_any H0.out wd hw2 hbig).mono ?_
    intro e w' hp
    rcases hp with ⟨_, hp⟩ | ⟨h1, _⟩
    · exact hp
    · exact absurd hE h1
  have HC := Lib.hid hcall
  clear hcall hE
  clear cs hWa hWz hW0 h5z h50 h40 hb0 h hFa h4a hFz h4z hF0 hba hbz hsa hsz hs0
  go_enter Try.func54, Try.ntmps54
  go_upto_region 1 with fail
  rw [← HWa.out]
  go_upto_region 2 with (rw [Hsa.out, ← HWz.out]; refine wpList_store_row rfl 83 (.tmp 6) (.tmp 8) rfl (w.heap.size + 2) #[.int .i64 0, .slice none 0 0, .int .i64 0] rfl rfl 83 #[.int .i64 0, .slice none 0 0, .int .i64 0] H5z.out (Try.sizeTold _ _ _) rfl (oneTold _ _ _ _ _) ?_)
  rw [← HW0.out]
  clear HWa HWz HW0 H5z Hsa
  go_wp2_with fail
  refine HC.out.mono ?_
  rintro e w1 ⟨R2, a2, c2, rfl, hR2, hI2, hm⟩
  have hs0 := Hs0.out
  have k5 := grown_blk hm.grown H50.out (by omega)
  have k4 := grown_blk hm.grown H40.out (by omega)
  have Hm := Lib.hid (Moved.pre Hb0.out hm)
  have I2 := Lib.hid hI2
  have hne5 : R2 ≠ w.heap.size + 2 := by omega
  have hne4 : R2 ≠ w.heap.size + 1 := by omega
  have hge : w.heap.size ≤ R2 := by omega
  clear hm H0 H50 H40 HC hI2 hR2
  obtain ⟨W3, e3, k53, k43, bk3, ok3⟩ := told_set k5 k4 (by omega : w.heap.size + 1 ≠ w.heap.size + 2) 2 (.int .i64 0) (B := w.heap.size) (by omega)
  have p1 : w1.cell? ⟨w.heap.size + 2, 2, none⟩ = some (.int .i64 0) := by rw [cell_of_row _ _ _ _ _ _ k5]; rfl
  have q1 := frozen_of_row w1 (w.heap.size + 2) 2 _ _ k5
  have k53' : W3.heap[w.heap.size + 2]? = some (.cells #[.int .i64 0, .slice none 0 0, .int .i64 0] 83 (0, 0)) := k53
  have hk3 : ∀ k, k ≠ w.heap.size + 2 → W3.heap[k]? = w1.heap[k]? := fun k hk => by rw [← e3]; exact heap_setCell_other w1 ⟨w.heap.size + 2, 2, none⟩ k _ hk
  have B3 := Lib.hid bk3
  have E3 := Lib.hid e3
  have K53 := Lib.hid k53'
  have K43 := Lib.hid k43
  have HK3 := Lib.hid hk3
  have HK5 := Lib.hid k5
  clear e3 bk3 k53 k53' k43 ok3 k5 k4 hk3
  go_upto_region 17 with fail
  rw [E3.out]
  clear E3 p1 q1
  have c5 := fun (i : Nat) => cell_of_row W3 (w.heap.size + 2) i _ _ _ K53.out
  have d0 : W3.cell? ⟨w.heap.size + 2, 0, none⟩ = some (.int .i64 0) := by rw [c5 0]; rfl
  have d1 : W3.cell? ⟨w.heap.size + 2, 1, none⟩ = some (.slice none 0 0) := by rw [c5 1]; rfl
  have d2 : W3.cell? ⟨w.heap.size + 2, 2, none⟩ = some (.int .i64 0) := by rw [c5 2]; rfl
  clear c5
  go_wp2_with (refine wpList_store_row rfl 83 (.tmp 4) (.tmp 77) rfl (w.heap.size + 1) #[.int .i64 0, .slice none 0 0, .int .i64 0] rfl rfl 83 #[.int .i64 0, .slice none 0 0, .int .i64 0] K43.out (Try.sizeTold _ _ _) rfl (oneTold _ _ _ _ _) ?_)
  refine bodyPost_ret (v := .tuple #[.agg #[.int .i64 0, .slice none 0 0, .int .i64 0], .pointer (some ⟨R2, 0, none⟩)]) ?_ rfl ?_
  · exact results_cell_two (p := 4) (q := 5) rfl _ _ (w.heap.size + 1) 83 #[.int .i64 0, .slice none 0 0, .int .i64 0] (0, 0) _ rfl (setRow_heap _ _ _ _ _ _ K43.out) Try.underlying83 rfl (Try.sizeTold _ _ _) _ rfl
  · refine ⟨_, R2, a2, c2, rfl, hge, ?_, none, 0, 0, rfl, Own.nil _ _, Moved.low H.out Hm.out (B3.out.trans (below_setRow' _ _ _ _ (by omega)))⟩
    exact (I2.out.apart HK5.out (told_no 0 0 _ (by simp)) hne5 HK3.out).apart K43.out (told_no 0 0 _ (by simp)) hne4 (fun k hk => setRow_other _ _ _ _ hk)
set_option maxRecDepth 100000 in
set_option maxHeartbeats 4000000 in
theorem did_6e {w : World} {R p len cap : Nat} {a : Option Addr} {xs : List Int} (h : IsR w R p a len cap xs) (wd : Int) (hw1 : -9223372036854775808 ≤ wd) (hw2 : wd ≤ 9223372036854775807) (hbig : len ≤ 140737488355328) (hE : aheadE ((xs.length : Int) - p) wd ≠ 0) :
    Calls Try.prog 54 #[.pointer (some ⟨R, 0, none⟩), .agg #[.int .i64 6, .int .i64 wd]] w fun e w' => ∃ v, e = .returned (.tuple #[v, .pointer none]) ∧ Told w R a len cap xs 0 [] (aheadE ((xs.length : Int) - p) wd) p v w' := by
  obtain ⟨Wa, hWa⟩ : ∃ Wa, Wa = (w.alloc (.cells #[.int .i64 6, .int .i64 wd] 87)).alloc (.cells #[.int .i64 0, .slice none 0 0, .int .i64 0] 83) := ⟨_, rfl⟩
  have hsa : Wa.heap.size = w.heap.size + 2 := by rw [hWa]; simp
  have hFa : Wa.heap[w.heap.size]? = some (.cells #[.int .i64 6, .int .i64 wd] 87 (0, 0)) := by rw [hWa, heap_alloc_old _ _ _ (by simp), heap_alloc_last]
  have h4a : Wa.heap[w.heap.size + 1]? = some (.cells #[.int .i64 0, .slice none 0 0, .int .i64 0] 83 (0, 0)) := by
    rw [hWa]; have := heap_alloc_last (w.alloc (.cells #[.int .i64 6, .int .i64 wd] 87)) (.cells #[.int .i64 0, .slice none 0 0, .int .i64 0] 83); simpa using this
  have hba : Below w.heap.size w Wa := by rw [hWa]; exact ((Below.refl _ w).alloc (Nat.le_refl _) _).alloc (by simp) _
  obtain ⟨Wz, hWz⟩ : ∃ Wz, Wz = Wa.alloc (.cells #[.int .i64 0, .slice none 0 0, .int .i64 0] 83) := ⟨_, rfl⟩
  have hsz : Wz.heap.size = w.heap.size + 3 := by rw [hWz]; simp [hsa]
  have h5z : Wz.heap[w.heap.size + 2]? = some (.cells #[.int .i64 0, .slice none 0 0, .int .i64 0] 83 (0, 0)) := by rw [hWz, ← hsa, heap_alloc_last]
  have hbz : Below w.heap.size w Wz := by rw [hWz]; exact hba.alloc (by omega) _
  have hFz : Wz.heap[w.heap.size]? = some (.cells #[.int .i64 6, .int .i64 wd] 87 (0, 0)) := by rw [hWz, heap_alloc_old _ _ _ (by omega)]; exact hFa
  have h4z : Wz.heap[w.heap.size + 1]? = some (.cells #[.int .i64 0, .slice none 0 0, .int .i64 0] 83 (0, 0)) := by rw [hWz, heap_alloc_old _ _ _ (by omega)]; exact h4a
  obtain ⟨W0, hW0⟩ : ∃ W0, W0 = Wz.setRow (w.heap.size + 2) #[.int .i64 0, .slice none 0 0, .int .i64 0] := ⟨_, rfl⟩
  have h50 : W0.heap[w.heap.size + 2]? = some (.cells #[.int .i64 0, .slice none 0 0, .int .i64 0] 83 (0, 0)) := by rw [hW0]; exact setRow_heap _ _ _ _ _ _ h5z
  have h40 : W0.heap[w.heap.size + 1]? = some (.cells #[.int .i64 0, .slice none 0 0, .int .i64 0] 83 (0, 0)) := by rw [hW0]; exact (setRow_other _ _ _ _ (by omega)).trans h4z
  have hF0 : W0.heap[w.heap.size]? = some (.cells #[.int .i64 6, .int .i64 wd] 87 (0, 0)) := by rw [hW0]; exact (setRow_other _ _ _ _ (by omega)).trans hFz
  have hb0 : Below w.heap.size w W0 := by rw [hW0]; exact hbz.trans (below_setRow' _ _ _ _ (by omega))
  have hs0 : W0.heap.size = w.heap.size + 3 := by rw [hW0]; simp [hsz]
  have H0 := Lib.hid (h.below hb0 (Nat.le_refl _))
  have H := Lib.hid h
  have hR := h.lt
  have cs := fun (i : Nat) => cell_of_row W0 w.heap.size i _ _ _ hF0
  have HWa := Lib.hid hWa
  have HWz := Lib.hid hWz
  have HW0 := Lib.hid hW0
  have H5z := Lib.hid h5z
  have H50 := Lib.hid h50
  have H40 := Lib.hid h40
  have Hb0 := Lib.hid hb0
  have Hsa := Lib.hid hsa
  have Hs0 := Lib.hid hs0
  have kc : W0.cell? ⟨w.heap.size, 0, none⟩ = some (.int .i64 6) := by rw [cs 0]; rfl
  have wc : W0.cell? ⟨w.heap.size, 1, none⟩ = some (.int .i64 wd) := by rw [cs 1]; rfl
  have hcall : Calls Try.prog 58 #[.pointer (some ⟨R, 0, none⟩), .int .i64 wd] W0 fun e w' => e = .returned (.tuple #[.pointer none, .int .i64 (aheadE ((xs.length : Int) - p) wd)]) ∧ Moved W0 w' R p a len cap xs := by
    refine (sub_any H0.out wd hw2 hbig).mono ?_
    intro e w' hp
    rcases hp with ⟨h1, _⟩ | ⟨_, h1, h2⟩
    · exact absurd h1 hE
    · exact ⟨h1, Moved.of_below H0.out h2⟩
  obtain ⟨er, her⟩ : ∃ er, er = aheadE ((xs.length : Int) - p) wd := ⟨_, rfl⟩
  rw [← her] at hcall ⊢
  have HC := Lib.hid hcall
  clear hcall hE her
  clear cs hWa hWz hW0 h5z h50 h40 hb0 h hFa h4a hFz h4z hF0 hba hbz hsa hsz hs0
  go_enter Try.func54, Try.ntmps54
  go_upto_region 1 with fail
  rw [← HWa.out]
  go_upto_region 2 with (rw [Hsa.out, ← HWz.out]; refine wpList_store_row rfl 83 (.tmp 6) (.tmp 8) rfl (w.heap.size + 2) #[.int .i64 0, .slice none 0 0, .int .i64 0] rfl rfl 83 #[.int .i64 0, .slice none 0 0, .int .i64 0] H5z.out (Try.sizeTold _ _ _) rfl (oneTold _ _ _ _ _) ?_)
  rw [← HW0.out]
  clear HWa HWz HW0 H5z Hsa
  go_wp2_with fail
  refine HC.out.mono ?_
  rintro e w1 ⟨rfl, hm⟩
  have hs0 := Hs0.out
  have k5 := grown_blk hm.grown H50.out (by omega)
  have k4 := grown_blk hm.grown H40.out (by omega)
  have Hm := Lib.hid (Moved.pre Hb0.out hm)
  clear hm H0 H50 H40 HC
  obtain ⟨W3, e3, k53, k43, bk3, ok3⟩ := told_set k5 k4 (by omega : w.heap.size + 1 ≠ w.heap.size + 2) 2 (.int .i64 er) (B := w.heap.size) (by omega)
  have p1 : w1.cell? ⟨w.heap.size + 2, 2, none⟩ = some (.int .i64 0) := by rw [cell_of_row _ _ _ _ _ _ k5]; rfl
  have q1 := frozen_of_row w1 (w.heap.size + 2) 2 _ _ k5
  have k53' : W3.heap[w.heap.size + 2]? = some (.cells #[.int .i64 0, .slice none 0 0, .int .i64 er] 83 (0, 0)) := k53
  have hk3 : ∀ k, k ≠ w.heap.size + 2 → W3.heap[k]? = w1.heap[k]? := fun k hk => by rw [← e3]; exact heap_setCell_other w1 ⟨w.heap.size + 2, 2, none⟩ k _ hk
  have B3 := Lib.hid bk3
  have E3 := Lib.hid e3
  have K53 := Lib.hid k53'
  have K43 := Lib.hid k43
  have HK3 := Lib.hid hk3
  have HK5 := Lib.hid k5
  clear e3 bk3 k53 k53' k43 ok3 k5 k4 hk3
  go_upto_region 17 with fail
  rw [E3.out]
  clear E3 p1 q1
  have c5 := fun (i : Nat) => cell_of_row W3 (w.heap.size + 2) i _ _ _ K53.out
  have d0 : W3.cell? ⟨w.heap.size + 2, 0, none⟩ = some (.int .i64 0) := by rw [c5 0]; rfl
  have d1 : W3.cell? ⟨w.heap.size + 2, 1, none⟩ = some (.slice none 0 0) := by rw [c5 1]; rfl
  have d2 : W3.cell? ⟨w.heap.size + 2, 2, none⟩ = some (.int .i64 er) := by rw [c5 2]; rfl
  clear c5
  go_wp2_with (refine wpList_store_row rfl 83 (.tmp 4) (.tmp 77) rfl (w.heap.size + 1) #[.int .i64 0, .slice none 0 0, .int .i64 er] rfl rfl 83 #[.int .i64 0, .slice none 0 0, .int .i64 0] K43.out (Try.sizeTold _ _ _) rfl (oneTold _ _ _ _ _) ?_)
  refine bodyPost_ret (v := .tuple #[.agg #[.int .i64 0, .slice none 0 0, .int .i64 er], .pointer none]) ?_ rfl ?_
  · exact results_cell_two (p := 4) (q := 5) rfl _ _ (w.heap.size + 1) 83 #[.int .i64 0, .slice none 0 0, .int .i64 er] (0, 0) _ rfl (setRow_heap _ _ _ _ _ _ K43.out) Try.underlying83 rfl (Try.sizeTold _ _ _) _ rfl
  · exact ⟨_, rfl, none, 0, 0, rfl, Own.nil _ _, Moved.low H.out Hm.out (B3.out.trans (below_setRow' _ _ _ _ (by omega)))⟩
end Go.Proofs.Ytmfijcniaehooaa

/- The law's model of a Reader. -/
namespace Go.Proofs.Ytmfijcniaehooaa
set_option linter.unusedVariables false
open Go.RowKit

/-- In w the block M is a model of the bytes xs, at the place p. -/
structure IsM (w : World) (M p : Nat) (a : Option Addr) (len cap : Nat) (xs : List Int) : Prop where
  blk : w.heap[M]? = some (.cells #[.slice a len cap, .int .i64 p] 80 (0, 0))
  rd : Rd w a len cap xs
  hp : p ≤ len
theorem IsM.c0 {w : World} {M p len cap : Nat} {a : Option Addr} {xs : List Int} (h : IsM w M p a len cap xs) : w.cell? ⟨M, 0, none⟩ = some (.slice a len cap) := by rw [cell_of_row _ _ _ _ _ _ h.blk]; rfl
theorem IsM.c1 {w : World} {M p len cap : Nat} {a : Option Addr} {xs : List Int} (h : IsM w M p a len cap xs) : w.cell? ⟨M, 1, none⟩ = some (.int .i64 p) := by rw [cell_of_row _ _ _ _ _ _ h.blk]; rfl
theorem IsM.f1 {w : World} {M p len cap : Nat} {a : Option Addr} {xs : List Int} (h : IsM w M p a len cap xs) : w.frozen? ⟨M, 1, none⟩ = false := frozen_of_row _ _ _ _ _ h.blk
theorem IsM.lt {w : World} {M p len cap : Nat} {a : Option Addr} {xs : List Int} (h : IsM w M p a len cap xs) : M < w.heap.size := (Array.getElem?_eq_some_iff.1 h.blk).1
theorem IsM.below {w w' : World} {B M p len cap : Nat} {a : Option Addr} {xs : List Int} (h : IsM w M p a len cap xs) (hb : Below B w w') (hB : w.heap.size ≤ B) : IsM w' M p a len cap xs :=
  ⟨(hb.block M (Nat.lt_of_lt_of_le h.lt hB)).trans h.blk, h.rd.below hb hB, h.hp⟩
theorem model_no (v : Value) (z : Int) (hv : ∀ m, v ≠ .int .u8 m) : ∀ (i : Nat) (m : Int), (#[v, .int .i64 z] : Array Value)[i]? ≠ some (.int .u8 m) := by
  intro i m
  rcases i with _ | _ | i
  · simp; exact hv m
  · simp
  · simp
/-- From w to w2 the model M was moved to q, and nothing else that was there. -/
structure MovedM (w w2 : World) (M q : Nat) (a : Option Addr) (len cap : Nat) (xs : List Int) : Prop where
  isM : IsM w2 M q a len cap xs
  grown : w.grownBy w2 (some M)
  keeps : ∀ a2 l2 c2 ys, Rd w a2 l2 c2 ys → Rd w2 a2 l2 c2 ys
  owns : ∀ B v ys, Own w B v ys → Own w2 B v ys
theorem IsM.move {w : World} {M p len cap : Nat} {a : Option Addr} {xs : List Int} (h : IsM w M p a len cap xs) (q : Nat) (hq : q ≤ len) : MovedM w (w.setCell ⟨M, 1, none⟩ (.int .i64 q)) M q a len cap xs := by
  have hk : ∀ k, k ≠ M → (w.setCell ⟨M, 1, none⟩ (.int .i64 q)).heap[k]? = w.heap[k]? := fun k hk => heap_setCell_other w ⟨M, 1, none⟩ k _ hk
  have hno := model_no (.slice a len cap) p (by simp)
  refine ⟨⟨heap_setCell_same _ _ _ _ _ _ h.blk, h.rd.apart h.blk hno hk, hq⟩, grown_setCell _ _ _ _, fun a2 l2 c2 ys hr => hr.apart h.blk hno hk, fun B v ys ho => ho.apart h.blk (by decide) hk⟩
theorem MovedM.of_below {w w1 : World} {M p : Nat} {a : Option Addr} {len cap : Nat} {xs : List Int} (h : IsM w M p a len cap xs) (hb : Below w.heap.size w w1) : MovedM w w1 M p a len cap xs :=
  ⟨h.below hb (Nat.le_refl _), grown_of_below hb _, fun a2 l2 c2 ys hr => hr.below hb (Nat.le_refl _), fun B v ys ho => ho.below hb (Nat.le_refl _)⟩
theorem MovedM.trans {w w1 w2 : World} {M q q2 : Nat} {a : Option Addr} {len cap : Nat} {xs : List Int} (h : MovedM w w1 M q a len cap xs) (k : MovedM w1 w2 M q2 a len cap xs) : MovedM w w2 M q2 a len cap xs :=
  ⟨k.isM, grown_trans h.grown k.grown, fun a2 l2 c2 ys hr => k.keeps _ _ _ _ (h.keeps _ _ _ _ hr), fun B v ys ho => k.owns _ _ _ (h.owns _ _ _ ho)⟩
theorem MovedM.pre {w w1 w2 : World} {M q : Nat} {a : Option Addr} {len cap : Nat} {xs : List Int} (hb : Below w.heap.size w w1) (k : MovedM w1 w2 M q a len cap xs) : MovedM w w2 M q a len cap xs :=
  ⟨k.isM, grown_trans (grown_of_below hb _) k.grown, fun a2 l2 c2 ys hr => k.keeps _ _ _ _ (hr.below hb (Nat.le_refl _)), fun B v ys ho => k.owns _ _ _ (ho.below hb (Nat.le_refl _))⟩
theorem MovedM.low {w w2 w3 : World} {M p q : Nat} {a : Option Addr} {len cap : Nat} {xs : List Int} (h0 : IsM w M p a len cap xs) (k : MovedM w w2 M q a len cap xs) (hb : Below w.heap.size w2 w3) : MovedM w w3 M q a len cap xs :=
  ⟨⟨(hb.block M h0.lt).trans k.isM.blk, h0.rd.later k.isM.rd hb, k.isM.hp⟩,
    ⟨hb.os.trans k.grown.os, hb.tape.trans k.grown.tape, hb.output.trans k.grown.output, Nat.le_trans k.grown.size hb.size, fun i hi hne => (hb.block i hi).trans (k.grown.block i hi hne)⟩,
    fun a2 l2 c2 ys hr => hr.later (k.keeps _ _ _ _ hr) hb, fun B v ys ho => ho.later (k.owns _ _ _ ho) hb⟩
section
variable {w : World} {M p len cap : Nat} {a : Option Addr} {xs : List Int} (h : IsM w M p a len cap xs)
include h
set_option maxHeartbeats 400000 in
theorem took_ok (u : Nat) (hu : p + u ≤ len) : Calls Try.prog 81 #[.pointer (some ⟨M, 0, none⟩), .int .i64 u, .int .i64 0] w fun e w' => e = .returned (.tuple #[]) ∧ MovedM w w' M (p + u) a len cap xs := by
  have c1 := h.c1
  have f1 := h.f1
  have hm := h.rd.hm
  have hc := h.rd.hc
  unfold maxLen at hm
  have HM := Lib.hid (h.move (p + u) hu)
  clear h
  go_enter Try.func81, Try.ntmps81
  go_wp2
  go_end0
  refine ⟨rfl, ?_⟩
  have := HM.out
  simpa using this
omit h in
set_option maxHeartbeats 400000 in
theorem took_no (u er : Int) (her : er ≠ 0) : Calls Try.prog 81 #[.pointer (some ⟨M, 0, none⟩), .int .i64 u, .int .i64 er] w fun e w' => e = .returned (.tuple #[]) ∧ w' = w := by
  have hne : (er == 0) = false := by simp [her]
  clear her
  go_enter Try.func81, Try.ntmps81
  go_wp2
  go_end0
  exact ⟨rfl, rfl⟩
end
/-- What goes on by what was read, if it was. -/
theorem took_any {w : World} {M p len cap : Nat} {a : Option Addr} {xs : List Int} (h : IsM w M p a len cap xs) (u er : Int) (q : Nat) (hq : er = 0 → ∃ m : Nat, u = m ∧ p + m ≤ len ∧ q = p + m) (hq2 : er ≠ 0 → q = p) :
    Calls Try.prog 81 #[.pointer (some ⟨M, 0, none⟩), .int .i64 u, .int .i64 er] w fun e w' => e = .returned (.tuple #[]) ∧ MovedM w w' M q a len cap xs := by
  by_cases her : er = 0
  · obtain ⟨m, rfl, hm, rfl⟩ := hq her
    subst her
    exact took_ok h m hm
  · rw [hq2 her]
    refine (took_no u er her).mono ?_
    rintro e w' ⟨rfl, rfl⟩
    exact ⟨rfl, MovedM.of_below h (Below.refl _ _)⟩
/-- What the model's do tells. -/
def ToldM (w : World) (M : Nat) (a : Option Addr) (len cap : Nat) (xs : List Int) (n : Int) (bs : List Int) (er : Int) (q : Nat) (e : Ending) (w' : World) : Prop :=
  ∃ a1 l1 c1, e = .returned (.agg #[.int .i64 n, .slice a1 l1 c1, .int .i64 er]) ∧ Own w' w.heap.size (.slice a1 l1 c1) bs ∧ MovedM w w' M q a len cap xs
end Go.Proofs.Ytmfijcniaehooaa

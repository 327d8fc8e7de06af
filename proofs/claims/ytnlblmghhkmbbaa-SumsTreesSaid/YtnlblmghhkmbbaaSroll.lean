/- The rolling checksum: Sum, slide, Slide and Value answer as the chapter says. -/
import Derived.Test.YtnlblmghhkmbbaaScrc2
import Derived.Laws.Tables
namespace Go.Proofs.Ytnlblmghhkmbbaa
set_option linter.unusedVariables false
open Go.RowKit

theorem Blk.setRow {w : World} {g : Nat} {t : TypeId} {cs : Array Value} (h : Blk w g t cs) (cs' : Array Value) : Blk (w.setRow g cs') g t cs' := setRow_heap w g cs cs' t (0, 0) h
theorem Blk.far {w : World} {g k : Nat} {t : TypeId} {cs : Array Value} (h : Blk w g t cs) (hne : g ≠ k) (cs' : Array Value) : Blk (w.setRow k cs') g t cs := (setRow_other w k g cs' hne).trans h
theorem below_setRow (w : World) (B g : Nat) (cs : Array Value) (h : B ≤ g) : Below B w (w.setRow g cs) :=
  ⟨rfl, rfl, rfl, by simp, fun k hk => setRow_other w g k cs (by omega)⟩
/-- Both parts of the rolling checksum, byte by byte. -/
def rollS (p : Int × Int) (x : Int) : Int × Int := ((p.1 + x) % 65521, (p.2 + (p.1 + x)) % 65521)
def rollV (xs : List Int) : Int × Int := xs.foldl rollS (0, 0)
theorem roll_snoc (xs : List Int) (x : Int) : rollV (xs ++ [x]) = rollS (rollV xs) x := by unfold rollV; rw [List.foldl_append]; rfl
theorem roll_bd (xs : List Int) : 0 ≤ (rollV xs).1 ∧ (rollV xs).1 < 65521 ∧ 0 ≤ (rollV xs).2 ∧ (rollV xs).2 < 65521 := by
  rcases List.eq_nil_or_concat xs with rfl | ⟨ys, x, rfl⟩
  · simp [rollV]
  · rw [List.concat_eq_append, roll_snoc]; unfold rollS; simp only; omega
theorem Try.sizeRoll (u v x : Value) : (Try.prog.info? 31).map (·.size) = some (#[u, v, x] : Array Value).size := by kernel_rfl
theorem oneRoll (x y z : Int) : (#[.int .u32 x, .int .u32 y, .int .i64 z] : Array Value).all (fun x => x.oneCell') = true := by kernel_rfl
set_option maxRecDepth 100000 in
set_option maxHeartbeats 1000000 in
theorem sum_any (a : Option Addr) (len cap : Nat) (xs : List Int) (w : World) (h : Rd w a len cap xs) :
    Calls Try.prog 24 #[.slice a len cap] w fun e w' => e = .returned (.agg #[.int .u32 (rollV xs).1, .int .u32 (rollV xs).2, .int .i64 len]) ∧ Below w.heap.size w w' := by
  have hl := h.hl
  have hm := h.hm
  have hc := h.hc
  unfold maxLen at hm
  obtain ⟨W0, hW0⟩ : ∃ W0, W0 = (w.alloc (.cells #[.int .u32 0, .int .u32 0, .int .i64 0] 31)).alloc (.cells #[.int .u32 0, .int .u32 0, .int .i64 (len : Int)] 31) := ⟨_, rfl⟩
  have hg1 : Blk W0 w.heap.size 31 #[.int .u32 0, .int .u32 0, .int .i64 0] := by
    rw [hW0]; exact (Below.heap_alloc _ _ _ (by simp)).trans (heap_new w _)
  have hg2 : Blk W0 (w.heap.size + 1) 31 #[.int .u32 0, .int .u32 0, .int .i64 (len : Int)] := by
    rw [hW0]; exact heap_alloc2_new w _ _
  have hb0 : Below w.heap.size w W0 := by rw [hW0]; exact ((Below.refl _ w).alloc (Nat.le_refl _) _).alloc (by simp) _
  have hs0 : W0.heap.size = w.heap.size + 2 := by rw [hW0]; simp
  have H := Lib.hid h
  have Hl := Lib.hid hl
  have HW0 := Lib.hid hW0
  have Hg1 := Lib.hid hg1
  have Hg2 := Lib.hid hg2
  have Hb0 := Lib.hid hb0
  have Hs0 := Lib.hid hs0
  clear h hl hW0 hg1 hg2 hb0 hs0
  go_enter Try.func24, Try.ntmps24
  go_wp2_with fail
  rw [← HW0.out]
  clear HW0
  go_loopw [11] (fun i wr => ∃ k : Nat, k ≤ len ∧ i = .int .i64 k ∧ Blk wr (w.heap.size + 1) 31 #[.int .u32 (rollV (xs.take k)).1, .int .u32 (rollV (xs.take k)).2, .int .i64 (len : Int)] ∧ Below (w.heap.size + 1) W0 wr) (fun i _ => len - (intOf i).toNat)
  case atStart => exact ⟨0, Nat.zero_le _, rfl, Hg2.out, Below.refl _ _⟩
  case round =>
    obtain ⟨k, hk, rfl, hblk, hb⟩ := hrel
    have hsz := hb.size
    rw [Hs0.out] at hsz
    by_cases hlt : k < len
    · have hl := Hl.out
      have hbw := Hb0.out.trans (hb.mono (by omega))
      have hR := H.out.below hbw (Nat.le_refl _)
      obtain ⟨b, off, rfl, hcell⟩ := hR.hr (by omega)
      have hc' := hcell k hlt
      have hxb := hR.hb (xs.getD k 0) (by rw [getD_at _ _ (by omega)]; exact List.getElem_mem _)
      have hs : rollV (xs.take (k + 1)) = rollS (rollV (xs.take k)) (xs.getD k 0) := by
        rw [take_snoc xs k (by omega), roll_snoc, getD_at _ _ (by omega)]
      have hbd := roll_bd (xs.take k)
      obtain ⟨x, hx⟩ : ∃ x, x = xs.getD k 0 := ⟨_, rfl⟩
      obtain ⟨p, hp⟩ : ∃ p, p = rollV (xs.take k) := ⟨_, rfl⟩
      rw [← hx] at hc' hxb hs
      rw [← hp] at hs hbd hblk
      obtain ⟨A, B⟩ := p
      have q0 := hblk.cell 0
      have q1 := hblk.cell 1
      have q2 := hblk.cell 2
      have f0 := hblk.frozen 0
      have f1 := hblk.frozen 1
      have f2 := hblk.frozen 2
      simp only [List.getElem?_toArray, List.getElem?_cons_zero, List.getElem?_cons_succ] at q0 q1 q2
      have HS := Lib.hid hs
      have HB := Lib.hid hblk
      have Hb := Lib.hid hb
      have hlt2 : w.heap.size + 1 < wr.heap.size := by omega
      simp only at hbd
      obtain ⟨b1, b2, b3, b4⟩ := hbd
      obtain ⟨x1, x2⟩ := hxb
      clear hx hp hcell hs hl hblk hb hbw hR
      go_wp2_with fail
      go_roundw
      case rel => exact ⟨k + 1, by omega, by go_num, by rw [HS.out]; exact (HB.out.set_ 0 (.int .u32 ((A + x) % 65521))).set_ 1 (.int .u32 ((B + (A + x)) % 65521)), (Hb.out.setCell (Nat.le_refl _) _).setCell (Nat.le_refl _) _⟩
      case measure => simp [intOf]; omega
    · have ht : xs.take k = xs := List.take_of_length_le (by rw [Hl.out]; omega)
      rw [ht] at hblk
      obtain ⟨p, hp⟩ : ∃ p, p = rollV xs := ⟨_, rfl⟩
      have HP := Lib.hid hp
      rw [← hp] at hblk
      obtain ⟨A, B⟩ := p
      have q0 := hblk.cell 0
      have q1 := hblk.cell 1
      have q2 := hblk.cell 2
      simp only [List.getElem?_toArray, List.getElem?_cons_zero, List.getElem?_cons_succ] at q0 q1 q2
      have hg1 : Blk wr w.heap.size 31 #[.int .u32 0, .int .u32 0, .int .i64 0] := Hg1.out.below hb (by omega)
      have HB := Lib.hid hblk
      have HG := Lib.hid hg1
      have Hbw := Lib.hid (Hb0.out.trans (hb.mono (by omega)))
      clear hblk hb hp ht hg1
      go_wp2_with (refine wpList_store_row rfl 31 (.tmp 2) (.tmp 30) rfl w.heap.size #[.int .u32 A, .int .u32 B, .int .i64 (len : Int)] rfl rfl 31 #[.int .u32 0, .int .u32 0, .int .i64 0] HG.out (Try.sizeRoll _ _ _) rfl (oneRoll _ _ _) ?_)
      refine bodyPost_ret (v := .agg #[.int .u32 A, .int .u32 B, .int .i64 (len : Int)]) ?_ rfl ?_
      · exact results_cell_row rfl _ _ w.heap.size 31 #[.int .u32 A, .int .u32 B, .int .i64 (len : Int)] (0, 0) _ rfl (setRow_heap _ _ _ _ _ _ HG.out) Try.underlying31 rfl (Try.sizeRoll _ _ _)
      · rw [← HP.out]
        exact ⟨rfl, Hbw.out.trans (below_setRow _ _ _ _ (Nat.le_refl _))⟩
/-- What sliding gives. -/
def slideA (A out in_ : Int) : Int := (A - out + in_ + 65521) % 65521
def slideB (A B N out in_ : Int) : Int := (B - N * out % 65521 + slideA A out in_ + 65521) % 65521
set_option maxRecDepth 100000 in
set_option maxHeartbeats 1000000 in
theorem slide_any (A B N out in_ : Int) (w : World) (a1 : 0 ≤ A) (a2 : A < 65521) (b1 : 0 ≤ B) (b2 : B < 65521) (n1 : 0 ≤ N) (n2 : N ≤ 2147483647) (o1 : 0 ≤ out) (o2 : out ≤ 255) (i1 : 0 ≤ in_) (i2 : in_ ≤ 255) :
    Calls Try.prog 58 #[.agg #[.int .u32 A, .int .u32 B, .int .i64 N], .int .u8 out, .int .u8 in_] w fun e w' => e = .returned (.agg #[.int .u32 (slideA A out in_), .int .u32 (slideB A B N out in_), .int .i64 N]) ∧ Below w.heap.size w w' := by
  have hp1 : 0 ≤ N * out := Int.mul_nonneg n1 o1
  have hp2 : N * out ≤ 2147483647 * 255 := Int.mul_le_mul n2 o2 o1 (by omega)
  have hA : 0 ≤ slideA A out in_ ∧ slideA A out in_ < 65521 := by unfold slideA; omega
  have hB : 0 ≤ slideB A B N out in_ ∧ slideB A B N out in_ < 65521 := by unfold slideB; omega
  have eA : slideA A out in_ = (A - out + in_ + 65521) % 65521 := rfl
  have eB : slideB A B N out in_ = (B - N * out % 65521 + slideA A out in_ + 65521) % 65521 := rfl
  obtain ⟨sA, hsA⟩ : ∃ s, s = slideA A out in_ := ⟨_, rfl⟩
  obtain ⟨sB, hsB⟩ : ∃ s, s = slideB A B N out in_ := ⟨_, rfl⟩
  rw [← hsA] at eA eB hA ⊢
  rw [← hsB] at eB hB ⊢
  have EA := eA.symm
  have EB := eB.symm
  obtain ⟨M, hM⟩ : ∃ M, M = N * out := ⟨_, rfl⟩
  rw [← hM] at hp1 hp2 EB
  have hM' := hM.symm
  clear hsA hsB hM eA eB
  go_enter Try.func58, Try.ntmps58
  go_wp2_with fail
  refine bodyPost_ret (v := .agg #[.int .u32 sA, .int .u32 sB, .int .i64 N]) ?_ rfl ⟨rfl, ((Below.refl _ w).alloc (Nat.le_refl _) _).alloc (by simp) _⟩
  exact results_cell_row rfl _ _ (w.heap.size + 1) 31 #[.int .u32 sA, .int .u32 sB, .int .i64 N] (0, 0) _ rfl (heap_alloc2_new w _ _) Try.underlying31 rfl (Try.sizeRoll _ _ _)
/-- Is a rolling checksum valid, and not empty? -/
def rollOk (A B N : Int) : Bool := decide (A < 65521 ∧ B < 65521 ∧ 1 ≤ N ∧ N ≤ 2147483647)
set_option maxRecDepth 100000 in
set_option maxHeartbeats 1000000 in
theorem slideE_ok (A B N out in_ : Int) (w : World) (a1 : 0 ≤ A) (b1 : 0 ≤ B) (o1 : 0 ≤ out) (o2 : out ≤ 255) (i1 : 0 ≤ in_) (i2 : in_ ≤ 255) (h : rollOk A B N = true) :
    Calls Try.prog 20 #[.agg #[.int .u32 A, .int .u32 B, .int .i64 N], .int .u8 out, .int .u8 in_] w fun e w' => e = .returned (.tuple #[.agg #[.int .u32 (slideA A out in_), .int .u32 (slideB A B N out in_), .int .i64 N], .int .i64 0]) ∧ Below w.heap.size w w' := by
  unfold rollOk at h
  rw [decide_eq_true_eq] at h
  obtain ⟨h1, h2, h3, h4⟩ := h
  have g1 : ¬ 65521 ≤ A := by omega
  have g2 : ¬ 65521 ≤ B := by omega
  have g3 : ¬ N < 1 := by omega
  have g4 : ¬ 2147483647 < N := by omega
  obtain ⟨W0, hW0⟩ : ∃ W0, W0 = (w.alloc (.cells #[.int .u32 A, .int .u32 B, .int .i64 N] 31)).alloc (.cells #[.int .u32 0, .int .u32 0, .int .i64 0] 31) := ⟨_, rfl⟩
  have hg2 : Blk W0 (w.heap.size + 1) 31 #[.int .u32 0, .int .u32 0, .int .i64 0] := by rw [hW0]; exact heap_alloc2_new w _ _
  have hb0 : Below w.heap.size w W0 := by rw [hW0]; exact ((Below.refl _ w).alloc (Nat.le_refl _) _).alloc (by simp) _
  have hs0 : W0.heap.size = w.heap.size + 2 := by rw [hW0]; simp
  have HW0 := Lib.hid hW0
  have Hg2 := Lib.hid hg2
  have Hb0 := Lib.hid hb0
  have Hs0 := Lib.hid hs0
  clear hW0 hg2 hb0 hs0
  go_enter Try.func20, Try.ntmps20
  go_wp2_with fail
  rw [← HW0.out]
  refine (slide_any A B N out in_ W0 a1 (by omega) b1 (by omega) (by omega) (by omega) o1 o2 i1 i2).mono ?_
  rintro e w1 ⟨rfl, hb⟩
  have hg := Hg2.out.below hb (by rw [Hs0.out]; omega)
  have Hg := Lib.hid hg
  have Hb := Lib.hid (Hb0.out.trans (hb.mono (by rw [Hs0.out]; omega)))
  clear hg hb
  obtain ⟨sA, hsA⟩ : ∃ s, s = slideA A out in_ := ⟨_, rfl⟩
  obtain ⟨sB, hsB⟩ : ∃ s, s = slideB A B N out in_ := ⟨_, rfl⟩
  rw [← hsA, ← hsB]
  have HA := Lib.hid (And.intro hsA hsB)
  clear hsA hsB HW0 Hg2
  go_wp2_with (refine wpList_store_row rfl 31 (.tmp 6) (.tmp 30) rfl (w.heap.size + 1) #[.int .u32 sA, .int .u32 sB, .int .i64 N] rfl rfl 31 #[.int .u32 0, .int .u32 0, .int .i64 0] Hg.out (Try.sizeRoll _ _ _) rfl (oneRoll _ _ _) ?_)
  have hg3 := setRow_heap w1 (w.heap.size + 1) _ #[.int .u32 sA, .int .u32 sB, .int .i64 N] _ _ Hg.out
  have hb3 := Hb.out.trans (below_setRow w1 w.heap.size (w.heap.size + 1) #[.int .u32 sA, .int .u32 sB, .int .i64 N] (by omega))
  generalize w1.setRow (w.heap.size + 1) #[.int .u32 sA, .int .u32 sB, .int .i64 N] = w2 at *
  have q0 := cell_of_row w2 (w.heap.size + 1) 0 _ _ _ hg3
  have q1 := cell_of_row w2 (w.heap.size + 1) 1 _ _ _ hg3
  have q2 := cell_of_row w2 (w.heap.size + 1) 2 _ _ _ hg3
  simp only [List.getElem?_toArray, List.getElem?_cons_zero, List.getElem?_cons_succ] at q0 q1 q2
  refine bodyPost_ret (v := .tuple #[.agg #[.int .u32 sA, .int .u32 sB, .int .i64 N], .int .i64 0]) ?_ rfl ⟨by rw [HA.out.1, HA.out.2], hb3⟩
  simp [results, Try.results20, go_sem, q0, q1, q2]
set_option maxRecDepth 100000 in
set_option maxHeartbeats 1000000 in
theorem slideE_bad (A B N out in_ : Int) (w : World) (a1 : 0 ≤ A) (a2 : A ≤ 4294967295) (b1 : 0 ≤ B) (b2 : B ≤ 4294967295) (h : rollOk A B N = false) :
    Calls Try.prog 20 #[.agg #[.int .u32 A, .int .u32 B, .int .i64 N], .int .u8 out, .int .u8 in_] w fun e w' => e = .returned (.tuple #[.agg #[.int .u32 0, .int .u32 0, .int .i64 0], .int .i64 1]) ∧ Below w.heap.size w w' := by
  unfold rollOk at h
  rw [decide_eq_false_iff_not] at h
  have hc : 65521 ≤ A ∨ (¬ 65521 ≤ A ∧ 65521 ≤ B) ∨ (¬ 65521 ≤ A ∧ ¬ 65521 ≤ B ∧ N < 1) ∨ (¬ 65521 ≤ A ∧ ¬ 65521 ≤ B ∧ ¬ N < 1 ∧ 2147483647 < N) := by omega
  clear h
  rcases hc with g1 | ⟨g1, g2⟩ | ⟨g1, g2, g3⟩ | ⟨g1, g2, g3, g4⟩
  all_goals
    go_enter Try.func20, Try.ntmps20
    go_wp2
    exact bodyPost_ret (v := .tuple #[.agg #[.int .u32 0, .int .u32 0, .int .i64 0], .int .i64 1]) (by simp [results, Try.results20, go_sem]) rfl ⟨rfl, ((Below.refl _ w).alloc (Nat.le_refl _) _).alloc (by simp) _⟩
/-- A rolling checksum as one word. -/
def valueV (A B : Int) : Int := (B * 65536 + A) % 4294967296
set_option maxRecDepth 100000 in
set_option maxHeartbeats 1000000 in
theorem value_any (A B N : Int) (w : World) (a1 : 0 ≤ A) (a2 : A ≤ 4294967295) (b1 : 0 ≤ B) (b2 : B ≤ 4294967295) :
    Calls Try.prog 26 #[.agg #[.int .u32 A, .int .u32 B, .int .i64 N]] w fun e w' => e = .returned (.int .u32 (valueV A B)) ∧ Below w.heap.size w w' := by
  go_enter Try.func26, Try.ntmps26
  go_wp2
  go_ret
  exact ⟨ret_int_ (by unfold valueV; omega), (Below.refl _ w).alloc (Nat.le_refl _) _⟩
end Go.Proofs.Ytnlblmghhkmbbaa

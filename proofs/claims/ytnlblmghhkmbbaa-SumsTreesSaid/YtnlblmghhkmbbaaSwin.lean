/- Windows answers as the chapter says. -/
import Derived.Test.YtnlblmghhkmbbaaSrow
import Derived.Test.YtnlblmghhkmbbaaSroll
import Derived.StillTailTactics
import Derived.Deep.DeepCutAuto
namespace Go.Proofs.Ytnlblmghhkmbbaa
set_option linter.unusedVariables false
open Go.RowKit Go.Shelf

/-- The rolling checksum of the window that has slid k times. -/
def slid (xs : List Int) (n : Nat) : Nat → Int × Int
  | 0 => rollV (xs.take n)
  | k + 1 => (slideA (slid xs n k).1 (xs.getD k 0) (xs.getD (n + k) 0), slideB (slid xs n k).1 (slid xs n k).2 n (xs.getD k 0) (xs.getD (n + k) 0))
theorem slid_bd (xs : List Int) (n k : Nat) : 0 ≤ (slid xs n k).1 ∧ (slid xs n k).1 < 65521 ∧ 0 ≤ (slid xs n k).2 ∧ (slid xs n k).2 < 65521 := by
  cases k with
  | zero => exact roll_bd _
  | succ k => simp only [slid]; unfold slideA slideB; omega
def winV (xs : List Int) (n : Nat) (m : Nat) : List Int := (List.range m).map fun k => valueV (slid xs n k).1 (slid xs n k).2
theorem winV_snoc (xs : List Int) (n m : Nat) : winV xs n (m + 1) = winV xs n m ++ [valueV (slid xs n m).1 (slid xs n m).2] := by
  unfold winV; rw [List.range_succ, List.map_append]; rfl
theorem winV_len (xs : List Int) (n m : Nat) : (winV xs n m).length = m := by unfold winV; simp
theorem Try.infoW : (Try.prog.info? 23).map (fun i => (i.zero, i.size, i.bytes)) = some (some (.int .u32 0), 1, 4) := by kernel_rfl
set_option maxRecDepth 100000 in
set_option maxHeartbeats 4000000 in
theorem windows_less (a : Option Addr) (len cap : Nat) (n : Int) (w : World) (h : n < 1) :
    Calls Try.prog 22 #[.slice a len cap, .int .i64 n] w fun e w' => e = .returned (.tuple #[.slice none 0 0, .int .i64 1]) ∧ w' = w := by
  go_enter Try.func22, Try.ntmps22
  go_wp2
  go_ret2
  exact ⟨rfl, rfl⟩
set_option maxRecDepth 100000 in
set_option maxHeartbeats 4000000 in
theorem windows_more (a : Option Addr) (len cap : Nat) (n : Int) (w : World) (h : 1 ≤ n) (h2 : (len : Int) < n) :
    Calls Try.prog 22 #[.slice a len cap, .int .i64 n] w fun e w' => e = .returned (.tuple #[.slice none 0 0, .int .i64 0]) ∧ w' = w := by
  have h' : ¬ n < 1 := by omega
  go_enter Try.func22, Try.ntmps22
  go_wp2
  go_ret2
  exact ⟨rfl, rfl⟩
theorem value_at (A B N : Int) (w : World) (a1 : 0 ≤ A) (a2 : A < 65521) (b1 : 0 ≤ B) (b2 : B < 65521) :
    Calls Try.prog 26 #[.agg #[.int .u32 A, .int .u32 B, .int .i64 N]] w fun e w' => e = .returned (.int .u32 (valueV A B)) ∧ Below w.heap.size w w' := value_any A B N w a1 (by omega) b1 (by omega)
/-- The roll that has come so far lies in R, the values in a row. -/
structure WinI (w0 : World) (R : Nat) (xs : List Int) (n k : Nat) (v : Value) (w : World) : Prop where
  roll : Blk w R 31 #[.int .u32 (slid xs n k).1, .int .u32 (slid xs n k).2, .int .i64 (n : Int)]
  row : w.ownsRow (R + 1) 23 1 v (k + 1) ((winV xs n (k + 1)).map (Value.int .u32))
  below : Below w0.heap.size w0 w
attribute [local irreducible] slideA slideB valueV
set_option maxRecDepth 100000 in
set_option maxHeartbeats 4000000 in
theorem windows_ok (a : Option Addr) (len cap n : Nat) (xs : List Int) (w : World) (h : Rd w a len cap xs) (h1 : 1 ≤ n) (h2 : n ≤ len) (hm : len ≤ 2147483647) :
    Calls Try.prog 22 #[.slice a len cap, .int .i64 n] w fun e w' => ∃ v, e = .returned (.tuple #[v, .int .i64 0]) ∧ w'.ownsRow w.heap.size 23 1 v (len - n + 1) ((winV xs n (len - n + 1)).map (Value.int .u32)) ∧ Below w.heap.size w w' := by
  obtain ⟨b, off, rfl, hcell⟩ := h.hr (by omega)
  have hl := h.hl
  have hc := h.hc
  have hcm := h.hm
  unfold maxLen at hcm
  have g1 : ¬ (n : Int) < 1 := by omega
  have g2 : ¬ (len : Int) < (n : Int) := by omega
  have g3 : (n : Int) ≤ (len : Int) := by omega
  have g4 : (n : Int) ≤ (cap : Int) := by omega
  have hs := h.cut 0 n (x := ⟨b, off, none⟩) (c := cap) (by omega) (by intro; simp) (by omega) (by unfold maxLen; omega)
  rw [List.drop_zero] at hs
  have H := Lib.hid h
  have HS := Lib.hid hs
  have hl' := Lib.hid hl
  clear h hs hl hcell
  go_enter Try.func22, Try.ntmps22
  go_wp2_with fail
  refine (sum_any _ n cap (xs.take n) w HS.out).mono ?_
  rintro e w1 ⟨rfl, hb1⟩
  have hbd := slid_bd xs n 0
  obtain ⟨p, hp⟩ : ∃ p, p = slid xs n 0 := ⟨_, rfl⟩
  have hp' : rollV (xs.take n) = p := by rw [hp]; rfl
  rw [hp']
  rw [← hp] at hbd
  obtain ⟨A, B⟩ := p
  simp only at hbd ⊢
  obtain ⟨x1, x2, x3, x4⟩ := hbd
  have Hp := Lib.hid hp
  have Hb1 := Lib.hid hb1
  obtain ⟨W2, hW2⟩ : ∃ W2, W2 = w1.alloc (.cells #[.int .u32 A, .int .u32 B, .int .i64 (n : Int)] 31) := ⟨_, rfl⟩
  have hR2 : Blk W2 w1.heap.size 31 #[.int .u32 A, .int .u32 B, .int .i64 (n : Int)] := by rw [hW2]; exact heap_new w1 _
  have hb2 : Below w1.heap.size w1 W2 := by rw [hW2]; exact (Below.refl _ w1).alloc (Nat.le_refl _) _
  have hs2 : W2.heap.size = w1.heap.size + 1 := by rw [hW2]; simp
  have HW2 := Lib.hid hW2
  have HR2 := Lib.hid hR2
  have Hb2 := Lib.hid hb2
  have Hs2 := Lib.hid hs2
  clear hp hp' hb1 hW2 hR2 hb2 hs2
  go_wp2_with fail
  rw [← HW2.out]
  refine (value_at A B n W2 x1 x2 x3 x4).mono ?_
  rintro e w3 ⟨rfl, hb3⟩
  have hws := hb3.size
  obtain ⟨W4, hW4⟩ : ∃ W4, W4 = w3.alloc (.cells #[.int .u32 (valueV A B)] 23) := ⟨_, rfl⟩
  have hb4 : Below w3.heap.size w3 W4 := by rw [hW4]; exact (Below.refl _ w3).alloc (Nat.le_refl _) _
  have HI : Hid (WinI w w1.heap.size xs n 0 (.slice (some ⟨w3.heap.size, 0, none⟩) 1 1) W4) := Lib.hid ⟨by
      rw [← Hp.out]; exact (HR2.out.below hb3 HR2.out.lt).below hb4 (by rw [Hs2.out] at hws; omega), by
      refine ⟨by simp [winV], .inr ⟨w3.heap.size, 1, #[.int .u32 (valueV A B)], rfl, by rw [Hs2.out] at hws; omega, by rw [hW4]; exact heap_new w3 _, Nat.le_refl _, by unfold maxLen; omega, rfl, ?_⟩⟩
      have : winV xs n (0 + 1) = [valueV A B] := by unfold winV; simp [List.range_succ, ← Hp.out]
      rw [this]; rfl, Hb1.out.trans ((Hb2.out.mono Hb1.out.size).trans ((hb3.mono (by rw [Hs2.out]; have := Hb1.out.size; omega)).trans (hb4.mono (by have := Hb1.out.size; rw [Hs2.out] at hws; omega))))⟩
  have HW4 := Lib.hid hW4
  have hq0 : (0 : Int) ≤ (n : Int) := by omega
  have e1 : (len : Int) - (n : Int) = ((len - n : Nat) : Int) := by omega
  clear hb3 hws hW4 hb4 HW2 HR2 Hb2 Hs2 Hp
  by_cases hcn : cap = n
  · have hcc : (cap = n) = True := eq_true hcn
    go_upto_region 7 with fail
    rw [← HW4.out]
    go_wp2_with fail
    go_loopw [7, 27] (fun v i wr => ∃ k : Nat, k ≤ len - n ∧ i = .int .i64 k ∧ WinI w w1.heap.size xs n k v wr) (fun _ i _ => (len - n) - (intOf i).toNat)
    case atStart => exact ⟨0, Nat.zero_le _, rfl, HI.out⟩
    case round =>
      obtain ⟨k, hk, rfl, hI⟩ := hrel
      by_cases hlt : k < len - n
      · exact absurd hlt (by omega)
      · obtain rfl : k = len - n := by omega
        obtain ⟨ca, cc, rfl, -, -, -⟩ := row_slice hI.row
        have HI2 := Lib.hid hI
        have hge : ¬ ((len - n : Nat) : Int) < ((len - n : Nat) : Int) := by omega
        clear hI
        go_wp2_with fail
        go_ret2
        exact ⟨_, rfl, row_mono HI2.out.row (by have := Hb1.out.size; omega), HI2.out.below⟩
  · have hcc : (cap = n) = False := eq_false hcn
    go_upto_region 7 with fail
    rw [← HW4.out]
    go_wp2_with fail
    go_loopw [7, 27] (fun v i wr => ∃ k : Nat, k ≤ len - n ∧ i = .int .i64 k ∧ WinI w w1.heap.size xs n k v wr) (fun _ i _ => (len - n) - (intOf i).toNat)
    case atStart => exact ⟨0, Nat.zero_le _, rfl, HI.out⟩
    case round =>
      obtain ⟨k, hk, rfl, hI⟩ := hrel
      by_cases hlt : k < len - n
      · obtain ⟨va, vc, rfl, -, -, -⟩ := row_slice hI.row
        obtain ⟨b', off', e', hcell⟩ := H.out.hr (by omega)
        cases e'
        have hc1 := hcell (n + k) (by omega)
        have hc2 := hcell k (by omega)
        have hxb1 := H.out.hb (xs.getD (n + k) 0) (by rw [getD_at _ _ (by rw [hl'.out]; omega)]; exact List.getElem_mem _)
        have hxb2 := H.out.hb (xs.getD k 0) (by rw [getD_at _ _ (by rw [hl'.out]; omega)]; exact List.getElem_mem _)
        have hbw : Below w.heap.size w wr := hI.below
        have hlt1 := World.block_lt_of_cell? w _ hc1
        obtain ⟨x, hx⟩ : ∃ x, x = xs.getD (n + k) 0 := ⟨_, rfl⟩
        obtain ⟨y, hy⟩ : ∃ y, y = xs.getD k 0 := ⟨_, rfl⟩
        rw [← hx] at hc1 hxb1
        rw [← hy] at hc2 hxb2
        have hbd := slid_bd xs n k
        have hsl : slid xs n (k + 1) = (slideA (slid xs n k).1 y x, slideB (slid xs n k).1 (slid xs n k).2 n y x) := by rw [hx, hy]; rfl
        have hroll := hI.roll
        obtain ⟨p, hp⟩ : ∃ p, p = slid xs n k := ⟨_, rfl⟩
        rw [← hp] at hbd hsl hroll
        obtain ⟨A, B⟩ := p
        simp only at hbd hsl hroll
        obtain ⟨x1, x2, x3, x4⟩ := hbd
        have hbd2 := slid_bd xs n (k + 1)
        rw [hsl] at hbd2
        simp only at hbd2
        obtain ⟨A', hA'⟩ : ∃ A', A' = slideA A y x := ⟨_, rfl⟩
        obtain ⟨B', hB'⟩ : ∃ B', B' = slideB A B n y x := ⟨_, rfl⟩
        rw [← hA', ← hB'] at hbd2 hsl
        obtain ⟨y1, y2, y3, y4⟩ := hbd2
        obtain ⟨w9, hw9⟩ : ∃ w9, w9 = wr.drew := ⟨_, rfl⟩
        have d1 : wr.cell? ⟨b, off + n + k, none⟩ = some (.int .u8 x) := by rw [Nat.add_assoc]; exact (hbw.cell (p := ⟨b, off + (n + k), none⟩) hlt1).trans hc1
        have d2 : w9.cell? ⟨b, off + k, none⟩ = some (.int .u8 y) := by rw [hw9]; exact (hbw.cell (p := ⟨b, off + k, none⟩) hlt1).trans hc2
        have q0 : w9.cell? ⟨w1.heap.size, 0, none⟩ = some (.int .u32 A) := by rw [hw9]; exact hroll.cell 0
        have q1 : w9.cell? ⟨w1.heap.size, 1, none⟩ = some (.int .u32 B) := by rw [hw9]; exact hroll.cell 1
        have q2 : w9.cell? ⟨w1.heap.size, 2, none⟩ = some (.int .i64 (n : Int)) := by rw [hw9]; exact hroll.cell 2
        have hk0 : (0 : Int) ≤ (k : Int) := by omega
        have hkl : (k : Int) < ((len - n : Nat) : Int) := by omega
        have hkl2 : (k : Int) < (len : Int) := by omega
        have HI2 := Lib.hid hI
        have Hsl := Lib.hid hsl
        have HA' := Lib.hid (And.intro hA' hB')
        have Hroll : Hid (Blk w9 w1.heap.size 31 #[.int .u32 A, .int .u32 B, .int .i64 (n : Int)]) := Lib.hid (by rw [hw9]; exact hroll)
        have Hrow : Hid (w9.ownsRow (w1.heap.size + 1) 23 1 (.slice va (k + 1) vc) (k + 1) ((winV xs n (k + 1)).map (Value.int .u32))) := Lib.hid (by rw [hw9]; exact hI.row.drew)
        have Hbw9 : Hid (Below w.heap.size w w9) := Lib.hid (by rw [hw9]; exact hbw.drew)
        have Hw9 := Lib.hid hw9
        clear hc1 hc2 hx hy hp hI hsl hroll hcell hbw hlt1 hA' hB' hw9
        go_wp2_with fail
        refine wp_region_still_tail 6 (by kernel_rfl) (by kernel_rfl) ?_
        rw [show (({ wr with drawn := wr.drawn + 1 } : World)) = w9 from Hw9.out.symm]
        simp only [List.take_succ_cons, List.take_zero, List.drop_succ_cons, List.drop_zero]
        repeat still_step
        refine wpStill_nil ?_
        go_wp2_with fail
        refine (slide_any A B n y x w9 x1 x2 x3 x4 (by omega) (by omega) hxb2.1 hxb2.2 hxb1.1 hxb1.2).mono ?_
        rintro e w10 ⟨rfl, hb10⟩
        rw [← HA'.out.1, ← HA'.out.2]
        have hR10 : Blk w10 w1.heap.size 31 #[.int .u32 A, .int .u32 B, .int .i64 (n : Int)] := Hroll.out.below hb10 Hroll.out.lt
        have HR10 := Lib.hid hR10
        have Hrow10 := Lib.hid (row_below Hrow.out hb10 (Nat.le_refl _))
        have Hbw10 : Hid (Below w.heap.size w w10) := Lib.hid (Hbw9.out.trans (hb10.mono Hbw9.out.size))
        clear hb10 hR10 q0 q1 q2 d1 d2
        go_upto_region 11 with (refine wpList_store_row rfl 31 (.tmp 6) (.tmp 38) rfl w1.heap.size #[.int .u32 A', .int .u32 B', .int .i64 (n : Int)] rfl rfl 31 #[.int .u32 A, .int .u32 B, .int .i64 (n : Int)] HR10.out (Try.sizeRoll _ _ _) rfl (oneRoll _ _ _) ?_)
        obtain ⟨w11, hw11⟩ : ∃ w11, w11 = w10.setRow w1.heap.size #[.int .u32 A', .int .u32 B', .int .i64 (n : Int)] := ⟨_, rfl⟩
        have hR11 : Blk w11 w1.heap.size 31 #[.int .u32 A', .int .u32 B', .int .i64 (n : Int)] := by rw [hw11]; exact setRow_heap w10 _ _ _ _ _ HR10.out
        have Hrow11 : Hid (w11.ownsRow (w1.heap.size + 1) 23 1 (.slice va (k + 1) vc) (k + 1) ((winV xs n (k + 1)).map (Value.int .u32))) := Lib.hid (by rw [hw11]; exact row_but Hrow10.out ((But.refl w1.heap.size w10).setRow _) (by omega))
        have Hbw11 : Hid (Below w.heap.size w w11) := Lib.hid (by rw [hw11]; exact Hbw10.out.trans (below_setRow _ _ _ _ Hb1.out.size))
        rw [← hw11]
        have q0 : w11.cell? ⟨w1.heap.size, 0, none⟩ = some (.int .u32 A') := hR11.cell 0
        have q1 : w11.cell? ⟨w1.heap.size, 1, none⟩ = some (.int .u32 B') := hR11.cell 1
        have q2 : w11.cell? ⟨w1.heap.size, 2, none⟩ = some (.int .i64 (n : Int)) := hR11.cell 2
        have HR11 := Lib.hid hR11
        clear hw11 hR11 HR10 Hrow10 Hbw10 Hroll Hrow Hbw9
        go_wp2_with fail
        refine (value_at A' B' n w11 y1 y2 y3 y4).mono ?_
        rintro e w12 ⟨rfl, hb12⟩
        obtain ⟨u, hu⟩ : ∃ u, u = valueV A' B' := ⟨_, rfl⟩
        rw [← hu]
        have HR12 : Hid (Blk w12 w1.heap.size 31 #[.int .u32 A', .int .u32 B', .int .i64 (n : Int)]) := Lib.hid (HR11.out.below hb12 HR11.out.lt)
        have Hrow12 : Hid (w12.ownsRow (w1.heap.size + 1) 23 1 (.slice va (k + 1) vc) (k + 1) ((winV xs n (k + 1)).map (Value.int .u32))) := Lib.hid (row_below Hrow11.out hb12 (Nat.le_refl _))
        have Hbw12 : Hid (Below w.heap.size w w12) := Lib.hid (Hbw11.out.trans (hb12.mono Hbw11.out.size))
        have Hu := Lib.hid hu
        have HI0 := Lib.hid (info_parts Try.infoW)
        have hr12 := HR12.out.lt
        clear hb12 hu q0 q1 q2 HR11 Hrow11 Hbw11
        go_wp2_with (obtain ⟨i0, hi, hz0, hz1, hz2⟩ := HI0.out; refine wpList_append_one rfl (.tmp 39) (.tmp 42) 34 rfl (w1.heap.size + 1) 23 i0 (.int .u32 0) 1 4 Try.underlying34 hi hz0 hz1 hz2 rfl (by decide) (.slice va (k + 1) vc) (k + 1) _ rfl (Hrow12.out.alloc _) w12.heap.size #[.int .u32 u] rfl (heap_new w12 _) rfl (by kernel_rfl) (by omega) (by unfold maxLen; omega) (by simp; omega) ?_; clear hi hz0 hz1 hz2; intro v' w13 hrow13 hg13)
        have hvb := (Hrow12.out.alloc (.cells #[.int .u32 u] 23)).lt
        have hI13 : WinI w w1.heap.size xs n (k + 1) v' w13 := by
          refine ⟨?_, ?_, ?_⟩
          · rw [Hsl.out]
            exact (hg13.block _ (by simp; omega) (fun e => by have := (hvb _ e.symm).1; omega)).trans ((Below.heap_alloc _ _ _ hr12).trans HR12.out)
          · rw [winV_snoc xs n (k + 1), Hsl.out, List.map_append]
            simp only [List.map_cons, List.map_nil]
            rw [← Hu.out]
            exact hrow13
          · exact (Hbw12.out.alloc Hbw12.out.size _).grown hg13 (by simp; have := Hbw12.out.size; omega) (fun k e => by have := (hvb k e).1; have := Hb1.out.size; omega)
        have HI13 := Lib.hid hI13
        clear hI13 hvb hrow13 hg13
        obtain ⟨a13, c13, rfl, -, -, -⟩ := row_slice HI13.out.row
        go_wp2_with fail
        go_roundw
        case rel => exact ⟨k + 1, by omega, by go_num, HI13.out⟩
        case measure => simp [intOf]; omega
      · obtain rfl : k = len - n := by omega
        obtain ⟨ca, cc, rfl, -, -, -⟩ := row_slice hI.row
        have HI2 := Lib.hid hI
        have hge : ¬ ((len - n : Nat) : Int) < ((len - n : Nat) : Int) := by omega
        clear hI
        go_wp2_with fail
        go_ret2
        exact ⟨_, rfl, row_mono HI2.out.row (by have := Hb1.out.size; omega), HI2.out.below⟩
end Go.Proofs.Ytnlblmghhkmbbaa

/- end, Digest: the digest of what was absorbed. -/
import Derived.Test.YtnlblmghhkmbbaaSabsorb
import Derived.Test.YtnlblmghhkmbbaaSend0
import Derived.Test.YtnlblmghhkmbbaaSstart2
import Derived.StillTailTactics
import Derived.Deep.RegionLaw
import Derived.Deep.RegionHeld3
import Derived.Deep.DeepCutAuto
namespace Go.Proofs.Ytnlblmghhkmbbaa
set_option linter.unusedVariables false
open Go.RowKit Go.Shelf

theorem digC_one (l : List Int) : (digC l).all (fun x => x.oneCell') = true := by
  rw [Array.all_eq_true]
  intro i hi
  simp [digC, Value.oneCell']
theorem rep0 (m i : Nat) : (List.replicate m (0 : Int)).getD i 0 = 0 := by
  simp only [List.getD_eq_getElem?_getD, List.getElem?_replicate]
  split <;> rfl
set_option maxRecDepth 100000 in
set_option maxHeartbeats 4000000 in
theorem end_any (g : Nat) (s : St) (ra : Option Addr) (rl rc : Nat) (rest : List Int) (w : World)
    (hB : Blk w g 84 (spongeC s (.slice ra rl rc))) (hr : Rd w ra rl rc rest) (h16 : rl < 16) :
    Calls Try.prog 63 #[.pointer (some ⟨g, 0, none⟩)] w fun e w' => e = .returned (.agg (digC (endV s rest))) ∧ But g w w' := by
  have hgl := hB.lt
  have hrl := hr.hl
  obtain ⟨m, hm⟩ : ∃ m, m = 16 - rl := ⟨_, rfl⟩
  have hm1 : 1 ≤ m := by omega
  have hm16 : m ≤ 16 := by omega
  have hmi : (16 : Int) - (rl : Int) = (m : Int) := by omega
  obtain ⟨W1, hW1⟩ : ∃ W1, W1 = w.alloc (.cells (digC (List.replicate 16 0)) 47) := ⟨_, rfl⟩
  obtain ⟨W2, hW2⟩ : ∃ W2, W2 = W1.alloc (.cells (digC (List.replicate m 0)) 5) := ⟨_, rfl⟩
  obtain ⟨W3, hW3⟩ : ∃ W3, W3 = W2.setCell ⟨w.heap.size + 1, 0, none⟩ (.int .u8 128) := ⟨_, rfl⟩
  have hs1 : W1.heap.size = w.heap.size + 1 := by rw [hW1]; simp
  have hs2 : W2.heap.size = w.heap.size + 2 := by rw [hW2]; simp [hs1]
  have hs3 : W3.heap.size = w.heap.size + 2 := by rw [hW3, ← hs2]; simp [World.setCell]
  have hR1 : Blk W1 w.heap.size 47 (digC (List.replicate 16 0)) := by rw [hW1]; exact heap_new w _
  have hb1 : Below w.heap.size w W1 := by rw [hW1]; exact (Below.refl _ w).alloc (Nat.le_refl _) _
  have hb12 : Below W1.heap.size W1 W2 := by rw [hW2]; exact (Below.refl _ W1).alloc (Nat.le_refl _) _
  have hb2 : Below w.heap.size w W2 := hb1.trans (hb12.mono (by omega))
  have hb3 : Below w.heap.size w W3 := by rw [hW3]; exact hb2.setCell (by simp) _
  have hL2 : Blk W2 (w.heap.size + 1) 5 (digC (List.replicate m 0)) := by rw [hW2, ← hs1]; exact heap_new W1 _
  have p8 : W1.cell? ⟨g, 8, none⟩ = some (.slice ra rl rc) := (hB.below hb1 hgl).cell 8
  have hmk := run_make8 (16 - (rl : Int)) m hmi hm16 W1
  rw [hs1, ← hW2] at hmk
  have c0 : W2.cell? ⟨w.heap.size + 1, 0, none⟩ = some (.int .u8 0) := by
    rw [hL2.cell 0, digC_get _ 0 (by simp; omega), rep0]
  have f0 := hL2.frozen 0
  have hL3 : Blk W3 (w.heap.size + 1) 5 (digC (padV rl)) := by
    rw [hW3]; have := hL2.set_ 0 (.int .u8 128); rw [hm, pad_set rl h16] at this; exact this
  have hR3 : Blk W3 w.heap.size 47 (digC (List.replicate 16 0)) := by
    rw [hW3]; exact (hR1.below hb12 (by omega)).other (by omega) _ _
  have hB3 : Blk W3 g 84 (spongeC s (.slice ra rl rc)) := hB.below hb3 hgl
  have hr3 : Rd W3 ra rl rc rest := hr.below hb3 (Nat.le_refl _)
  have hP3 : Rd W3 (some ⟨w.heap.size + 1, 0, none⟩) m m (padV rl) := by
    have := hL3.rd (padV_bd rl) (by rw [padV_len rl h16]; unfold maxLen; omega)
    rw [padV_len rl h16, ← hm] at this; exact this
  have hbut3 : But g w W3 := But.of_below hb3 (Nat.le_of_lt hgl)
  have hdl : digC (List.replicate 16 0) = #[.int .u8 0, .int .u8 0, .int .u8 0, .int .u8 0, .int .u8 0, .int .u8 0, .int .u8 0, .int .u8 0, .int .u8 0, .int .u8 0, .int .u8 0, .int .u8 0, .int .u8 0, .int .u8 0, .int .u8 0, .int .u8 0] := by rfl
  rw [hdl] at hW1
  have HW1 := Lib.hid hW1
  have HW3 := Lib.hid hW3
  have HB3 := Lib.hid hB3
  have HR3 := Lib.hid hR3
  have Hr3 := Lib.hid hr3
  have HP3 := Lib.hid hP3
  have Hbut3 := Lib.hid hbut3
  have Hs1 := Lib.hid hs1
  have Hs3 := Lib.hid hs3
  have Hdl := Lib.hid hdl
  have Hm := Lib.hid hm
  have Hmi := Lib.hid hmi
  have HV : Hid (endV s rest = bytesV (absS s (rest ++ padV rl))) := Lib.hid (by unfold endV; rw [hrl])
  have hs2' : w.heap.size + 1 < W2.heap.size := by omega
  have hWg : g < W1.heap.size := by omega
  clear hW1 hW2 hW3 hs1 hs2 hs3 hR1 hb1 hb12 hb2 hb3 hL2 hL3 hR3 hB3 hr3 hP3 hbut3 hdl hB hr hrl hm hmi
  go_enter Try.func63, Try.ntmps63
  go_upto_region 1 with fail
  rw [← HW1.out]
  go_wp2_with fail
  rw [← HW3.out]
  refine (absorb_any g s ra rl rc rest (some ⟨w.heap.size + 1, 0, none⟩) m m (padV rl) W3 HB3.out Hr3.out HP3.out (by omega)).mono ?_
  rintro e w4 ⟨rfl, hbut4, v, hB4, ho4⟩
  obtain ⟨σ, hσ⟩ : ∃ σ, σ = absS s (rest ++ padV rl) := ⟨_, rfl⟩
  rw [← hσ] at hB4
  have hR4 := hbut4.blk HR3.out (by omega)
  have hbutw := Hbut3.out.trans hbut4
  have hs4 : w.heap.size + 2 ≤ w4.heap.size := by rw [← Hs3.out]; exact hbut4.size
  obtain ⟨W5, hW5⟩ : ∃ W5, W5 = w4.alloc (.cells (digC (List.replicate 16 0)) 47) := ⟨_, rfl⟩
  have hb5 : Below w4.heap.size w4 W5 := by rw [hW5]; exact (Below.refl _ w4).alloc (Nat.le_refl _) _
  have hB5 : Blk W5 g 84 (spongeC σ v) := hB4.below hb5 (by omega)
  have hR5 : Blk W5 w.heap.size 47 (digC (List.replicate 16 0)) := hR4.below hb5 (by omega)
  have hD5 : Blk W5 w4.heap.size 47 (putW σ 0) := by rw [hW5]; exact heap_new w4 _
  have hbut5 : But g w W5 := hbutw.trans (But.of_below hb5 (by omega))
  have hs5 : W5.heap.size = w4.heap.size + 1 := by rw [hW5]; simp
  rw [Hdl.out] at hW5
  have HW5 := Lib.hid hW5
  have Hσ := Lib.hid hσ
  have HB5 := Lib.hid hB5
  have HR5 := Lib.hid hR5
  have HD5 := Lib.hid hD5
  have Hbut5 := Lib.hid hbut5
  have Hs5 := Lib.hid hs5
  clear hW5 hb5 hB5 hR5 hD5 hbut5 hs5 hσ hB4 ho4 hR4 hbutw hbut4 HB3 HR3 Hr3 HP3 Hbut3 HW1 HW3 hmk c0 f0 p8
  go_upto_region 5 with fail
  rw [← HW5.out]
  go_wp2_with fail
  go_loopw [19] (fun i wr => ∃ j : Nat, j ≤ 4 ∧ i = .int .i64 j ∧ Blk wr w4.heap.size 47 (putW σ j) ∧ Blk wr g 84 (spongeC σ v) ∧ Blk wr w.heap.size 47 (digC (List.replicate 16 0)) ∧ But g w wr) (fun i _ => 4 - (intOf i).toNat)
  case atStart => exact ⟨0, Nat.zero_le _, rfl, HD5.out, HB5.out, HR5.out, Hbut5.out⟩
  case round =>
    obtain ⟨j, hj, rfl, hD, hB, hR, hbut⟩ := hrel
    by_cases hjl : j < 4
    · have hj4 : j = 0 ∨ j = 1 ∨ j = 2 ∨ j = 3 := by omega
      clear hj
      obtain ⟨w9, hw9⟩ : ∃ w9, w9 = wr.drew := ⟨_, rfl⟩
      replace hD : Blk w9 w4.heap.size 47 (putW σ j) := by rw [hw9]; exact hD
      replace hB : Blk w9 g 84 (spongeC σ v) := by rw [hw9]; exact hB
      replace hR : Blk w9 w.heap.size 47 (digC (List.replicate 16 0)) := by rw [hw9]; exact hR
      replace hbut : But g w w9 := by rw [hw9]; exact hbut.drew
      have hgw := hB.lt
      have hdw := hD.lt
      have Hw9 := Lib.hid hw9
      have HR := Lib.hid hR
      have Hbut := Lib.hid hbut
      clear hw9 hR hbut
      rcases hj4 with rfl | rfl | rfl | rfl
      · have q0 : w9.cell? ⟨g, 0, none⟩ = some (.int .u32 ((σ 0).toNat : Int)) := hB.cell 0
        have hwp : IntKind.i64.wrap 0 = 0 := by kernel_rfl
        have HD := Lib.hid hD
        have HB := Lib.hid hB
        clear hD hB
        go_wp2_with fail
        refine wp_region_still_tail 10 (by kernel_rfl) (by kernel_rfl) ?_
        rw [show (({ wr with drawn := wr.drawn + 1 } : World)) = w9 from Hw9.out.symm]
        simp only [List.take_succ_cons, List.take_zero, List.drop_succ_cons, List.drop_zero]
        repeat still_step
        refine wpStill_nil ?_
        go_wp2_with fail
        refine (store_any w4.heap.size 0 16 16 47 (putW σ 0) (σ 0) w9 HD.out (by omega) (by omega) (by omega) (by rw [putW_size]; omega)).mono ?_
        rintro e w' ⟨rfl, hD', hb', hs'⟩
        have HD' := Lib.hid hD'
        have HB' := Lib.hid (HB.out.below hb' (by omega))
        have HR' := Lib.hid (HR.out.below hb' (by omega))
        have Hbut' : Hid (But g w w') := Lib.hid ⟨Hbut.out.below.trans (hb'.mono (by omega)), fun k hk hne => (hb'.block k (by omega)).trans (Hbut.out.others k hk hne)⟩
        clear hD' hb' hs'
        go_wp2_with fail
        go_roundw
        case rel => exact ⟨1, by omega, rfl, HD'.out, HB'.out, HR'.out, Hbut'.out⟩
        case measure => exact (by decide : 4 - (intOf (Value.int .i64 1)).toNat < 4 - (intOf (Value.int .i64 0)).toNat)
      · have q0 : w9.cell? ⟨g, 1, none⟩ = some (.int .u32 ((σ 1).toNat : Int)) := hB.cell 1
        have hwp : IntKind.i64.wrap 4 = 4 := by kernel_rfl
        have HD := Lib.hid hD
        have HB := Lib.hid hB
        clear hD hB
        go_wp2_with fail
        refine wp_region_still_tail 10 (by kernel_rfl) (by kernel_rfl) ?_
        rw [show (({ wr with drawn := wr.drawn + 1 } : World)) = w9 from Hw9.out.symm]
        simp only [List.take_succ_cons, List.take_zero, List.drop_succ_cons, List.drop_zero]
        repeat still_step
        refine wpStill_nil ?_
        go_wp2_with fail
        refine (store_any w4.heap.size 4 12 12 47 (putW σ 1) (σ 1) w9 HD.out (by omega) (by omega) (by omega) (by rw [putW_size]; omega)).mono ?_
        rintro e w' ⟨rfl, hD', hb', hs'⟩
        have HD' := Lib.hid hD'
        have HB' := Lib.hid (HB.out.below hb' (by omega))
        have HR' := Lib.hid (HR.out.below hb' (by omega))
        have Hbut' : Hid (But g w w') := Lib.hid ⟨Hbut.out.below.trans (hb'.mono (by omega)), fun k hk hne => (hb'.block k (by omega)).trans (Hbut.out.others k hk hne)⟩
        clear hD' hb' hs'
        go_wp2_with fail
        go_roundw
        case rel => exact ⟨2, by omega, rfl, HD'.out, HB'.out, HR'.out, Hbut'.out⟩
        case measure => exact (by decide : 4 - (intOf (Value.int .i64 2)).toNat < 4 - (intOf (Value.int .i64 1)).toNat)
      · have q0 : w9.cell? ⟨g, 2, none⟩ = some (.int .u32 ((σ 2).toNat : Int)) := hB.cell 2
        have hwp : IntKind.i64.wrap 8 = 8 := by kernel_rfl
        have HD := Lib.hid hD
        have HB := Lib.hid hB
        clear hD hB
        go_wp2_with fail
        refine wp_region_still_tail 10 (by kernel_rfl) (by kernel_rfl) ?_
        rw [show (({ wr with drawn := wr.drawn + 1 } : World)) = w9 from Hw9.out.symm]
        simp only [List.take_succ_cons, List.take_zero, List.drop_succ_cons, List.drop_zero]
        repeat still_step
        refine wpStill_nil ?_
        go_wp2_with fail
        refine (store_any w4.heap.size 8 8 8 47 (putW σ 2) (σ 2) w9 HD.out (by omega) (by omega) (by omega) (by rw [putW_size]; omega)).mono ?_
        rintro e w' ⟨rfl, hD', hb', hs'⟩
        have HD' := Lib.hid hD'
        have HB' := Lib.hid (HB.out.below hb' (by omega))
        have HR' := Lib.hid (HR.out.below hb' (by omega))
        have Hbut' : Hid (But g w w') := Lib.hid ⟨Hbut.out.below.trans (hb'.mono (by omega)), fun k hk hne => (hb'.block k (by omega)).trans (Hbut.out.others k hk hne)⟩
        clear hD' hb' hs'
        go_wp2_with fail
        go_roundw
        case rel => exact ⟨3, by omega, rfl, HD'.out, HB'.out, HR'.out, Hbut'.out⟩
        case measure => exact (by decide : 4 - (intOf (Value.int .i64 3)).toNat < 4 - (intOf (Value.int .i64 2)).toNat)
      · have q0 : w9.cell? ⟨g, 3, none⟩ = some (.int .u32 ((σ 3).toNat : Int)) := hB.cell 3
        have hwp : IntKind.i64.wrap 12 = 12 := by kernel_rfl
        have HD := Lib.hid hD
        have HB := Lib.hid hB
        clear hD hB
        go_wp2_with fail
        refine wp_region_still_tail 10 (by kernel_rfl) (by kernel_rfl) ?_
        rw [show (({ wr with drawn := wr.drawn + 1 } : World)) = w9 from Hw9.out.symm]
        simp only [List.take_succ_cons, List.take_zero, List.drop_succ_cons, List.drop_zero]
        repeat still_step
        refine wpStill_nil ?_
        go_wp2_with fail
        refine (store_any w4.heap.size 12 4 4 47 (putW σ 3) (σ 3) w9 HD.out (by omega) (by omega) (by omega) (by rw [putW_size]; omega)).mono ?_
        rintro e w' ⟨rfl, hD', hb', hs'⟩
        have HD' := Lib.hid hD'
        have HB' := Lib.hid (HB.out.below hb' (by omega))
        have HR' := Lib.hid (HR.out.below hb' (by omega))
        have Hbut' : Hid (But g w w') := Lib.hid ⟨Hbut.out.below.trans (hb'.mono (by omega)), fun k hk hne => (hb'.block k (by omega)).trans (Hbut.out.others k hk hne)⟩
        clear hD' hb' hs'
        go_wp2_with fail
        go_roundw
        case rel => exact ⟨4, by omega, rfl, HD'.out, HB'.out, HR'.out, Hbut'.out⟩
        case measure => exact (by decide : 4 - (intOf (Value.int .i64 4)).toNat < 4 - (intOf (Value.int .i64 3)).toNat)
    · obtain rfl : j = 4 := by omega
      obtain ⟨d, hd⟩ : ∃ d, d = bytesV σ := ⟨_, rfl⟩
      rw [putW_end, ← hd] at hD
      have hdl : d.length = 16 := by rw [hd]; exact bytesV_len σ
      have hdw := hD.lt
      have hrw := hR.lt
      have q0 : wr.cell? ⟨w4.heap.size, 0, none⟩ = some (.int .u8 (d.getD 0 0)) := by rw [hD.cell 0, digC_get d 0 (by omega)]
      have q1 : wr.cell? ⟨w4.heap.size, 1, none⟩ = some (.int .u8 (d.getD 1 0)) := by rw [hD.cell 1, digC_get d 1 (by omega)]
      have q2 : wr.cell? ⟨w4.heap.size, 2, none⟩ = some (.int .u8 (d.getD 2 0)) := by rw [hD.cell 2, digC_get d 2 (by omega)]
      have q3 : wr.cell? ⟨w4.heap.size, 3, none⟩ = some (.int .u8 (d.getD 3 0)) := by rw [hD.cell 3, digC_get d 3 (by omega)]
      have q4 : wr.cell? ⟨w4.heap.size, 4, none⟩ = some (.int .u8 (d.getD 4 0)) := by rw [hD.cell 4, digC_get d 4 (by omega)]
      have q5 : wr.cell? ⟨w4.heap.size, 5, none⟩ = some (.int .u8 (d.getD 5 0)) := by rw [hD.cell 5, digC_get d 5 (by omega)]
      have q6 : wr.cell? ⟨w4.heap.size, 6, none⟩ = some (.int .u8 (d.getD 6 0)) := by rw [hD.cell 6, digC_get d 6 (by omega)]
      have q7 : wr.cell? ⟨w4.heap.size, 7, none⟩ = some (.int .u8 (d.getD 7 0)) := by rw [hD.cell 7, digC_get d 7 (by omega)]
      have q8 : wr.cell? ⟨w4.heap.size, 8, none⟩ = some (.int .u8 (d.getD 8 0)) := by rw [hD.cell 8, digC_get d 8 (by omega)]
      have q9 : wr.cell? ⟨w4.heap.size, 9, none⟩ = some (.int .u8 (d.getD 9 0)) := by rw [hD.cell 9, digC_get d 9 (by omega)]
      have q10 : wr.cell? ⟨w4.heap.size, 10, none⟩ = some (.int .u8 (d.getD 10 0)) := by rw [hD.cell 10, digC_get d 10 (by omega)]
      have q11 : wr.cell? ⟨w4.heap.size, 11, none⟩ = some (.int .u8 (d.getD 11 0)) := by rw [hD.cell 11, digC_get d 11 (by omega)]
      have q12 : wr.cell? ⟨w4.heap.size, 12, none⟩ = some (.int .u8 (d.getD 12 0)) := by rw [hD.cell 12, digC_get d 12 (by omega)]
      have q13 : wr.cell? ⟨w4.heap.size, 13, none⟩ = some (.int .u8 (d.getD 13 0)) := by rw [hD.cell 13, digC_get d 13 (by omega)]
      have q14 : wr.cell? ⟨w4.heap.size, 14, none⟩ = some (.int .u8 (d.getD 14 0)) := by rw [hD.cell 14, digC_get d 14 (by omega)]
      have q15 : wr.cell? ⟨w4.heap.size, 15, none⟩ = some (.int .u8 (d.getD 15 0)) := by rw [hD.cell 15, digC_get d 15 (by omega)]
      have z1 := Try.sizeDig d hdl
      have z2 : (digC (List.replicate 16 0)).size = (digC d).size := by rw [digC_size, digC_size, hdl]; rfl
      have z3 : (digC d).all (fun x => x.oneCell') = true := digC_one d
      have hlit := digC_lit d hdl
      have HR := Lib.hid hR
      have Hbut := Lib.hid hbut
      have Hd := Lib.hid hd
      have Hlit := Lib.hid hlit
      clear hR hD hB hbut hd hlit hdl
      go_wp2_with (refine wpList_store_row rfl 47 (.tmp 2) (.tmp 34) rfl w.heap.size (digC d) rfl (by rw [Hlit.out]; rfl) 47 (digC (List.replicate 16 0)) HR.out z1 z2 z3 ?_)
      refine bodyPost_ret (v := .agg (digC d)) ?_ rfl ⟨by rw [HV.out, ← Hσ.out, Hd.out], ?_⟩
      · exact results_cell_row rfl _ _ w.heap.size 47 _ (0, 0) _ rfl (setRow_heap _ _ _ _ _ _ HR.out) Try.underlying47 rfl z1
      · exact ⟨Hbut.out.below.trans (below_setRow _ _ _ _ (by omega)), fun k hk hne => (setRow_other _ _ _ _ (by omega)).trans (Hbut.out.others k hk hne)⟩
end Go.Proofs.Ytnlblmghhkmbbaa

/- Digest, Absorb and End answer as the chapter says. -/
import Derived.Test.YtnlblmghhkmbbaaSend
namespace Go.Proofs.Ytnlblmghhkmbbaa
set_option linter.unusedVariables false
open Go.RowKit Go.Shelf

attribute [local irreducible] digestV endV absS absR startV
set_option maxRecDepth 100000 in
set_option maxHeartbeats 4000000 in
theorem digest_any (a : Option Addr) (len cap : Nat) (xs : List Int) (w : World) (h : Rd w a len cap xs) (hbig : len ≤ 140737488355000) :
    Calls Try.prog 40 #[.slice a len cap] w fun e w' => e = .returned (.agg (digC (digestV xs))) ∧ Below w.heap.size w w' := by
  obtain ⟨W1, hW1⟩ : ∃ W1, W1 = w.alloc (.cells (digC (List.replicate 16 0)) 47) := ⟨_, rfl⟩
  have hs1 : W1.heap.size = w.heap.size + 1 := by rw [hW1]; simp
  have hR1 : Blk W1 w.heap.size 47 (digC (List.replicate 16 0)) := by rw [hW1]; exact heap_new w _
  have hb1 : Below w.heap.size w W1 := by rw [hW1]; exact (Below.refl _ w).alloc (Nat.le_refl _) _
  have hr1 : Rd W1 a len cap xs := h.below hb1 (Nat.le_refl _)
  have hdl : digC (List.replicate 16 0) = #[.int .u8 0, .int .u8 0, .int .u8 0, .int .u8 0, .int .u8 0, .int .u8 0, .int .u8 0, .int .u8 0, .int .u8 0, .int .u8 0, .int .u8 0, .int .u8 0, .int .u8 0, .int .u8 0, .int .u8 0, .int .u8 0] := by rfl
  rw [hdl] at hW1
  have HW1 := Lib.hid hW1
  have Hs1 := Lib.hid hs1
  have HR1 := Lib.hid hR1
  have Hb1 := Lib.hid hb1
  have Hr1 := Lib.hid hr1
  have Hdl := Lib.hid hdl
  clear hW1 hs1 hR1 hb1 hr1 hdl h
  go_enter Try.func40, Try.ntmps40
  go_wp2_with fail
  rw [← HW1.out]
  refine (start_any W1).mono ?_
  rintro e w2 ⟨rfl, hB2, hb2, hs2⟩
  rw [Hs1.out] at hB2 hb2 hs2
  rw [Hs1.out]
  have Hr2 : Hid (Rd w2 a len cap xs) := Lib.hid (Hr1.out.below hb2 (by rw [Hs1.out]; omega))
  have HR2 : Hid (Blk w2 w.heap.size 47 (digC (List.replicate 16 0))) := Lib.hid (HR1.out.below hb2 (by omega))
  have Hbw2 : Hid (Below w.heap.size w w2) := Lib.hid (Hb1.out.trans (hb2.mono (by omega)))
  have HB2 := Lib.hid hB2
  have Hs2 := Lib.hid hs2
  clear hB2 hb2 hs2 Hr1 HR1 Hb1 HW1 Hs1
  go_wp2_with fail
  refine (absorb_any (w.heap.size + 1) startV none 0 0 [] a len cap xs w2 HB2.out (Rd.nil _) Hr2.out (by omega)).mono ?_
  rintro e w3 ⟨rfl, hbut3, v, hB3, ho3⟩
  rw [List.nil_append] at hB3 ho3
  obtain ⟨m, hm⟩ : ∃ m, m = (absR xs).length := ⟨_, rfl⟩
  have hm16 : m < 16 := by rw [hm]; exact absR_lt xs
  obtain ⟨ca, cc, rfl, hr3, -⟩ := ho3.rdb hm.symm
  have HR3 : Hid (Blk w3 w.heap.size 47 (digC (List.replicate 16 0))) := Lib.hid (hbut3.blk HR2.out (by omega))
  have Hbw3 : Hid (Below w.heap.size w w3) := Lib.hid (Hbw2.out.trans (hbut3.below.mono (by omega)))
  have HB3 := Lib.hid hB3
  have Hr3 := Lib.hid hr3
  clear hbut3 hB3 ho3 hr3 hm Hr2 HR2 Hbw2 HB2
  go_wp2_with fail
  refine (end_any (w.heap.size + 1) _ ca m cc (absR xs) w3 HB3.out Hr3.out hm16).mono ?_
  rintro e w4 ⟨rfl, hbut4⟩
  obtain ⟨d, hd⟩ : ∃ d, d = digestV xs := ⟨_, rfl⟩
  have hde : endV (absS startV xs) (absR xs) = d := by rw [hd, digestV]
  rw [hde]
  have hdl : d.length = 16 := by rw [← hde, endV]; exact bytesV_len _
  have HR4 : Hid (Blk w4 w.heap.size 47 (digC (List.replicate 16 0))) := Lib.hid (hbut4.blk HR3.out (by omega))
  have Hbw4 : Hid (Below w.heap.size w w4) := Lib.hid (Hbw3.out.trans (hbut4.below.mono (by omega)))
  have hrw := HR4.out.lt
  have z1 := Try.sizeDig d hdl
  have z2 : (digC (List.replicate 16 0)).size = (digC d).size := by rw [digC_size, digC_size, hdl]; rfl
  have z3 : (digC d).all (fun x => x.oneCell') = true := digC_one d
  have Hd := Lib.hid hd
  have Hlit := Lib.hid (digC_lit d hdl)
  clear hbut4 hd hdl hde HB3 Hr3 HR3 Hbw3
  go_wp2_with (refine wpList_store_row rfl 47 (.tmp 2) (.tmp 9) rfl w.heap.size (digC d) rfl rfl 47 (digC (List.replicate 16 0)) HR4.out z1 z2 z3 ?_)
  refine bodyPost_ret (v := .agg (digC d)) ?_ rfl ⟨by rw [Hd.out], Hbw4.out.trans (below_setRow _ _ _ _ (Nat.le_refl _))⟩
  exact results_cell_row rfl _ _ w.heap.size 47 _ (0, 0) _ rfl (setRow_heap _ _ _ _ _ _ HR4.out) Try.underlying47 rfl z1
end Go.Proofs.Ytnlblmghhkmbbaa

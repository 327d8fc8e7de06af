/- What the statement BitsJoins calls answers true, for every input that its walk is handed. -/
import Derived.Test.YthognmkjoekilaaDoorRows
import Derived.WalkKit
import Derived.ProofKit
import Derived.OpenShut
import Derived.ShutString
import Derived.ChangeOld
import Derived.Below
import Derived.SizedLaws
import Derived.Test.YthognmkjoekilaaDoorBis
import Derived.Test.YthognmkjoekilaaDoorBrnot
import Derived.Test.YthognmkjoekilaaDoorBrjoin
namespace Go.Proofs.YthognmkjoekilaaDoor.bitsJoins
open Go.ChangeShapes Go.WideShapes Go.ChangeAt Go.RowKit
open Go.ChangeMaps (open_string shut_string)
set_option linter.unusedVariables false


set_option maxRecDepth 100000 in
set_option maxHeartbeats 8000000 in
theorem walk (N0 : Int) (a0 : Option Addr) (len0 cap0 : Nat) (xs0 : List Int) (N1 : Int) (a1 : Option Addr) (len1 cap1 : Nat) (xs1 : List Int) (w : World) (w0 : (Rd w a0 len0 cap0 xs0 ∧ cap0 ≤ 140737488351232) ∧ (-9223372036854775808 ≤ N0 ∧ N0 ≤ 9223372036854775807)) (w1 : (Rd w a1 len1 cap1 xs1 ∧ cap1 ≤ 140737488351232) ∧ (-9223372036854775808 ≤ N1 ∧ N1 ≤ 9223372036854775807)) (ho : Ones w) :
    Calls Tryd.prog 6 #[.agg #[.int .i64 N0, .slice a0 len0 cap0], .agg #[.int .i64 N1, .slice a1 len1 cap1]] w fun e w' => e = .returned (.bool true) ∧ Below w.heap.size w w' := by
  have HO := Lib.hid ho
  have HX := Lib.hid w0.1.1
  have HY := Lib.hid w1.1.1
  have hN0 := w0.2
  have hN1 := w1.2
  have hc0 := w0.1.2
  have hc1 := w1.1.2
  have hl0 := w0.1.1.hc
  have hl1 := w1.1.1.hc
  clear w0 w1 ho
  obtain ⟨g2, g3, V, e2, e3, eV, hBx, hBy, hb⟩ := boxed_two w N0 N1 a0 a1 len0 cap0 len1 cap1 xs0 xs1 HX.out HY.out
  have HEV := Lib.hid eV
  have HE2 := Lib.hid e2
  have HE3 := Lib.hid e3
  have HX' := Lib.hid hBx
  have HY' := Lib.hid hBy
  have HO' := Lib.hid (HO.out.below hb (Nat.le_refl _))
  have Hb := Lib.hid hb
  clear HX HY HO e2 e3 eV hBx hBy hb
  have HX := HX'
  have HY := HY'
  have HO := HO'
  clear HX' HY' HO'
  obtain ⟨F, hF⟩ : ∃ F, F = (fewV N0 len0 && fewV N1 len1) := ⟨_, rfl⟩
  obtain ⟨V0, hV0⟩ : ∃ V, V = validB N0 xs0 := ⟨_, rfl⟩
  obtain ⟨V1, hV1⟩ : ∃ V, V = validB N1 xs1 := ⟨_, rfl⟩
  have HF := Lib.hid hF
  have HV0 := Lib.hid hV0
  have HV1 := Lib.hid hV1
  clear hF hV0 hV1
  cases F with
  | false =>
    go_enter Tryd.func6, Tryd.ntmps6
    go_upto_region 1 with fail
    rw [HEV.out, HE3.out, HE2.out]
    clear HEV HE3 HE2
    have q0 : V.cell? ⟨g2, 0, none⟩ = some (.int .i64 N0) := HX.out.blk.cell 0
    have q1 : V.cell? ⟨g2, 1, none⟩ = some (.slice a0 len0 cap0) := HX.out.blk.cell 1
    have q2 : V.cell? ⟨g3, 0, none⟩ = some (.int .i64 N1) := HY.out.blk.cell 0
    have q3 : V.cell? ⟨g3, 1, none⟩ = some (.slice a1 len1 cap1) := HY.out.blk.cell 1
    go_wp2_with fail
    obtain ⟨WS, hWS⟩ : ∃ WS, WS = V.alloc (.cells #[.int .i64 N0, .slice a0 len0 cap0, .int .i64 N1, .slice a1 len1 cap1] 24) := ⟨_, rfl⟩
    have hbS : Below V.heap.size V WS := by rw [hWS]; exact (Below.refl _ V).alloc (Nat.le_refl _) _
    have hBS : Blk WS V.heap.size 24 #[.int .i64 N0, .slice a0 len0 cap0, .int .i64 N1, .slice a1 len1 cap1] := by rw [hWS]; exact heap_new V _
    rw [← hWS]
    refine (few2_any _ N0 a0 len0 cap0 N1 a1 len1 cap1 WS hBS).mono ?_
    rintro e u0 ⟨rfl, rfl⟩
    rw [← HF.out]
    clear hBS hWS
    have HX' := Lib.hid (HX.out.below hbS)
    have HY' := Lib.hid (HY.out.below hbS)
    have HO' := Lib.hid (HO.out.below hbS (Nat.le_refl _))
    have Hb' := Lib.hid (Hb.out.trans (hbS.mono Hb.out.size))
    clear hbS q0 q1 q2 q3 Hb HX HY HO
    have HX := HX'
    have HY := HY'
    have HO := HO'
    have Hb := Hb'
    clear HX' HY' HO' Hb'
    have q0 : WS.cell? ⟨g2, 0, none⟩ = some (.int .i64 N0) := HX.out.blk.cell 0
    have q1 : WS.cell? ⟨g2, 1, none⟩ = some (.slice a0 len0 cap0) := HX.out.blk.cell 1
    have q2 : WS.cell? ⟨g3, 0, none⟩ = some (.int .i64 N1) := HY.out.blk.cell 0
    have q3 : WS.cell? ⟨g3, 1, none⟩ = some (.slice a1 len1 cap1) := HY.out.blk.cell 1
    go_wp2_with fail
    refine (sane_any WS HO.out).mono ?_
    rintro e u1 ⟨rfl, hb⟩
    have HX' := Lib.hid (HX.out.below hb)
    have HY' := Lib.hid (HY.out.below hb)
    have HO' := Lib.hid (HO.out.below hb (Nat.le_refl _))
    have Hb' := Lib.hid (Hb.out.trans (hb.mono Hb.out.size))
    clear hb q0 q1 q2 q3 Hb HX HY HO
    have HX := HX'
    have HY := HY'
    have HO := HO'
    have Hb := Hb'
    clear HX' HY' HO' Hb'
    go_wp2_with fail
    go_ret
    exact ⟨rfl, Hb.out⟩
  | true =>
    cases V0 with
    | false =>
      go_enter Tryd.func6, Tryd.ntmps6
      go_upto_region 1 with fail
      rw [HEV.out, HE3.out, HE2.out]
      clear HEV HE3 HE2
      have q0 : V.cell? ⟨g2, 0, none⟩ = some (.int .i64 N0) := HX.out.blk.cell 0
      have q1 : V.cell? ⟨g2, 1, none⟩ = some (.slice a0 len0 cap0) := HX.out.blk.cell 1
      have q2 : V.cell? ⟨g3, 0, none⟩ = some (.int .i64 N1) := HY.out.blk.cell 0
      have q3 : V.cell? ⟨g3, 1, none⟩ = some (.slice a1 len1 cap1) := HY.out.blk.cell 1
      go_wp2_with fail
      obtain ⟨WS, hWS⟩ : ∃ WS, WS = V.alloc (.cells #[.int .i64 N0, .slice a0 len0 cap0, .int .i64 N1, .slice a1 len1 cap1] 24) := ⟨_, rfl⟩
      have hbS : Below V.heap.size V WS := by rw [hWS]; exact (Below.refl _ V).alloc (Nat.le_refl _) _
      have hBS : Blk WS V.heap.size 24 #[.int .i64 N0, .slice a0 len0 cap0, .int .i64 N1, .slice a1 len1 cap1] := by rw [hWS]; exact heap_new V _
      rw [← hWS]
      refine (few2_any _ N0 a0 len0 cap0 N1 a1 len1 cap1 WS hBS).mono ?_
      rintro e u0 ⟨rfl, rfl⟩
      rw [← HF.out]
      clear hBS hWS
      have HX' := Lib.hid (HX.out.below hbS)
      have HY' := Lib.hid (HY.out.below hbS)
      have HO' := Lib.hid (HO.out.below hbS (Nat.le_refl _))
      have Hb' := Lib.hid (Hb.out.trans (hbS.mono Hb.out.size))
      clear hbS q0 q1 q2 q3 Hb HX HY HO
      have HX := HX'
      have HY := HY'
      have HO := HO'
      have Hb := Hb'
      clear HX' HY' HO' Hb'
      have q0 : WS.cell? ⟨g2, 0, none⟩ = some (.int .i64 N0) := HX.out.blk.cell 0
      have q1 : WS.cell? ⟨g2, 1, none⟩ = some (.slice a0 len0 cap0) := HX.out.blk.cell 1
      have q2 : WS.cell? ⟨g3, 0, none⟩ = some (.int .i64 N1) := HY.out.blk.cell 0
      have q3 : WS.cell? ⟨g3, 1, none⟩ = some (.slice a1 len1 cap1) := HY.out.blk.cell 1
      clear q0 q1 q2 q3
      have q0 : WS.cell? ⟨g2, 0, none⟩ = some (.int .i64 N0) := HX.out.blk.cell 0
      have q1 : WS.cell? ⟨g2, 1, none⟩ = some (.slice a0 len0 cap0) := HX.out.blk.cell 1
      have q2 : WS.cell? ⟨g3, 0, none⟩ = some (.int .i64 N1) := HY.out.blk.cell 0
      have q3 : WS.cell? ⟨g3, 1, none⟩ = some (.slice a1 len1 cap1) := HY.out.blk.cell 1
      go_wp2_with fail
      refine (and_bad N0 N1 a0 a1 len0 cap0 len1 cap1 xs0 xs1 9 WS HX.out.rd HY.out.rd (by omega) (by omega) (by omega) (by omega) (.inr ⟨.inl HV0.out.symm, rfl⟩)).mono ?_
      rintro e u1 ⟨rfl, hb⟩
      have HX' := Lib.hid (HX.out.below hb)
      have HY' := Lib.hid (HY.out.below hb)
      have HO' := Lib.hid (HO.out.below hb (Nat.le_refl _))
      have Hb' := Lib.hid (Hb.out.trans (hb.mono Hb.out.size))
      clear hb q0 q1 q2 q3 Hb HX HY HO
      have HX := HX'
      have HY := HY'
      have HO := HO'
      have Hb := Hb'
      clear HX' HY' HO' Hb'
      go_upto_region 4 with fail
      obtain ⟨g5, W5, e1, e2, hB, -, hq⟩ := boxed Hb.out 0 none 0 0 [] (Rd.nil u1)
      rw [e2, e1]
      have HBX := Lib.hid hB
      clear e1 e2 hB
      have HX' := Lib.hid (HX.out.below hq)
      have HY' := Lib.hid (HY.out.below hq)
      have HO' := Lib.hid (HO.out.below hq (Nat.le_refl _))
      have Hb' := Lib.hid (Hb.out.trans (hq.mono Hb.out.size))
      clear hq  Hb HX HY HO
      have HX := HX'
      have HY := HY'
      have HO := HO'
      have Hb := Hb'
      clear HX' HY' HO' Hb'
      have H5 := HBX
      clear HBX
      have q0 : W5.cell? ⟨g2, 0, none⟩ = some (.int .i64 N0) := HX.out.blk.cell 0
      have q1 : W5.cell? ⟨g2, 1, none⟩ = some (.slice a0 len0 cap0) := HX.out.blk.cell 1
      have q2 : W5.cell? ⟨g3, 0, none⟩ = some (.int .i64 N1) := HY.out.blk.cell 0
      have q3 : W5.cell? ⟨g3, 1, none⟩ = some (.slice a1 len1 cap1) := HY.out.blk.cell 1
      go_wp2_with fail
      refine (or_bad N0 N1 a0 a1 len0 cap0 len1 cap1 xs0 xs1 9 W5 HX.out.rd HY.out.rd (by omega) (by omega) (by omega) (by omega) (.inr ⟨.inl HV0.out.symm, rfl⟩)).mono ?_
      rintro e u2 ⟨rfl, hb⟩
      have HX' := Lib.hid (HX.out.below hb)
      have HY' := Lib.hid (HY.out.below hb)
      have HO' := Lib.hid (HO.out.below hb (Nat.le_refl _))
      have H5' := Lib.hid (H5.out.below hb)
      have Hb' := Lib.hid (Hb.out.trans (hb.mono Hb.out.size))
      clear hb q0 q1 q2 q3 Hb HX HY HO H5
      have HX := HX'
      have HY := HY'
      have HO := HO'
      have H5 := H5'
      have Hb := Hb'
      clear HX' HY' HO' H5' Hb'
      go_upto_region 5 with fail
      obtain ⟨g7, W7, e1, e2, hB, -, hq⟩ := boxed Hb.out 0 none 0 0 [] (Rd.nil u2)
      rw [e2, e1]
      have HBX := Lib.hid hB
      clear e1 e2 hB
      have HX' := Lib.hid (HX.out.below hq)
      have HY' := Lib.hid (HY.out.below hq)
      have HO' := Lib.hid (HO.out.below hq (Nat.le_refl _))
      have H5' := Lib.hid (H5.out.below hq)
      have Hb' := Lib.hid (Hb.out.trans (hq.mono Hb.out.size))
      clear hq  Hb HX HY HO H5
      have HX := HX'
      have HY := HY'
      have HO := HO'
      have H5 := H5'
      have Hb := Hb'
      clear HX' HY' HO' H5' Hb'
      have H7 := HBX
      clear HBX
      have q0 : W7.cell? ⟨g2, 0, none⟩ = some (.int .i64 N0) := HX.out.blk.cell 0
      have q1 : W7.cell? ⟨g2, 1, none⟩ = some (.slice a0 len0 cap0) := HX.out.blk.cell 1
      have q2 : W7.cell? ⟨g3, 0, none⟩ = some (.int .i64 N1) := HY.out.blk.cell 0
      have q3 : W7.cell? ⟨g3, 1, none⟩ = some (.slice a1 len1 cap1) := HY.out.blk.cell 1
      go_wp2_with fail
      refine (minus_bad N0 N1 a0 a1 len0 cap0 len1 cap1 xs0 xs1 9 W7 HX.out.rd HY.out.rd (by omega) (by omega) (by omega) (by omega) (.inr ⟨.inl HV0.out.symm, rfl⟩)).mono ?_
      rintro e u3 ⟨rfl, hb⟩
      have HX' := Lib.hid (HX.out.below hb)
      have HY' := Lib.hid (HY.out.below hb)
      have HO' := Lib.hid (HO.out.below hb (Nat.le_refl _))
      have H5' := Lib.hid (H5.out.below hb)
      have H7' := Lib.hid (H7.out.below hb)
      have Hb' := Lib.hid (Hb.out.trans (hb.mono Hb.out.size))
      clear hb q0 q1 q2 q3 Hb HX HY HO H5 H7
      have HX := HX'
      have HY := HY'
      have HO := HO'
      have H5 := H5'
      have H7 := H7'
      have Hb := Hb'
      clear HX' HY' HO' H5' H7' Hb'
      go_upto_region 6 with fail
      obtain ⟨g9, W9, e1, e2, hB, -, hq⟩ := boxed Hb.out 0 none 0 0 [] (Rd.nil u3)
      rw [e2, e1]
      have HBX := Lib.hid hB
      clear e1 e2 hB
      have HX' := Lib.hid (HX.out.below hq)
      have HY' := Lib.hid (HY.out.below hq)
      have HO' := Lib.hid (HO.out.below hq (Nat.le_refl _))
      have H5' := Lib.hid (H5.out.below hq)
      have H7' := Lib.hid (H7.out.below hq)
      have Hb' := Lib.hid (Hb.out.trans (hq.mono Hb.out.size))
      clear hq  Hb HX HY HO H5 H7
      have HX := HX'
      have HY := HY'
      have HO := HO'
      have H5 := H5'
      have H7 := H7'
      have Hb := Hb'
      clear HX' HY' HO' H5' H7' Hb'
      have H9 := HBX
      clear HBX
      have q0 : W9.cell? ⟨g2, 0, none⟩ = some (.int .i64 N0) := HX.out.blk.cell 0
      have q1 : W9.cell? ⟨g2, 1, none⟩ = some (.slice a0 len0 cap0) := HX.out.blk.cell 1
      have q2 : W9.cell? ⟨g3, 0, none⟩ = some (.int .i64 N1) := HY.out.blk.cell 0
      have q3 : W9.cell? ⟨g3, 1, none⟩ = some (.slice a1 len1 cap1) := HY.out.blk.cell 1
      go_wp2_with fail
      refine (not_bad N0 a0 len0 cap0 xs0 W9 HX.out.rd (by omega) (by omega) HV0.out.symm).mono ?_
      rintro e u4 ⟨rfl, hb⟩
      have HX' := Lib.hid (HX.out.below hb)
      have HY' := Lib.hid (HY.out.below hb)
      have HO' := Lib.hid (HO.out.below hb (Nat.le_refl _))
      have H5' := Lib.hid (H5.out.below hb)
      have H7' := Lib.hid (H7.out.below hb)
      have H9' := Lib.hid (H9.out.below hb)
      have Hb' := Lib.hid (Hb.out.trans (hb.mono Hb.out.size))
      clear hb q0 q1 q2 q3 Hb HX HY HO H5 H7 H9
      have HX := HX'
      have HY := HY'
      have HO := HO'
      have H5 := H5'
      have H7 := H7'
      have H9 := H9'
      have Hb := Hb'
      clear HX' HY' HO' H5' H7' H9' Hb'
      go_upto_region 7 with fail
      obtain ⟨g11, W11, e1, e2, hB, -, hq⟩ := boxed Hb.out 0 none 0 0 [] (Rd.nil u4)
      rw [e2, e1]
      have HBX := Lib.hid hB
      clear e1 e2 hB
      have HX' := Lib.hid (HX.out.below hq)
      have HY' := Lib.hid (HY.out.below hq)
      have HO' := Lib.hid (HO.out.below hq (Nat.le_refl _))
      have H5' := Lib.hid (H5.out.below hq)
      have H7' := Lib.hid (H7.out.below hq)
      have H9' := Lib.hid (H9.out.below hq)
      have Hb' := Lib.hid (Hb.out.trans (hq.mono Hb.out.size))
      clear hq  Hb HX HY HO H5 H7 H9
      have HX := HX'
      have HY := HY'
      have HO := HO'
      have H5 := H5'
      have H7 := H7'
      have H9 := H9'
      have Hb := Hb'
      clear HX' HY' HO' H5' H7' H9' Hb'
      have H11 := HBX
      clear HBX
      have q0 : W11.cell? ⟨g2, 0, none⟩ = some (.int .i64 N0) := HX.out.blk.cell 0
      have q1 : W11.cell? ⟨g2, 1, none⟩ = some (.slice a0 len0 cap0) := HX.out.blk.cell 1
      have q2 : W11.cell? ⟨g3, 0, none⟩ = some (.int .i64 N1) := HY.out.blk.cell 0
      have q3 : W11.cell? ⟨g3, 1, none⟩ = some (.slice a1 len1 cap1) := HY.out.blk.cell 1
      go_wp2_with fail
      refine (right_any N0 a0 len0 cap0 xs0 W11 HX.out.rd (by omega) (by omega) (by omega)).mono ?_
      rintro e u5 ⟨rfl, hb⟩
      have HX' := Lib.hid (HX.out.below hb)
      have HY' := Lib.hid (HY.out.below hb)
      have HO' := Lib.hid (HO.out.below hb (Nat.le_refl _))
      have H5' := Lib.hid (H5.out.below hb)
      have H7' := Lib.hid (H7.out.below hb)
      have H9' := Lib.hid (H9.out.below hb)
      have H11' := Lib.hid (H11.out.below hb)
      have Hb' := Lib.hid (Hb.out.trans (hb.mono Hb.out.size))
      clear hb q0 q1 q2 q3 Hb HX HY HO H5 H7 H9 H11
      have HX := HX'
      have HY := HY'
      have HO := HO'
      have H5 := H5'
      have H7 := H7'
      have H9 := H9'
      have H11 := H11'
      have Hb := Hb'
      clear HX' HY' HO' H5' H7' H9' H11' Hb'
      rw [← HV0.out]
      have q0 : u5.cell? ⟨g2, 0, none⟩ = some (.int .i64 N0) := HX.out.blk.cell 0
      have q1 : u5.cell? ⟨g2, 1, none⟩ = some (.slice a0 len0 cap0) := HX.out.blk.cell 1
      have q2 : u5.cell? ⟨g3, 0, none⟩ = some (.int .i64 N1) := HY.out.blk.cell 0
      have q3 : u5.cell? ⟨g3, 1, none⟩ = some (.slice a1 len1 cap1) := HY.out.blk.cell 1
      clear q0 q1 q2 q3
      have q0 : u5.cell? ⟨g11, 0, none⟩ = some (.int .i64 0) := H11.out.blk.cell 0
      have q1 : u5.cell? ⟨g11, 1, none⟩ = some (.slice none 0 0) := H11.out.blk.cell 1
      go_wp2_with fail
      refine (none_zero u5).mono ?_
      rintro e u6 ⟨rfl, hb⟩
      have HX' := Lib.hid (HX.out.below hb)
      have HY' := Lib.hid (HY.out.below hb)
      have HO' := Lib.hid (HO.out.below hb (Nat.le_refl _))
      have H5' := Lib.hid (H5.out.below hb)
      have H7' := Lib.hid (H7.out.below hb)
      have H9' := Lib.hid (H9.out.below hb)
      have H11' := Lib.hid (H11.out.below hb)
      have Hb' := Lib.hid (Hb.out.trans (hb.mono Hb.out.size))
      clear hb q0 q1 Hb HX HY HO H5 H7 H9 H11
      have HX := HX'
      have HY := HY'
      have HO := HO'
      have H5 := H5'
      have H7 := H7'
      have H9 := H9'
      have H11 := H11'
      have Hb := Hb'
      clear HX' HY' HO' H5' H7' H9' H11' Hb'
      have q0 : u6.cell? ⟨g2, 0, none⟩ = some (.int .i64 N0) := HX.out.blk.cell 0
      have q1 : u6.cell? ⟨g2, 1, none⟩ = some (.slice a0 len0 cap0) := HX.out.blk.cell 1
      have q2 : u6.cell? ⟨g3, 0, none⟩ = some (.int .i64 N1) := HY.out.blk.cell 0
      have q3 : u6.cell? ⟨g3, 1, none⟩ = some (.slice a1 len1 cap1) := HY.out.blk.cell 1
      go_wp2_with fail
      refine (right_any N0 a0 len0 cap0 xs0 u6 HX.out.rd (by omega) (by omega) (by omega)).mono ?_
      rintro e u7 ⟨rfl, hb⟩
      have HX' := Lib.hid (HX.out.below hb)
      have HY' := Lib.hid (HY.out.below hb)
      have HO' := Lib.hid (HO.out.below hb (Nat.le_refl _))
      have H5' := Lib.hid (H5.out.below hb)
      have H7' := Lib.hid (H7.out.below hb)
      have H9' := Lib.hid (H9.out.below hb)
      have H11' := Lib.hid (H11.out.below hb)
      have Hb' := Lib.hid (Hb.out.trans (hb.mono Hb.out.size))
      clear hb q0 q1 q2 q3 Hb HX HY HO H5 H7 H9 H11
      have HX := HX'
      have HY := HY'
      have HO := HO'
      have H5 := H5'
      have H7 := H7'
      have H9 := H9'
      have H11 := H11'
      have Hb := Hb'
      clear HX' HY' HO' H5' H7' H9' H11' Hb'
      rw [← HV0.out]
      have q0 : u7.cell? ⟨g2, 0, none⟩ = some (.int .i64 N0) := HX.out.blk.cell 0
      have q1 : u7.cell? ⟨g2, 1, none⟩ = some (.slice a0 len0 cap0) := HX.out.blk.cell 1
      have q2 : u7.cell? ⟨g3, 0, none⟩ = some (.int .i64 N1) := HY.out.blk.cell 0
      have q3 : u7.cell? ⟨g3, 1, none⟩ = some (.slice a1 len1 cap1) := HY.out.blk.cell 1
      go_wp2_with fail
      refine (sane_any u7 HO.out).mono ?_
      rintro e u8 ⟨rfl, hb⟩
      have HX' := Lib.hid (HX.out.below hb)
      have HY' := Lib.hid (HY.out.below hb)
      have HO' := Lib.hid (HO.out.below hb (Nat.le_refl _))
      have H5' := Lib.hid (H5.out.below hb)
      have H7' := Lib.hid (H7.out.below hb)
      have H9' := Lib.hid (H9.out.below hb)
      have H11' := Lib.hid (H11.out.below hb)
      have Hb' := Lib.hid (Hb.out.trans (hb.mono Hb.out.size))
      clear hb q0 q1 q2 q3 Hb HX HY HO H5 H7 H9 H11
      have HX := HX'
      have HY := HY'
      have HO := HO'
      have H5 := H5'
      have H7 := H7'
      have H9 := H9'
      have H11 := H11'
      have Hb := Hb'
      clear HX' HY' HO' H5' H7' H9' H11' Hb'
      have q0 : u8.cell? ⟨g5, 0, none⟩ = some (.int .i64 0) := H5.out.blk.cell 0
      have q1 : u8.cell? ⟨g5, 1, none⟩ = some (.slice none 0 0) := H5.out.blk.cell 1
      go_wp2_with fail
      refine (none_zero u8).mono ?_
      rintro e u9 ⟨rfl, hb⟩
      have HX' := Lib.hid (HX.out.below hb)
      have HY' := Lib.hid (HY.out.below hb)
      have HO' := Lib.hid (HO.out.below hb (Nat.le_refl _))
      have H5' := Lib.hid (H5.out.below hb)
      have H7' := Lib.hid (H7.out.below hb)
      have H9' := Lib.hid (H9.out.below hb)
      have H11' := Lib.hid (H11.out.below hb)
      have Hb' := Lib.hid (Hb.out.trans (hb.mono Hb.out.size))
      clear hb q0 q1 Hb HX HY HO H5 H7 H9 H11
      have HX := HX'
      have HY := HY'
      have HO := HO'
      have H5 := H5'
      have H7 := H7'
      have H9 := H9'
      have H11 := H11'
      have Hb := Hb'
      clear HX' HY' HO' H5' H7' H9' H11' Hb'
      have q0 : u9.cell? ⟨g7, 0, none⟩ = some (.int .i64 0) := H7.out.blk.cell 0
      have q1 : u9.cell? ⟨g7, 1, none⟩ = some (.slice none 0 0) := H7.out.blk.cell 1
      go_wp2_with fail
      refine (none_zero u9).mono ?_
      rintro e u10 ⟨rfl, hb⟩
      have HX' := Lib.hid (HX.out.below hb)
      have HY' := Lib.hid (HY.out.below hb)
      have HO' := Lib.hid (HO.out.below hb (Nat.le_refl _))
      have H5' := Lib.hid (H5.out.below hb)
      have H7' := Lib.hid (H7.out.below hb)
      have H9' := Lib.hid (H9.out.below hb)
      have H11' := Lib.hid (H11.out.below hb)
      have Hb' := Lib.hid (Hb.out.trans (hb.mono Hb.out.size))
      clear hb q0 q1 Hb HX HY HO H5 H7 H9 H11
      have HX := HX'
      have HY := HY'
      have HO := HO'
      have H5 := H5'
      have H7 := H7'
      have H9 := H9'
      have H11 := H11'
      have Hb := Hb'
      clear HX' HY' HO' H5' H7' H9' H11' Hb'
      have q0 : u10.cell? ⟨g9, 0, none⟩ = some (.int .i64 0) := H9.out.blk.cell 0
      have q1 : u10.cell? ⟨g9, 1, none⟩ = some (.slice none 0 0) := H9.out.blk.cell 1
      go_wp2_with fail
      refine (none_zero u10).mono ?_
      rintro e u11 ⟨rfl, hb⟩
      have HX' := Lib.hid (HX.out.below hb)
      have HY' := Lib.hid (HY.out.below hb)
      have HO' := Lib.hid (HO.out.below hb (Nat.le_refl _))
      have H5' := Lib.hid (H5.out.below hb)
      have H7' := Lib.hid (H7.out.below hb)
      have H9' := Lib.hid (H9.out.below hb)
      have H11' := Lib.hid (H11.out.below hb)
      have Hb' := Lib.hid (Hb.out.trans (hb.mono Hb.out.size))
      clear hb q0 q1 Hb HX HY HO H5 H7 H9 H11
      have HX := HX'
      have HY := HY'
      have HO := HO'
      have H5 := H5'
      have H7 := H7'
      have H9 := H9'
      have H11 := H11'
      have Hb := Hb'
      clear HX' HY' HO' H5' H7' H9' H11' Hb'
      go_wp2_with fail
      go_ret
      exact ⟨rfl, Hb.out⟩
    | true =>
      cases V1 with
      | false =>
        obtain ⟨M, rfl, vx⟩ := Vb.of HX.out.rd.hb HV0.out.symm
        have hM := vx.le
        have Vx := Lib.hid vx
        clear vx
        go_enter Tryd.func6, Tryd.ntmps6
        go_upto_region 1 with fail
        rw [HEV.out, HE3.out, HE2.out]
        clear HEV HE3 HE2
        have q0 : V.cell? ⟨g2, 0, none⟩ = some (.int .i64 (M : Int)) := HX.out.blk.cell 0
        have q1 : V.cell? ⟨g2, 1, none⟩ = some (.slice a0 len0 cap0) := HX.out.blk.cell 1
        have q2 : V.cell? ⟨g3, 0, none⟩ = some (.int .i64 N1) := HY.out.blk.cell 0
        have q3 : V.cell? ⟨g3, 1, none⟩ = some (.slice a1 len1 cap1) := HY.out.blk.cell 1
        go_wp2_with fail
        obtain ⟨WS, hWS⟩ : ∃ WS, WS = V.alloc (.cells #[.int .i64 (M : Int), .slice a0 len0 cap0, .int .i64 N1, .slice a1 len1 cap1] 24) := ⟨_, rfl⟩
        have hbS : Below V.heap.size V WS := by rw [hWS]; exact (Below.refl _ V).alloc (Nat.le_refl _) _
        have hBS : Blk WS V.heap.size 24 #[.int .i64 (M : Int), .slice a0 len0 cap0, .int .i64 N1, .slice a1 len1 cap1] := by rw [hWS]; exact heap_new V _
        rw [← hWS]
        refine (few2_any _ (M : Int) a0 len0 cap0 N1 a1 len1 cap1 WS hBS).mono ?_
        rintro e u0 ⟨rfl, rfl⟩
        rw [← HF.out]
        clear hBS hWS
        have HX' := Lib.hid (HX.out.below hbS)
        have HY' := Lib.hid (HY.out.below hbS)
        have HO' := Lib.hid (HO.out.below hbS (Nat.le_refl _))
        have Hb' := Lib.hid (Hb.out.trans (hbS.mono Hb.out.size))
        clear hbS q0 q1 q2 q3 Hb HX HY HO
        have HX := HX'
        have HY := HY'
        have HO := HO'
        have Hb := Hb'
        clear HX' HY' HO' Hb'
        have q0 : WS.cell? ⟨g2, 0, none⟩ = some (.int .i64 (M : Int)) := HX.out.blk.cell 0
        have q1 : WS.cell? ⟨g2, 1, none⟩ = some (.slice a0 len0 cap0) := HX.out.blk.cell 1
        have q2 : WS.cell? ⟨g3, 0, none⟩ = some (.int .i64 N1) := HY.out.blk.cell 0
        have q3 : WS.cell? ⟨g3, 1, none⟩ = some (.slice a1 len1 cap1) := HY.out.blk.cell 1
        clear q0 q1 q2 q3
        have q0 : WS.cell? ⟨g2, 0, none⟩ = some (.int .i64 (M : Int)) := HX.out.blk.cell 0
        have q1 : WS.cell? ⟨g2, 1, none⟩ = some (.slice a0 len0 cap0) := HX.out.blk.cell 1
        have q2 : WS.cell? ⟨g3, 0, none⟩ = some (.int .i64 N1) := HY.out.blk.cell 0
        have q3 : WS.cell? ⟨g3, 1, none⟩ = some (.slice a1 len1 cap1) := HY.out.blk.cell 1
        go_wp2_with fail
        refine (and_bad (M : Int) N1 a0 a1 len0 cap0 len1 cap1 xs0 xs1 9 WS HX.out.rd HY.out.rd (by omega) (by omega) (by omega) (by omega) (.inr ⟨.inr HV1.out.symm, rfl⟩)).mono ?_
        rintro e u1 ⟨rfl, hb⟩
        have HX' := Lib.hid (HX.out.below hb)
        have HY' := Lib.hid (HY.out.below hb)
        have HO' := Lib.hid (HO.out.below hb (Nat.le_refl _))
        have Hb' := Lib.hid (Hb.out.trans (hb.mono Hb.out.size))
        clear hb q0 q1 q2 q3 Hb HX HY HO
        have HX := HX'
        have HY := HY'
        have HO := HO'
        have Hb := Hb'
        clear HX' HY' HO' Hb'
        go_upto_region 4 with fail
        obtain ⟨g5, W5, e1, e2, hB, -, hq⟩ := boxed Hb.out 0 none 0 0 [] (Rd.nil u1)
        rw [e2, e1]
        have HBX := Lib.hid hB
        clear e1 e2 hB
        have HX' := Lib.hid (HX.out.below hq)
        have HY' := Lib.hid (HY.out.below hq)
        have HO' := Lib.hid (HO.out.below hq (Nat.le_refl _))
        have Hb' := Lib.hid (Hb.out.trans (hq.mono Hb.out.size))
        clear hq  Hb HX HY HO
        have HX := HX'
        have HY := HY'
        have HO := HO'
        have Hb := Hb'
        clear HX' HY' HO' Hb'
        have H5 := HBX
        clear HBX
        have q0 : W5.cell? ⟨g2, 0, none⟩ = some (.int .i64 (M : Int)) := HX.out.blk.cell 0
        have q1 : W5.cell? ⟨g2, 1, none⟩ = some (.slice a0 len0 cap0) := HX.out.blk.cell 1
        have q2 : W5.cell? ⟨g3, 0, none⟩ = some (.int .i64 N1) := HY.out.blk.cell 0
        have q3 : W5.cell? ⟨g3, 1, none⟩ = some (.slice a1 len1 cap1) := HY.out.blk.cell 1
        go_wp2_with fail
        refine (or_bad (M : Int) N1 a0 a1 len0 cap0 len1 cap1 xs0 xs1 9 W5 HX.out.rd HY.out.rd (by omega) (by omega) (by omega) (by omega) (.inr ⟨.inr HV1.out.symm, rfl⟩)).mono ?_
        rintro e u2 ⟨rfl, hb⟩
        have HX' := Lib.hid (HX.out.below hb)
        have HY' := Lib.hid (HY.out.below hb)
        have HO' := Lib.hid (HO.out.below hb (Nat.le_refl _))
        have H5' := Lib.hid (H5.out.below hb)
        have Hb' := Lib.hid (Hb.out.trans (hb.mono Hb.out.size))
        clear hb q0 q1 q2 q3 Hb HX HY HO H5
        have HX := HX'
        have HY := HY'
        have HO := HO'
        have H5 := H5'
        have Hb := Hb'
        clear HX' HY' HO' H5' Hb'
        go_upto_region 5 with fail
        obtain ⟨g7, W7, e1, e2, hB, -, hq⟩ := boxed Hb.out 0 none 0 0 [] (Rd.nil u2)
        rw [e2, e1]
        have HBX := Lib.hid hB
        clear e1 e2 hB
        have HX' := Lib.hid (HX.out.below hq)
        have HY' := Lib.hid (HY.out.below hq)
        have HO' := Lib.hid (HO.out.below hq (Nat.le_refl _))
        have H5' := Lib.hid (H5.out.below hq)
        have Hb' := Lib.hid (Hb.out.trans (hq.mono Hb.out.size))
        clear hq  Hb HX HY HO H5
        have HX := HX'
        have HY := HY'
        have HO := HO'
        have H5 := H5'
        have Hb := Hb'
        clear HX' HY' HO' H5' Hb'
        have H7 := HBX
        clear HBX
        have q0 : W7.cell? ⟨g2, 0, none⟩ = some (.int .i64 (M : Int)) := HX.out.blk.cell 0
        have q1 : W7.cell? ⟨g2, 1, none⟩ = some (.slice a0 len0 cap0) := HX.out.blk.cell 1
        have q2 : W7.cell? ⟨g3, 0, none⟩ = some (.int .i64 N1) := HY.out.blk.cell 0
        have q3 : W7.cell? ⟨g3, 1, none⟩ = some (.slice a1 len1 cap1) := HY.out.blk.cell 1
        go_wp2_with fail
        refine (minus_bad (M : Int) N1 a0 a1 len0 cap0 len1 cap1 xs0 xs1 9 W7 HX.out.rd HY.out.rd (by omega) (by omega) (by omega) (by omega) (.inr ⟨.inr HV1.out.symm, rfl⟩)).mono ?_
        rintro e u3 ⟨rfl, hb⟩
        have HX' := Lib.hid (HX.out.below hb)
        have HY' := Lib.hid (HY.out.below hb)
        have HO' := Lib.hid (HO.out.below hb (Nat.le_refl _))
        have H5' := Lib.hid (H5.out.below hb)
        have H7' := Lib.hid (H7.out.below hb)
        have Hb' := Lib.hid (Hb.out.trans (hb.mono Hb.out.size))
        clear hb q0 q1 q2 q3 Hb HX HY HO H5 H7
        have HX := HX'
        have HY := HY'
        have HO := HO'
        have H5 := H5'
        have H7 := H7'
        have Hb := Hb'
        clear HX' HY' HO' H5' H7' Hb'
        go_upto_region 6 with fail
        obtain ⟨g9, W9, e1, e2, hB, -, hq⟩ := boxed Hb.out 0 none 0 0 [] (Rd.nil u3)
        rw [e2, e1]
        have HBX := Lib.hid hB
        clear e1 e2 hB
        have HX' := Lib.hid (HX.out.below hq)
        have HY' := Lib.hid (HY.out.below hq)
        have HO' := Lib.hid (HO.out.below hq (Nat.le_refl _))
        have H5' := Lib.hid (H5.out.below hq)
        have H7' := Lib.hid (H7.out.below hq)
        have Hb' := Lib.hid (Hb.out.trans (hq.mono Hb.out.size))
        clear hq  Hb HX HY HO H5 H7
        have HX := HX'
        have HY := HY'
        have HO := HO'
        have H5 := H5'
        have H7 := H7'
        have Hb := Hb'
        clear HX' HY' HO' H5' H7' Hb'
        have H9 := HBX
        clear HBX
        have q0 : W9.cell? ⟨g2, 0, none⟩ = some (.int .i64 (M : Int)) := HX.out.blk.cell 0
        have q1 : W9.cell? ⟨g2, 1, none⟩ = some (.slice a0 len0 cap0) := HX.out.blk.cell 1
        have q2 : W9.cell? ⟨g3, 0, none⟩ = some (.int .i64 N1) := HY.out.blk.cell 0
        have q3 : W9.cell? ⟨g3, 1, none⟩ = some (.slice a1 len1 cap1) := HY.out.blk.cell 1
        go_wp2_with fail
        refine (not_is M a0 len0 cap0 xs0 W9 HX.out.rd Vx.out).mono ?_
        rintro e u4 ⟨b11, l11, c11, X11, rfl, hw, hi, hb⟩
        have HR := Lib.hid hw
        have I11 := Lib.hid hi
        clear hw hi
        have HX' := Lib.hid (HX.out.below hb)
        have HY' := Lib.hid (HY.out.below hb)
        have HO' := Lib.hid (HO.out.below hb (Nat.le_refl _))
        have H5' := Lib.hid (H5.out.below hb)
        have H7' := Lib.hid (H7.out.below hb)
        have H9' := Lib.hid (H9.out.below hb)
        have Hb' := Lib.hid (Hb.out.trans (hb.mono Hb.out.size))
        clear hb q0 q1 q2 q3 Hb HX HY HO H5 H7 H9
        have HX := HX'
        have HY := HY'
        have HO := HO'
        have H5 := H5'
        have H7 := H7'
        have H9 := H9'
        have Hb := Hb'
        clear HX' HY' HO' H5' H7' H9' Hb'
        go_upto_region 7 with fail
        obtain ⟨g11, W11, e1, e2, hB, -, hq⟩ := boxed Hb.out (M : Int) b11 l11 c11 X11 HR.out
        rw [e2, e1]
        have HBX := Lib.hid hB
        clear e1 e2 hB
        have HX' := Lib.hid (HX.out.below hq)
        have HY' := Lib.hid (HY.out.below hq)
        have HO' := Lib.hid (HO.out.below hq (Nat.le_refl _))
        have H5' := Lib.hid (H5.out.below hq)
        have H7' := Lib.hid (H7.out.below hq)
        have H9' := Lib.hid (H9.out.below hq)
        have HR' := Lib.hid (HR.out.below hq (Nat.le_refl _))
        have Hb' := Lib.hid (Hb.out.trans (hq.mono Hb.out.size))
        clear hq  Hb HX HY HO H5 H7 H9 HR
        have HX := HX'
        have HY := HY'
        have HO := HO'
        have H5 := H5'
        have H7 := H7'
        have H9 := H9'
        have HR := HR'
        have Hb := Hb'
        clear HX' HY' HO' H5' H7' H9' HR' Hb'
        have H11 := HBX
        clear HBX
        clear HR
        have q0 : W11.cell? ⟨g2, 0, none⟩ = some (.int .i64 (M : Int)) := HX.out.blk.cell 0
        have q1 : W11.cell? ⟨g2, 1, none⟩ = some (.slice a0 len0 cap0) := HX.out.blk.cell 1
        have q2 : W11.cell? ⟨g3, 0, none⟩ = some (.int .i64 N1) := HY.out.blk.cell 0
        have q3 : W11.cell? ⟨g3, 1, none⟩ = some (.slice a1 len1 cap1) := HY.out.blk.cell 1
        go_wp2_with fail
        refine (right_any (M : Int) a0 len0 cap0 xs0 W11 HX.out.rd (by omega) (by omega) (by omega)).mono ?_
        rintro e u5 ⟨rfl, hb⟩
        have HX' := Lib.hid (HX.out.below hb)
        have HY' := Lib.hid (HY.out.below hb)
        have HO' := Lib.hid (HO.out.below hb (Nat.le_refl _))
        have H5' := Lib.hid (H5.out.below hb)
        have H7' := Lib.hid (H7.out.below hb)
        have H9' := Lib.hid (H9.out.below hb)
        have H11' := Lib.hid (H11.out.below hb)
        have Hb' := Lib.hid (Hb.out.trans (hb.mono Hb.out.size))
        clear hb q0 q1 q2 q3 Hb HX HY HO H5 H7 H9 H11
        have HX := HX'
        have HY := HY'
        have HO := HO'
        have H5 := H5'
        have H7 := H7'
        have H9 := H9'
        have H11 := H11'
        have Hb := Hb'
        clear HX' HY' HO' H5' H7' H9' H11' Hb'
        rw [← HV0.out]
        have q0 : u5.cell? ⟨g2, 0, none⟩ = some (.int .i64 (M : Int)) := HX.out.blk.cell 0
        have q1 : u5.cell? ⟨g2, 1, none⟩ = some (.slice a0 len0 cap0) := HX.out.blk.cell 1
        have q2 : u5.cell? ⟨g3, 0, none⟩ = some (.int .i64 N1) := HY.out.blk.cell 0
        have q3 : u5.cell? ⟨g3, 1, none⟩ = some (.slice a1 len1 cap1) := HY.out.blk.cell 1
        clear q0 q1 q2 q3
        go_upto_region 10 with fail
        refine wp_region_held_drew (S := Below u5.heap.size u5) (by kernel_rfl) ((Below.refl _ u5).drew) (fun _ => ?_)
        have HS : Hid (Below u5.heap.size u5 u5.drew) := Lib.hid ((Below.refl _ u5).drew)
        refine wpAnyH_take (i := 0) (v := .int .i64 0) rfl (by kernel_rfl) (by kernel_rfl) (by kernel_rfl) (fun _ _ _ h => h) (Or.inl ⟨by rfl, ?_⟩) HS.out ?_
        · intro u hu; go_simp
        go_simp
        refine wpAnyH_take (i := 1) (v := .bool false) rfl (by kernel_rfl) (by kernel_rfl) (by kernel_rfl) (fun _ _ _ h => h) (Or.inl ⟨by rfl, ?_⟩) HS.out ?_
        · intro u hu; go_simp
        go_simp
        refine wpAnyH_take (i := 2) (v := .bool false) rfl (by kernel_rfl) (by kernel_rfl) (by kernel_rfl) (fun _ _ _ h => h) (Or.inl ⟨by rfl, ?_⟩) HS.out ?_
        · intro u hu; go_simp
        go_simp
        refine wpAnyH_take (i := 3) (v := .agg #[.int .i64 (M : Int), .slice b11 l11 c11]) rfl (by kernel_rfl) (by kernel_rfl) (by kernel_rfl) (fun _ _ _ h => h) (Or.inl ⟨by rfl, ?_⟩) HS.out ?_
        · intro u hu; have : u.cell? ⟨g11, 0, none⟩ = some (.int .i64 (M : Int)) := (H11.out.below hu).blk.cell 0; have : u.cell? ⟨g11, 1, none⟩ = some (.slice b11 l11 c11) := (H11.out.below hu).blk.cell 1; go_simp
        go_simp
        refine wpAnyH_take (i := 4) (v := .agg #[.int .i64 (M : Int), .slice a0 len0 cap0]) rfl (by kernel_rfl) (by kernel_rfl) (by kernel_rfl) (fun _ _ _ h => h) (Or.inl ⟨by rfl, ?_⟩) HS.out ?_
        · intro u hu; have : u.cell? ⟨g2, 0, none⟩ = some (.int .i64 (M : Int)) := (HX.out.below hu).blk.cell 0; have : u.cell? ⟨g2, 1, none⟩ = some (.slice a0 len0 cap0) := (HX.out.below hu).blk.cell 1; go_simp
        go_simp
        refine wpAnyH_ready (rs := [5]) (by kernel_rfl) (by simp) ?_
        refine AllReadyH.cons rfl (fun K hK => ?_) AllReadyH.nil
        go_simp
        refine (rnot_is M a0 len0 cap0 xs0 u5.drew (HX.out.below HS.out).rd Vx.out).mono ?_
        rintro e u6 ⟨bq, lq, cq, Xq, rfl, hw, hi, hb⟩
        have HS2 : Hid (Below u5.heap.size u5 u6) := Lib.hid (HS.out.trans (hb.mono HS.out.size))
        have HJq := Lib.hid hw
        have Jq := Lib.hid hi
        clear hw hi
        clear HS hb
        have HS := HS2
        clear HS2
        refine hK.out _ _ HS.out (fun _ => ?_)
        clear hK K
        have hEq : X11 = Xq := I11.out.eq Jq.out (fun j hj => rfl)
        refine wpAnyH_ready (rs := [6]) (by kernel_rfl) (by simp) ?_
        refine AllReadyH.cons rfl (fun K hK => ?_) AllReadyH.nil
        go_simp
        refine (same_is (M : Int) b11 l11 c11 bq lq cq X11 u6 (H11.out.below HS.out).rd (by rw [hEq]; exact HJq.out)).mono ?_
        rintro e u7 ⟨rfl, hb⟩
        have HS2 : Hid (Below u5.heap.size u5 u7) := Lib.hid (HS.out.trans (hb.mono HS.out.size))
        clear HS hb
        have HS := HS2
        clear HS2
        refine hK.out _ _ HS.out (fun _ => ?_)
        clear hK K
        clear hEq HJq Jq
        refine wpAnyH_take (i := 7) (v := .bool false) rfl (by kernel_rfl) (by kernel_rfl) (by kernel_rfl) (fun _ _ _ h => h) (Or.inl ⟨by rfl, ?_⟩) HS.out ?_
        · intro u hu; go_simp
        go_simp
        refine wpAnyH_take (i := 8) (v := .bool false) rfl (by kernel_rfl) (by kernel_rfl) (by kernel_rfl) (fun _ _ _ h => h) (Or.inl ⟨by rfl, ?_⟩) HS.out ?_
        · intro u hu; go_simp
        go_simp
        refine wpAnyH_done (by kernel_rfl) ?_ _
        have hS := HS.out
        clear HS
        have HX' := Lib.hid (HX.out.below hS)
        have HY' := Lib.hid (HY.out.below hS)
        have HO' := Lib.hid (HO.out.below hS (Nat.le_refl _))
        have H5' := Lib.hid (H5.out.below hS)
        have H7' := Lib.hid (H7.out.below hS)
        have H9' := Lib.hid (H9.out.below hS)
        have H11' := Lib.hid (H11.out.below hS)
        have Hb' := Lib.hid (Hb.out.trans (hS.mono Hb.out.size))
        clear hS  Hb HX HY HO H5 H7 H9 H11
        have HX := HX'
        have HY := HY'
        have HO := HO'
        have H5 := H5'
        have H7 := H7'
        have H9 := H9'
        have H11 := H11'
        have Hb := Hb'
        clear HX' HY' HO' H5' H7' H9' H11' Hb'
        have q0 : u7.cell? ⟨g2, 0, none⟩ = some (.int .i64 (M : Int)) := HX.out.blk.cell 0
        have q1 : u7.cell? ⟨g2, 1, none⟩ = some (.slice a0 len0 cap0) := HX.out.blk.cell 1
        have q2 : u7.cell? ⟨g3, 0, none⟩ = some (.int .i64 N1) := HY.out.blk.cell 0
        have q3 : u7.cell? ⟨g3, 1, none⟩ = some (.slice a1 len1 cap1) := HY.out.blk.cell 1
        go_wp2_with fail
        refine (right_any (M : Int) a0 len0 cap0 xs0 u7 HX.out.rd (by omega) (by omega) (by omega)).mono ?_
        rintro e u8 ⟨rfl, hb⟩
        have HX' := Lib.hid (HX.out.below hb)
        have HY' := Lib.hid (HY.out.below hb)
        have HO' := Lib.hid (HO.out.below hb (Nat.le_refl _))
        have H5' := Lib.hid (H5.out.below hb)
        have H7' := Lib.hid (H7.out.below hb)
        have H9' := Lib.hid (H9.out.below hb)
        have H11' := Lib.hid (H11.out.below hb)
        have Hb' := Lib.hid (Hb.out.trans (hb.mono Hb.out.size))
        clear hb q0 q1 q2 q3 Hb HX HY HO H5 H7 H9 H11
        have HX := HX'
        have HY := HY'
        have HO := HO'
        have H5 := H5'
        have H7 := H7'
        have H9 := H9'
        have H11 := H11'
        have Hb := Hb'
        clear HX' HY' HO' H5' H7' H9' H11' Hb'
        rw [← HV0.out]
        have q0 : u8.cell? ⟨g2, 0, none⟩ = some (.int .i64 (M : Int)) := HX.out.blk.cell 0
        have q1 : u8.cell? ⟨g2, 1, none⟩ = some (.slice a0 len0 cap0) := HX.out.blk.cell 1
        have q2 : u8.cell? ⟨g3, 0, none⟩ = some (.int .i64 N1) := HY.out.blk.cell 0
        have q3 : u8.cell? ⟨g3, 1, none⟩ = some (.slice a1 len1 cap1) := HY.out.blk.cell 1
        go_wp2_with fail
        refine (right_any N1 a1 len1 cap1 xs1 u8 HY.out.rd (by omega) (by omega) (by omega)).mono ?_
        rintro e u9 ⟨rfl, hb⟩
        have HX' := Lib.hid (HX.out.below hb)
        have HY' := Lib.hid (HY.out.below hb)
        have HO' := Lib.hid (HO.out.below hb (Nat.le_refl _))
        have H5' := Lib.hid (H5.out.below hb)
        have H7' := Lib.hid (H7.out.below hb)
        have H9' := Lib.hid (H9.out.below hb)
        have H11' := Lib.hid (H11.out.below hb)
        have Hb' := Lib.hid (Hb.out.trans (hb.mono Hb.out.size))
        clear hb q0 q1 q2 q3 Hb HX HY HO H5 H7 H9 H11
        have HX := HX'
        have HY := HY'
        have HO := HO'
        have H5 := H5'
        have H7 := H7'
        have H9 := H9'
        have H11 := H11'
        have Hb := Hb'
        clear HX' HY' HO' H5' H7' H9' H11' Hb'
        rw [← HV1.out]
        have q0 : u9.cell? ⟨g2, 0, none⟩ = some (.int .i64 (M : Int)) := HX.out.blk.cell 0
        have q1 : u9.cell? ⟨g2, 1, none⟩ = some (.slice a0 len0 cap0) := HX.out.blk.cell 1
        have q2 : u9.cell? ⟨g3, 0, none⟩ = some (.int .i64 N1) := HY.out.blk.cell 0
        have q3 : u9.cell? ⟨g3, 1, none⟩ = some (.slice a1 len1 cap1) := HY.out.blk.cell 1
        go_wp2_with fail
        refine (sane_any u9 HO.out).mono ?_
        rintro e u10 ⟨rfl, hb⟩
        have HX' := Lib.hid (HX.out.below hb)
        have HY' := Lib.hid (HY.out.below hb)
        have HO' := Lib.hid (HO.out.below hb (Nat.le_refl _))
        have H5' := Lib.hid (H5.out.below hb)
        have H7' := Lib.hid (H7.out.below hb)
        have H9' := Lib.hid (H9.out.below hb)
        have H11' := Lib.hid (H11.out.below hb)
        have Hb' := Lib.hid (Hb.out.trans (hb.mono Hb.out.size))
        clear hb q0 q1 q2 q3 Hb HX HY HO H5 H7 H9 H11
        have HX := HX'
        have HY := HY'
        have HO := HO'
        have H5 := H5'
        have H7 := H7'
        have H9 := H9'
        have H11 := H11'
        have Hb := Hb'
        clear HX' HY' HO' H5' H7' H9' H11' Hb'
        have q0 : u10.cell? ⟨g5, 0, none⟩ = some (.int .i64 0) := H5.out.blk.cell 0
        have q1 : u10.cell? ⟨g5, 1, none⟩ = some (.slice none 0 0) := H5.out.blk.cell 1
        go_wp2_with fail
        refine (none_zero u10).mono ?_
        rintro e u11 ⟨rfl, hb⟩
        have HX' := Lib.hid (HX.out.below hb)
        have HY' := Lib.hid (HY.out.below hb)
        have HO' := Lib.hid (HO.out.below hb (Nat.le_refl _))
        have H5' := Lib.hid (H5.out.below hb)
        have H7' := Lib.hid (H7.out.below hb)
        have H9' := Lib.hid (H9.out.below hb)
        have H11' := Lib.hid (H11.out.below hb)
        have Hb' := Lib.hid (Hb.out.trans (hb.mono Hb.out.size))
        clear hb q0 q1 Hb HX HY HO H5 H7 H9 H11
        have HX := HX'
        have HY := HY'
        have HO := HO'
        have H5 := H5'
        have H7 := H7'
        have H9 := H9'
        have H11 := H11'
        have Hb := Hb'
        clear HX' HY' HO' H5' H7' H9' H11' Hb'
        have q0 : u11.cell? ⟨g7, 0, none⟩ = some (.int .i64 0) := H7.out.blk.cell 0
        have q1 : u11.cell? ⟨g7, 1, none⟩ = some (.slice none 0 0) := H7.out.blk.cell 1
        go_wp2_with fail
        refine (none_zero u11).mono ?_
        rintro e u12 ⟨rfl, hb⟩
        have HX' := Lib.hid (HX.out.below hb)
        have HY' := Lib.hid (HY.out.below hb)
        have HO' := Lib.hid (HO.out.below hb (Nat.le_refl _))
        have H5' := Lib.hid (H5.out.below hb)
        have H7' := Lib.hid (H7.out.below hb)
        have H9' := Lib.hid (H9.out.below hb)
        have H11' := Lib.hid (H11.out.below hb)
        have Hb' := Lib.hid (Hb.out.trans (hb.mono Hb.out.size))
        clear hb q0 q1 Hb HX HY HO H5 H7 H9 H11
        have HX := HX'
        have HY := HY'
        have HO := HO'
        have H5 := H5'
        have H7 := H7'
        have H9 := H9'
        have H11 := H11'
        have Hb := Hb'
        clear HX' HY' HO' H5' H7' H9' H11' Hb'
        have q0 : u12.cell? ⟨g9, 0, none⟩ = some (.int .i64 0) := H9.out.blk.cell 0
        have q1 : u12.cell? ⟨g9, 1, none⟩ = some (.slice none 0 0) := H9.out.blk.cell 1
        go_wp2_with fail
        refine (none_zero u12).mono ?_
        rintro e u13 ⟨rfl, hb⟩
        have HX' := Lib.hid (HX.out.below hb)
        have HY' := Lib.hid (HY.out.below hb)
        have HO' := Lib.hid (HO.out.below hb (Nat.le_refl _))
        have H5' := Lib.hid (H5.out.below hb)
        have H7' := Lib.hid (H7.out.below hb)
        have H9' := Lib.hid (H9.out.below hb)
        have H11' := Lib.hid (H11.out.below hb)
        have Hb' := Lib.hid (Hb.out.trans (hb.mono Hb.out.size))
        clear hb q0 q1 Hb HX HY HO H5 H7 H9 H11
        have HX := HX'
        have HY := HY'
        have HO := HO'
        have H5 := H5'
        have H7 := H7'
        have H9 := H9'
        have H11 := H11'
        have Hb := Hb'
        clear HX' HY' HO' H5' H7' H9' H11' Hb'
        go_wp2_with fail
        go_ret
        exact ⟨rfl, Hb.out⟩
      | true =>
        by_cases hne : N0 = N1
        · subst hne
          obtain ⟨M, rfl, vx⟩ := Vb.of HX.out.rd.hb HV0.out.symm
          have hM := vx.le
          have vy := Vb.of2 HY.out.rd.hb HV1.out.symm
          have Vy := Lib.hid vy
          have Vx := Lib.hid vx
          clear vx vy
          go_enter Tryd.func6, Tryd.ntmps6
          go_upto_region 1 with fail
          rw [HEV.out, HE3.out, HE2.out]
          clear HEV HE3 HE2
          have q0 : V.cell? ⟨g2, 0, none⟩ = some (.int .i64 (M : Int)) := HX.out.blk.cell 0
          have q1 : V.cell? ⟨g2, 1, none⟩ = some (.slice a0 len0 cap0) := HX.out.blk.cell 1
          have q2 : V.cell? ⟨g3, 0, none⟩ = some (.int .i64 (M : Int)) := HY.out.blk.cell 0
          have q3 : V.cell? ⟨g3, 1, none⟩ = some (.slice a1 len1 cap1) := HY.out.blk.cell 1
          go_wp2_with fail
          obtain ⟨WS, hWS⟩ : ∃ WS, WS = V.alloc (.cells #[.int .i64 (M : Int), .slice a0 len0 cap0, .int .i64 (M : Int), .slice a1 len1 cap1] 24) := ⟨_, rfl⟩
          have hbS : Below V.heap.size V WS := by rw [hWS]; exact (Below.refl _ V).alloc (Nat.le_refl _) _
          have hBS : Blk WS V.heap.size 24 #[.int .i64 (M : Int), .slice a0 len0 cap0, .int .i64 (M : Int), .slice a1 len1 cap1] := by rw [hWS]; exact heap_new V _
          rw [← hWS]
          refine (few2_any _ (M : Int) a0 len0 cap0 (M : Int) a1 len1 cap1 WS hBS).mono ?_
          rintro e u0 ⟨rfl, rfl⟩
          rw [← HF.out]
          clear hBS hWS
          have HX' := Lib.hid (HX.out.below hbS)
          have HY' := Lib.hid (HY.out.below hbS)
          have HO' := Lib.hid (HO.out.below hbS (Nat.le_refl _))
          have Hb' := Lib.hid (Hb.out.trans (hbS.mono Hb.out.size))
          clear hbS q0 q1 q2 q3 Hb HX HY HO
          have HX := HX'
          have HY := HY'
          have HO := HO'
          have Hb := Hb'
          clear HX' HY' HO' Hb'
          have q0 : WS.cell? ⟨g2, 0, none⟩ = some (.int .i64 (M : Int)) := HX.out.blk.cell 0
          have q1 : WS.cell? ⟨g2, 1, none⟩ = some (.slice a0 len0 cap0) := HX.out.blk.cell 1
          have q2 : WS.cell? ⟨g3, 0, none⟩ = some (.int .i64 (M : Int)) := HY.out.blk.cell 0
          have q3 : WS.cell? ⟨g3, 1, none⟩ = some (.slice a1 len1 cap1) := HY.out.blk.cell 1
          clear q0 q1 q2 q3
          have q0 : WS.cell? ⟨g2, 0, none⟩ = some (.int .i64 (M : Int)) := HX.out.blk.cell 0
          have q1 : WS.cell? ⟨g2, 1, none⟩ = some (.slice a0 len0 cap0) := HX.out.blk.cell 1
          have q2 : WS.cell? ⟨g3, 0, none⟩ = some (.int .i64 (M : Int)) := HY.out.blk.cell 0
          have q3 : WS.cell? ⟨g3, 1, none⟩ = some (.slice a1 len1 cap1) := HY.out.blk.cell 1
          go_wp2_with fail
          refine (and_is M a0 a1 len0 cap0 len1 cap1 xs0 xs1 WS HX.out.rd HY.out.rd Vx.out Vy.out).mono ?_
          rintro e u1 ⟨b5, l5, c5, X5, rfl, hw, hi, hb⟩
          have HR := Lib.hid hw
          have I5 := Lib.hid hi
          clear hw hi
          have HX' := Lib.hid (HX.out.below hb)
          have HY' := Lib.hid (HY.out.below hb)
          have HO' := Lib.hid (HO.out.below hb (Nat.le_refl _))
          have Hb' := Lib.hid (Hb.out.trans (hb.mono Hb.out.size))
          clear hb q0 q1 q2 q3 Hb HX HY HO
          have HX := HX'
          have HY := HY'
          have HO := HO'
          have Hb := Hb'
          clear HX' HY' HO' Hb'
          go_upto_region 4 with fail
          obtain ⟨g5, W5, e1, e2, hB, -, hq⟩ := boxed Hb.out (M : Int) b5 l5 c5 X5 HR.out
          rw [e2, e1]
          have HBX := Lib.hid hB
          clear e1 e2 hB
          have HX' := Lib.hid (HX.out.below hq)
          have HY' := Lib.hid (HY.out.below hq)
          have HO' := Lib.hid (HO.out.below hq (Nat.le_refl _))
          have HR' := Lib.hid (HR.out.below hq (Nat.le_refl _))
          have Hb' := Lib.hid (Hb.out.trans (hq.mono Hb.out.size))
          clear hq  Hb HX HY HO HR
          have HX := HX'
          have HY := HY'
          have HO := HO'
          have HR := HR'
          have Hb := Hb'
          clear HX' HY' HO' HR' Hb'
          have H5 := HBX
          clear HBX
          clear HR
          have q0 : W5.cell? ⟨g2, 0, none⟩ = some (.int .i64 (M : Int)) := HX.out.blk.cell 0
          have q1 : W5.cell? ⟨g2, 1, none⟩ = some (.slice a0 len0 cap0) := HX.out.blk.cell 1
          have q2 : W5.cell? ⟨g3, 0, none⟩ = some (.int .i64 (M : Int)) := HY.out.blk.cell 0
          have q3 : W5.cell? ⟨g3, 1, none⟩ = some (.slice a1 len1 cap1) := HY.out.blk.cell 1
          go_wp2_with fail
          refine (or_is M a0 a1 len0 cap0 len1 cap1 xs0 xs1 W5 HX.out.rd HY.out.rd Vx.out Vy.out).mono ?_
          rintro e u2 ⟨b7, l7, c7, X7, rfl, hw, hi, hb⟩
          have HR := Lib.hid hw
          have I7 := Lib.hid hi
          clear hw hi
          have HX' := Lib.hid (HX.out.below hb)
          have HY' := Lib.hid (HY.out.below hb)
          have HO' := Lib.hid (HO.out.below hb (Nat.le_refl _))
          have H5' := Lib.hid (H5.out.below hb)
          have Hb' := Lib.hid (Hb.out.trans (hb.mono Hb.out.size))
          clear hb q0 q1 q2 q3 Hb HX HY HO H5
          have HX := HX'
          have HY := HY'
          have HO := HO'
          have H5 := H5'
          have Hb := Hb'
          clear HX' HY' HO' H5' Hb'
          go_upto_region 5 with fail
          obtain ⟨g7, W7, e1, e2, hB, -, hq⟩ := boxed Hb.out (M : Int) b7 l7 c7 X7 HR.out
          rw [e2, e1]
          have HBX := Lib.hid hB
          clear e1 e2 hB
          have HX' := Lib.hid (HX.out.below hq)
          have HY' := Lib.hid (HY.out.below hq)
          have HO' := Lib.hid (HO.out.below hq (Nat.le_refl _))
          have H5' := Lib.hid (H5.out.below hq)
          have HR' := Lib.hid (HR.out.below hq (Nat.le_refl _))
          have Hb' := Lib.hid (Hb.out.trans (hq.mono Hb.out.size))
          clear hq  Hb HX HY HO H5 HR
          have HX := HX'
          have HY := HY'
          have HO := HO'
          have H5 := H5'
          have HR := HR'
          have Hb := Hb'
          clear HX' HY' HO' H5' HR' Hb'
          have H7 := HBX
          clear HBX
          clear HR
          have q0 : W7.cell? ⟨g2, 0, none⟩ = some (.int .i64 (M : Int)) := HX.out.blk.cell 0
          have q1 : W7.cell? ⟨g2, 1, none⟩ = some (.slice a0 len0 cap0) := HX.out.blk.cell 1
          have q2 : W7.cell? ⟨g3, 0, none⟩ = some (.int .i64 (M : Int)) := HY.out.blk.cell 0
          have q3 : W7.cell? ⟨g3, 1, none⟩ = some (.slice a1 len1 cap1) := HY.out.blk.cell 1
          go_wp2_with fail
          refine (minus_is M a0 a1 len0 cap0 len1 cap1 xs0 xs1 W7 HX.out.rd HY.out.rd Vx.out Vy.out).mono ?_
          rintro e u3 ⟨b9, l9, c9, X9, rfl, hw, hi, hb⟩
          have HR := Lib.hid hw
          have I9 := Lib.hid hi
          clear hw hi
          have HX' := Lib.hid (HX.out.below hb)
          have HY' := Lib.hid (HY.out.below hb)
          have HO' := Lib.hid (HO.out.below hb (Nat.le_refl _))
          have H5' := Lib.hid (H5.out.below hb)
          have H7' := Lib.hid (H7.out.below hb)
          have Hb' := Lib.hid (Hb.out.trans (hb.mono Hb.out.size))
          clear hb q0 q1 q2 q3 Hb HX HY HO H5 H7
          have HX := HX'
          have HY := HY'
          have HO := HO'
          have H5 := H5'
          have H7 := H7'
          have Hb := Hb'
          clear HX' HY' HO' H5' H7' Hb'
          go_upto_region 6 with fail
          obtain ⟨g9, W9, e1, e2, hB, -, hq⟩ := boxed Hb.out (M : Int) b9 l9 c9 X9 HR.out
          rw [e2, e1]
          have HBX := Lib.hid hB
          clear e1 e2 hB
          have HX' := Lib.hid (HX.out.below hq)
          have HY' := Lib.hid (HY.out.below hq)
          have HO' := Lib.hid (HO.out.below hq (Nat.le_refl _))
          have H5' := Lib.hid (H5.out.below hq)
          have H7' := Lib.hid (H7.out.below hq)
          have HR' := Lib.hid (HR.out.below hq (Nat.le_refl _))
          have Hb' := Lib.hid (Hb.out.trans (hq.mono Hb.out.size))
          clear hq  Hb HX HY HO H5 H7 HR
          have HX := HX'
          have HY := HY'
          have HO := HO'
          have H5 := H5'
          have H7 := H7'
          have HR := HR'
          have Hb := Hb'
          clear HX' HY' HO' H5' H7' HR' Hb'
          have H9 := HBX
          clear HBX
          clear HR
          have q0 : W9.cell? ⟨g2, 0, none⟩ = some (.int .i64 (M : Int)) := HX.out.blk.cell 0
          have q1 : W9.cell? ⟨g2, 1, none⟩ = some (.slice a0 len0 cap0) := HX.out.blk.cell 1
          have q2 : W9.cell? ⟨g3, 0, none⟩ = some (.int .i64 (M : Int)) := HY.out.blk.cell 0
          have q3 : W9.cell? ⟨g3, 1, none⟩ = some (.slice a1 len1 cap1) := HY.out.blk.cell 1
          go_wp2_with fail
          refine (not_is M a0 len0 cap0 xs0 W9 HX.out.rd Vx.out).mono ?_
          rintro e u4 ⟨b11, l11, c11, X11, rfl, hw, hi, hb⟩
          have HR := Lib.hid hw
          have I11 := Lib.hid hi
          clear hw hi
          have HX' := Lib.hid (HX.out.below hb)
          have HY' := Lib.hid (HY.out.below hb)
          have HO' := Lib.hid (HO.out.below hb (Nat.le_refl _))
          have H5' := Lib.hid (H5.out.below hb)
          have H7' := Lib.hid (H7.out.below hb)
          have H9' := Lib.hid (H9.out.below hb)
          have Hb' := Lib.hid (Hb.out.trans (hb.mono Hb.out.size))
          clear hb q0 q1 q2 q3 Hb HX HY HO H5 H7 H9
          have HX := HX'
          have HY := HY'
          have HO := HO'
          have H5 := H5'
          have H7 := H7'
          have H9 := H9'
          have Hb := Hb'
          clear HX' HY' HO' H5' H7' H9' Hb'
          go_upto_region 7 with fail
          obtain ⟨g11, W11, e1, e2, hB, -, hq⟩ := boxed Hb.out (M : Int) b11 l11 c11 X11 HR.out
          rw [e2, e1]
          have HBX := Lib.hid hB
          clear e1 e2 hB
          have HX' := Lib.hid (HX.out.below hq)
          have HY' := Lib.hid (HY.out.below hq)
          have HO' := Lib.hid (HO.out.below hq (Nat.le_refl _))
          have H5' := Lib.hid (H5.out.below hq)
          have H7' := Lib.hid (H7.out.below hq)
          have H9' := Lib.hid (H9.out.below hq)
          have HR' := Lib.hid (HR.out.below hq (Nat.le_refl _))
          have Hb' := Lib.hid (Hb.out.trans (hq.mono Hb.out.size))
          clear hq  Hb HX HY HO H5 H7 H9 HR
          have HX := HX'
          have HY := HY'
          have HO := HO'
          have H5 := H5'
          have H7 := H7'
          have H9 := H9'
          have HR := HR'
          have Hb := Hb'
          clear HX' HY' HO' H5' H7' H9' HR' Hb'
          have H11 := HBX
          clear HBX
          clear HR
          have q0 : W11.cell? ⟨g2, 0, none⟩ = some (.int .i64 (M : Int)) := HX.out.blk.cell 0
          have q1 : W11.cell? ⟨g2, 1, none⟩ = some (.slice a0 len0 cap0) := HX.out.blk.cell 1
          have q2 : W11.cell? ⟨g3, 0, none⟩ = some (.int .i64 (M : Int)) := HY.out.blk.cell 0
          have q3 : W11.cell? ⟨g3, 1, none⟩ = some (.slice a1 len1 cap1) := HY.out.blk.cell 1
          go_wp2_with fail
          refine (right_any (M : Int) a0 len0 cap0 xs0 W11 HX.out.rd (by omega) (by omega) (by omega)).mono ?_
          rintro e u5 ⟨rfl, hb⟩
          have HX' := Lib.hid (HX.out.below hb)
          have HY' := Lib.hid (HY.out.below hb)
          have HO' := Lib.hid (HO.out.below hb (Nat.le_refl _))
          have H5' := Lib.hid (H5.out.below hb)
          have H7' := Lib.hid (H7.out.below hb)
          have H9' := Lib.hid (H9.out.below hb)
          have H11' := Lib.hid (H11.out.below hb)
          have Hb' := Lib.hid (Hb.out.trans (hb.mono Hb.out.size))
          clear hb q0 q1 q2 q3 Hb HX HY HO H5 H7 H9 H11
          have HX := HX'
          have HY := HY'
          have HO := HO'
          have H5 := H5'
          have H7 := H7'
          have H9 := H9'
          have H11 := H11'
          have Hb := Hb'
          clear HX' HY' HO' H5' H7' H9' H11' Hb'
          rw [← HV0.out]
          have q0 : u5.cell? ⟨g2, 0, none⟩ = some (.int .i64 (M : Int)) := HX.out.blk.cell 0
          have q1 : u5.cell? ⟨g2, 1, none⟩ = some (.slice a0 len0 cap0) := HX.out.blk.cell 1
          have q2 : u5.cell? ⟨g3, 0, none⟩ = some (.int .i64 (M : Int)) := HY.out.blk.cell 0
          have q3 : u5.cell? ⟨g3, 1, none⟩ = some (.slice a1 len1 cap1) := HY.out.blk.cell 1
          clear q0 q1 q2 q3
          go_upto_region 10 with fail
          refine wp_region_held_drew (S := Below u5.heap.size u5) (by kernel_rfl) ((Below.refl _ u5).drew) (fun _ => ?_)
          have HS : Hid (Below u5.heap.size u5 u5.drew) := Lib.hid ((Below.refl _ u5).drew)
          refine wpAnyH_take (i := 0) (v := .int .i64 0) rfl (by kernel_rfl) (by kernel_rfl) (by kernel_rfl) (fun _ _ _ h => h) (Or.inl ⟨by rfl, ?_⟩) HS.out ?_
          · intro u hu; go_simp
          go_simp
          refine wpAnyH_take (i := 1) (v := .bool false) rfl (by kernel_rfl) (by kernel_rfl) (by kernel_rfl) (fun _ _ _ h => h) (Or.inl ⟨by rfl, ?_⟩) HS.out ?_
          · intro u hu; go_simp
          go_simp
          refine wpAnyH_take (i := 2) (v := .bool false) rfl (by kernel_rfl) (by kernel_rfl) (by kernel_rfl) (fun _ _ _ h => h) (Or.inl ⟨by rfl, ?_⟩) HS.out ?_
          · intro u hu; go_simp
          go_simp
          refine wpAnyH_take (i := 3) (v := .agg #[.int .i64 (M : Int), .slice b11 l11 c11]) rfl (by kernel_rfl) (by kernel_rfl) (by kernel_rfl) (fun _ _ _ h => h) (Or.inl ⟨by rfl, ?_⟩) HS.out ?_
          · intro u hu; have : u.cell? ⟨g11, 0, none⟩ = some (.int .i64 (M : Int)) := (H11.out.below hu).blk.cell 0; have : u.cell? ⟨g11, 1, none⟩ = some (.slice b11 l11 c11) := (H11.out.below hu).blk.cell 1; go_simp
          go_simp
          refine wpAnyH_take (i := 4) (v := .agg #[.int .i64 (M : Int), .slice a0 len0 cap0]) rfl (by kernel_rfl) (by kernel_rfl) (by kernel_rfl) (fun _ _ _ h => h) (Or.inl ⟨by rfl, ?_⟩) HS.out ?_
          · intro u hu; have : u.cell? ⟨g2, 0, none⟩ = some (.int .i64 (M : Int)) := (HX.out.below hu).blk.cell 0; have : u.cell? ⟨g2, 1, none⟩ = some (.slice a0 len0 cap0) := (HX.out.below hu).blk.cell 1; go_simp
          go_simp
          refine wpAnyH_ready (rs := [5]) (by kernel_rfl) (by simp) ?_
          refine AllReadyH.cons rfl (fun K hK => ?_) AllReadyH.nil
          go_simp
          refine (rnot_is M a0 len0 cap0 xs0 u5.drew (HX.out.below HS.out).rd Vx.out).mono ?_
          rintro e u6 ⟨bq, lq, cq, Xq, rfl, hw, hi, hb⟩
          have HS2 : Hid (Below u5.heap.size u5 u6) := Lib.hid (HS.out.trans (hb.mono HS.out.size))
          have HJq := Lib.hid hw
          have Jq := Lib.hid hi
          clear hw hi
          clear HS hb
          have HS := HS2
          clear HS2
          refine hK.out _ _ HS.out (fun _ => ?_)
          clear hK K
          have hEq : X11 = Xq := I11.out.eq Jq.out (fun j hj => rfl)
          refine wpAnyH_ready (rs := [6]) (by kernel_rfl) (by simp) ?_
          refine AllReadyH.cons rfl (fun K hK => ?_) AllReadyH.nil
          go_simp
          refine (same_is (M : Int) b11 l11 c11 bq lq cq X11 u6 (H11.out.below HS.out).rd (by rw [hEq]; exact HJq.out)).mono ?_
          rintro e u7 ⟨rfl, hb⟩
          have HS2 : Hid (Below u5.heap.size u5 u7) := Lib.hid (HS.out.trans (hb.mono HS.out.size))
          clear HS hb
          have HS := HS2
          clear HS2
          refine hK.out _ _ HS.out (fun _ => ?_)
          clear hK K
          clear hEq HJq Jq
          refine wpAnyH_take (i := 7) (v := .bool false) rfl (by kernel_rfl) (by kernel_rfl) (by kernel_rfl) (fun _ _ _ h => h) (Or.inl ⟨by rfl, ?_⟩) HS.out ?_
          · intro u hu; go_simp
          go_simp
          refine wpAnyH_take (i := 8) (v := .bool false) rfl (by kernel_rfl) (by kernel_rfl) (by kernel_rfl) (fun _ _ _ h => h) (Or.inl ⟨by rfl, ?_⟩) HS.out ?_
          · intro u hu; go_simp
          go_simp
          refine wpAnyH_done (by kernel_rfl) ?_ _
          have hS := HS.out
          clear HS
          have HX' := Lib.hid (HX.out.below hS)
          have HY' := Lib.hid (HY.out.below hS)
          have HO' := Lib.hid (HO.out.below hS (Nat.le_refl _))
          have H5' := Lib.hid (H5.out.below hS)
          have H7' := Lib.hid (H7.out.below hS)
          have H9' := Lib.hid (H9.out.below hS)
          have H11' := Lib.hid (H11.out.below hS)
          have Hb' := Lib.hid (Hb.out.trans (hS.mono Hb.out.size))
          clear hS  Hb HX HY HO H5 H7 H9 H11
          have HX := HX'
          have HY := HY'
          have HO := HO'
          have H5 := H5'
          have H7 := H7'
          have H9 := H9'
          have H11 := H11'
          have Hb := Hb'
          clear HX' HY' HO' H5' H7' H9' H11' Hb'
          have q0 : u7.cell? ⟨g2, 0, none⟩ = some (.int .i64 (M : Int)) := HX.out.blk.cell 0
          have q1 : u7.cell? ⟨g2, 1, none⟩ = some (.slice a0 len0 cap0) := HX.out.blk.cell 1
          have q2 : u7.cell? ⟨g3, 0, none⟩ = some (.int .i64 (M : Int)) := HY.out.blk.cell 0
          have q3 : u7.cell? ⟨g3, 1, none⟩ = some (.slice a1 len1 cap1) := HY.out.blk.cell 1
          go_wp2_with fail
          refine (right_any (M : Int) a0 len0 cap0 xs0 u7 HX.out.rd (by omega) (by omega) (by omega)).mono ?_
          rintro e u8 ⟨rfl, hb⟩
          have HX' := Lib.hid (HX.out.below hb)
          have HY' := Lib.hid (HY.out.below hb)
          have HO' := Lib.hid (HO.out.below hb (Nat.le_refl _))
          have H5' := Lib.hid (H5.out.below hb)
          have H7' := Lib.hid (H7.out.below hb)
          have H9' := Lib.hid (H9.out.below hb)
          have H11' := Lib.hid (H11.out.below hb)
          have Hb' := Lib.hid (Hb.out.trans (hb.mono Hb.out.size))
          clear hb q0 q1 q2 q3 Hb HX HY HO H5 H7 H9 H11
          have HX := HX'
          have HY := HY'
          have HO := HO'
          have H5 := H5'
          have H7 := H7'
          have H9 := H9'
          have H11 := H11'
          have Hb := Hb'
          clear HX' HY' HO' H5' H7' H9' H11' Hb'
          rw [← HV0.out]
          have q0 : u8.cell? ⟨g2, 0, none⟩ = some (.int .i64 (M : Int)) := HX.out.blk.cell 0
          have q1 : u8.cell? ⟨g2, 1, none⟩ = some (.slice a0 len0 cap0) := HX.out.blk.cell 1
          have q2 : u8.cell? ⟨g3, 0, none⟩ = some (.int .i64 (M : Int)) := HY.out.blk.cell 0
          have q3 : u8.cell? ⟨g3, 1, none⟩ = some (.slice a1 len1 cap1) := HY.out.blk.cell 1
          go_wp2_with fail
          refine (right_any (M : Int) a1 len1 cap1 xs1 u8 HY.out.rd (by omega) (by omega) (by omega)).mono ?_
          rintro e u9 ⟨rfl, hb⟩
          have HX' := Lib.hid (HX.out.below hb)
          have HY' := Lib.hid (HY.out.below hb)
          have HO' := Lib.hid (HO.out.below hb (Nat.le_refl _))
          have H5' := Lib.hid (H5.out.below hb)
          have H7' := Lib.hid (H7.out.below hb)
          have H9' := Lib.hid (H9.out.below hb)
          have H11' := Lib.hid (H11.out.below hb)
          have Hb' := Lib.hid (Hb.out.trans (hb.mono Hb.out.size))
          clear hb q0 q1 q2 q3 Hb HX HY HO H5 H7 H9 H11
          have HX := HX'
          have HY := HY'
          have HO := HO'
          have H5 := H5'
          have H7 := H7'
          have H9 := H9'
          have H11 := H11'
          have Hb := Hb'
          clear HX' HY' HO' H5' H7' H9' H11' Hb'
          rw [← HV1.out]
          have q0 : u9.cell? ⟨g2, 0, none⟩ = some (.int .i64 (M : Int)) := HX.out.blk.cell 0
          have q1 : u9.cell? ⟨g2, 1, none⟩ = some (.slice a0 len0 cap0) := HX.out.blk.cell 1
          have q2 : u9.cell? ⟨g3, 0, none⟩ = some (.int .i64 (M : Int)) := HY.out.blk.cell 0
          have q3 : u9.cell? ⟨g3, 1, none⟩ = some (.slice a1 len1 cap1) := HY.out.blk.cell 1
          clear q0 q1 q2 q3
          have hNe : ((M : Int) == (M : Int)) = true := by simp
          have q0 : u9.cell? ⟨g2, 0, none⟩ = some (.int .i64 (M : Int)) := HX.out.blk.cell 0
          have q1 : u9.cell? ⟨g2, 1, none⟩ = some (.slice a0 len0 cap0) := HX.out.blk.cell 1
          have q2 : u9.cell? ⟨g3, 0, none⟩ = some (.int .i64 (M : Int)) := HY.out.blk.cell 0
          have q3 : u9.cell? ⟨g3, 1, none⟩ = some (.slice a1 len1 cap1) := HY.out.blk.cell 1
          go_upto_region 19 with fail
          clear q0 q1 q2 q3
          refine wp_region_held_drew (S := Below u9.heap.size u9) (by kernel_rfl) ((Below.refl _ u9).drew) (fun _ => ?_)
          have HS : Hid (Below u9.heap.size u9 u9.drew) := Lib.hid ((Below.refl _ u9).drew)
          refine wpAnyH_ready (rs := [0]) (by kernel_rfl) (by simp) ?_
          refine AllReadyH.cons rfl (fun K hK => ?_) AllReadyH.nil
          go_simp
          refine (sane_any u9.drew (HO.out.below HS.out (Nat.le_refl _))).mono ?_
          rintro e u10 ⟨rfl, hb⟩
          have HS2 : Hid (Below u9.heap.size u9 u10) := Lib.hid (HS.out.trans (hb.mono HS.out.size))
          clear HS hb
          have HS := HS2
          clear HS2
          refine hK.out _ _ HS.out (fun _ => ?_)
          clear hK K
          refine wpAnyH_take (i := 1) (v := .bool true) rfl (by kernel_rfl) (by kernel_rfl) (by kernel_rfl) (fun _ _ _ h => h) (Or.inl ⟨by rfl, ?_⟩) HS.out ?_
          · intro u hu; go_simp
          go_simp
          refine wpAnyH_take (i := 2) (v := .int .i64 0) rfl (by kernel_rfl) (by kernel_rfl) (by kernel_rfl) (fun _ _ _ h => h) (Or.inl ⟨by rfl, ?_⟩) HS.out ?_
          · intro u hu; go_simp
          go_simp
          refine wpAnyH_take (i := 3) (v := .bool true) rfl (by kernel_rfl) (by kernel_rfl) (by kernel_rfl) (fun _ _ _ h => h) (Or.inl ⟨by rfl, ?_⟩) HS.out ?_
          · intro u hu; go_simp
          go_simp
          refine wpAnyH_take (i := 4) (v := .bool true) rfl (by kernel_rfl) (by kernel_rfl) (by kernel_rfl) (fun _ _ _ h => h) (Or.inl ⟨by rfl, ?_⟩) HS.out ?_
          · intro u hu; go_simp
          go_simp
          refine wpAnyH_take (i := 5) (v := .bool true) rfl (by kernel_rfl) (by kernel_rfl) (by kernel_rfl) (fun _ _ _ h => h) (Or.inl ⟨by rfl, ?_⟩) HS.out ?_
          · intro u hu; go_simp
          go_simp
          refine wpAnyH_take (i := 6) (v := .int .i64 0) rfl (by kernel_rfl) (by kernel_rfl) (by kernel_rfl) (fun _ _ _ h => h) (Or.inl ⟨by rfl, ?_⟩) HS.out ?_
          · intro u hu; go_simp
          go_simp
          refine wpAnyH_take (i := 7) (v := .bool true) rfl (by kernel_rfl) (by kernel_rfl) (by kernel_rfl) (fun _ _ _ h => h) (Or.inl ⟨by rfl, ?_⟩) HS.out ?_
          · intro u hu; go_simp
          go_simp
          refine wpAnyH_take (i := 8) (v := .bool true) rfl (by kernel_rfl) (by kernel_rfl) (by kernel_rfl) (fun _ _ _ h => h) (Or.inl ⟨by rfl, ?_⟩) HS.out ?_
          · intro u hu; go_simp
          go_simp
          refine wpAnyH_take (i := 9) (v := .bool true) rfl (by kernel_rfl) (by kernel_rfl) (by kernel_rfl) (fun _ _ _ h => h) (Or.inl ⟨by rfl, ?_⟩) HS.out ?_
          · intro u hu; go_simp
          go_simp
          refine wpAnyH_take (i := 10) (v := .int .i64 0) rfl (by kernel_rfl) (by kernel_rfl) (by kernel_rfl) (fun _ _ _ h => h) (Or.inl ⟨by rfl, ?_⟩) HS.out ?_
          · intro u hu; go_simp
          go_simp
          refine wpAnyH_take (i := 11) (v := .bool true) rfl (by kernel_rfl) (by kernel_rfl) (by kernel_rfl) (fun _ _ _ h => h) (Or.inl ⟨by rfl, ?_⟩) HS.out ?_
          · intro u hu; go_simp
          go_simp
          refine wpAnyH_take (i := 12) (v := .bool true) rfl (by kernel_rfl) (by kernel_rfl) (by kernel_rfl) (fun _ _ _ h => h) (Or.inl ⟨by rfl, ?_⟩) HS.out ?_
          · intro u hu; go_simp
          go_simp
          refine wpAnyH_take (i := 13) (v := .bool true) rfl (by kernel_rfl) (by kernel_rfl) (by kernel_rfl) (fun _ _ _ h => h) (Or.inl ⟨by rfl, ?_⟩) HS.out ?_
          · intro u hu; go_simp
          go_simp
          refine wpAnyH_take (i := 14) (v := .agg #[.int .i64 (M : Int), .slice b5 l5 c5]) rfl (by kernel_rfl) (by kernel_rfl) (by kernel_rfl) (fun _ _ _ h => h) (Or.inl ⟨by rfl, ?_⟩) HS.out ?_
          · intro u hu; have : u.cell? ⟨g5, 0, none⟩ = some (.int .i64 (M : Int)) := (H5.out.below hu).blk.cell 0; have : u.cell? ⟨g5, 1, none⟩ = some (.slice b5 l5 c5) := (H5.out.below hu).blk.cell 1; go_simp
          go_simp
          refine wpAnyH_take (i := 15) (v := .agg #[.int .i64 (M : Int), .slice a0 len0 cap0]) rfl (by kernel_rfl) (by kernel_rfl) (by kernel_rfl) (fun _ _ _ h => h) (Or.inl ⟨by rfl, ?_⟩) HS.out ?_
          · intro u hu; have : u.cell? ⟨g2, 0, none⟩ = some (.int .i64 (M : Int)) := (HX.out.below hu).blk.cell 0; have : u.cell? ⟨g2, 1, none⟩ = some (.slice a0 len0 cap0) := (HX.out.below hu).blk.cell 1; go_simp
          go_simp
          refine wpAnyH_take (i := 16) (v := .agg #[.int .i64 (M : Int), .slice a1 len1 cap1]) rfl (by kernel_rfl) (by kernel_rfl) (by kernel_rfl) (fun _ _ _ h => h) (Or.inl ⟨by rfl, ?_⟩) HS.out ?_
          · intro u hu; have : u.cell? ⟨g3, 0, none⟩ = some (.int .i64 (M : Int)) := (HY.out.below hu).blk.cell 0; have : u.cell? ⟨g3, 1, none⟩ = some (.slice a1 len1 cap1) := (HY.out.below hu).blk.cell 1; go_simp
          go_simp
          refine wpAnyH_ready (rs := [17]) (by kernel_rfl) (by simp) ?_
          refine AllReadyH.cons rfl (fun K hK => ?_) AllReadyH.nil
          go_simp
          refine (rjoin2_is M a0 a1 len0 cap0 len1 cap1 xs0 xs1 u10 (HX.out.below HS.out).rd (HY.out.below HS.out).rd Vx.out Vy.out).mono ?_
          rintro e u11 ⟨bj0, lj0, cj0, Xj0, rfl, hw, hi, hb⟩
          have HS2 : Hid (Below u9.heap.size u9 u11) := Lib.hid (HS.out.trans (hb.mono HS.out.size))
          have HJj0 := Lib.hid hw
          have Jj0 := Lib.hid hi
          clear hw hi
          clear HS hb
          have HS := HS2
          clear HS2
          refine hK.out _ _ HS.out (fun _ => ?_)
          clear hK K
          have hEq : X5 = Xj0 := I5.out.eq Jj0.out (fun j hj => rfl)
          refine wpAnyH_ready (rs := [18]) (by kernel_rfl) (by simp) ?_
          refine AllReadyH.cons rfl (fun K hK => ?_) AllReadyH.nil
          go_simp
          refine (same_is (M : Int) b5 l5 c5 bj0 lj0 cj0 X5 u11 (H5.out.below HS.out).rd (by rw [hEq]; exact HJj0.out)).mono ?_
          rintro e u12 ⟨rfl, hb⟩
          have HS2 : Hid (Below u9.heap.size u9 u12) := Lib.hid (HS.out.trans (hb.mono HS.out.size))
          clear HS hb
          have HS := HS2
          clear HS2
          refine hK.out _ _ HS.out (fun _ => ?_)
          clear hK K
          clear hEq HJj0 Jj0
          refine wpAnyH_take (i := 19) (v := .bool true) rfl (by kernel_rfl) (by kernel_rfl) (by kernel_rfl) (fun _ _ _ h => h) (Or.inl ⟨by rfl, ?_⟩) HS.out ?_
          · intro u hu; go_simp
          go_simp
          refine wpAnyH_take (i := 20) (v := .bool true) rfl (by kernel_rfl) (by kernel_rfl) (by kernel_rfl) (fun _ _ _ h => h) (Or.inl ⟨by rfl, ?_⟩) HS.out ?_
          · intro u hu; go_simp
          go_simp
          refine wpAnyH_take (i := 21) (v := .agg #[.int .i64 (M : Int), .slice b7 l7 c7]) rfl (by kernel_rfl) (by kernel_rfl) (by kernel_rfl) (fun _ _ _ h => h) (Or.inl ⟨by rfl, ?_⟩) HS.out ?_
          · intro u hu; have : u.cell? ⟨g7, 0, none⟩ = some (.int .i64 (M : Int)) := (H7.out.below hu).blk.cell 0; have : u.cell? ⟨g7, 1, none⟩ = some (.slice b7 l7 c7) := (H7.out.below hu).blk.cell 1; go_simp
          go_simp
          refine wpAnyH_take (i := 22) (v := .agg #[.int .i64 (M : Int), .slice a0 len0 cap0]) rfl (by kernel_rfl) (by kernel_rfl) (by kernel_rfl) (fun _ _ _ h => h) (Or.inl ⟨by rfl, ?_⟩) HS.out ?_
          · intro u hu; have : u.cell? ⟨g2, 0, none⟩ = some (.int .i64 (M : Int)) := (HX.out.below hu).blk.cell 0; have : u.cell? ⟨g2, 1, none⟩ = some (.slice a0 len0 cap0) := (HX.out.below hu).blk.cell 1; go_simp
          go_simp
          refine wpAnyH_take (i := 23) (v := .agg #[.int .i64 (M : Int), .slice a1 len1 cap1]) rfl (by kernel_rfl) (by kernel_rfl) (by kernel_rfl) (fun _ _ _ h => h) (Or.inl ⟨by rfl, ?_⟩) HS.out ?_
          · intro u hu; have : u.cell? ⟨g3, 0, none⟩ = some (.int .i64 (M : Int)) := (HY.out.below hu).blk.cell 0; have : u.cell? ⟨g3, 1, none⟩ = some (.slice a1 len1 cap1) := (HY.out.below hu).blk.cell 1; go_simp
          go_simp
          refine wpAnyH_ready (rs := [24]) (by kernel_rfl) (by simp) ?_
          refine AllReadyH.cons rfl (fun K hK => ?_) AllReadyH.nil
          go_simp
          refine (rjoin3_is M a0 a1 len0 cap0 len1 cap1 xs0 xs1 u12 (HX.out.below HS.out).rd (HY.out.below HS.out).rd Vx.out Vy.out).mono ?_
          rintro e u13 ⟨bj1, lj1, cj1, Xj1, rfl, hw, hi, hb⟩
          have HS2 : Hid (Below u9.heap.size u9 u13) := Lib.hid (HS.out.trans (hb.mono HS.out.size))
          have HJj1 := Lib.hid hw
          have Jj1 := Lib.hid hi
          clear hw hi
          clear HS hb
          have HS := HS2
          clear HS2
          refine hK.out _ _ HS.out (fun _ => ?_)
          clear hK K
          have hEq : X7 = Xj1 := I7.out.eq Jj1.out (fun j hj => rfl)
          refine wpAnyH_ready (rs := [25]) (by kernel_rfl) (by simp) ?_
          refine AllReadyH.cons rfl (fun K hK => ?_) AllReadyH.nil
          go_simp
          refine (same_is (M : Int) b7 l7 c7 bj1 lj1 cj1 X7 u13 (H7.out.below HS.out).rd (by rw [hEq]; exact HJj1.out)).mono ?_
          rintro e u14 ⟨rfl, hb⟩
          have HS2 : Hid (Below u9.heap.size u9 u14) := Lib.hid (HS.out.trans (hb.mono HS.out.size))
          clear HS hb
          have HS := HS2
          clear HS2
          refine hK.out _ _ HS.out (fun _ => ?_)
          clear hK K
          clear hEq HJj1 Jj1
          refine wpAnyH_take (i := 26) (v := .bool true) rfl (by kernel_rfl) (by kernel_rfl) (by kernel_rfl) (fun _ _ _ h => h) (Or.inl ⟨by rfl, ?_⟩) HS.out ?_
          · intro u hu; go_simp
          go_simp
          refine wpAnyH_take (i := 27) (v := .bool true) rfl (by kernel_rfl) (by kernel_rfl) (by kernel_rfl) (fun _ _ _ h => h) (Or.inl ⟨by rfl, ?_⟩) HS.out ?_
          · intro u hu; go_simp
          go_simp
          refine wpAnyH_take (i := 28) (v := .agg #[.int .i64 (M : Int), .slice b9 l9 c9]) rfl (by kernel_rfl) (by kernel_rfl) (by kernel_rfl) (fun _ _ _ h => h) (Or.inl ⟨by rfl, ?_⟩) HS.out ?_
          · intro u hu; have : u.cell? ⟨g9, 0, none⟩ = some (.int .i64 (M : Int)) := (H9.out.below hu).blk.cell 0; have : u.cell? ⟨g9, 1, none⟩ = some (.slice b9 l9 c9) := (H9.out.below hu).blk.cell 1; go_simp
          go_simp
          refine wpAnyH_take (i := 29) (v := .agg #[.int .i64 (M : Int), .slice a0 len0 cap0]) rfl (by kernel_rfl) (by kernel_rfl) (by kernel_rfl) (fun _ _ _ h => h) (Or.inl ⟨by rfl, ?_⟩) HS.out ?_
          · intro u hu; have : u.cell? ⟨g2, 0, none⟩ = some (.int .i64 (M : Int)) := (HX.out.below hu).blk.cell 0; have : u.cell? ⟨g2, 1, none⟩ = some (.slice a0 len0 cap0) := (HX.out.below hu).blk.cell 1; go_simp
          go_simp
          refine wpAnyH_take (i := 30) (v := .agg #[.int .i64 (M : Int), .slice a1 len1 cap1]) rfl (by kernel_rfl) (by kernel_rfl) (by kernel_rfl) (fun _ _ _ h => h) (Or.inl ⟨by rfl, ?_⟩) HS.out ?_
          · intro u hu; have : u.cell? ⟨g3, 0, none⟩ = some (.int .i64 (M : Int)) := (HY.out.below hu).blk.cell 0; have : u.cell? ⟨g3, 1, none⟩ = some (.slice a1 len1 cap1) := (HY.out.below hu).blk.cell 1; go_simp
          go_simp
          refine wpAnyH_ready (rs := [31]) (by kernel_rfl) (by simp) ?_
          refine AllReadyH.cons rfl (fun K hK => ?_) AllReadyH.nil
          go_simp
          refine (rjoin1_is M a0 a1 len0 cap0 len1 cap1 xs0 xs1 u14 (HX.out.below HS.out).rd (HY.out.below HS.out).rd Vx.out Vy.out).mono ?_
          rintro e u15 ⟨bj2, lj2, cj2, Xj2, rfl, hw, hi, hb⟩
          have HS2 : Hid (Below u9.heap.size u9 u15) := Lib.hid (HS.out.trans (hb.mono HS.out.size))
          have HJj2 := Lib.hid hw
          have Jj2 := Lib.hid hi
          clear hw hi
          clear HS hb
          have HS := HS2
          clear HS2
          refine hK.out _ _ HS.out (fun _ => ?_)
          clear hK K
          have hEq : X9 = Xj2 := I9.out.eq Jj2.out (fun j hj => rfl)
          refine wpAnyH_ready (rs := [32]) (by kernel_rfl) (by simp) ?_
          refine AllReadyH.cons rfl (fun K hK => ?_) AllReadyH.nil
          go_simp
          refine (same_is (M : Int) b9 l9 c9 bj2 lj2 cj2 X9 u15 (H9.out.below HS.out).rd (by rw [hEq]; exact HJj2.out)).mono ?_
          rintro e u16 ⟨rfl, hb⟩
          have HS2 : Hid (Below u9.heap.size u9 u16) := Lib.hid (HS.out.trans (hb.mono HS.out.size))
          clear HS hb
          have HS := HS2
          clear HS2
          refine hK.out _ _ HS.out (fun _ => ?_)
          clear hK K
          clear hEq HJj2 Jj2
          refine wpAnyH_take (i := 33) (v := .bool true) rfl (by kernel_rfl) (by kernel_rfl) (by kernel_rfl) (fun _ _ _ h => h) (Or.inl ⟨by rfl, ?_⟩) HS.out ?_
          · intro u hu; go_simp
          go_simp
          refine wpAnyH_ready (rs := [34]) (by kernel_rfl) (by simp) ?_
          refine AllReadyH.cons rfl (fun K hK => ?_) AllReadyH.nil
          go_simp
          refine hK.out _ _ HS.out (fun _ => ?_)
          clear hK K
          refine wpAnyH_done (by kernel_rfl) ?_ _
          have hS := HS.out
          clear HS
          have HX' := Lib.hid (HX.out.below hS)
          have HY' := Lib.hid (HY.out.below hS)
          have HO' := Lib.hid (HO.out.below hS (Nat.le_refl _))
          have H5' := Lib.hid (H5.out.below hS)
          have H7' := Lib.hid (H7.out.below hS)
          have H9' := Lib.hid (H9.out.below hS)
          have H11' := Lib.hid (H11.out.below hS)
          have Hb' := Lib.hid (Hb.out.trans (hS.mono Hb.out.size))
          clear hS  Hb HX HY HO H5 H7 H9 H11
          have HX := HX'
          have HY := HY'
          have HO := HO'
          have H5 := H5'
          have H7 := H7'
          have H9 := H9'
          have H11 := H11'
          have Hb := Hb'
          clear HX' HY' HO' H5' H7' H9' H11' Hb'
          go_wp2_with fail
          go_ret
          exact ⟨rfl, Hb.out⟩
        · obtain ⟨M, rfl, vx⟩ := Vb.of HX.out.rd.hb HV0.out.symm
          have hM := vx.le
          have Vx := Lib.hid vx
          clear vx
          have hne2 : ((M : Int) == N1) = false := by simpa using hne
          go_enter Tryd.func6, Tryd.ntmps6
          go_upto_region 1 with fail
          rw [HEV.out, HE3.out, HE2.out]
          clear HEV HE3 HE2
          have q0 : V.cell? ⟨g2, 0, none⟩ = some (.int .i64 (M : Int)) := HX.out.blk.cell 0
          have q1 : V.cell? ⟨g2, 1, none⟩ = some (.slice a0 len0 cap0) := HX.out.blk.cell 1
          have q2 : V.cell? ⟨g3, 0, none⟩ = some (.int .i64 N1) := HY.out.blk.cell 0
          have q3 : V.cell? ⟨g3, 1, none⟩ = some (.slice a1 len1 cap1) := HY.out.blk.cell 1
          go_wp2_with fail
          obtain ⟨WS, hWS⟩ : ∃ WS, WS = V.alloc (.cells #[.int .i64 (M : Int), .slice a0 len0 cap0, .int .i64 N1, .slice a1 len1 cap1] 24) := ⟨_, rfl⟩
          have hbS : Below V.heap.size V WS := by rw [hWS]; exact (Below.refl _ V).alloc (Nat.le_refl _) _
          have hBS : Blk WS V.heap.size 24 #[.int .i64 (M : Int), .slice a0 len0 cap0, .int .i64 N1, .slice a1 len1 cap1] := by rw [hWS]; exact heap_new V _
          rw [← hWS]
          refine (few2_any _ (M : Int) a0 len0 cap0 N1 a1 len1 cap1 WS hBS).mono ?_
          rintro e u0 ⟨rfl, rfl⟩
          rw [← HF.out]
          clear hBS hWS
          have HX' := Lib.hid (HX.out.below hbS)
          have HY' := Lib.hid (HY.out.below hbS)
          have HO' := Lib.hid (HO.out.below hbS (Nat.le_refl _))
          have Hb' := Lib.hid (Hb.out.trans (hbS.mono Hb.out.size))
          clear hbS q0 q1 q2 q3 Hb HX HY HO
          have HX := HX'
          have HY := HY'
          have HO := HO'
          have Hb := Hb'
          clear HX' HY' HO' Hb'
          have q0 : WS.cell? ⟨g2, 0, none⟩ = some (.int .i64 (M : Int)) := HX.out.blk.cell 0
          have q1 : WS.cell? ⟨g2, 1, none⟩ = some (.slice a0 len0 cap0) := HX.out.blk.cell 1
          have q2 : WS.cell? ⟨g3, 0, none⟩ = some (.int .i64 N1) := HY.out.blk.cell 0
          have q3 : WS.cell? ⟨g3, 1, none⟩ = some (.slice a1 len1 cap1) := HY.out.blk.cell 1
          clear q0 q1 q2 q3
          have q0 : WS.cell? ⟨g2, 0, none⟩ = some (.int .i64 (M : Int)) := HX.out.blk.cell 0
          have q1 : WS.cell? ⟨g2, 1, none⟩ = some (.slice a0 len0 cap0) := HX.out.blk.cell 1
          have q2 : WS.cell? ⟨g3, 0, none⟩ = some (.int .i64 N1) := HY.out.blk.cell 0
          have q3 : WS.cell? ⟨g3, 1, none⟩ = some (.slice a1 len1 cap1) := HY.out.blk.cell 1
          go_wp2_with fail
          refine (and_bad (M : Int) N1 a0 a1 len0 cap0 len1 cap1 xs0 xs1 1 WS HX.out.rd HY.out.rd (by omega) (by omega) (by omega) (by omega) (.inl ⟨HV0.out.symm, HV1.out.symm, hne, rfl⟩)).mono ?_
          rintro e u1 ⟨rfl, hb⟩
          have HX' := Lib.hid (HX.out.below hb)
          have HY' := Lib.hid (HY.out.below hb)
          have HO' := Lib.hid (HO.out.below hb (Nat.le_refl _))
          have Hb' := Lib.hid (Hb.out.trans (hb.mono Hb.out.size))
          clear hb q0 q1 q2 q3 Hb HX HY HO
          have HX := HX'
          have HY := HY'
          have HO := HO'
          have Hb := Hb'
          clear HX' HY' HO' Hb'
          go_upto_region 4 with fail
          obtain ⟨g5, W5, e1, e2, hB, -, hq⟩ := boxed Hb.out 0 none 0 0 [] (Rd.nil u1)
          rw [e2, e1]
          have HBX := Lib.hid hB
          clear e1 e2 hB
          have HX' := Lib.hid (HX.out.below hq)
          have HY' := Lib.hid (HY.out.below hq)
          have HO' := Lib.hid (HO.out.below hq (Nat.le_refl _))
          have Hb' := Lib.hid (Hb.out.trans (hq.mono Hb.out.size))
          clear hq  Hb HX HY HO
          have HX := HX'
          have HY := HY'
          have HO := HO'
          have Hb := Hb'
          clear HX' HY' HO' Hb'
          have H5 := HBX
          clear HBX
          have q0 : W5.cell? ⟨g2, 0, none⟩ = some (.int .i64 (M : Int)) := HX.out.blk.cell 0
          have q1 : W5.cell? ⟨g2, 1, none⟩ = some (.slice a0 len0 cap0) := HX.out.blk.cell 1
          have q2 : W5.cell? ⟨g3, 0, none⟩ = some (.int .i64 N1) := HY.out.blk.cell 0
          have q3 : W5.cell? ⟨g3, 1, none⟩ = some (.slice a1 len1 cap1) := HY.out.blk.cell 1
          go_wp2_with fail
          refine (or_bad (M : Int) N1 a0 a1 len0 cap0 len1 cap1 xs0 xs1 1 W5 HX.out.rd HY.out.rd (by omega) (by omega) (by omega) (by omega) (.inl ⟨HV0.out.symm, HV1.out.symm, hne, rfl⟩)).mono ?_
          rintro e u2 ⟨rfl, hb⟩
          have HX' := Lib.hid (HX.out.below hb)
          have HY' := Lib.hid (HY.out.below hb)
          have HO' := Lib.hid (HO.out.below hb (Nat.le_refl _))
          have H5' := Lib.hid (H5.out.below hb)
          have Hb' := Lib.hid (Hb.out.trans (hb.mono Hb.out.size))
          clear hb q0 q1 q2 q3 Hb HX HY HO H5
          have HX := HX'
          have HY := HY'
          have HO := HO'
          have H5 := H5'
          have Hb := Hb'
          clear HX' HY' HO' H5' Hb'
          go_upto_region 5 with fail
          obtain ⟨g7, W7, e1, e2, hB, -, hq⟩ := boxed Hb.out 0 none 0 0 [] (Rd.nil u2)
          rw [e2, e1]
          have HBX := Lib.hid hB
          clear e1 e2 hB
          have HX' := Lib.hid (HX.out.below hq)
          have HY' := Lib.hid (HY.out.below hq)
          have HO' := Lib.hid (HO.out.below hq (Nat.le_refl _))
          have H5' := Lib.hid (H5.out.below hq)
          have Hb' := Lib.hid (Hb.out.trans (hq.mono Hb.out.size))
          clear hq  Hb HX HY HO H5
          have HX := HX'
          have HY := HY'
          have HO := HO'
          have H5 := H5'
          have Hb := Hb'
          clear HX' HY' HO' H5' Hb'
          have H7 := HBX
          clear HBX
          have q0 : W7.cell? ⟨g2, 0, none⟩ = some (.int .i64 (M : Int)) := HX.out.blk.cell 0
          have q1 : W7.cell? ⟨g2, 1, none⟩ = some (.slice a0 len0 cap0) := HX.out.blk.cell 1
          have q2 : W7.cell? ⟨g3, 0, none⟩ = some (.int .i64 N1) := HY.out.blk.cell 0
          have q3 : W7.cell? ⟨g3, 1, none⟩ = some (.slice a1 len1 cap1) := HY.out.blk.cell 1
          go_wp2_with fail
          refine (minus_bad (M : Int) N1 a0 a1 len0 cap0 len1 cap1 xs0 xs1 1 W7 HX.out.rd HY.out.rd (by omega) (by omega) (by omega) (by omega) (.inl ⟨HV0.out.symm, HV1.out.symm, hne, rfl⟩)).mono ?_
          rintro e u3 ⟨rfl, hb⟩
          have HX' := Lib.hid (HX.out.below hb)
          have HY' := Lib.hid (HY.out.below hb)
          have HO' := Lib.hid (HO.out.below hb (Nat.le_refl _))
          have H5' := Lib.hid (H5.out.below hb)
          have H7' := Lib.hid (H7.out.below hb)
          have Hb' := Lib.hid (Hb.out.trans (hb.mono Hb.out.size))
          clear hb q0 q1 q2 q3 Hb HX HY HO H5 H7
          have HX := HX'
          have HY := HY'
          have HO := HO'
          have H5 := H5'
          have H7 := H7'
          have Hb := Hb'
          clear HX' HY' HO' H5' H7' Hb'
          go_upto_region 6 with fail
          obtain ⟨g9, W9, e1, e2, hB, -, hq⟩ := boxed Hb.out 0 none 0 0 [] (Rd.nil u3)
          rw [e2, e1]
          have HBX := Lib.hid hB
          clear e1 e2 hB
          have HX' := Lib.hid (HX.out.below hq)
          have HY' := Lib.hid (HY.out.below hq)
          have HO' := Lib.hid (HO.out.below hq (Nat.le_refl _))
          have H5' := Lib.hid (H5.out.below hq)
          have H7' := Lib.hid (H7.out.below hq)
          have Hb' := Lib.hid (Hb.out.trans (hq.mono Hb.out.size))
          clear hq  Hb HX HY HO H5 H7
          have HX := HX'
          have HY := HY'
          have HO := HO'
          have H5 := H5'
          have H7 := H7'
          have Hb := Hb'
          clear HX' HY' HO' H5' H7' Hb'
          have H9 := HBX
          clear HBX
          have q0 : W9.cell? ⟨g2, 0, none⟩ = some (.int .i64 (M : Int)) := HX.out.blk.cell 0
          have q1 : W9.cell? ⟨g2, 1, none⟩ = some (.slice a0 len0 cap0) := HX.out.blk.cell 1
          have q2 : W9.cell? ⟨g3, 0, none⟩ = some (.int .i64 N1) := HY.out.blk.cell 0
          have q3 : W9.cell? ⟨g3, 1, none⟩ = some (.slice a1 len1 cap1) := HY.out.blk.cell 1
          go_wp2_with fail
          refine (not_is M a0 len0 cap0 xs0 W9 HX.out.rd Vx.out).mono ?_
          rintro e u4 ⟨b11, l11, c11, X11, rfl, hw, hi, hb⟩
          have HR := Lib.hid hw
          have I11 := Lib.hid hi
          clear hw hi
          have HX' := Lib.hid (HX.out.below hb)
          have HY' := Lib.hid (HY.out.below hb)
          have HO' := Lib.hid (HO.out.below hb (Nat.le_refl _))
          have H5' := Lib.hid (H5.out.below hb)
          have H7' := Lib.hid (H7.out.below hb)
          have H9' := Lib.hid (H9.out.below hb)
          have Hb' := Lib.hid (Hb.out.trans (hb.mono Hb.out.size))
          clear hb q0 q1 q2 q3 Hb HX HY HO H5 H7 H9
          have HX := HX'
          have HY := HY'
          have HO := HO'
          have H5 := H5'
          have H7 := H7'
          have H9 := H9'
          have Hb := Hb'
          clear HX' HY' HO' H5' H7' H9' Hb'
          go_upto_region 7 with fail
          obtain ⟨g11, W11, e1, e2, hB, -, hq⟩ := boxed Hb.out (M : Int) b11 l11 c11 X11 HR.out
          rw [e2, e1]
          have HBX := Lib.hid hB
          clear e1 e2 hB
          have HX' := Lib.hid (HX.out.below hq)
          have HY' := Lib.hid (HY.out.below hq)
          have HO' := Lib.hid (HO.out.below hq (Nat.le_refl _))
          have H5' := Lib.hid (H5.out.below hq)
          have H7' := Lib.hid (H7.out.below hq)
          have H9' := Lib.hid (H9.out.below hq)
          have HR' := Lib.hid (HR.out.below hq (Nat.le_refl _))
          have Hb' := Lib.hid (Hb.out.trans (hq.mono Hb.out.size))
          clear hq  Hb HX HY HO H5 H7 H9 HR
          have HX := HX'
          have HY := HY'
          have HO := HO'
          have H5 := H5'
          have H7 := H7'
          have H9 := H9'
          have HR := HR'
          have Hb := Hb'
          clear HX' HY' HO' H5' H7' H9' HR' Hb'
          have H11 := HBX
          clear HBX
          clear HR
          have q0 : W11.cell? ⟨g2, 0, none⟩ = some (.int .i64 (M : Int)) := HX.out.blk.cell 0
          have q1 : W11.cell? ⟨g2, 1, none⟩ = some (.slice a0 len0 cap0) := HX.out.blk.cell 1
          have q2 : W11.cell? ⟨g3, 0, none⟩ = some (.int .i64 N1) := HY.out.blk.cell 0
          have q3 : W11.cell? ⟨g3, 1, none⟩ = some (.slice a1 len1 cap1) := HY.out.blk.cell 1
          go_wp2_with fail
          refine (right_any (M : Int) a0 len0 cap0 xs0 W11 HX.out.rd (by omega) (by omega) (by omega)).mono ?_
          rintro e u5 ⟨rfl, hb⟩
          have HX' := Lib.hid (HX.out.below hb)
          have HY' := Lib.hid (HY.out.below hb)
          have HO' := Lib.hid (HO.out.below hb (Nat.le_refl _))
          have H5' := Lib.hid (H5.out.below hb)
          have H7' := Lib.hid (H7.out.below hb)
          have H9' := Lib.hid (H9.out.below hb)
          have H11' := Lib.hid (H11.out.below hb)
          have Hb' := Lib.hid (Hb.out.trans (hb.mono Hb.out.size))
          clear hb q0 q1 q2 q3 Hb HX HY HO H5 H7 H9 H11
          have HX := HX'
          have HY := HY'
          have HO := HO'
          have H5 := H5'
          have H7 := H7'
          have H9 := H9'
          have H11 := H11'
          have Hb := Hb'
          clear HX' HY' HO' H5' H7' H9' H11' Hb'
          rw [← HV0.out]
          have q0 : u5.cell? ⟨g2, 0, none⟩ = some (.int .i64 (M : Int)) := HX.out.blk.cell 0
          have q1 : u5.cell? ⟨g2, 1, none⟩ = some (.slice a0 len0 cap0) := HX.out.blk.cell 1
          have q2 : u5.cell? ⟨g3, 0, none⟩ = some (.int .i64 N1) := HY.out.blk.cell 0
          have q3 : u5.cell? ⟨g3, 1, none⟩ = some (.slice a1 len1 cap1) := HY.out.blk.cell 1
          clear q0 q1 q2 q3
          go_upto_region 10 with fail
          refine wp_region_held_drew (S := Below u5.heap.size u5) (by kernel_rfl) ((Below.refl _ u5).drew) (fun _ => ?_)
          have HS : Hid (Below u5.heap.size u5 u5.drew) := Lib.hid ((Below.refl _ u5).drew)
          refine wpAnyH_take (i := 0) (v := .int .i64 0) rfl (by kernel_rfl) (by kernel_rfl) (by kernel_rfl) (fun _ _ _ h => h) (Or.inl ⟨by rfl, ?_⟩) HS.out ?_
          · intro u hu; go_simp
          go_simp
          refine wpAnyH_take (i := 1) (v := .bool false) rfl (by kernel_rfl) (by kernel_rfl) (by kernel_rfl) (fun _ _ _ h => h) (Or.inl ⟨by rfl, ?_⟩) HS.out ?_
          · intro u hu; go_simp
          go_simp
          refine wpAnyH_take (i := 2) (v := .bool false) rfl (by kernel_rfl) (by kernel_rfl) (by kernel_rfl) (fun _ _ _ h => h) (Or.inl ⟨by rfl, ?_⟩) HS.out ?_
          · intro u hu; go_simp
          go_simp
          refine wpAnyH_take (i := 3) (v := .agg #[.int .i64 (M : Int), .slice b11 l11 c11]) rfl (by kernel_rfl) (by kernel_rfl) (by kernel_rfl) (fun _ _ _ h => h) (Or.inl ⟨by rfl, ?_⟩) HS.out ?_
          · intro u hu; have : u.cell? ⟨g11, 0, none⟩ = some (.int .i64 (M : Int)) := (H11.out.below hu).blk.cell 0; have : u.cell? ⟨g11, 1, none⟩ = some (.slice b11 l11 c11) := (H11.out.below hu).blk.cell 1; go_simp
          go_simp
          refine wpAnyH_take (i := 4) (v := .agg #[.int .i64 (M : Int), .slice a0 len0 cap0]) rfl (by kernel_rfl) (by kernel_rfl) (by kernel_rfl) (fun _ _ _ h => h) (Or.inl ⟨by rfl, ?_⟩) HS.out ?_
          · intro u hu; have : u.cell? ⟨g2, 0, none⟩ = some (.int .i64 (M : Int)) := (HX.out.below hu).blk.cell 0; have : u.cell? ⟨g2, 1, none⟩ = some (.slice a0 len0 cap0) := (HX.out.below hu).blk.cell 1; go_simp
          go_simp
          refine wpAnyH_ready (rs := [5]) (by kernel_rfl) (by simp) ?_
          refine AllReadyH.cons rfl (fun K hK => ?_) AllReadyH.nil
          go_simp
          refine (rnot_is M a0 len0 cap0 xs0 u5.drew (HX.out.below HS.out).rd Vx.out).mono ?_
          rintro e u6 ⟨bq, lq, cq, Xq, rfl, hw, hi, hb⟩
          have HS2 : Hid (Below u5.heap.size u5 u6) := Lib.hid (HS.out.trans (hb.mono HS.out.size))
          have HJq := Lib.hid hw
          have Jq := Lib.hid hi
          clear hw hi
          clear HS hb
          have HS := HS2
          clear HS2
          refine hK.out _ _ HS.out (fun _ => ?_)
          clear hK K
          have hEq : X11 = Xq := I11.out.eq Jq.out (fun j hj => rfl)
          refine wpAnyH_ready (rs := [6]) (by kernel_rfl) (by simp) ?_
          refine AllReadyH.cons rfl (fun K hK => ?_) AllReadyH.nil
          go_simp
          refine (same_is (M : Int) b11 l11 c11 bq lq cq X11 u6 (H11.out.below HS.out).rd (by rw [hEq]; exact HJq.out)).mono ?_
          rintro e u7 ⟨rfl, hb⟩
          have HS2 : Hid (Below u5.heap.size u5 u7) := Lib.hid (HS.out.trans (hb.mono HS.out.size))
          clear HS hb
          have HS := HS2
          clear HS2
          refine hK.out _ _ HS.out (fun _ => ?_)
          clear hK K
          clear hEq HJq Jq
          refine wpAnyH_take (i := 7) (v := .bool false) rfl (by kernel_rfl) (by kernel_rfl) (by kernel_rfl) (fun _ _ _ h => h) (Or.inl ⟨by rfl, ?_⟩) HS.out ?_
          · intro u hu; go_simp
          go_simp
          refine wpAnyH_take (i := 8) (v := .bool false) rfl (by kernel_rfl) (by kernel_rfl) (by kernel_rfl) (fun _ _ _ h => h) (Or.inl ⟨by rfl, ?_⟩) HS.out ?_
          · intro u hu; go_simp
          go_simp
          refine wpAnyH_done (by kernel_rfl) ?_ _
          have hS := HS.out
          clear HS
          have HX' := Lib.hid (HX.out.below hS)
          have HY' := Lib.hid (HY.out.below hS)
          have HO' := Lib.hid (HO.out.below hS (Nat.le_refl _))
          have H5' := Lib.hid (H5.out.below hS)
          have H7' := Lib.hid (H7.out.below hS)
          have H9' := Lib.hid (H9.out.below hS)
          have H11' := Lib.hid (H11.out.below hS)
          have Hb' := Lib.hid (Hb.out.trans (hS.mono Hb.out.size))
          clear hS  Hb HX HY HO H5 H7 H9 H11
          have HX := HX'
          have HY := HY'
          have HO := HO'
          have H5 := H5'
          have H7 := H7'
          have H9 := H9'
          have H11 := H11'
          have Hb := Hb'
          clear HX' HY' HO' H5' H7' H9' H11' Hb'
          have q0 : u7.cell? ⟨g2, 0, none⟩ = some (.int .i64 (M : Int)) := HX.out.blk.cell 0
          have q1 : u7.cell? ⟨g2, 1, none⟩ = some (.slice a0 len0 cap0) := HX.out.blk.cell 1
          have q2 : u7.cell? ⟨g3, 0, none⟩ = some (.int .i64 N1) := HY.out.blk.cell 0
          have q3 : u7.cell? ⟨g3, 1, none⟩ = some (.slice a1 len1 cap1) := HY.out.blk.cell 1
          go_wp2_with fail
          refine (right_any (M : Int) a0 len0 cap0 xs0 u7 HX.out.rd (by omega) (by omega) (by omega)).mono ?_
          rintro e u8 ⟨rfl, hb⟩
          have HX' := Lib.hid (HX.out.below hb)
          have HY' := Lib.hid (HY.out.below hb)
          have HO' := Lib.hid (HO.out.below hb (Nat.le_refl _))
          have H5' := Lib.hid (H5.out.below hb)
          have H7' := Lib.hid (H7.out.below hb)
          have H9' := Lib.hid (H9.out.below hb)
          have H11' := Lib.hid (H11.out.below hb)
          have Hb' := Lib.hid (Hb.out.trans (hb.mono Hb.out.size))
          clear hb q0 q1 q2 q3 Hb HX HY HO H5 H7 H9 H11
          have HX := HX'
          have HY := HY'
          have HO := HO'
          have H5 := H5'
          have H7 := H7'
          have H9 := H9'
          have H11 := H11'
          have Hb := Hb'
          clear HX' HY' HO' H5' H7' H9' H11' Hb'
          rw [← HV0.out]
          have q0 : u8.cell? ⟨g2, 0, none⟩ = some (.int .i64 (M : Int)) := HX.out.blk.cell 0
          have q1 : u8.cell? ⟨g2, 1, none⟩ = some (.slice a0 len0 cap0) := HX.out.blk.cell 1
          have q2 : u8.cell? ⟨g3, 0, none⟩ = some (.int .i64 N1) := HY.out.blk.cell 0
          have q3 : u8.cell? ⟨g3, 1, none⟩ = some (.slice a1 len1 cap1) := HY.out.blk.cell 1
          go_wp2_with fail
          refine (right_any N1 a1 len1 cap1 xs1 u8 HY.out.rd (by omega) (by omega) (by omega)).mono ?_
          rintro e u9 ⟨rfl, hb⟩
          have HX' := Lib.hid (HX.out.below hb)
          have HY' := Lib.hid (HY.out.below hb)
          have HO' := Lib.hid (HO.out.below hb (Nat.le_refl _))
          have H5' := Lib.hid (H5.out.below hb)
          have H7' := Lib.hid (H7.out.below hb)
          have H9' := Lib.hid (H9.out.below hb)
          have H11' := Lib.hid (H11.out.below hb)
          have Hb' := Lib.hid (Hb.out.trans (hb.mono Hb.out.size))
          clear hb q0 q1 q2 q3 Hb HX HY HO H5 H7 H9 H11
          have HX := HX'
          have HY := HY'
          have HO := HO'
          have H5 := H5'
          have H7 := H7'
          have H9 := H9'
          have H11 := H11'
          have Hb := Hb'
          clear HX' HY' HO' H5' H7' H9' H11' Hb'
          rw [← HV1.out]
          have q0 : u9.cell? ⟨g2, 0, none⟩ = some (.int .i64 (M : Int)) := HX.out.blk.cell 0
          have q1 : u9.cell? ⟨g2, 1, none⟩ = some (.slice a0 len0 cap0) := HX.out.blk.cell 1
          have q2 : u9.cell? ⟨g3, 0, none⟩ = some (.int .i64 N1) := HY.out.blk.cell 0
          have q3 : u9.cell? ⟨g3, 1, none⟩ = some (.slice a1 len1 cap1) := HY.out.blk.cell 1
          go_wp2_with fail
          refine (sane_any u9 HO.out).mono ?_
          rintro e u10 ⟨rfl, hb⟩
          have HX' := Lib.hid (HX.out.below hb)
          have HY' := Lib.hid (HY.out.below hb)
          have HO' := Lib.hid (HO.out.below hb (Nat.le_refl _))
          have H5' := Lib.hid (H5.out.below hb)
          have H7' := Lib.hid (H7.out.below hb)
          have H9' := Lib.hid (H9.out.below hb)
          have H11' := Lib.hid (H11.out.below hb)
          have Hb' := Lib.hid (Hb.out.trans (hb.mono Hb.out.size))
          clear hb q0 q1 q2 q3 Hb HX HY HO H5 H7 H9 H11
          have HX := HX'
          have HY := HY'
          have HO := HO'
          have H5 := H5'
          have H7 := H7'
          have H9 := H9'
          have H11 := H11'
          have Hb := Hb'
          clear HX' HY' HO' H5' H7' H9' H11' Hb'
          have q0 : u10.cell? ⟨g5, 0, none⟩ = some (.int .i64 0) := H5.out.blk.cell 0
          have q1 : u10.cell? ⟨g5, 1, none⟩ = some (.slice none 0 0) := H5.out.blk.cell 1
          go_wp2_with fail
          refine (none_zero u10).mono ?_
          rintro e u11 ⟨rfl, hb⟩
          have HX' := Lib.hid (HX.out.below hb)
          have HY' := Lib.hid (HY.out.below hb)
          have HO' := Lib.hid (HO.out.below hb (Nat.le_refl _))
          have H5' := Lib.hid (H5.out.below hb)
          have H7' := Lib.hid (H7.out.below hb)
          have H9' := Lib.hid (H9.out.below hb)
          have H11' := Lib.hid (H11.out.below hb)
          have Hb' := Lib.hid (Hb.out.trans (hb.mono Hb.out.size))
          clear hb q0 q1 Hb HX HY HO H5 H7 H9 H11
          have HX := HX'
          have HY := HY'
          have HO := HO'
          have H5 := H5'
          have H7 := H7'
          have H9 := H9'
          have H11 := H11'
          have Hb := Hb'
          clear HX' HY' HO' H5' H7' H9' H11' Hb'
          have q0 : u11.cell? ⟨g7, 0, none⟩ = some (.int .i64 0) := H7.out.blk.cell 0
          have q1 : u11.cell? ⟨g7, 1, none⟩ = some (.slice none 0 0) := H7.out.blk.cell 1
          go_wp2_with fail
          refine (none_zero u11).mono ?_
          rintro e u12 ⟨rfl, hb⟩
          have HX' := Lib.hid (HX.out.below hb)
          have HY' := Lib.hid (HY.out.below hb)
          have HO' := Lib.hid (HO.out.below hb (Nat.le_refl _))
          have H5' := Lib.hid (H5.out.below hb)
          have H7' := Lib.hid (H7.out.below hb)
          have H9' := Lib.hid (H9.out.below hb)
          have H11' := Lib.hid (H11.out.below hb)
          have Hb' := Lib.hid (Hb.out.trans (hb.mono Hb.out.size))
          clear hb q0 q1 Hb HX HY HO H5 H7 H9 H11
          have HX := HX'
          have HY := HY'
          have HO := HO'
          have H5 := H5'
          have H7 := H7'
          have H9 := H9'
          have H11 := H11'
          have Hb := Hb'
          clear HX' HY' HO' H5' H7' H9' H11' Hb'
          have q0 : u12.cell? ⟨g9, 0, none⟩ = some (.int .i64 0) := H9.out.blk.cell 0
          have q1 : u12.cell? ⟨g9, 1, none⟩ = some (.slice none 0 0) := H9.out.blk.cell 1
          go_wp2_with fail
          refine (none_zero u12).mono ?_
          rintro e u13 ⟨rfl, hb⟩
          have HX' := Lib.hid (HX.out.below hb)
          have HY' := Lib.hid (HY.out.below hb)
          have HO' := Lib.hid (HO.out.below hb (Nat.le_refl _))
          have H5' := Lib.hid (H5.out.below hb)
          have H7' := Lib.hid (H7.out.below hb)
          have H9' := Lib.hid (H9.out.below hb)
          have H11' := Lib.hid (H11.out.below hb)
          have Hb' := Lib.hid (Hb.out.trans (hb.mono Hb.out.size))
          clear hb q0 q1 Hb HX HY HO H5 H7 H9 H11
          have HX := HX'
          have HY := HY'
          have HO := HO'
          have H5 := H5'
          have H7 := H7'
          have H9 := H9'
          have H11 := H11'
          have Hb := Hb'
          clear HX' HY' HO' H5' H7' H9' H11' Hb'
          go_wp2_with fail
          go_ret
          exact ⟨rfl, Hb.out⟩
end Go.Proofs.YthognmkjoekilaaDoor.bitsJoins

/- What the statement BitsResizes calls answers true, for every input that its walk is handed. -/
import Derived.Test.YthognmkjoekilaaDoorRows
import Derived.WalkKit
import Derived.ProofKit
import Derived.OpenShut
import Derived.ShutString
import Derived.ChangeOld
import Derived.Below
import Derived.SizedLaws
import Derived.Test.YthognmkjoekilaaDoorBrres
namespace Go.Proofs.YthognmkjoekilaaDoor.bitsResizes
open Go.ChangeShapes Go.WideShapes Go.ChangeAt Go.RowKit
open Go.ChangeMaps (open_string shut_string)
set_option linter.unusedVariables false


set_option maxRecDepth 100000 in
set_option maxHeartbeats 8000000 in
theorem walk (N0 : Int) (a0 : Option Addr) (len0 cap0 : Nat) (xs0 : List Int) (a1 : Int) (w : World) (w0 : (Rd w a0 len0 cap0 xs0 ∧ cap0 ≤ 140737488351232) ∧ (-9223372036854775808 ≤ N0 ∧ N0 ≤ 9223372036854775807)) (w1 : (Lit.int .i64 a1).wf = true) (ho : Ones w) :
    Calls Tryd.prog 5 #[.agg #[.int .i64 N0, .slice a0 len0 cap0], .int .i64 a1] w fun e w' => e = .returned (.bool true) ∧ Below w.heap.size w w' := by
  have hwf1 := wf_i64 w1
  clear w1
  have HO := Lib.hid ho
  have HX := Lib.hid w0.1.1
  have hN0 := w0.2
  have hc0 := w0.1.2
  have hl0 := w0.1.1.hc
  clear w0 ho
  obtain ⟨g0, V, e0, eV, hBx, hb, -⟩ := boxed (Below.refl _ w) N0 a0 len0 cap0 xs0 HX.out
  have HEV := Lib.hid eV
  have HE0 := Lib.hid e0
  have HX' := Lib.hid hBx
  have HO' := Lib.hid (HO.out.below hb (Nat.le_refl _))
  have Hb := Lib.hid hb
  clear HX HO e0 eV hBx hb
  have HX := HX'
  have HO := HO'
  clear HX' HO'
  obtain ⟨F, hF⟩ : ∃ F, F = fewV N0 len0 := ⟨_, rfl⟩
  obtain ⟨V0, hV0⟩ : ∃ V, V = validB N0 xs0 := ⟨_, rfl⟩
  have HF := Lib.hid hF
  have HV0 := Lib.hid hV0
  clear hF hV0
  cases F with
  | false =>
    go_enter Tryd.func5, Tryd.ntmps5
    go_upto_region 1 with fail
    rw [HEV.out, HE0.out]
    clear HEV HE0
    have q0 : V.cell? ⟨g0, 0, none⟩ = some (.int .i64 N0) := HX.out.blk.cell 0
    have q1 : V.cell? ⟨g0, 1, none⟩ = some (.slice a0 len0 cap0) := HX.out.blk.cell 1
    go_wp2_with fail
    obtain ⟨WS, hWS⟩ : ∃ WS, WS = V.alloc (.cells #[.int .i64 N0, .slice a0 len0 cap0] 24) := ⟨_, rfl⟩
    have hbS : Below V.heap.size V WS := by rw [hWS]; exact (Below.refl _ V).alloc (Nat.le_refl _) _
    have hBS : Blk WS V.heap.size 24 #[.int .i64 N0, .slice a0 len0 cap0] := by rw [hWS]; exact heap_new V _
    rw [← hWS]
    refine (few1_any _ N0 a0 len0 cap0 WS hBS).mono ?_
    rintro e u0 ⟨rfl, rfl⟩
    rw [← HF.out]
    clear hBS hWS
    have HX' := Lib.hid (HX.out.below hbS)
    have HO' := Lib.hid (HO.out.below hbS (Nat.le_refl _))
    have Hb' := Lib.hid (Hb.out.trans (hbS.mono Hb.out.size))
    clear hbS q0 q1 Hb HX HO
    have HX := HX'
    have HO := HO'
    have Hb := Hb'
    clear HX' HO' Hb'
    have q0 : WS.cell? ⟨g0, 0, none⟩ = some (.int .i64 N0) := HX.out.blk.cell 0
    have q1 : WS.cell? ⟨g0, 1, none⟩ = some (.slice a0 len0 cap0) := HX.out.blk.cell 1
    go_wp2_with fail
    refine (sane_any WS HO.out).mono ?_
    rintro e u1 ⟨rfl, hb⟩
    have HX' := Lib.hid (HX.out.below hb)
    have HO' := Lib.hid (HO.out.below hb (Nat.le_refl _))
    have Hb' := Lib.hid (Hb.out.trans (hb.mono Hb.out.size))
    clear hb q0 q1 Hb HX HO
    have HX := HX'
    have HO := HO'
    have Hb := Hb'
    clear HX' HO' Hb'
    go_wp2_with fail
    go_ret
    exact ⟨rfl, Hb.out⟩
  | true =>
    by_cases h1 : a1 ≤ 2000
    · cases V0 with
      | false =>
        go_enter Tryd.func5, Tryd.ntmps5
        go_upto_region 1 with fail
        rw [HEV.out, HE0.out]
        clear HEV HE0
        have q0 : V.cell? ⟨g0, 0, none⟩ = some (.int .i64 N0) := HX.out.blk.cell 0
        have q1 : V.cell? ⟨g0, 1, none⟩ = some (.slice a0 len0 cap0) := HX.out.blk.cell 1
        go_wp2_with fail
        obtain ⟨WS, hWS⟩ : ∃ WS, WS = V.alloc (.cells #[.int .i64 N0, .slice a0 len0 cap0] 24) := ⟨_, rfl⟩
        have hbS : Below V.heap.size V WS := by rw [hWS]; exact (Below.refl _ V).alloc (Nat.le_refl _) _
        have hBS : Blk WS V.heap.size 24 #[.int .i64 N0, .slice a0 len0 cap0] := by rw [hWS]; exact heap_new V _
        rw [← hWS]
        refine (few1_any _ N0 a0 len0 cap0 WS hBS).mono ?_
        rintro e u0 ⟨rfl, rfl⟩
        rw [← HF.out]
        clear hBS hWS
        have HX' := Lib.hid (HX.out.below hbS)
        have HO' := Lib.hid (HO.out.below hbS (Nat.le_refl _))
        have Hb' := Lib.hid (Hb.out.trans (hbS.mono Hb.out.size))
        clear hbS q0 q1 Hb HX HO
        have HX := HX'
        have HO := HO'
        have Hb := Hb'
        clear HX' HO' Hb'
        have q0 : WS.cell? ⟨g0, 0, none⟩ = some (.int .i64 N0) := HX.out.blk.cell 0
        have q1 : WS.cell? ⟨g0, 1, none⟩ = some (.slice a0 len0 cap0) := HX.out.blk.cell 1
        go_wp2_with fail
        refine (resize_bad N0 a0 len0 cap0 xs0 a1 WS HX.out.rd (by omega) (by omega) HV0.out.symm).mono ?_
        rintro e u1 ⟨rfl, hb⟩
        have HX' := Lib.hid (HX.out.below hb)
        have HO' := Lib.hid (HO.out.below hb (Nat.le_refl _))
        have Hb' := Lib.hid (Hb.out.trans (hb.mono Hb.out.size))
        clear hb q0 q1 Hb HX HO
        have HX := HX'
        have HO := HO'
        have Hb := Hb'
        clear HX' HO' Hb'
        go_upto_region 4 with fail
        obtain ⟨g5, W5, e1, e2, hB, -, hq⟩ := boxed Hb.out 0 none 0 0 [] (Rd.nil u1)
        rw [e2, e1]
        have HBX := Lib.hid hB
        clear e1 e2 hB
        have HX' := Lib.hid (HX.out.below hq)
        have HO' := Lib.hid (HO.out.below hq (Nat.le_refl _))
        have Hb' := Lib.hid (Hb.out.trans (hq.mono Hb.out.size))
        clear hq  Hb HX HO
        have HX := HX'
        have HO := HO'
        have Hb := Hb'
        clear HX' HO' Hb'
        have H5 := HBX
        clear HBX
        have q0 : W5.cell? ⟨g0, 0, none⟩ = some (.int .i64 N0) := HX.out.blk.cell 0
        have q1 : W5.cell? ⟨g0, 1, none⟩ = some (.slice a0 len0 cap0) := HX.out.blk.cell 1
        have r0 : W5.cell? ⟨g5, 0, none⟩ = some (.int .i64 0) := H5.out.blk.cell 0
        have r1 : W5.cell? ⟨g5, 1, none⟩ = some (.slice none 0 0) := H5.out.blk.cell 1
        go_wp2_with fail
        refine (right_any N0 a0 len0 cap0 xs0 W5 HX.out.rd (by omega) (by omega) (by omega)).mono ?_
        rintro e u2 ⟨rfl, hb⟩
        have HX' := Lib.hid (HX.out.below hb)
        have HO' := Lib.hid (HO.out.below hb (Nat.le_refl _))
        have H5' := Lib.hid (H5.out.below hb)
        have Hb' := Lib.hid (Hb.out.trans (hb.mono Hb.out.size))
        clear hb q0 q1 r0 r1 Hb HX HO H5
        have HX := HX'
        have HO := HO'
        have H5 := H5'
        have Hb := Hb'
        clear HX' HO' H5' Hb'
        rw [← HV0.out]
        have q0 : u2.cell? ⟨g0, 0, none⟩ = some (.int .i64 N0) := HX.out.blk.cell 0
        have q1 : u2.cell? ⟨g0, 1, none⟩ = some (.slice a0 len0 cap0) := HX.out.blk.cell 1
        have r0 : u2.cell? ⟨g5, 0, none⟩ = some (.int .i64 0) := H5.out.blk.cell 0
        have r1 : u2.cell? ⟨g5, 1, none⟩ = some (.slice none 0 0) := H5.out.blk.cell 1
        go_wp2_with fail
        refine (sane_any u2 HO.out).mono ?_
        rintro e u3 ⟨rfl, hb⟩
        have HX' := Lib.hid (HX.out.below hb)
        have HO' := Lib.hid (HO.out.below hb (Nat.le_refl _))
        have H5' := Lib.hid (H5.out.below hb)
        have Hb' := Lib.hid (Hb.out.trans (hb.mono Hb.out.size))
        clear hb q0 q1 r0 r1 Hb HX HO H5
        have HX := HX'
        have HO := HO'
        have H5 := H5'
        have Hb := Hb'
        clear HX' HO' H5' Hb'
        have q0 : u3.cell? ⟨g0, 0, none⟩ = some (.int .i64 N0) := HX.out.blk.cell 0
        have q1 : u3.cell? ⟨g0, 1, none⟩ = some (.slice a0 len0 cap0) := HX.out.blk.cell 1
        have r0 : u3.cell? ⟨g5, 0, none⟩ = some (.int .i64 0) := H5.out.blk.cell 0
        have r1 : u3.cell? ⟨g5, 1, none⟩ = some (.slice none 0 0) := H5.out.blk.cell 1
        go_wp2_with fail
        refine (none_zero u3).mono ?_
        rintro e u4 ⟨rfl, hb⟩
        have HX' := Lib.hid (HX.out.below hb)
        have HO' := Lib.hid (HO.out.below hb (Nat.le_refl _))
        have H5' := Lib.hid (H5.out.below hb)
        have Hb' := Lib.hid (Hb.out.trans (hb.mono Hb.out.size))
        clear hb q0 q1 r0 r1 Hb HX HO H5
        have HX := HX'
        have HO := HO'
        have H5 := H5'
        have Hb := Hb'
        clear HX' HO' H5' Hb'
        go_wp2_with fail
        go_ret
        exact ⟨rfl, Hb.out⟩
      | true =>
        obtain ⟨M, rfl, vx⟩ := Vb.of HX.out.rd.hb HV0.out.symm
        have hM := vx.le
        have Vx := Lib.hid vx
        clear vx
        by_cases h2 : a1 < 0
        · go_enter Tryd.func5, Tryd.ntmps5
          go_upto_region 1 with fail
          rw [HEV.out, HE0.out]
          clear HEV HE0
          have q0 : V.cell? ⟨g0, 0, none⟩ = some (.int .i64 (M : Int)) := HX.out.blk.cell 0
          have q1 : V.cell? ⟨g0, 1, none⟩ = some (.slice a0 len0 cap0) := HX.out.blk.cell 1
          go_wp2_with fail
          obtain ⟨WS, hWS⟩ : ∃ WS, WS = V.alloc (.cells #[.int .i64 (M : Int), .slice a0 len0 cap0] 24) := ⟨_, rfl⟩
          have hbS : Below V.heap.size V WS := by rw [hWS]; exact (Below.refl _ V).alloc (Nat.le_refl _) _
          have hBS : Blk WS V.heap.size 24 #[.int .i64 (M : Int), .slice a0 len0 cap0] := by rw [hWS]; exact heap_new V _
          rw [← hWS]
          refine (few1_any _ (M : Int) a0 len0 cap0 WS hBS).mono ?_
          rintro e u0 ⟨rfl, rfl⟩
          rw [← HF.out]
          clear hBS hWS
          have HX' := Lib.hid (HX.out.below hbS)
          have HO' := Lib.hid (HO.out.below hbS (Nat.le_refl _))
          have Hb' := Lib.hid (Hb.out.trans (hbS.mono Hb.out.size))
          clear hbS q0 q1 Hb HX HO
          have HX := HX'
          have HO := HO'
          have Hb := Hb'
          clear HX' HO' Hb'
          have q0 : WS.cell? ⟨g0, 0, none⟩ = some (.int .i64 (M : Int)) := HX.out.blk.cell 0
          have q1 : WS.cell? ⟨g0, 1, none⟩ = some (.slice a0 len0 cap0) := HX.out.blk.cell 1
          go_wp2_with fail
          refine (resize_no (M : Int) a0 len0 cap0 xs0 a1 WS HX.out.rd (by omega) (by omega) Vx.out.valid (by omega)).mono ?_
          rintro e u1 ⟨rfl, hb⟩
          have HX' := Lib.hid (HX.out.below hb)
          have HO' := Lib.hid (HO.out.below hb (Nat.le_refl _))
          have Hb' := Lib.hid (Hb.out.trans (hb.mono Hb.out.size))
          clear hb q0 q1 Hb HX HO
          have HX := HX'
          have HO := HO'
          have Hb := Hb'
          clear HX' HO' Hb'
          go_upto_region 4 with fail
          obtain ⟨g5, W5, e1, e2, hB, -, hq⟩ := boxed Hb.out 0 none 0 0 [] (Rd.nil u1)
          rw [e2, e1]
          have HBX := Lib.hid hB
          clear e1 e2 hB
          have HX' := Lib.hid (HX.out.below hq)
          have HO' := Lib.hid (HO.out.below hq (Nat.le_refl _))
          have Hb' := Lib.hid (Hb.out.trans (hq.mono Hb.out.size))
          clear hq  Hb HX HO
          have HX := HX'
          have HO := HO'
          have Hb := Hb'
          clear HX' HO' Hb'
          have H5 := HBX
          clear HBX
          have q0 : W5.cell? ⟨g0, 0, none⟩ = some (.int .i64 (M : Int)) := HX.out.blk.cell 0
          have q1 : W5.cell? ⟨g0, 1, none⟩ = some (.slice a0 len0 cap0) := HX.out.blk.cell 1
          have r0 : W5.cell? ⟨g5, 0, none⟩ = some (.int .i64 0) := H5.out.blk.cell 0
          have r1 : W5.cell? ⟨g5, 1, none⟩ = some (.slice none 0 0) := H5.out.blk.cell 1
          go_wp2_with fail
          refine (right_any (M : Int) a0 len0 cap0 xs0 W5 HX.out.rd (by omega) (by omega) (by omega)).mono ?_
          rintro e u2 ⟨rfl, hb⟩
          have HX' := Lib.hid (HX.out.below hb)
          have HO' := Lib.hid (HO.out.below hb (Nat.le_refl _))
          have H5' := Lib.hid (H5.out.below hb)
          have Hb' := Lib.hid (Hb.out.trans (hb.mono Hb.out.size))
          clear hb q0 q1 r0 r1 Hb HX HO H5
          have HX := HX'
          have HO := HO'
          have H5 := H5'
          have Hb := Hb'
          clear HX' HO' H5' Hb'
          rw [← HV0.out]
          have q0 : u2.cell? ⟨g0, 0, none⟩ = some (.int .i64 (M : Int)) := HX.out.blk.cell 0
          have q1 : u2.cell? ⟨g0, 1, none⟩ = some (.slice a0 len0 cap0) := HX.out.blk.cell 1
          have r0 : u2.cell? ⟨g5, 0, none⟩ = some (.int .i64 0) := H5.out.blk.cell 0
          have r1 : u2.cell? ⟨g5, 1, none⟩ = some (.slice none 0 0) := H5.out.blk.cell 1
          go_wp2_with fail
          refine (sane_any u2 HO.out).mono ?_
          rintro e u3 ⟨rfl, hb⟩
          have HX' := Lib.hid (HX.out.below hb)
          have HO' := Lib.hid (HO.out.below hb (Nat.le_refl _))
          have H5' := Lib.hid (H5.out.below hb)
          have Hb' := Lib.hid (Hb.out.trans (hb.mono Hb.out.size))
          clear hb q0 q1 r0 r1 Hb HX HO H5
          have HX := HX'
          have HO := HO'
          have H5 := H5'
          have Hb := Hb'
          clear HX' HO' H5' Hb'
          have q0 : u3.cell? ⟨g0, 0, none⟩ = some (.int .i64 (M : Int)) := HX.out.blk.cell 0
          have q1 : u3.cell? ⟨g0, 1, none⟩ = some (.slice a0 len0 cap0) := HX.out.blk.cell 1
          have r0 : u3.cell? ⟨g5, 0, none⟩ = some (.int .i64 0) := H5.out.blk.cell 0
          have r1 : u3.cell? ⟨g5, 1, none⟩ = some (.slice none 0 0) := H5.out.blk.cell 1
          go_wp2_with fail
          refine (none_zero u3).mono ?_
          rintro e u4 ⟨rfl, hb⟩
          have HX' := Lib.hid (HX.out.below hb)
          have HO' := Lib.hid (HO.out.below hb (Nat.le_refl _))
          have H5' := Lib.hid (H5.out.below hb)
          have Hb' := Lib.hid (Hb.out.trans (hb.mono Hb.out.size))
          clear hb q0 q1 r0 r1 Hb HX HO H5
          have HX := HX'
          have HO := HO'
          have H5 := H5'
          have Hb := Hb'
          clear HX' HO' H5' Hb'
          go_wp2_with fail
          go_ret
          exact ⟨rfl, Hb.out⟩
        · obtain ⟨k, rfl⟩ : ∃ k : Nat, a1 = (k : Int) := ⟨a1.toNat, by omega⟩
          have hk : k ≤ 65536 := by omega
          have hki : (k : Int) ≤ 65536 := by omega
          clear h2
          by_cases h3 : (k : Int) < (M : Int)
          · go_enter Tryd.func5, Tryd.ntmps5
            go_upto_region 1 with fail
            rw [HEV.out, HE0.out]
            clear HEV HE0
            have q0 : V.cell? ⟨g0, 0, none⟩ = some (.int .i64 (M : Int)) := HX.out.blk.cell 0
            have q1 : V.cell? ⟨g0, 1, none⟩ = some (.slice a0 len0 cap0) := HX.out.blk.cell 1
            go_wp2_with fail
            obtain ⟨WS, hWS⟩ : ∃ WS, WS = V.alloc (.cells #[.int .i64 (M : Int), .slice a0 len0 cap0] 24) := ⟨_, rfl⟩
            have hbS : Below V.heap.size V WS := by rw [hWS]; exact (Below.refl _ V).alloc (Nat.le_refl _) _
            have hBS : Blk WS V.heap.size 24 #[.int .i64 (M : Int), .slice a0 len0 cap0] := by rw [hWS]; exact heap_new V _
            rw [← hWS]
            refine (few1_any _ (M : Int) a0 len0 cap0 WS hBS).mono ?_
            rintro e u0 ⟨rfl, rfl⟩
            rw [← HF.out]
            clear hBS hWS
            have HX' := Lib.hid (HX.out.below hbS)
            have HO' := Lib.hid (HO.out.below hbS (Nat.le_refl _))
            have Hb' := Lib.hid (Hb.out.trans (hbS.mono Hb.out.size))
            clear hbS q0 q1 Hb HX HO
            have HX := HX'
            have HO := HO'
            have Hb := Hb'
            clear HX' HO' Hb'
            have q0 : WS.cell? ⟨g0, 0, none⟩ = some (.int .i64 (M : Int)) := HX.out.blk.cell 0
            have q1 : WS.cell? ⟨g0, 1, none⟩ = some (.slice a0 len0 cap0) := HX.out.blk.cell 1
            go_wp2_with fail
            refine (resize_ok M a0 len0 cap0 xs0 k WS HX.out.rd Vx.out hk).mono ?_
            rintro e u1 ⟨b5, l5, c5, X5, rfl, hw, hi, hb⟩
            have HR := Lib.hid hw
            have I5 := Lib.hid hi
            clear hw hi
            have HX' := Lib.hid (HX.out.below hb)
            have HO' := Lib.hid (HO.out.below hb (Nat.le_refl _))
            have Hb' := Lib.hid (Hb.out.trans (hb.mono Hb.out.size))
            clear hb q0 q1 Hb HX HO
            have HX := HX'
            have HO := HO'
            have Hb := Hb'
            clear HX' HO' Hb'
            go_upto_region 4 with fail
            obtain ⟨g5, W5, e1, e2, hB, -, hq⟩ := boxed Hb.out (k : Int) b5 l5 c5 X5 HR.out
            rw [e2, e1]
            have HBX := Lib.hid hB
            clear e1 e2 hB
            have HX' := Lib.hid (HX.out.below hq)
            have HO' := Lib.hid (HO.out.below hq (Nat.le_refl _))
            have HR' := Lib.hid (HR.out.below hq (Nat.le_refl _))
            have Hb' := Lib.hid (Hb.out.trans (hq.mono Hb.out.size))
            clear hq  Hb HX HO HR
            have HX := HX'
            have HO := HO'
            have HR := HR'
            have Hb := Hb'
            clear HX' HO' HR' Hb'
            have H5 := HBX
            clear HBX
            clear HR
            have q0 : W5.cell? ⟨g0, 0, none⟩ = some (.int .i64 (M : Int)) := HX.out.blk.cell 0
            have q1 : W5.cell? ⟨g0, 1, none⟩ = some (.slice a0 len0 cap0) := HX.out.blk.cell 1
            have r0 : W5.cell? ⟨g5, 0, none⟩ = some (.int .i64 (k : Int)) := H5.out.blk.cell 0
            have r1 : W5.cell? ⟨g5, 1, none⟩ = some (.slice b5 l5 c5) := H5.out.blk.cell 1
            go_wp2_with fail
            refine (right_any (M : Int) a0 len0 cap0 xs0 W5 HX.out.rd (by omega) (by omega) (by omega)).mono ?_
            rintro e u2 ⟨rfl, hb⟩
            have HX' := Lib.hid (HX.out.below hb)
            have HO' := Lib.hid (HO.out.below hb (Nat.le_refl _))
            have H5' := Lib.hid (H5.out.below hb)
            have Hb' := Lib.hid (Hb.out.trans (hb.mono Hb.out.size))
            clear hb q0 q1 r0 r1 Hb HX HO H5
            have HX := HX'
            have HO := HO'
            have H5 := H5'
            have Hb := Hb'
            clear HX' HO' H5' Hb'
            rw [← HV0.out]
            have q0 : u2.cell? ⟨g0, 0, none⟩ = some (.int .i64 (M : Int)) := HX.out.blk.cell 0
            have q1 : u2.cell? ⟨g0, 1, none⟩ = some (.slice a0 len0 cap0) := HX.out.blk.cell 1
            have r0 : u2.cell? ⟨g5, 0, none⟩ = some (.int .i64 (k : Int)) := H5.out.blk.cell 0
            have r1 : u2.cell? ⟨g5, 1, none⟩ = some (.slice b5 l5 c5) := H5.out.blk.cell 1
            go_wp2_with fail
            refine (resize_ok k b5 l5 c5 X5 M u2 H5.out.rd I5.out.v hM).mono ?_
            rintro e u3 ⟨b7, l7, c7, X7, rfl, hw, hi, hb⟩
            have HR := Lib.hid hw
            have I7 := Lib.hid hi
            clear hw hi
            have HX' := Lib.hid (HX.out.below hb)
            have HO' := Lib.hid (HO.out.below hb (Nat.le_refl _))
            have H5' := Lib.hid (H5.out.below hb)
            have Hb' := Lib.hid (Hb.out.trans (hb.mono Hb.out.size))
            clear hb q0 q1 r0 r1 Hb HX HO H5
            have HX := HX'
            have HO := HO'
            have H5 := H5'
            have Hb := Hb'
            clear HX' HO' H5' Hb'
            go_upto_region 9 with fail
            obtain ⟨g7, W7, e1, e2, hB, -, hq⟩ := boxed Hb.out (M : Int) b7 l7 c7 X7 HR.out
            rw [e2, e1]
            have HBX := Lib.hid hB
            clear e1 e2 hB
            have HX' := Lib.hid (HX.out.below hq)
            have HO' := Lib.hid (HO.out.below hq (Nat.le_refl _))
            have H5' := Lib.hid (H5.out.below hq)
            have HR' := Lib.hid (HR.out.below hq (Nat.le_refl _))
            have Hb' := Lib.hid (Hb.out.trans (hq.mono Hb.out.size))
            clear hq  Hb HX HO H5 HR
            have HX := HX'
            have HO := HO'
            have H5 := H5'
            have HR := HR'
            have Hb := Hb'
            clear HX' HO' H5' HR' Hb'
            have H7 := HBX
            clear HBX
            clear HR
            go_upto_region 9 with fail
            refine wp_region_held_drew (S := Below W7.heap.size W7) (by kernel_rfl) ((Below.refl _ W7).drew) (fun _ => ?_)
            have HS : Hid (Below W7.heap.size W7 W7.drew) := Lib.hid ((Below.refl _ W7).drew)
            refine wpAnyH_ready (rs := [0]) (by kernel_rfl) (by simp) ?_
            refine AllReadyH.cons rfl (fun K hK => ?_) AllReadyH.nil
            go_simp
            refine (sane_any W7.drew (HO.out.below HS.out (Nat.le_refl _))).mono ?_
            rintro e u4 ⟨rfl, hb⟩
            have HS2 : Hid (Below W7.heap.size W7 u4) := Lib.hid (HS.out.trans (hb.mono HS.out.size))
            clear HS hb
            have HS := HS2
            clear HS2
            refine hK.out _ _ HS.out (fun _ => ?_)
            clear hK K
            refine wpAnyH_take (i := 1) (v := .bool true) rfl (by kernel_rfl) (by kernel_rfl) (by kernel_rfl) (fun _ _ _ h => h) (Or.inl ⟨by rfl, ?_⟩) HS.out ?_
            · intro u hu; go_simp
            go_simp
            refine wpAnyH_take (i := 2) (v := .int .i64 0) rfl (by kernel_rfl) (by kernel_rfl) (by kernel_rfl) (fun _ _ _ h => h) (Or.inl ⟨by rfl, ?_⟩) HS.out ?_
            · intro u hu; go_simp
            go_simp
            refine wpAnyH_take (i := 3) (v := .bool true) rfl (by kernel_rfl) (by kernel_rfl) (by kernel_rfl) (fun _ _ _ h => h) (Or.inl ⟨by rfl, ?_⟩) HS.out ?_
            · intro u hu; go_simp
            go_simp
            refine wpAnyH_take (i := 4) (v := .bool true) rfl (by kernel_rfl) (by kernel_rfl) (by kernel_rfl) (fun _ _ _ h => h) (Or.inl ⟨by rfl, ?_⟩) HS.out ?_
            · intro u hu; go_simp
            go_simp
            refine wpAnyH_take (i := 5) (v := .bool true) rfl (by kernel_rfl) (by kernel_rfl) (by kernel_rfl) (fun _ _ _ h => h) (Or.inl ⟨by rfl, ?_⟩) HS.out ?_
            · intro u hu; go_simp
            go_simp
            refine wpAnyH_take (i := 6) (v := .agg #[.int .i64 (k : Int), .slice b5 l5 c5]) rfl (by kernel_rfl) (by kernel_rfl) (by kernel_rfl) (fun _ _ _ h => h) (Or.inl ⟨by rfl, ?_⟩) HS.out ?_
            · intro u hu; have : u.cell? ⟨g5, 0, none⟩ = some (.int .i64 (k : Int)) := (H5.out.below hu).blk.cell 0; have : u.cell? ⟨g5, 1, none⟩ = some (.slice b5 l5 c5) := (H5.out.below hu).blk.cell 1; go_simp
            go_simp
            refine wpAnyH_take (i := 7) (v := .agg #[.int .i64 (M : Int), .slice a0 len0 cap0]) rfl (by kernel_rfl) (by kernel_rfl) (by kernel_rfl) (fun _ _ _ h => h) (Or.inl ⟨by rfl, ?_⟩) HS.out ?_
            · intro u hu; have : u.cell? ⟨g0, 0, none⟩ = some (.int .i64 (M : Int)) := (HX.out.below hu).blk.cell 0; have : u.cell? ⟨g0, 1, none⟩ = some (.slice a0 len0 cap0) := (HX.out.below hu).blk.cell 1; go_simp
            go_simp
            refine wpAnyH_take (i := 8) (v := .int .i64 (k : Int)) rfl (by kernel_rfl) (by kernel_rfl) (by kernel_rfl) (fun _ _ _ h => h) (Or.inl ⟨by rfl, ?_⟩) HS.out ?_
            · intro u hu; go_simp
            go_simp
            refine wpAnyH_ready (rs := [9]) (by kernel_rfl) (by simp) ?_
            refine AllReadyH.cons rfl (fun K hK => ?_) AllReadyH.nil
            go_simp
            refine (rresize_is M a0 len0 cap0 xs0 k u4 (HX.out.below HS.out).rd Vx.out hk).mono ?_
            rintro e u5 ⟨bj, lj, cj, Xj, rfl, hw, hi, hb⟩
            have HS2 : Hid (Below W7.heap.size W7 u5) := Lib.hid (HS.out.trans (hb.mono HS.out.size))
            have HJ := Lib.hid hw
            have Ij := Lib.hid hi
            clear hw hi
            clear HS hb
            have HS := HS2
            clear HS2
            refine hK.out _ _ HS.out (fun _ => ?_)
            clear hK K
            have hEq : X5 = Xj := I5.out.eq Ij.out (fun j hj => rfl)
            refine wpAnyH_ready (rs := [10]) (by kernel_rfl) (by simp) ?_
            refine AllReadyH.cons rfl (fun K hK => ?_) AllReadyH.nil
            go_simp
            refine (same_is (k : Int) b5 l5 c5 bj lj cj X5 u5 (H5.out.below HS.out).rd (by rw [hEq]; exact HJ.out)).mono ?_
            rintro e u6 ⟨rfl, hb⟩
            have HS2 : Hid (Below W7.heap.size W7 u6) := Lib.hid (HS.out.trans (hb.mono HS.out.size))
            clear HS hb
            have HS := HS2
            clear HS2
            refine hK.out _ _ HS.out (fun _ => ?_)
            clear hK K
            clear hEq HJ Ij
            refine wpAnyH_take (i := 11) (v := .bool true) rfl (by kernel_rfl) (by kernel_rfl) (by kernel_rfl) (fun _ _ _ h => h) (Or.inl ⟨by rfl, ?_⟩) HS.out ?_
            · intro u hu; go_simp
            go_simp
            refine wpAnyH_take (i := 12) (v := .bool true) rfl (by kernel_rfl) (by kernel_rfl) (by kernel_rfl) (fun _ _ _ h => h) (Or.inl ⟨by rfl, ?_⟩) HS.out ?_
            · intro u hu; go_simp
            go_simp
            refine wpAnyH_take (i := 13) (v := .int .i64 0) rfl (by kernel_rfl) (by kernel_rfl) (by kernel_rfl) (fun _ _ _ h => h) (Or.inl ⟨by rfl, ?_⟩) HS.out ?_
            · intro u hu; go_simp
            go_simp
            refine wpAnyH_take (i := 14) (v := .bool true) rfl (by kernel_rfl) (by kernel_rfl) (by kernel_rfl) (fun _ _ _ h => h) (Or.inl ⟨by rfl, ?_⟩) HS.out ?_
            · intro u hu; go_simp
            go_simp
            refine wpAnyH_take (i := 15) (v := .bool true) rfl (by kernel_rfl) (by kernel_rfl) (by kernel_rfl) (fun _ _ _ h => h) (Or.inl ⟨by rfl, ?_⟩) HS.out ?_
            · intro u hu; go_simp
            go_simp
            refine wpAnyH_take (i := 16) (v := .bool true) rfl (by kernel_rfl) (by kernel_rfl) (by kernel_rfl) (fun _ _ _ h => h) (Or.inl ⟨by rfl, ?_⟩) HS.out ?_
            · intro u hu; go_simp
            go_simp
            refine wpAnyH_take (i := 17) (v := .int .i64 (k : Int)) rfl (by kernel_rfl) (by kernel_rfl) (by kernel_rfl) (fun _ _ _ h => h) (Or.inl ⟨by rfl, ?_⟩) HS.out ?_
            · intro u hu; go_simp
            go_simp
            refine wpAnyH_take (i := 18) (v := .pointer (some ⟨g0, 0, none⟩)) rfl (by kernel_rfl) (by kernel_rfl) (by kernel_rfl) (fun _ _ _ h => h) (Or.inl ⟨by rfl, ?_⟩) HS.out ?_
            · intro u hu; go_simp
            go_simp
            refine wpAnyH_take (i := 19) (v := .int .i64 (M : Int)) rfl (by kernel_rfl) (by kernel_rfl) (by kernel_rfl) (fun _ _ _ h => h) (Or.inl ⟨by rfl, ?_⟩) HS.out ?_
            · intro u hu; have : u.cell? ⟨g0, 0, none⟩ = some (.int .i64 (M : Int)) := (HX.out.below hu).blk.cell 0; go_simp
            go_simp
            refine wpAnyH_take (i := 20) (v := .bool true) rfl (by kernel_rfl) (by kernel_rfl) (by kernel_rfl) (fun _ _ _ h => h) (Or.inl ⟨by rfl, ?_⟩) HS.out ?_
            · intro u hu; go_simp
            go_simp
            refine wpAnyH_take (i := 21) (v := .bool true) rfl (by kernel_rfl) (by kernel_rfl) (by kernel_rfl) (fun _ _ _ h => h) (Or.inl ⟨by rfl, ?_⟩) HS.out ?_
            · intro u hu; go_simp
            go_simp
            refine wpAnyH_take (i := 22) (v := undef) rfl (by kernel_rfl) (by kernel_rfl) (by kernel_rfl) (fun _ _ _ h => h) (Or.inr ⟨by rfl, rfl⟩) HS.out ?_
            go_simp
            refine wpAnyH_take (i := 23) (v := undef) rfl (by kernel_rfl) (by kernel_rfl) (by kernel_rfl) (fun _ _ _ h => h) (Or.inr ⟨by rfl, rfl⟩) HS.out ?_
            go_simp
            refine wpAnyH_take (i := 24) (v := undef) rfl (by kernel_rfl) (by kernel_rfl) (by kernel_rfl) (fun _ _ _ h => h) (Or.inr ⟨by rfl, rfl⟩) HS.out ?_
            go_simp
            refine wpAnyH_take (i := 25) (v := .bool true) rfl (by kernel_rfl) (by kernel_rfl) (by kernel_rfl) (fun _ _ _ h => h) (Or.inl ⟨by rfl, ?_⟩) HS.out ?_
            · intro u hu; go_simp
            go_simp
            refine wpAnyH_take (i := 26) (v := .bool true) rfl (by kernel_rfl) (by kernel_rfl) (by kernel_rfl) (fun _ _ _ h => h) (Or.inl ⟨by rfl, ?_⟩) HS.out ?_
            · intro u hu; go_simp
            go_simp
            refine wpAnyH_ready (rs := [27]) (by kernel_rfl) (by simp) ?_
            refine AllReadyH.cons rfl (fun K hK => ?_) AllReadyH.nil
            go_simp
            refine hK.out _ _ HS.out (fun _ => ?_)
            clear hK K
            refine wpAnyH_done (by kernel_rfl) ?_ _
            have hS := HS.out
            clear HS
            have HX' := Lib.hid (HX.out.below hS)
            have HO' := Lib.hid (HO.out.below hS (Nat.le_refl _))
            have H5' := Lib.hid (H5.out.below hS)
            have H7' := Lib.hid (H7.out.below hS)
            have Hb' := Lib.hid (Hb.out.trans (hS.mono Hb.out.size))
            clear hS  Hb HX HO H5 H7
            have HX := HX'
            have HO := HO'
            have H5 := H5'
            have H7 := H7'
            have Hb := Hb'
            clear HX' HO' H5' H7' Hb'
            go_wp2_with fail
            go_ret
            exact ⟨rfl, Hb.out⟩
          · go_enter Tryd.func5, Tryd.ntmps5
            go_upto_region 1 with fail
            rw [HEV.out, HE0.out]
            clear HEV HE0
            have q0 : V.cell? ⟨g0, 0, none⟩ = some (.int .i64 (M : Int)) := HX.out.blk.cell 0
            have q1 : V.cell? ⟨g0, 1, none⟩ = some (.slice a0 len0 cap0) := HX.out.blk.cell 1
            go_wp2_with fail
            obtain ⟨WS, hWS⟩ : ∃ WS, WS = V.alloc (.cells #[.int .i64 (M : Int), .slice a0 len0 cap0] 24) := ⟨_, rfl⟩
            have hbS : Below V.heap.size V WS := by rw [hWS]; exact (Below.refl _ V).alloc (Nat.le_refl _) _
            have hBS : Blk WS V.heap.size 24 #[.int .i64 (M : Int), .slice a0 len0 cap0] := by rw [hWS]; exact heap_new V _
            rw [← hWS]
            refine (few1_any _ (M : Int) a0 len0 cap0 WS hBS).mono ?_
            rintro e u0 ⟨rfl, rfl⟩
            rw [← HF.out]
            clear hBS hWS
            have HX' := Lib.hid (HX.out.below hbS)
            have HO' := Lib.hid (HO.out.below hbS (Nat.le_refl _))
            have Hb' := Lib.hid (Hb.out.trans (hbS.mono Hb.out.size))
            clear hbS q0 q1 Hb HX HO
            have HX := HX'
            have HO := HO'
            have Hb := Hb'
            clear HX' HO' Hb'
            have q0 : WS.cell? ⟨g0, 0, none⟩ = some (.int .i64 (M : Int)) := HX.out.blk.cell 0
            have q1 : WS.cell? ⟨g0, 1, none⟩ = some (.slice a0 len0 cap0) := HX.out.blk.cell 1
            go_wp2_with fail
            refine (resize_ok M a0 len0 cap0 xs0 k WS HX.out.rd Vx.out hk).mono ?_
            rintro e u1 ⟨b5, l5, c5, X5, rfl, hw, hi, hb⟩
            have HR := Lib.hid hw
            have I5 := Lib.hid hi
            clear hw hi
            have HX' := Lib.hid (HX.out.below hb)
            have HO' := Lib.hid (HO.out.below hb (Nat.le_refl _))
            have Hb' := Lib.hid (Hb.out.trans (hb.mono Hb.out.size))
            clear hb q0 q1 Hb HX HO
            have HX := HX'
            have HO := HO'
            have Hb := Hb'
            clear HX' HO' Hb'
            go_upto_region 4 with fail
            obtain ⟨g5, W5, e1, e2, hB, -, hq⟩ := boxed Hb.out (k : Int) b5 l5 c5 X5 HR.out
            rw [e2, e1]
            have HBX := Lib.hid hB
            clear e1 e2 hB
            have HX' := Lib.hid (HX.out.below hq)
            have HO' := Lib.hid (HO.out.below hq (Nat.le_refl _))
            have HR' := Lib.hid (HR.out.below hq (Nat.le_refl _))
            have Hb' := Lib.hid (Hb.out.trans (hq.mono Hb.out.size))
            clear hq  Hb HX HO HR
            have HX := HX'
            have HO := HO'
            have HR := HR'
            have Hb := Hb'
            clear HX' HO' HR' Hb'
            have H5 := HBX
            clear HBX
            clear HR
            have q0 : W5.cell? ⟨g0, 0, none⟩ = some (.int .i64 (M : Int)) := HX.out.blk.cell 0
            have q1 : W5.cell? ⟨g0, 1, none⟩ = some (.slice a0 len0 cap0) := HX.out.blk.cell 1
            have r0 : W5.cell? ⟨g5, 0, none⟩ = some (.int .i64 (k : Int)) := H5.out.blk.cell 0
            have r1 : W5.cell? ⟨g5, 1, none⟩ = some (.slice b5 l5 c5) := H5.out.blk.cell 1
            go_wp2_with fail
            refine (right_any (M : Int) a0 len0 cap0 xs0 W5 HX.out.rd (by omega) (by omega) (by omega)).mono ?_
            rintro e u2 ⟨rfl, hb⟩
            have HX' := Lib.hid (HX.out.below hb)
            have HO' := Lib.hid (HO.out.below hb (Nat.le_refl _))
            have H5' := Lib.hid (H5.out.below hb)
            have Hb' := Lib.hid (Hb.out.trans (hb.mono Hb.out.size))
            clear hb q0 q1 r0 r1 Hb HX HO H5
            have HX := HX'
            have HO := HO'
            have H5 := H5'
            have Hb := Hb'
            clear HX' HO' H5' Hb'
            rw [← HV0.out]
            have q0 : u2.cell? ⟨g0, 0, none⟩ = some (.int .i64 (M : Int)) := HX.out.blk.cell 0
            have q1 : u2.cell? ⟨g0, 1, none⟩ = some (.slice a0 len0 cap0) := HX.out.blk.cell 1
            have r0 : u2.cell? ⟨g5, 0, none⟩ = some (.int .i64 (k : Int)) := H5.out.blk.cell 0
            have r1 : u2.cell? ⟨g5, 1, none⟩ = some (.slice b5 l5 c5) := H5.out.blk.cell 1
            go_wp2_with fail
            refine (resize_ok k b5 l5 c5 X5 M u2 H5.out.rd I5.out.v hM).mono ?_
            rintro e u3 ⟨b7, l7, c7, X7, rfl, hw, hi, hb⟩
            have HR := Lib.hid hw
            have I7 := Lib.hid hi
            clear hw hi
            have HX' := Lib.hid (HX.out.below hb)
            have HO' := Lib.hid (HO.out.below hb (Nat.le_refl _))
            have H5' := Lib.hid (H5.out.below hb)
            have Hb' := Lib.hid (Hb.out.trans (hb.mono Hb.out.size))
            clear hb q0 q1 r0 r1 Hb HX HO H5
            have HX := HX'
            have HO := HO'
            have H5 := H5'
            have Hb := Hb'
            clear HX' HO' H5' Hb'
            go_upto_region 9 with fail
            obtain ⟨g7, W7, e1, e2, hB, -, hq⟩ := boxed Hb.out (M : Int) b7 l7 c7 X7 HR.out
            rw [e2, e1]
            have HBX := Lib.hid hB
            clear e1 e2 hB
            have HX' := Lib.hid (HX.out.below hq)
            have HO' := Lib.hid (HO.out.below hq (Nat.le_refl _))
            have H5' := Lib.hid (H5.out.below hq)
            have HR' := Lib.hid (HR.out.below hq (Nat.le_refl _))
            have Hb' := Lib.hid (Hb.out.trans (hq.mono Hb.out.size))
            clear hq  Hb HX HO H5 HR
            have HX := HX'
            have HO := HO'
            have H5 := H5'
            have HR := HR'
            have Hb := Hb'
            clear HX' HO' H5' HR' Hb'
            have H7 := HBX
            clear HBX
            clear HR
            go_upto_region 9 with fail
            refine wp_region_held_drew (S := Below W7.heap.size W7) (by kernel_rfl) ((Below.refl _ W7).drew) (fun _ => ?_)
            have HS : Hid (Below W7.heap.size W7 W7.drew) := Lib.hid ((Below.refl _ W7).drew)
            refine wpAnyH_ready (rs := [0]) (by kernel_rfl) (by simp) ?_
            refine AllReadyH.cons rfl (fun K hK => ?_) AllReadyH.nil
            go_simp
            refine (sane_any W7.drew (HO.out.below HS.out (Nat.le_refl _))).mono ?_
            rintro e u4 ⟨rfl, hb⟩
            have HS2 : Hid (Below W7.heap.size W7 u4) := Lib.hid (HS.out.trans (hb.mono HS.out.size))
            clear HS hb
            have HS := HS2
            clear HS2
            refine hK.out _ _ HS.out (fun _ => ?_)
            clear hK K
            refine wpAnyH_take (i := 1) (v := .bool true) rfl (by kernel_rfl) (by kernel_rfl) (by kernel_rfl) (fun _ _ _ h => h) (Or.inl ⟨by rfl, ?_⟩) HS.out ?_
            · intro u hu; go_simp
            go_simp
            refine wpAnyH_take (i := 2) (v := .int .i64 0) rfl (by kernel_rfl) (by kernel_rfl) (by kernel_rfl) (fun _ _ _ h => h) (Or.inl ⟨by rfl, ?_⟩) HS.out ?_
            · intro u hu; go_simp
            go_simp
            refine wpAnyH_take (i := 3) (v := .bool true) rfl (by kernel_rfl) (by kernel_rfl) (by kernel_rfl) (fun _ _ _ h => h) (Or.inl ⟨by rfl, ?_⟩) HS.out ?_
            · intro u hu; go_simp
            go_simp
            refine wpAnyH_take (i := 4) (v := .bool true) rfl (by kernel_rfl) (by kernel_rfl) (by kernel_rfl) (fun _ _ _ h => h) (Or.inl ⟨by rfl, ?_⟩) HS.out ?_
            · intro u hu; go_simp
            go_simp
            refine wpAnyH_take (i := 5) (v := .bool true) rfl (by kernel_rfl) (by kernel_rfl) (by kernel_rfl) (fun _ _ _ h => h) (Or.inl ⟨by rfl, ?_⟩) HS.out ?_
            · intro u hu; go_simp
            go_simp
            refine wpAnyH_take (i := 6) (v := .agg #[.int .i64 (k : Int), .slice b5 l5 c5]) rfl (by kernel_rfl) (by kernel_rfl) (by kernel_rfl) (fun _ _ _ h => h) (Or.inl ⟨by rfl, ?_⟩) HS.out ?_
            · intro u hu; have : u.cell? ⟨g5, 0, none⟩ = some (.int .i64 (k : Int)) := (H5.out.below hu).blk.cell 0; have : u.cell? ⟨g5, 1, none⟩ = some (.slice b5 l5 c5) := (H5.out.below hu).blk.cell 1; go_simp
            go_simp
            refine wpAnyH_take (i := 7) (v := .agg #[.int .i64 (M : Int), .slice a0 len0 cap0]) rfl (by kernel_rfl) (by kernel_rfl) (by kernel_rfl) (fun _ _ _ h => h) (Or.inl ⟨by rfl, ?_⟩) HS.out ?_
            · intro u hu; have : u.cell? ⟨g0, 0, none⟩ = some (.int .i64 (M : Int)) := (HX.out.below hu).blk.cell 0; have : u.cell? ⟨g0, 1, none⟩ = some (.slice a0 len0 cap0) := (HX.out.below hu).blk.cell 1; go_simp
            go_simp
            refine wpAnyH_take (i := 8) (v := .int .i64 (k : Int)) rfl (by kernel_rfl) (by kernel_rfl) (by kernel_rfl) (fun _ _ _ h => h) (Or.inl ⟨by rfl, ?_⟩) HS.out ?_
            · intro u hu; go_simp
            go_simp
            refine wpAnyH_ready (rs := [9]) (by kernel_rfl) (by simp) ?_
            refine AllReadyH.cons rfl (fun K hK => ?_) AllReadyH.nil
            go_simp
            refine (rresize_is M a0 len0 cap0 xs0 k u4 (HX.out.below HS.out).rd Vx.out hk).mono ?_
            rintro e u5 ⟨bj, lj, cj, Xj, rfl, hw, hi, hb⟩
            have HS2 : Hid (Below W7.heap.size W7 u5) := Lib.hid (HS.out.trans (hb.mono HS.out.size))
            have HJ := Lib.hid hw
            have Ij := Lib.hid hi
            clear hw hi
            clear HS hb
            have HS := HS2
            clear HS2
            refine hK.out _ _ HS.out (fun _ => ?_)
            clear hK K
            have hEq : X5 = Xj := I5.out.eq Ij.out (fun j hj => rfl)
            refine wpAnyH_ready (rs := [10]) (by kernel_rfl) (by simp) ?_
            refine AllReadyH.cons rfl (fun K hK => ?_) AllReadyH.nil
            go_simp
            refine (same_is (k : Int) b5 l5 c5 bj lj cj X5 u5 (H5.out.below HS.out).rd (by rw [hEq]; exact HJ.out)).mono ?_
            rintro e u6 ⟨rfl, hb⟩
            have HS2 : Hid (Below W7.heap.size W7 u6) := Lib.hid (HS.out.trans (hb.mono HS.out.size))
            clear HS hb
            have HS := HS2
            clear HS2
            refine hK.out _ _ HS.out (fun _ => ?_)
            clear hK K
            clear hEq HJ Ij
            refine wpAnyH_take (i := 11) (v := .bool true) rfl (by kernel_rfl) (by kernel_rfl) (by kernel_rfl) (fun _ _ _ h => h) (Or.inl ⟨by rfl, ?_⟩) HS.out ?_
            · intro u hu; go_simp
            go_simp
            refine wpAnyH_take (i := 12) (v := .bool true) rfl (by kernel_rfl) (by kernel_rfl) (by kernel_rfl) (fun _ _ _ h => h) (Or.inl ⟨by rfl, ?_⟩) HS.out ?_
            · intro u hu; go_simp
            go_simp
            refine wpAnyH_take (i := 13) (v := .int .i64 0) rfl (by kernel_rfl) (by kernel_rfl) (by kernel_rfl) (fun _ _ _ h => h) (Or.inl ⟨by rfl, ?_⟩) HS.out ?_
            · intro u hu; go_simp
            go_simp
            refine wpAnyH_take (i := 14) (v := .bool true) rfl (by kernel_rfl) (by kernel_rfl) (by kernel_rfl) (fun _ _ _ h => h) (Or.inl ⟨by rfl, ?_⟩) HS.out ?_
            · intro u hu; go_simp
            go_simp
            refine wpAnyH_take (i := 15) (v := .bool true) rfl (by kernel_rfl) (by kernel_rfl) (by kernel_rfl) (fun _ _ _ h => h) (Or.inl ⟨by rfl, ?_⟩) HS.out ?_
            · intro u hu; go_simp
            go_simp
            refine wpAnyH_take (i := 16) (v := .bool true) rfl (by kernel_rfl) (by kernel_rfl) (by kernel_rfl) (fun _ _ _ h => h) (Or.inl ⟨by rfl, ?_⟩) HS.out ?_
            · intro u hu; go_simp
            go_simp
            refine wpAnyH_take (i := 17) (v := .int .i64 (k : Int)) rfl (by kernel_rfl) (by kernel_rfl) (by kernel_rfl) (fun _ _ _ h => h) (Or.inl ⟨by rfl, ?_⟩) HS.out ?_
            · intro u hu; go_simp
            go_simp
            refine wpAnyH_take (i := 18) (v := .pointer (some ⟨g0, 0, none⟩)) rfl (by kernel_rfl) (by kernel_rfl) (by kernel_rfl) (fun _ _ _ h => h) (Or.inl ⟨by rfl, ?_⟩) HS.out ?_
            · intro u hu; go_simp
            go_simp
            refine wpAnyH_take (i := 19) (v := .int .i64 (M : Int)) rfl (by kernel_rfl) (by kernel_rfl) (by kernel_rfl) (fun _ _ _ h => h) (Or.inl ⟨by rfl, ?_⟩) HS.out ?_
            · intro u hu; have : u.cell? ⟨g0, 0, none⟩ = some (.int .i64 (M : Int)) := (HX.out.below hu).blk.cell 0; go_simp
            go_simp
            refine wpAnyH_take (i := 20) (v := .bool false) rfl (by kernel_rfl) (by kernel_rfl) (by kernel_rfl) (fun _ _ _ h => h) (Or.inl ⟨by rfl, ?_⟩) HS.out ?_
            · intro u hu; go_simp; omega
            go_simp
            refine wpAnyH_take (i := 21) (v := .bool false) rfl (by kernel_rfl) (by kernel_rfl) (by kernel_rfl) (fun _ _ _ h => h) (Or.inl ⟨by rfl, ?_⟩) HS.out ?_
            · intro u hu; go_simp
            go_simp
            refine wpAnyH_take (i := 22) (v := .agg #[.int .i64 (M : Int), .slice b7 l7 c7]) rfl (by kernel_rfl) (by kernel_rfl) (by kernel_rfl) (fun _ _ _ h => h) (Or.inl ⟨by rfl, ?_⟩) HS.out ?_
            · intro u hu; have : u.cell? ⟨g7, 0, none⟩ = some (.int .i64 (M : Int)) := (H7.out.below hu).blk.cell 0; have : u.cell? ⟨g7, 1, none⟩ = some (.slice b7 l7 c7) := (H7.out.below hu).blk.cell 1; go_simp
            go_simp
            refine wpAnyH_take (i := 23) (v := .agg #[.int .i64 (M : Int), .slice a0 len0 cap0]) rfl (by kernel_rfl) (by kernel_rfl) (by kernel_rfl) (fun _ _ _ h => h) (Or.inl ⟨by rfl, ?_⟩) HS.out ?_
            · intro u hu; have : u.cell? ⟨g0, 0, none⟩ = some (.int .i64 (M : Int)) := (HX.out.below hu).blk.cell 0; have : u.cell? ⟨g0, 1, none⟩ = some (.slice a0 len0 cap0) := (HX.out.below hu).blk.cell 1; go_simp
            go_simp
            have hEq : X7 = xs0 := I7.out.v.ext Vx.out (fun j hj => by rw [I7.out.b j hj, I5.out.b j (by omega)]; simp [hj]; omega)
            refine wpAnyH_ready (rs := [24]) (by kernel_rfl) (by simp) ?_
            refine AllReadyH.cons rfl (fun K hK => ?_) AllReadyH.nil
            go_simp
            refine (same_is (M : Int) b7 l7 c7 a0 len0 cap0 X7 u6 (H7.out.below HS.out).rd (by rw [hEq]; exact (HX.out.below HS.out).rd)).mono ?_
            rintro e u7 ⟨rfl, hb⟩
            have HS2 : Hid (Below W7.heap.size W7 u7) := Lib.hid (HS.out.trans (hb.mono HS.out.size))
            clear HS hb
            have HS := HS2
            clear HS2
            refine hK.out _ _ HS.out (fun _ => ?_)
            clear hK K
            clear hEq
            refine wpAnyH_take (i := 25) (v := .bool true) rfl (by kernel_rfl) (by kernel_rfl) (by kernel_rfl) (fun _ _ _ h => h) (Or.inl ⟨by rfl, ?_⟩) HS.out ?_
            · intro u hu; go_simp
            go_simp
            refine wpAnyH_take (i := 26) (v := .bool true) rfl (by kernel_rfl) (by kernel_rfl) (by kernel_rfl) (fun _ _ _ h => h) (Or.inl ⟨by rfl, ?_⟩) HS.out ?_
            · intro u hu; go_simp
            go_simp
            refine wpAnyH_ready (rs := [27]) (by kernel_rfl) (by simp) ?_
            refine AllReadyH.cons rfl (fun K hK => ?_) AllReadyH.nil
            go_simp
            refine hK.out _ _ HS.out (fun _ => ?_)
            clear hK K
            refine wpAnyH_done (by kernel_rfl) ?_ _
            have hS := HS.out
            clear HS
            have HX' := Lib.hid (HX.out.below hS)
            have HO' := Lib.hid (HO.out.below hS (Nat.le_refl _))
            have H5' := Lib.hid (H5.out.below hS)
            have H7' := Lib.hid (H7.out.below hS)
            have Hb' := Lib.hid (Hb.out.trans (hS.mono Hb.out.size))
            clear hS  Hb HX HO H5 H7
            have HX := HX'
            have HO := HO'
            have H5 := H5'
            have H7 := H7'
            have Hb := Hb'
            clear HX' HO' H5' H7' Hb'
            go_wp2_with fail
            go_ret
            exact ⟨rfl, Hb.out⟩
    · by_cases h2 : a1 ≤ 65536
      · have h3 : 2000 < a1 := by omega
        clear h1
        go_enter Tryd.func5, Tryd.ntmps5
        go_upto_region 1 with fail
        rw [HEV.out, HE0.out]
        clear HEV HE0
        have q0 : V.cell? ⟨g0, 0, none⟩ = some (.int .i64 N0) := HX.out.blk.cell 0
        have q1 : V.cell? ⟨g0, 1, none⟩ = some (.slice a0 len0 cap0) := HX.out.blk.cell 1
        go_wp2_with fail
        obtain ⟨WS, hWS⟩ : ∃ WS, WS = V.alloc (.cells #[.int .i64 N0, .slice a0 len0 cap0] 24) := ⟨_, rfl⟩
        have hbS : Below V.heap.size V WS := by rw [hWS]; exact (Below.refl _ V).alloc (Nat.le_refl _) _
        have hBS : Blk WS V.heap.size 24 #[.int .i64 N0, .slice a0 len0 cap0] := by rw [hWS]; exact heap_new V _
        rw [← hWS]
        refine (few1_any _ N0 a0 len0 cap0 WS hBS).mono ?_
        rintro e u0 ⟨rfl, rfl⟩
        rw [← HF.out]
        clear hBS hWS
        have HX' := Lib.hid (HX.out.below hbS)
        have HO' := Lib.hid (HO.out.below hbS (Nat.le_refl _))
        have Hb' := Lib.hid (Hb.out.trans (hbS.mono Hb.out.size))
        clear hbS q0 q1 Hb HX HO
        have HX := HX'
        have HO := HO'
        have Hb := Hb'
        clear HX' HO' Hb'
        have q0 : WS.cell? ⟨g0, 0, none⟩ = some (.int .i64 N0) := HX.out.blk.cell 0
        have q1 : WS.cell? ⟨g0, 1, none⟩ = some (.slice a0 len0 cap0) := HX.out.blk.cell 1
        go_wp2_with fail
        refine (sane_any WS HO.out).mono ?_
        rintro e u1 ⟨rfl, hb⟩
        have HX' := Lib.hid (HX.out.below hb)
        have HO' := Lib.hid (HO.out.below hb (Nat.le_refl _))
        have Hb' := Lib.hid (Hb.out.trans (hb.mono Hb.out.size))
        clear hb q0 q1 Hb HX HO
        have HX := HX'
        have HO := HO'
        have Hb := Hb'
        clear HX' HO' Hb'
        go_wp2_with fail
        go_ret
        exact ⟨rfl, Hb.out⟩
      · have h3 : 65536 < a1 := by omega
        have h4 : 2000 < a1 := by omega
        clear h1 h2
        cases V0 with
        | false =>
          go_enter Tryd.func5, Tryd.ntmps5
          go_upto_region 1 with fail
          rw [HEV.out, HE0.out]
          clear HEV HE0
          have q0 : V.cell? ⟨g0, 0, none⟩ = some (.int .i64 N0) := HX.out.blk.cell 0
          have q1 : V.cell? ⟨g0, 1, none⟩ = some (.slice a0 len0 cap0) := HX.out.blk.cell 1
          go_wp2_with fail
          obtain ⟨WS, hWS⟩ : ∃ WS, WS = V.alloc (.cells #[.int .i64 N0, .slice a0 len0 cap0] 24) := ⟨_, rfl⟩
          have hbS : Below V.heap.size V WS := by rw [hWS]; exact (Below.refl _ V).alloc (Nat.le_refl _) _
          have hBS : Blk WS V.heap.size 24 #[.int .i64 N0, .slice a0 len0 cap0] := by rw [hWS]; exact heap_new V _
          rw [← hWS]
          refine (few1_any _ N0 a0 len0 cap0 WS hBS).mono ?_
          rintro e u0 ⟨rfl, rfl⟩
          rw [← HF.out]
          clear hBS hWS
          have HX' := Lib.hid (HX.out.below hbS)
          have HO' := Lib.hid (HO.out.below hbS (Nat.le_refl _))
          have Hb' := Lib.hid (Hb.out.trans (hbS.mono Hb.out.size))
          clear hbS q0 q1 Hb HX HO
          have HX := HX'
          have HO := HO'
          have Hb := Hb'
          clear HX' HO' Hb'
          have q0 : WS.cell? ⟨g0, 0, none⟩ = some (.int .i64 N0) := HX.out.blk.cell 0
          have q1 : WS.cell? ⟨g0, 1, none⟩ = some (.slice a0 len0 cap0) := HX.out.blk.cell 1
          go_wp2_with fail
          refine (resize_bad N0 a0 len0 cap0 xs0 a1 WS HX.out.rd (by omega) (by omega) HV0.out.symm).mono ?_
          rintro e u1 ⟨rfl, hb⟩
          have HX' := Lib.hid (HX.out.below hb)
          have HO' := Lib.hid (HO.out.below hb (Nat.le_refl _))
          have Hb' := Lib.hid (Hb.out.trans (hb.mono Hb.out.size))
          clear hb q0 q1 Hb HX HO
          have HX := HX'
          have HO := HO'
          have Hb := Hb'
          clear HX' HO' Hb'
          go_upto_region 4 with fail
          obtain ⟨g5, W5, e1, e2, hB, -, hq⟩ := boxed Hb.out 0 none 0 0 [] (Rd.nil u1)
          rw [e2, e1]
          have HBX := Lib.hid hB
          clear e1 e2 hB
          have HX' := Lib.hid (HX.out.below hq)
          have HO' := Lib.hid (HO.out.below hq (Nat.le_refl _))
          have Hb' := Lib.hid (Hb.out.trans (hq.mono Hb.out.size))
          clear hq  Hb HX HO
          have HX := HX'
          have HO := HO'
          have Hb := Hb'
          clear HX' HO' Hb'
          have H5 := HBX
          clear HBX
          have q0 : W5.cell? ⟨g0, 0, none⟩ = some (.int .i64 N0) := HX.out.blk.cell 0
          have q1 : W5.cell? ⟨g0, 1, none⟩ = some (.slice a0 len0 cap0) := HX.out.blk.cell 1
          have r0 : W5.cell? ⟨g5, 0, none⟩ = some (.int .i64 0) := H5.out.blk.cell 0
          have r1 : W5.cell? ⟨g5, 1, none⟩ = some (.slice none 0 0) := H5.out.blk.cell 1
          go_wp2_with fail
          refine (right_any N0 a0 len0 cap0 xs0 W5 HX.out.rd (by omega) (by omega) (by omega)).mono ?_
          rintro e u2 ⟨rfl, hb⟩
          have HX' := Lib.hid (HX.out.below hb)
          have HO' := Lib.hid (HO.out.below hb (Nat.le_refl _))
          have H5' := Lib.hid (H5.out.below hb)
          have Hb' := Lib.hid (Hb.out.trans (hb.mono Hb.out.size))
          clear hb q0 q1 r0 r1 Hb HX HO H5
          have HX := HX'
          have HO := HO'
          have H5 := H5'
          have Hb := Hb'
          clear HX' HO' H5' Hb'
          rw [← HV0.out]
          have q0 : u2.cell? ⟨g0, 0, none⟩ = some (.int .i64 N0) := HX.out.blk.cell 0
          have q1 : u2.cell? ⟨g0, 1, none⟩ = some (.slice a0 len0 cap0) := HX.out.blk.cell 1
          have r0 : u2.cell? ⟨g5, 0, none⟩ = some (.int .i64 0) := H5.out.blk.cell 0
          have r1 : u2.cell? ⟨g5, 1, none⟩ = some (.slice none 0 0) := H5.out.blk.cell 1
          go_wp2_with fail
          refine (sane_any u2 HO.out).mono ?_
          rintro e u3 ⟨rfl, hb⟩
          have HX' := Lib.hid (HX.out.below hb)
          have HO' := Lib.hid (HO.out.below hb (Nat.le_refl _))
          have H5' := Lib.hid (H5.out.below hb)
          have Hb' := Lib.hid (Hb.out.trans (hb.mono Hb.out.size))
          clear hb q0 q1 r0 r1 Hb HX HO H5
          have HX := HX'
          have HO := HO'
          have H5 := H5'
          have Hb := Hb'
          clear HX' HO' H5' Hb'
          have q0 : u3.cell? ⟨g0, 0, none⟩ = some (.int .i64 N0) := HX.out.blk.cell 0
          have q1 : u3.cell? ⟨g0, 1, none⟩ = some (.slice a0 len0 cap0) := HX.out.blk.cell 1
          have r0 : u3.cell? ⟨g5, 0, none⟩ = some (.int .i64 0) := H5.out.blk.cell 0
          have r1 : u3.cell? ⟨g5, 1, none⟩ = some (.slice none 0 0) := H5.out.blk.cell 1
          go_wp2_with fail
          refine (none_zero u3).mono ?_
          rintro e u4 ⟨rfl, hb⟩
          have HX' := Lib.hid (HX.out.below hb)
          have HO' := Lib.hid (HO.out.below hb (Nat.le_refl _))
          have H5' := Lib.hid (H5.out.below hb)
          have Hb' := Lib.hid (Hb.out.trans (hb.mono Hb.out.size))
          clear hb q0 q1 r0 r1 Hb HX HO H5
          have HX := HX'
          have HO := HO'
          have H5 := H5'
          have Hb := Hb'
          clear HX' HO' H5' Hb'
          go_wp2_with fail
          go_ret
          exact ⟨rfl, Hb.out⟩
        | true =>
          obtain ⟨M, rfl, vx⟩ := Vb.of HX.out.rd.hb HV0.out.symm
          have hM := vx.le
          have Vx := Lib.hid vx
          clear vx
          go_enter Tryd.func5, Tryd.ntmps5
          go_upto_region 1 with fail
          rw [HEV.out, HE0.out]
          clear HEV HE0
          have q0 : V.cell? ⟨g0, 0, none⟩ = some (.int .i64 (M : Int)) := HX.out.blk.cell 0
          have q1 : V.cell? ⟨g0, 1, none⟩ = some (.slice a0 len0 cap0) := HX.out.blk.cell 1
          go_wp2_with fail
          obtain ⟨WS, hWS⟩ : ∃ WS, WS = V.alloc (.cells #[.int .i64 (M : Int), .slice a0 len0 cap0] 24) := ⟨_, rfl⟩
          have hbS : Below V.heap.size V WS := by rw [hWS]; exact (Below.refl _ V).alloc (Nat.le_refl _) _
          have hBS : Blk WS V.heap.size 24 #[.int .i64 (M : Int), .slice a0 len0 cap0] := by rw [hWS]; exact heap_new V _
          rw [← hWS]
          refine (few1_any _ (M : Int) a0 len0 cap0 WS hBS).mono ?_
          rintro e u0 ⟨rfl, rfl⟩
          rw [← HF.out]
          clear hBS hWS
          have HX' := Lib.hid (HX.out.below hbS)
          have HO' := Lib.hid (HO.out.below hbS (Nat.le_refl _))
          have Hb' := Lib.hid (Hb.out.trans (hbS.mono Hb.out.size))
          clear hbS q0 q1 Hb HX HO
          have HX := HX'
          have HO := HO'
          have Hb := Hb'
          clear HX' HO' Hb'
          have q0 : WS.cell? ⟨g0, 0, none⟩ = some (.int .i64 (M : Int)) := HX.out.blk.cell 0
          have q1 : WS.cell? ⟨g0, 1, none⟩ = some (.slice a0 len0 cap0) := HX.out.blk.cell 1
          go_wp2_with fail
          refine (resize_no (M : Int) a0 len0 cap0 xs0 a1 WS HX.out.rd (by omega) (by omega) Vx.out.valid (by omega)).mono ?_
          rintro e u1 ⟨rfl, hb⟩
          have HX' := Lib.hid (HX.out.below hb)
          have HO' := Lib.hid (HO.out.below hb (Nat.le_refl _))
          have Hb' := Lib.hid (Hb.out.trans (hb.mono Hb.out.size))
          clear hb q0 q1 Hb HX HO
          have HX := HX'
          have HO := HO'
          have Hb := Hb'
          clear HX' HO' Hb'
          go_upto_region 4 with fail
          obtain ⟨g5, W5, e1, e2, hB, -, hq⟩ := boxed Hb.out 0 none 0 0 [] (Rd.nil u1)
          rw [e2, e1]
          have HBX := Lib.hid hB
          clear e1 e2 hB
          have HX' := Lib.hid (HX.out.below hq)
          have HO' := Lib.hid (HO.out.below hq (Nat.le_refl _))
          have Hb' := Lib.hid (Hb.out.trans (hq.mono Hb.out.size))
          clear hq  Hb HX HO
          have HX := HX'
          have HO := HO'
          have Hb := Hb'
          clear HX' HO' Hb'
          have H5 := HBX
          clear HBX
          have q0 : W5.cell? ⟨g0, 0, none⟩ = some (.int .i64 (M : Int)) := HX.out.blk.cell 0
          have q1 : W5.cell? ⟨g0, 1, none⟩ = some (.slice a0 len0 cap0) := HX.out.blk.cell 1
          have r0 : W5.cell? ⟨g5, 0, none⟩ = some (.int .i64 0) := H5.out.blk.cell 0
          have r1 : W5.cell? ⟨g5, 1, none⟩ = some (.slice none 0 0) := H5.out.blk.cell 1
          go_wp2_with fail
          refine (right_any (M : Int) a0 len0 cap0 xs0 W5 HX.out.rd (by omega) (by omega) (by omega)).mono ?_
          rintro e u2 ⟨rfl, hb⟩
          have HX' := Lib.hid (HX.out.below hb)
          have HO' := Lib.hid (HO.out.below hb (Nat.le_refl _))
          have H5' := Lib.hid (H5.out.below hb)
          have Hb' := Lib.hid (Hb.out.trans (hb.mono Hb.out.size))
          clear hb q0 q1 r0 r1 Hb HX HO H5
          have HX := HX'
          have HO := HO'
          have H5 := H5'
          have Hb := Hb'
          clear HX' HO' H5' Hb'
          rw [← HV0.out]
          have q0 : u2.cell? ⟨g0, 0, none⟩ = some (.int .i64 (M : Int)) := HX.out.blk.cell 0
          have q1 : u2.cell? ⟨g0, 1, none⟩ = some (.slice a0 len0 cap0) := HX.out.blk.cell 1
          have r0 : u2.cell? ⟨g5, 0, none⟩ = some (.int .i64 0) := H5.out.blk.cell 0
          have r1 : u2.cell? ⟨g5, 1, none⟩ = some (.slice none 0 0) := H5.out.blk.cell 1
          go_wp2_with fail
          refine (sane_any u2 HO.out).mono ?_
          rintro e u3 ⟨rfl, hb⟩
          have HX' := Lib.hid (HX.out.below hb)
          have HO' := Lib.hid (HO.out.below hb (Nat.le_refl _))
          have H5' := Lib.hid (H5.out.below hb)
          have Hb' := Lib.hid (Hb.out.trans (hb.mono Hb.out.size))
          clear hb q0 q1 r0 r1 Hb HX HO H5
          have HX := HX'
          have HO := HO'
          have H5 := H5'
          have Hb := Hb'
          clear HX' HO' H5' Hb'
          have q0 : u3.cell? ⟨g0, 0, none⟩ = some (.int .i64 (M : Int)) := HX.out.blk.cell 0
          have q1 : u3.cell? ⟨g0, 1, none⟩ = some (.slice a0 len0 cap0) := HX.out.blk.cell 1
          have r0 : u3.cell? ⟨g5, 0, none⟩ = some (.int .i64 0) := H5.out.blk.cell 0
          have r1 : u3.cell? ⟨g5, 1, none⟩ = some (.slice none 0 0) := H5.out.blk.cell 1
          go_wp2_with fail
          refine (none_zero u3).mono ?_
          rintro e u4 ⟨rfl, hb⟩
          have HX' := Lib.hid (HX.out.below hb)
          have HO' := Lib.hid (HO.out.below hb (Nat.le_refl _))
          have H5' := Lib.hid (H5.out.below hb)
          have Hb' := Lib.hid (Hb.out.trans (hb.mono Hb.out.size))
          clear hb q0 q1 r0 r1 Hb HX HO H5
          have HX := HX'
          have HO := HO'
          have H5 := H5'
          have Hb := Hb'
          clear HX' HO' H5' Hb'
          go_wp2_with fail
          go_ret
          exact ⟨rfl, Hb.out⟩
end Go.Proofs.YthognmkjoekilaaDoor.bitsResizes

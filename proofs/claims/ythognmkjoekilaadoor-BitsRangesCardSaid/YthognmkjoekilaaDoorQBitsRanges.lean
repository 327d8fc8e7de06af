/- What the statement BitsRanges calls answers true, for every input that its walk is handed. -/
import Derived.Test.YthognmkjoekilaaDoorRows
import Derived.WalkKit
import Derived.ProofKit
import Derived.OpenShut
import Derived.ShutString
import Derived.ChangeOld
import Derived.Below
import Derived.SizedLaws
import Derived.Test.YthognmkjoekilaaDoorBwide
import Derived.Test.YthognmkjoekilaaDoorBlcount
import Derived.Test.YthognmkjoekilaaDoorBwithin
namespace Go.Proofs.YthognmkjoekilaaDoor.bitsRanges
open Go.ChangeShapes Go.WideShapes Go.ChangeAt Go.RowKit
open Go.ChangeMaps (open_string shut_string)
set_option linter.unusedVariables false


set_option maxRecDepth 100000 in
set_option maxHeartbeats 8000000 in
theorem walk (N0 : Int) (a0 : Option Addr) (len0 cap0 : Nat) (xs0 : List Int) (a1 : Int) (a2 : Int) (a3 : Bool) (a4 : Int) (w : World) (w0 : (Rd w a0 len0 cap0 xs0 ∧ cap0 ≤ 140737488351232) ∧ (-9223372036854775808 ≤ N0 ∧ N0 ≤ 9223372036854775807)) (w1 : (Lit.int .i64 a1).wf = true) (w2 : (Lit.int .i64 a2).wf = true) (w4 : (Lit.int .i64 a4).wf = true) (ho : Ones w) :
    Calls Tryd.prog 8 #[.agg #[.int .i64 N0, .slice a0 len0 cap0], .int .i64 a1, .int .i64 a2, .bool a3, .int .i64 a4] w fun e w' => e = .returned (.bool true) ∧ Below w.heap.size w w' := by
  have hwf1 := wf_i64 w1
  have hwf2 := wf_i64 w2
  have hwf4 := wf_i64 w4
  clear w1 w2 w4
  have HO := Lib.hid ho
  have HX := Lib.hid w0.1.1
  have hN0 := w0.2
  have hc0 := w0.1.2
  have hl0 := w0.1.1.hc
  clear w0 ho
  obtain ⟨g0, V, e0, eV, hBx, hb, -⟩ := boxed (Below.refl _ w) N0 a0 len0 cap0 xs0 HX.out
  have HEV := Lib.hid eV
  have HE0 := Lib.hid e0
  have HX' := Lib.hid hBx
  have HO' := Lib.hid (HO.out.below hb (Nat.le_refl _))
  have Hb := Lib.hid hb
  clear HX HO e0 eV hBx hb
  have HX := HX'
  have HO := HO'
  clear HX' HO'
  obtain ⟨F, hF⟩ : ∃ F, F = fewV N0 len0 := ⟨_, rfl⟩
  obtain ⟨V0, hV0⟩ : ∃ V, V = validB N0 xs0 := ⟨_, rfl⟩
  have HF := Lib.hid hF
  have HV0 := Lib.hid hV0
  clear hF hV0
  obtain ⟨Q, hQ⟩ : ∃ Q, Q = withinV N0 a1 a2 := ⟨_, rfl⟩
  have HQ := Lib.hid hQ
  clear hQ
  cases F with
  | false =>
    go_enter Tryd.func8, Tryd.ntmps8
    go_upto_region 1 with fail
    rw [HEV.out, HE0.out]
    clear HEV HE0
    have q0 : V.cell? ⟨g0, 0, none⟩ = some (.int .i64 N0) := HX.out.blk.cell 0
    have q1 : V.cell? ⟨g0, 1, none⟩ = some (.slice a0 len0 cap0) := HX.out.blk.cell 1
    go_wp2_with fail
    obtain ⟨WS, hWS⟩ : ∃ WS, WS = V.alloc (.cells #[.int .i64 N0, .slice a0 len0 cap0] 24) := ⟨_, rfl⟩
    have hbS : Below V.heap.size V WS := by rw [hWS]; exact (Below.refl _ V).alloc (Nat.le_refl _) _
    have hBS : Blk WS V.heap.size 24 #[.int .i64 N0, .slice a0 len0 cap0] := by rw [hWS]; exact heap_new V _
    rw [← hWS]
    refine (few1_any _ N0 a0 len0 cap0 WS hBS).mono ?_
    rintro e u0 ⟨rfl, rfl⟩
    rw [← HF.out]
    clear hBS hWS
    have HX' := Lib.hid (HX.out.below hbS)
    have HO' := Lib.hid (HO.out.below hbS (Nat.le_refl _))
    have Hb' := Lib.hid (Hb.out.trans (hbS.mono Hb.out.size))
    clear hbS q0 q1 Hb HX HO
    have HX := HX'
    have HO := HO'
    have Hb := Hb'
    clear HX' HO' Hb'
    have q0 : WS.cell? ⟨g0, 0, none⟩ = some (.int .i64 N0) := HX.out.blk.cell 0
    have q1 : WS.cell? ⟨g0, 1, none⟩ = some (.slice a0 len0 cap0) := HX.out.blk.cell 1
    go_wp2_with fail
    refine (sane_any WS HO.out).mono ?_
    rintro e u1 ⟨rfl, hb⟩
    have HX' := Lib.hid (HX.out.below hb)
    have HO' := Lib.hid (HO.out.below hb (Nat.le_refl _))
    have Hb' := Lib.hid (Hb.out.trans (hb.mono Hb.out.size))
    clear hb q0 q1 Hb HX HO
    have HX := HX'
    have HO := HO'
    have Hb := Hb'
    clear HX' HO' Hb'
    go_wp2_with fail
    go_ret
    exact ⟨rfl, Hb.out⟩
  | true =>
    cases V0 with
    | false =>
      go_enter Tryd.func8, Tryd.ntmps8
      go_upto_region 1 with fail
      rw [HEV.out, HE0.out]
      clear HEV HE0
      have q0 : V.cell? ⟨g0, 0, none⟩ = some (.int .i64 N0) := HX.out.blk.cell 0
      have q1 : V.cell? ⟨g0, 1, none⟩ = some (.slice a0 len0 cap0) := HX.out.blk.cell 1
      go_wp2_with fail
      obtain ⟨WS, hWS⟩ : ∃ WS, WS = V.alloc (.cells #[.int .i64 N0, .slice a0 len0 cap0] 24) := ⟨_, rfl⟩
      have hbS : Below V.heap.size V WS := by rw [hWS]; exact (Below.refl _ V).alloc (Nat.le_refl _) _
      have hBS : Blk WS V.heap.size 24 #[.int .i64 N0, .slice a0 len0 cap0] := by rw [hWS]; exact heap_new V _
      rw [← hWS]
      refine (few1_any _ N0 a0 len0 cap0 WS hBS).mono ?_
      rintro e u0 ⟨rfl, rfl⟩
      rw [← HF.out]
      clear hBS hWS
      have HX' := Lib.hid (HX.out.below hbS)
      have HO' := Lib.hid (HO.out.below hbS (Nat.le_refl _))
      have Hb' := Lib.hid (Hb.out.trans (hbS.mono Hb.out.size))
      clear hbS q0 q1 Hb HX HO
      have HX := HX'
      have HO := HO'
      have Hb := Hb'
      clear HX' HO' Hb'
      have q0 : WS.cell? ⟨g0, 0, none⟩ = some (.int .i64 N0) := HX.out.blk.cell 0
      have q1 : WS.cell? ⟨g0, 1, none⟩ = some (.slice a0 len0 cap0) := HX.out.blk.cell 1
      go_wp2_with fail
      refine (right_any N0 a0 len0 cap0 xs0 WS HX.out.rd (by omega) (by omega) (by omega)).mono ?_
      rintro e u1 ⟨rfl, hb⟩
      have HX' := Lib.hid (HX.out.below hb)
      have HO' := Lib.hid (HO.out.below hb (Nat.le_refl _))
      have Hb' := Lib.hid (Hb.out.trans (hb.mono Hb.out.size))
      clear hb q0 q1 Hb HX HO
      have HX := HX'
      have HO := HO'
      have Hb := Hb'
      clear HX' HO' Hb'
      rw [← HV0.out]
      have q0 : u1.cell? ⟨g0, 0, none⟩ = some (.int .i64 N0) := HX.out.blk.cell 0
      have q1 : u1.cell? ⟨g0, 1, none⟩ = some (.slice a0 len0 cap0) := HX.out.blk.cell 1
      go_wp2_with fail
      refine (sane_any u1 HO.out).mono ?_
      rintro e u2 ⟨rfl, hb⟩
      have HX' := Lib.hid (HX.out.below hb)
      have HO' := Lib.hid (HO.out.below hb (Nat.le_refl _))
      have Hb' := Lib.hid (Hb.out.trans (hb.mono Hb.out.size))
      clear hb q0 q1 Hb HX HO
      have HX := HX'
      have HO := HO'
      have Hb := Hb'
      clear HX' HO' Hb'
      go_wp2_with fail
      go_ret
      exact ⟨rfl, Hb.out⟩
    | true =>
      cases Q with
      | false =>
        go_enter Tryd.func8, Tryd.ntmps8
        go_upto_region 1 with fail
        rw [HEV.out, HE0.out]
        clear HEV HE0
        have q0 : V.cell? ⟨g0, 0, none⟩ = some (.int .i64 N0) := HX.out.blk.cell 0
        have q1 : V.cell? ⟨g0, 1, none⟩ = some (.slice a0 len0 cap0) := HX.out.blk.cell 1
        go_wp2_with fail
        obtain ⟨WS, hWS⟩ : ∃ WS, WS = V.alloc (.cells #[.int .i64 N0, .slice a0 len0 cap0] 24) := ⟨_, rfl⟩
        have hbS : Below V.heap.size V WS := by rw [hWS]; exact (Below.refl _ V).alloc (Nat.le_refl _) _
        have hBS : Blk WS V.heap.size 24 #[.int .i64 N0, .slice a0 len0 cap0] := by rw [hWS]; exact heap_new V _
        rw [← hWS]
        refine (few1_any _ N0 a0 len0 cap0 WS hBS).mono ?_
        rintro e u0 ⟨rfl, rfl⟩
        rw [← HF.out]
        clear hBS hWS
        have HX' := Lib.hid (HX.out.below hbS)
        have HO' := Lib.hid (HO.out.below hbS (Nat.le_refl _))
        have Hb' := Lib.hid (Hb.out.trans (hbS.mono Hb.out.size))
        clear hbS q0 q1 Hb HX HO
        have HX := HX'
        have HO := HO'
        have Hb := Hb'
        clear HX' HO' Hb'
        have q0 : WS.cell? ⟨g0, 0, none⟩ = some (.int .i64 N0) := HX.out.blk.cell 0
        have q1 : WS.cell? ⟨g0, 1, none⟩ = some (.slice a0 len0 cap0) := HX.out.blk.cell 1
        go_wp2_with fail
        refine (right_any N0 a0 len0 cap0 xs0 WS HX.out.rd (by omega) (by omega) (by omega)).mono ?_
        rintro e u1 ⟨rfl, hb⟩
        have HX' := Lib.hid (HX.out.below hb)
        have HO' := Lib.hid (HO.out.below hb (Nat.le_refl _))
        have Hb' := Lib.hid (Hb.out.trans (hb.mono Hb.out.size))
        clear hb q0 q1 Hb HX HO
        have HX := HX'
        have HO := HO'
        have Hb := Hb'
        clear HX' HO' Hb'
        rw [← HV0.out]
        have q0 : u1.cell? ⟨g0, 0, none⟩ = some (.int .i64 N0) := HX.out.blk.cell 0
        have q1 : u1.cell? ⟨g0, 1, none⟩ = some (.slice a0 len0 cap0) := HX.out.blk.cell 1
        go_wp2_with fail
        refine (within_any N0 a1 a2 (by omega) (by omega) u1).mono ?_
        rintro e u9 ⟨rfl, rfl⟩
        rw [← HQ.out]
        go_wp2_with fail
        refine (sane_any u1 HO.out).mono ?_
        rintro e u2 ⟨rfl, hb⟩
        have HX' := Lib.hid (HX.out.below hb)
        have HO' := Lib.hid (HO.out.below hb (Nat.le_refl _))
        have Hb' := Lib.hid (Hb.out.trans (hb.mono Hb.out.size))
        clear hb q0 q1 Hb HX HO
        have HX := HX'
        have HO := HO'
        have Hb := Hb'
        clear HX' HO' Hb'
        go_wp2_with fail
        go_ret
        exact ⟨rfl, Hb.out⟩
      | true =>
        obtain ⟨M, rfl, vx⟩ := Vb.of HX.out.rd.hb HV0.out.symm
        have hq := HQ.out.symm
        unfold withinV at hq
        simp only [decide_eq_true_eq] at hq
        obtain ⟨A, rfl⟩ : ∃ A : Nat, a1 = (A : Int) := ⟨a1.toNat, by omega⟩
        obtain ⟨m, rfl⟩ : ∃ m : Nat, a2 = (m : Int) := ⟨a2.toNat, by omega⟩
        obtain ⟨E, hE⟩ : ∃ E : Nat, E = A + m := ⟨_, rfl⟩
        have hEM : E ≤ M := by omega
        have hM := vx.le
        have Vx := Lib.hid vx
        clear vx hq
        go_enter Tryd.func8, Tryd.ntmps8
        go_upto_region 1 with fail
        rw [HEV.out, HE0.out]
        clear HEV HE0
        have q0 : V.cell? ⟨g0, 0, none⟩ = some (.int .i64 (M : Int)) := HX.out.blk.cell 0
        have q1 : V.cell? ⟨g0, 1, none⟩ = some (.slice a0 len0 cap0) := HX.out.blk.cell 1
        go_wp2_with fail
        obtain ⟨WS, hWS⟩ : ∃ WS, WS = V.alloc (.cells #[.int .i64 (M : Int), .slice a0 len0 cap0] 24) := ⟨_, rfl⟩
        have hbS : Below V.heap.size V WS := by rw [hWS]; exact (Below.refl _ V).alloc (Nat.le_refl _) _
        have hBS : Blk WS V.heap.size 24 #[.int .i64 (M : Int), .slice a0 len0 cap0] := by rw [hWS]; exact heap_new V _
        rw [← hWS]
        refine (few1_any _ (M : Int) a0 len0 cap0 WS hBS).mono ?_
        rintro e u0 ⟨rfl, rfl⟩
        rw [← HF.out]
        clear hBS hWS
        have HX' := Lib.hid (HX.out.below hbS)
        have HO' := Lib.hid (HO.out.below hbS (Nat.le_refl _))
        have Hb' := Lib.hid (Hb.out.trans (hbS.mono Hb.out.size))
        clear hbS q0 q1 Hb HX HO
        have HX := HX'
        have HO := HO'
        have Hb := Hb'
        clear HX' HO' Hb'
        have q0 : WS.cell? ⟨g0, 0, none⟩ = some (.int .i64 (M : Int)) := HX.out.blk.cell 0
        have q1 : WS.cell? ⟨g0, 1, none⟩ = some (.slice a0 len0 cap0) := HX.out.blk.cell 1
        go_wp2_with fail
        refine (right_any (M : Int) a0 len0 cap0 xs0 WS HX.out.rd (by omega) (by omega) (by omega)).mono ?_
        rintro e u1 ⟨rfl, hb⟩
        have HX' := Lib.hid (HX.out.below hb)
        have HO' := Lib.hid (HO.out.below hb (Nat.le_refl _))
        have Hb' := Lib.hid (Hb.out.trans (hb.mono Hb.out.size))
        clear hb q0 q1 Hb HX HO
        have HX := HX'
        have HO := HO'
        have Hb := Hb'
        clear HX' HO' Hb'
        rw [← HV0.out]
        have q0 : u1.cell? ⟨g0, 0, none⟩ = some (.int .i64 (M : Int)) := HX.out.blk.cell 0
        have q1 : u1.cell? ⟨g0, 1, none⟩ = some (.slice a0 len0 cap0) := HX.out.blk.cell 1
        go_wp2_with fail
        refine (within_any (M : Int) (A : Int) (m : Int) (by omega) (by omega) u1).mono ?_
        rintro e u9 ⟨rfl, rfl⟩
        rw [← HQ.out]
        clear HV0 HF HQ hN0
        go_wp2_with fail
        refine (set_ok M a0 len0 cap0 xs0 u1 HX.out.rd A m E a3 Vx.out hE hEM).mono ?_
        rintro e u2 ⟨b11, l11, c11, rfl, hw, hb⟩
        have HR := Lib.hid hw
        clear hw
        have HX' := Lib.hid (HX.out.below hb)
        have HO' := Lib.hid (HO.out.below hb (Nat.le_refl _))
        have Hb' := Lib.hid (Hb.out.trans (hb.mono Hb.out.size))
        clear hb q0 q1 Hb HX HO
        have HX := HX'
        have HO := HO'
        have Hb := Hb'
        clear HX' HO' Hb'
        obtain ⟨X, hX⟩ : ∃ X, X = fillV xs0 A E a3 := ⟨_, rfl⟩
        have vX : Vb M X := by rw [hX]; exact Vx.out.fill A E a3 hEM
        have bX : ∀ j, j < M → bitV X j = if A ≤ j ∧ j < E then a3 else bitV xs0 j := by rw [hX]; exact fun j hj => Vx.out.fillBit A E a3 j hj
        rw [← hX] at HR
        have VX := Lib.hid vX
        have BX := Lib.hid bX
        clear hX vX bX
        go_upto_region 4 with fail
        obtain ⟨g11, W11, e1, e2, hB, -, hq⟩ := boxed Hb.out (M : Int) b11 l11 c11 X HR.out
        rw [e2, e1]
        have HBX := Lib.hid hB
        clear e1 e2 hB
        have HX' := Lib.hid (HX.out.below hq)
        have HO' := Lib.hid (HO.out.below hq (Nat.le_refl _))
        have HR' := Lib.hid (HR.out.below hq (Nat.le_refl _))
        have Hb' := Lib.hid (Hb.out.trans (hq.mono Hb.out.size))
        clear hq  Hb HX HO HR
        have HX := HX'
        have HO := HO'
        have HR := HR'
        have Hb := Hb'
        clear HX' HO' HR' Hb'
        have H11 := HBX
        clear HBX
        clear HR
        have q0 : W11.cell? ⟨g0, 0, none⟩ = some (.int .i64 (M : Int)) := HX.out.blk.cell 0
        have q1 : W11.cell? ⟨g0, 1, none⟩ = some (.slice a0 len0 cap0) := HX.out.blk.cell 1
        have r0 : W11.cell? ⟨g11, 0, none⟩ = some (.int .i64 (M : Int)) := H11.out.blk.cell 0
        have r1 : W11.cell? ⟨g11, 1, none⟩ = some (.slice b11 l11 c11) := H11.out.blk.cell 1
        go_wp2_with fail
        refine (check_any (M : Int) b11 l11 c11 X W11 H11.out.rd (by omega) (by omega)).mono ?_
        rintro e u3 ⟨rfl, hb⟩
        have HX' := Lib.hid (HX.out.below hb)
        have HO' := Lib.hid (HO.out.below hb (Nat.le_refl _))
        have H11' := Lib.hid (H11.out.below hb)
        have Hb' := Lib.hid (Hb.out.trans (hb.mono Hb.out.size))
        clear hb q0 q1 r0 r1 Hb HX HO H11
        have HX := HX'
        have HO := HO'
        have H11 := H11'
        have Hb := Hb'
        clear HX' HO' H11' Hb'
        rw [show chkE (M : Int) X = 0 from by unfold chkE; rw [VX.out.valid]; rfl]
        have q0 : u3.cell? ⟨g0, 0, none⟩ = some (.int .i64 (M : Int)) := HX.out.blk.cell 0
        have q1 : u3.cell? ⟨g0, 1, none⟩ = some (.slice a0 len0 cap0) := HX.out.blk.cell 1
        have r0 : u3.cell? ⟨g11, 0, none⟩ = some (.int .i64 (M : Int)) := H11.out.blk.cell 0
        have r1 : u3.cell? ⟨g11, 1, none⟩ = some (.slice b11 l11 c11) := H11.out.blk.cell 1
        go_wp2_with fail
        clear q0 q1 r0 r1
        go_loopw [13] (fun p wr => ∃ k : Nat, p = .int .i64 (k : Int) ∧ k ≤ M ∧ Bx wr g0 (M : Int) a0 len0 cap0 xs0 ∧ Bx wr g11 (M : Int) b11 l11 c11 X ∧ Ones wr ∧ Below w.heap.size w wr) (fun p _ => M - (intOf p).toNat)
        case atStart => exact ⟨0, rfl, Nat.zero_le _, HX.out, H11.out, HO.out, Hb.out⟩
        case round =>
          obtain ⟨k, rfl, hk, hX1, hX2, hX3, hX4⟩ := hrel
          clear HX H11 HO Hb
          have HX := Lib.hid hX1
          have H11 := Lib.hid hX2
          have HO := Lib.hid hX3
          have Hb := Lib.hid hX4
          clear hX1 hX2 hX3 hX4
          have q0 : wr.cell? ⟨g0, 0, none⟩ = some (.int .i64 (M : Int)) := HX.out.blk.cell 0
          have q1 : wr.cell? ⟨g0, 1, none⟩ = some (.slice a0 len0 cap0) := HX.out.blk.cell 1
          have r0 : wr.cell? ⟨g11, 0, none⟩ = some (.int .i64 (M : Int)) := H11.out.blk.cell 0
          have r1 : wr.cell? ⟨g11, 1, none⟩ = some (.slice b11 l11 c11) := H11.out.blk.cell 1
          by_cases hlt : k < M
          · have hki : (k : Int) < (M : Int) := by omega
            have Bk := Lib.hid (BX.out k hlt)
            obtain ⟨B1, hB1⟩ : ∃ B1, B1 = bitV xs0 k := ⟨_, rfl⟩
            obtain ⟨B2, hB2⟩ : ∃ B2, B2 = bitV X k := ⟨_, rfl⟩
            have HB1 := Lib.hid hB1
            have HB2 := Lib.hid hB2
            clear hB1 hB2
            go_wp2_with fail
            refine (get_ok M a0 len0 cap0 xs0 k wr HX.out.rd Vx.out hlt).mono ?_
            rintro e u4 ⟨rfl, hb⟩
            rw [← HB1.out]
            have HX' := Lib.hid (HX.out.below hb)
            have HO' := Lib.hid (HO.out.below hb (Nat.le_refl _))
            have H11' := Lib.hid (H11.out.below hb)
            have Hb' := Lib.hid (Hb.out.trans (hb.mono Hb.out.size))
            clear hb q0 q1 r0 r1 Hb HX HO H11
            have HX := HX'
            have HO := HO'
            have H11 := H11'
            have Hb := Hb'
            clear HX' HO' H11' Hb'
            have q0 : u4.cell? ⟨g0, 0, none⟩ = some (.int .i64 (M : Int)) := HX.out.blk.cell 0
            have q1 : u4.cell? ⟨g0, 1, none⟩ = some (.slice a0 len0 cap0) := HX.out.blk.cell 1
            have r0 : u4.cell? ⟨g11, 0, none⟩ = some (.int .i64 (M : Int)) := H11.out.blk.cell 0
            have r1 : u4.cell? ⟨g11, 1, none⟩ = some (.slice b11 l11 c11) := H11.out.blk.cell 1
            go_wp2_with fail
            refine (get_ok M b11 l11 c11 X k u4 H11.out.rd VX.out hlt).mono ?_
            rintro e u5 ⟨rfl, hb⟩
            rw [← HB2.out]
            have HX' := Lib.hid (HX.out.below hb)
            have HO' := Lib.hid (HO.out.below hb (Nat.le_refl _))
            have H11' := Lib.hid (H11.out.below hb)
            have Hb' := Lib.hid (Hb.out.trans (hb.mono Hb.out.size))
            clear hb q0 q1 r0 r1 Hb HX HO H11
            have HX := HX'
            have HO := HO'
            have H11 := H11'
            have Hb := Hb'
            clear HX' HO' H11' Hb'
            have hBk := Bk.out
            rw [← HB2.out, ← HB1.out] at hBk
            clear Bk HB1 HB2
            have eAm : IntKind.i64.wrap ((A : Int) + (m : Int)) = (E : Int) := by rw [show (A : Int) + (m : Int) = (E : Int) by omega]; exact IntWalk.i64_in _ (by omega)
            by_cases h1 : A ≤ k
            · by_cases h2 : k < E
              · rw [if_pos ⟨h1, h2⟩] at hBk
                subst hBk
                have h1i : (A : Int) ≤ (k : Int) := by omega
                have h2i : (k : Int) < (E : Int) := by omega
                go_wp2_with fail
                go_roundw
                case rel => exact ⟨k + 1, by go_num, by omega, HX.out, H11.out, HO.out, Hb.out⟩
                case measure => simp only [intOf]; omega
              · rw [if_neg (by omega)] at hBk
                subst hBk
                have h1i : (A : Int) ≤ (k : Int) := by omega
                have h2i : (E : Int) ≤ (k : Int) := by omega
                go_wp2_with fail
                go_roundw
                case rel => exact ⟨k + 1, by go_num, by omega, HX.out, H11.out, HO.out, Hb.out⟩
                case measure => simp only [intOf]; omega
            · rw [if_neg (by omega)] at hBk
              subst hBk
              have h1i : (k : Int) < (A : Int) := by omega
              go_wp2_with fail
              go_roundw
              case rel => exact ⟨k + 1, by go_num, by omega, HX.out, H11.out, HO.out, Hb.out⟩
              case measure => simp only [intOf]; omega
          · have hkM : ¬ ((k : Int) < (M : Int)) := by omega
            by_cases hc1 : a4 < 0
            · go_wp2_with fail
              refine (sane_any wr HO.out).mono ?_
              rintro e u4 ⟨rfl, hb⟩
              have HX' := Lib.hid (HX.out.below hb)
              have HO' := Lib.hid (HO.out.below hb (Nat.le_refl _))
              have H11' := Lib.hid (H11.out.below hb)
              have Hb' := Lib.hid (Hb.out.trans (hb.mono Hb.out.size))
              clear hb q0 q1 r0 r1 Hb HX HO H11
              have HX := HX'
              have HO := HO'
              have H11 := H11'
              have Hb := Hb'
              clear HX' HO' H11' Hb'
              go_wp2_with fail
              go_ret
              exact ⟨rfl, Hb.out⟩
            by_cases hc2 : (m : Int) < a4
            · go_wp2_with fail
              refine (sane_any wr HO.out).mono ?_
              rintro e u4 ⟨rfl, hb⟩
              have HX' := Lib.hid (HX.out.below hb)
              have HO' := Lib.hid (HO.out.below hb (Nat.le_refl _))
              have H11' := Lib.hid (H11.out.below hb)
              have Hb' := Lib.hid (Hb.out.trans (hb.mono Hb.out.size))
              clear hb q0 q1 r0 r1 Hb HX HO H11
              have HX := HX'
              have HO := HO'
              have H11 := H11'
              have Hb := Hb'
              clear HX' HO' H11' Hb'
              go_wp2_with fail
              go_ret
              exact ⟨rfl, Hb.out⟩
            obtain ⟨cu, rfl⟩ : ∃ cu : Nat, a4 = (cu : Int) := ⟨a4.toNat, by omega⟩
            obtain ⟨B, hB⟩ : ∃ B : Nat, B = A + cu := ⟨_, rfl⟩
            obtain ⟨D, hD⟩ : ∃ D : Nat, D + cu = m := ⟨m - cu, by omega⟩
            have hDi : IntKind.i64.wrap ((m : Int) - (cu : Int)) = (D : Int) := by rw [show (m : Int) - (cu : Int) = (D : Int) by omega]; exact IntWalk.i64_in _ (by omega)
            have hBE : B + D = E := by omega
            have hBM : B ≤ M := by omega
            have hc3 : (cu : Int) ≤ (m : Int) := by omega
            have hsp := cntV_split xs0 A B E (by omega) (by omega)
            have k0 := cnt_le xs0 A E
            have k1 := cnt_le xs0 A B
            have k2 := cnt_le xs0 B E
            have C1 := Lib.hid (fun w h h2 => count_ok M a0 len0 cap0 xs0 w h A m E Vx.out hE hEM h2)
            have C2 := Lib.hid (fun w h h2 => count_ok M a0 len0 cap0 xs0 w h A cu B Vx.out hB hBM h2)
            have C3 : Hid (∀ w, Rd w a0 len0 cap0 xs0 → Ones w → Calls Tryd.prog 16 #[.agg #[.int .i64 (M : Int), .slice a0 len0 cap0], .int .i64 ((A : Int) + (cu : Int)), .int .i64 (D : Int)] w fun e' w' => e' = .returned (.tuple #[.int .i64 (cntV xs0 B E : Int), .int .i64 0]) ∧ Below w.heap.size w w') := Lib.hid (fun w h h2 => by
              rw [show (A : Int) + (cu : Int) = (B : Int) by omega]
              exact count_ok M a0 len0 cap0 xs0 w h B D E Vx.out (by omega) hEM h2)
            obtain ⟨n0, hn0⟩ : ∃ n, n = cntV xs0 A E := ⟨_, rfl⟩
            obtain ⟨n1, hn1⟩ : ∃ n, n = cntV xs0 A B := ⟨_, rfl⟩
            obtain ⟨n2, hn2⟩ : ∃ n, n = cntV xs0 B E := ⟨_, rfl⟩
            rw [← hn0] at C1 hsp k0
            rw [← hn1] at C2 hsp k1
            rw [← hn2] at C3 hsp k2
            have hsum : IntKind.i64.wrap ((n1 : Int) + (n2 : Int)) = (n0 : Int) := by rw [show (n1 : Int) + (n2 : Int) = (n0 : Int) by omega]; exact IntWalk.i64_in _ (by omega)
            have hsum2 : (n1 : Int) + (n2 : Int) = (n0 : Int) := by omega
            clear hn0 hn1 hn2 hsp
            go_wp2_with fail
            refine (C1.out wr HX.out.rd HO.out).mono ?_
            rintro e u4 ⟨rfl, hb⟩
            have HX' := Lib.hid (HX.out.below hb)
            have HO' := Lib.hid (HO.out.below hb (Nat.le_refl _))
            have H11' := Lib.hid (H11.out.below hb)
            have Hb' := Lib.hid (Hb.out.trans (hb.mono Hb.out.size))
            clear hb q0 q1 r0 r1 Hb HX HO H11
            have HX := HX'
            have HO := HO'
            have H11 := H11'
            have Hb := Hb'
            clear HX' HO' H11' Hb'
            have q0 : u4.cell? ⟨g0, 0, none⟩ = some (.int .i64 (M : Int)) := HX.out.blk.cell 0
            have q1 : u4.cell? ⟨g0, 1, none⟩ = some (.slice a0 len0 cap0) := HX.out.blk.cell 1
            go_wp2_with fail
            refine (C2.out u4 HX.out.rd HO.out).mono ?_
            rintro e u5 ⟨rfl, hb⟩
            have HX' := Lib.hid (HX.out.below hb)
            have HO' := Lib.hid (HO.out.below hb (Nat.le_refl _))
            have H11' := Lib.hid (H11.out.below hb)
            have Hb' := Lib.hid (Hb.out.trans (hb.mono Hb.out.size))
            clear hb q0 q1 Hb HX HO H11
            have HX := HX'
            have HO := HO'
            have H11 := H11'
            have Hb := Hb'
            clear HX' HO' H11' Hb'
            have q0 : u5.cell? ⟨g0, 0, none⟩ = some (.int .i64 (M : Int)) := HX.out.blk.cell 0
            have q1 : u5.cell? ⟨g0, 1, none⟩ = some (.slice a0 len0 cap0) := HX.out.blk.cell 1
            go_wp2_with fail
            refine (C3.out u5 HX.out.rd HO.out).mono ?_
            rintro e u6 ⟨rfl, hb⟩
            have HX' := Lib.hid (HX.out.below hb)
            have HO' := Lib.hid (HO.out.below hb (Nat.le_refl _))
            have H11' := Lib.hid (H11.out.below hb)
            have Hb' := Lib.hid (Hb.out.trans (hb.mono Hb.out.size))
            clear hb q0 q1 Hb HX HO H11
            have HX := HX'
            have HO := HO'
            have H11 := H11'
            have Hb := Hb'
            clear HX' HO' H11' Hb'
            go_wp2_with fail
            refine (sane_any u6 HO.out).mono ?_
            rintro e u7 ⟨rfl, hb⟩
            have HX' := Lib.hid (HX.out.below hb)
            have HO' := Lib.hid (HO.out.below hb (Nat.le_refl _))
            have H11' := Lib.hid (H11.out.below hb)
            have Hb' := Lib.hid (Hb.out.trans (hb.mono Hb.out.size))
            clear hb  Hb HX HO H11
            have HX := HX'
            have HO := HO'
            have H11 := H11'
            have Hb := Hb'
            clear HX' HO' H11' Hb'
            go_wp2_with fail
            go_ret
            exact ⟨rfl, Hb.out⟩
end Go.Proofs.YthognmkjoekilaaDoor.bitsRanges

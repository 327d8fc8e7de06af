/- What the statement BitsMatches calls answers true, for every input that its walk is handed. -/
import Derived.Test.YthognmkjoekilaaDoorRows
import Derived.WalkKit
import Derived.ProofKit
import Derived.OpenShut
import Derived.ShutString
import Derived.ChangeOld
import Derived.Below
import Derived.SizedLaws
import Derived.Test.YthognmkjoekilaaDoorBis
import Derived.Test.YthognmkjoekilaaDoorBrset
import Derived.Test.YthognmkjoekilaaDoorBrcnt
namespace Go.Proofs.YthognmkjoekilaaDoor.bitsMatches
open Go.ChangeShapes Go.WideShapes Go.ChangeAt Go.RowKit
open Go.ChangeMaps (open_string shut_string)
set_option linter.unusedVariables false


set_option maxRecDepth 100000 in
set_option maxHeartbeats 8000000 in
theorem walk (N0 : Int) (a0 : Option Addr) (len0 cap0 : Nat) (xs0 : List Int) (a1 : Int) (a2 : Int) (a3 : Bool) (w : World) (w0 : (Rd w a0 len0 cap0 xs0 ∧ cap0 ≤ 140737488351232) ∧ (-9223372036854775808 ≤ N0 ∧ N0 ≤ 9223372036854775807)) (w1 : (Lit.int .i64 a1).wf = true) (w2 : (Lit.int .i64 a2).wf = true) (ho : Ones w) :
    Calls Tryd.prog 3 #[.agg #[.int .i64 N0, .slice a0 len0 cap0], .int .i64 a1, .int .i64 a2, .bool a3] w fun e w' => e = .returned (.bool true) ∧ Below w.heap.size w w' := by
  have hwf1 := wf_i64 w1
  have hwf2 := wf_i64 w2
  clear w1 w2
  have HO := Lib.hid ho
  have HX := Lib.hid w0.1.1
  have hN0 := w0.2
  have hc0 := w0.1.2
  have hl0 := w0.1.1.hc
  clear w0 ho
  obtain ⟨g0, V, e0, eV, hBx, hb, -⟩ := boxed (Below.refl _ w) N0 a0 len0 cap0 xs0 HX.out
  have HEV := Lib.hid eV
  have HE0 := Lib.hid e0
  have HX' := Lib.hid hBx
  have HO' := Lib.hid (HO.out.below hb (Nat.le_refl _))
  have Hb := Lib.hid hb
  clear HX HO e0 eV hBx hb
  have HX := HX'
  have HO := HO'
  clear HX' HO'
  obtain ⟨F, hF⟩ : ∃ F, F = fewV N0 len0 := ⟨_, rfl⟩
  obtain ⟨V0, hV0⟩ : ∃ V, V = validB N0 xs0 := ⟨_, rfl⟩
  have HF := Lib.hid hF
  have HV0 := Lib.hid hV0
  clear hF hV0
  cases F with
  | false =>
    go_enter Tryd.func3, Tryd.ntmps3
    go_upto_region 1 with fail
    rw [HEV.out, HE0.out]
    clear HEV HE0
    have q0 : V.cell? ⟨g0, 0, none⟩ = some (.int .i64 N0) := HX.out.blk.cell 0
    have q1 : V.cell? ⟨g0, 1, none⟩ = some (.slice a0 len0 cap0) := HX.out.blk.cell 1
    go_wp2_with fail
    obtain ⟨WS, hWS⟩ : ∃ WS, WS = V.alloc (.cells #[.int .i64 N0, .slice a0 len0 cap0] 24) := ⟨_, rfl⟩
    have hbS : Below V.heap.size V WS := by rw [hWS]; exact (Below.refl _ V).alloc (Nat.le_refl _) _
    have hBS : Blk WS V.heap.size 24 #[.int .i64 N0, .slice a0 len0 cap0] := by rw [hWS]; exact heap_new V _
    rw [← hWS]
    refine (few1_any _ N0 a0 len0 cap0 WS hBS).mono ?_
    rintro e u0 ⟨rfl, rfl⟩
    rw [← HF.out]
    clear hBS hWS
    have HX' := Lib.hid (HX.out.below hbS)
    have HO' := Lib.hid (HO.out.below hbS (Nat.le_refl _))
    have Hb' := Lib.hid (Hb.out.trans (hbS.mono Hb.out.size))
    clear hbS q0 q1 Hb HX HO
    have HX := HX'
    have HO := HO'
    have Hb := Hb'
    clear HX' HO' Hb'
    have q0 : WS.cell? ⟨g0, 0, none⟩ = some (.int .i64 N0) := HX.out.blk.cell 0
    have q1 : WS.cell? ⟨g0, 1, none⟩ = some (.slice a0 len0 cap0) := HX.out.blk.cell 1
    go_wp2_with fail
    refine (sane_any WS HO.out).mono ?_
    rintro e u1 ⟨rfl, hb⟩
    have HX' := Lib.hid (HX.out.below hb)
    have HO' := Lib.hid (HO.out.below hb (Nat.le_refl _))
    have Hb' := Lib.hid (Hb.out.trans (hb.mono Hb.out.size))
    clear hb q0 q1 Hb HX HO
    have HX := HX'
    have HO := HO'
    have Hb := Hb'
    clear HX' HO' Hb'
    go_wp2_with fail
    go_ret
    exact ⟨rfl, Hb.out⟩
  | true =>
    cases V0 with
    | false =>
      go_enter Tryd.func3, Tryd.ntmps3
      go_upto_region 1 with fail
      rw [HEV.out, HE0.out]
      clear HEV HE0
      have q0 : V.cell? ⟨g0, 0, none⟩ = some (.int .i64 N0) := HX.out.blk.cell 0
      have q1 : V.cell? ⟨g0, 1, none⟩ = some (.slice a0 len0 cap0) := HX.out.blk.cell 1
      go_wp2_with fail
      obtain ⟨WS, hWS⟩ : ∃ WS, WS = V.alloc (.cells #[.int .i64 N0, .slice a0 len0 cap0] 24) := ⟨_, rfl⟩
      have hbS : Below V.heap.size V WS := by rw [hWS]; exact (Below.refl _ V).alloc (Nat.le_refl _) _
      have hBS : Blk WS V.heap.size 24 #[.int .i64 N0, .slice a0 len0 cap0] := by rw [hWS]; exact heap_new V _
      rw [← hWS]
      refine (few1_any _ N0 a0 len0 cap0 WS hBS).mono ?_
      rintro e u0 ⟨rfl, rfl⟩
      rw [← HF.out]
      clear hBS hWS
      have HX' := Lib.hid (HX.out.below hbS)
      have HO' := Lib.hid (HO.out.below hbS (Nat.le_refl _))
      have Hb' := Lib.hid (Hb.out.trans (hbS.mono Hb.out.size))
      clear hbS q0 q1 Hb HX HO
      have HX := HX'
      have HO := HO'
      have Hb := Hb'
      clear HX' HO' Hb'
      have q0 : WS.cell? ⟨g0, 0, none⟩ = some (.int .i64 N0) := HX.out.blk.cell 0
      have q1 : WS.cell? ⟨g0, 1, none⟩ = some (.slice a0 len0 cap0) := HX.out.blk.cell 1
      go_wp2_with fail
      refine (get_bad N0 a0 len0 cap0 xs0 a1 WS HX.out.rd (by omega) (by omega) (by omega) (by omega) HV0.out.symm).mono ?_
      rintro e u1 ⟨rfl, hb⟩
      have HX' := Lib.hid (HX.out.below hb)
      have HO' := Lib.hid (HO.out.below hb (Nat.le_refl _))
      have Hb' := Lib.hid (Hb.out.trans (hb.mono Hb.out.size))
      clear hb q0 q1 Hb HX HO
      have HX := HX'
      have HO := HO'
      have Hb := Hb'
      clear HX' HO' Hb'
      have q0 : u1.cell? ⟨g0, 0, none⟩ = some (.int .i64 N0) := HX.out.blk.cell 0
      have q1 : u1.cell? ⟨g0, 1, none⟩ = some (.slice a0 len0 cap0) := HX.out.blk.cell 1
      go_wp2_with fail
      refine (set_bad N0 a0 len0 cap0 xs0 u1 HX.out.rd (by omega) (by omega) a1 a2 a3 (by omega) (by omega) HV0.out.symm).mono ?_
      rintro e u2 ⟨rfl, hb⟩
      have HX' := Lib.hid (HX.out.below hb)
      have HO' := Lib.hid (HO.out.below hb (Nat.le_refl _))
      have Hb' := Lib.hid (Hb.out.trans (hb.mono Hb.out.size))
      clear hb q0 q1 Hb HX HO
      have HX := HX'
      have HO := HO'
      have Hb := Hb'
      clear HX' HO' Hb'
      go_upto_region 5 with fail
      obtain ⟨g11, W11, e1, e2, hB, -, hq⟩ := boxed Hb.out 0 none 0 0 [] (Rd.nil u2)
      rw [e2, e1]
      have HBX := Lib.hid hB
      clear e1 e2 hB
      have HX' := Lib.hid (HX.out.below hq)
      have HO' := Lib.hid (HO.out.below hq (Nat.le_refl _))
      have Hb' := Lib.hid (Hb.out.trans (hq.mono Hb.out.size))
      clear hq  Hb HX HO
      have HX := HX'
      have HO := HO'
      have Hb := Hb'
      clear HX' HO' Hb'
      have H11 := HBX
      clear HBX
      have q0 : W11.cell? ⟨g0, 0, none⟩ = some (.int .i64 N0) := HX.out.blk.cell 0
      have q1 : W11.cell? ⟨g0, 1, none⟩ = some (.slice a0 len0 cap0) := HX.out.blk.cell 1
      have r0 : W11.cell? ⟨g11, 0, none⟩ = some (.int .i64 0) := H11.out.blk.cell 0
      have r1 : W11.cell? ⟨g11, 1, none⟩ = some (.slice none 0 0) := H11.out.blk.cell 1
      go_wp2_with fail
      refine (count_bad N0 a0 len0 cap0 xs0 W11 HX.out.rd (by omega) (by omega) a1 a2 (by omega) (by omega) HV0.out.symm).mono ?_
      rintro e u3 ⟨rfl, hb⟩
      have HX' := Lib.hid (HX.out.below hb)
      have HO' := Lib.hid (HO.out.below hb (Nat.le_refl _))
      have H11' := Lib.hid (H11.out.below hb)
      have Hb' := Lib.hid (Hb.out.trans (hb.mono Hb.out.size))
      clear hb q0 q1 r0 r1 Hb HX HO H11
      have HX := HX'
      have HO := HO'
      have H11 := H11'
      have Hb := Hb'
      clear HX' HO' H11' Hb'
      have q0 : u3.cell? ⟨g0, 0, none⟩ = some (.int .i64 N0) := HX.out.blk.cell 0
      have q1 : u3.cell? ⟨g0, 1, none⟩ = some (.slice a0 len0 cap0) := HX.out.blk.cell 1
      have r0 : u3.cell? ⟨g11, 0, none⟩ = some (.int .i64 0) := H11.out.blk.cell 0
      have r1 : u3.cell? ⟨g11, 1, none⟩ = some (.slice none 0 0) := H11.out.blk.cell 1
      go_wp2_with fail
      refine (right_any N0 a0 len0 cap0 xs0 u3 HX.out.rd (by omega) (by omega) (by omega)).mono ?_
      rintro e u4 ⟨rfl, hb⟩
      have HX' := Lib.hid (HX.out.below hb)
      have HO' := Lib.hid (HO.out.below hb (Nat.le_refl _))
      have H11' := Lib.hid (H11.out.below hb)
      have Hb' := Lib.hid (Hb.out.trans (hb.mono Hb.out.size))
      clear hb q0 q1 r0 r1 Hb HX HO H11
      have HX := HX'
      have HO := HO'
      have H11 := H11'
      have Hb := Hb'
      clear HX' HO' H11' Hb'
      rw [← HV0.out]
      have q0 : u4.cell? ⟨g0, 0, none⟩ = some (.int .i64 N0) := HX.out.blk.cell 0
      have q1 : u4.cell? ⟨g0, 1, none⟩ = some (.slice a0 len0 cap0) := HX.out.blk.cell 1
      have r0 : u4.cell? ⟨g11, 0, none⟩ = some (.int .i64 0) := H11.out.blk.cell 0
      have r1 : u4.cell? ⟨g11, 1, none⟩ = some (.slice none 0 0) := H11.out.blk.cell 1
      go_wp2_with fail
      refine (sane_any u4 HO.out).mono ?_
      rintro e u5 ⟨rfl, hb⟩
      have HX' := Lib.hid (HX.out.below hb)
      have HO' := Lib.hid (HO.out.below hb (Nat.le_refl _))
      have H11' := Lib.hid (H11.out.below hb)
      have Hb' := Lib.hid (Hb.out.trans (hb.mono Hb.out.size))
      clear hb q0 q1 r0 r1 Hb HX HO H11
      have HX := HX'
      have HO := HO'
      have H11 := H11'
      have Hb := Hb'
      clear HX' HO' H11' Hb'
      have q0 : u5.cell? ⟨g0, 0, none⟩ = some (.int .i64 N0) := HX.out.blk.cell 0
      have q1 : u5.cell? ⟨g0, 1, none⟩ = some (.slice a0 len0 cap0) := HX.out.blk.cell 1
      have r0 : u5.cell? ⟨g11, 0, none⟩ = some (.int .i64 0) := H11.out.blk.cell 0
      have r1 : u5.cell? ⟨g11, 1, none⟩ = some (.slice none 0 0) := H11.out.blk.cell 1
      go_wp2_with fail
      refine (check_any N0 a0 len0 cap0 xs0 u5 HX.out.rd (by omega) (by omega)).mono ?_
      rintro e u6 ⟨rfl, hb⟩
      have HX' := Lib.hid (HX.out.below hb)
      have HO' := Lib.hid (HO.out.below hb (Nat.le_refl _))
      have H11' := Lib.hid (H11.out.below hb)
      have Hb' := Lib.hid (Hb.out.trans (hb.mono Hb.out.size))
      clear hb q0 q1 r0 r1 Hb HX HO H11
      have HX := HX'
      have HO := HO'
      have H11 := H11'
      have Hb := Hb'
      clear HX' HO' H11' Hb'
      rw [show chkE N0 xs0 = 9 from by unfold chkE; rw [← HV0.out]; rfl]
      have q0 : u6.cell? ⟨g0, 0, none⟩ = some (.int .i64 N0) := HX.out.blk.cell 0
      have q1 : u6.cell? ⟨g0, 1, none⟩ = some (.slice a0 len0 cap0) := HX.out.blk.cell 1
      have r0 : u6.cell? ⟨g11, 0, none⟩ = some (.int .i64 0) := H11.out.blk.cell 0
      have r1 : u6.cell? ⟨g11, 1, none⟩ = some (.slice none 0 0) := H11.out.blk.cell 1
      go_wp2_with fail
      refine (none_zero u6).mono ?_
      rintro e u7 ⟨rfl, hb⟩
      have HX' := Lib.hid (HX.out.below hb)
      have HO' := Lib.hid (HO.out.below hb (Nat.le_refl _))
      have H11' := Lib.hid (H11.out.below hb)
      have Hb' := Lib.hid (Hb.out.trans (hb.mono Hb.out.size))
      clear hb q0 q1 r0 r1 Hb HX HO H11
      have HX := HX'
      have HO := HO'
      have H11 := H11'
      have Hb := Hb'
      clear HX' HO' H11' Hb'
      go_wp2_with fail
      go_ret
      exact ⟨rfl, Hb.out⟩
    | true =>
      obtain ⟨M, rfl, vx⟩ := Vb.of HX.out.rd.hb HV0.out.symm
      have hM := vx.le
      have hlen8 := vx.len
      have hrl8 := HX.out.rd.hl
      have Vx := Lib.hid vx
      have hM8 : M ≤ 8 * len0 := by omega
      clear vx hlen8 hrl8
      obtain ⟨Q, hQ⟩ : ∃ Q, Q = withinV (M : Int) a1 a2 := ⟨_, rfl⟩
      have hQt : Q = true → 0 ≤ a1 ∧ 0 ≤ a2 ∧ a1 ≤ (M : Int) ∧ a2 ≤ (M : Int) - a1 := fun h => by rw [h] at hQ; unfold withinV at hQ; simpa using hQ.symm
      have hQf : Q = false → ¬ (0 ≤ a1 ∧ 0 ≤ a2 ∧ a2 ≤ (M : Int) - a1) := fun h => by rw [h] at hQ; unfold withinV at hQ; intro hh; have := of_decide_eq_false hQ.symm; omega
      have HQ := Lib.hid hQ
      clear hQ
      by_cases cI : 0 ≤ a1 ∧ a1 < (M : Int)
      · cases Q with
        | true =>
          obtain ⟨k1, k2, k3, k4⟩ := hQt rfl
          obtain ⟨A, rfl⟩ : ∃ A : Nat, a1 = (A : Int) := ⟨a1.toNat, by omega⟩
          obtain ⟨m, rfl⟩ : ∃ m : Nat, a2 = (m : Int) := ⟨a2.toNat, by omega⟩
          obtain ⟨E, hE⟩ : ∃ E : Nat, E = A + m := ⟨_, rfl⟩
          have hEM : E ≤ M := by omega
          obtain ⟨n0, hn0⟩ : ∃ n, n = cntV xs0 A E := ⟨_, rfl⟩
          have Hn0 := Lib.hid hn0
          clear hn0 hQt hQf k1 k2 k3 k4
          have hAM : A < M := by omega
          have hA8 : A < 8 * len0 := by omega
          have hAMi : (A : Int) < (M : Int) := by omega
          obtain ⟨B1, hB1⟩ : ∃ B1, B1 = bitV xs0 A := ⟨_, rfl⟩
          have HB1 := Lib.hid hB1
          clear hB1 cI
          go_enter Tryd.func3, Tryd.ntmps3
          go_upto_region 1 with fail
          rw [HEV.out, HE0.out]
          clear HEV HE0
          have q0 : V.cell? ⟨g0, 0, none⟩ = some (.int .i64 (M : Int)) := HX.out.blk.cell 0
          have q1 : V.cell? ⟨g0, 1, none⟩ = some (.slice a0 len0 cap0) := HX.out.blk.cell 1
          go_wp2_with fail
          obtain ⟨WS, hWS⟩ : ∃ WS, WS = V.alloc (.cells #[.int .i64 (M : Int), .slice a0 len0 cap0] 24) := ⟨_, rfl⟩
          have hbS : Below V.heap.size V WS := by rw [hWS]; exact (Below.refl _ V).alloc (Nat.le_refl _) _
          have hBS : Blk WS V.heap.size 24 #[.int .i64 (M : Int), .slice a0 len0 cap0] := by rw [hWS]; exact heap_new V _
          rw [← hWS]
          refine (few1_any _ (M : Int) a0 len0 cap0 WS hBS).mono ?_
          rintro e u0 ⟨rfl, rfl⟩
          rw [← HF.out]
          clear hBS hWS
          have HX' := Lib.hid (HX.out.below hbS)
          have HO' := Lib.hid (HO.out.below hbS (Nat.le_refl _))
          have Hb' := Lib.hid (Hb.out.trans (hbS.mono Hb.out.size))
          clear hbS q0 q1 Hb HX HO
          have HX := HX'
          have HO := HO'
          have Hb := Hb'
          clear HX' HO' Hb'
          have q0 : WS.cell? ⟨g0, 0, none⟩ = some (.int .i64 (M : Int)) := HX.out.blk.cell 0
          have q1 : WS.cell? ⟨g0, 1, none⟩ = some (.slice a0 len0 cap0) := HX.out.blk.cell 1
          go_wp2_with fail
          refine (get_ok M a0 len0 cap0 xs0 A WS HX.out.rd Vx.out hAM).mono ?_
          rintro e u1 ⟨rfl, hb⟩
          have HX' := Lib.hid (HX.out.below hb)
          have HO' := Lib.hid (HO.out.below hb (Nat.le_refl _))
          have Hb' := Lib.hid (Hb.out.trans (hb.mono Hb.out.size))
          clear hb q0 q1 Hb HX HO
          have HX := HX'
          have HO := HO'
          have Hb := Hb'
          clear HX' HO' Hb'
          rw [← HB1.out]
          have q0 : u1.cell? ⟨g0, 0, none⟩ = some (.int .i64 (M : Int)) := HX.out.blk.cell 0
          have q1 : u1.cell? ⟨g0, 1, none⟩ = some (.slice a0 len0 cap0) := HX.out.blk.cell 1
          go_wp2_with fail
          refine (set_is M a0 len0 cap0 xs0 u1 HX.out.rd A m E a3 Vx.out hE hEM).mono ?_
          rintro e u2 ⟨b11, l11, c11, X11, rfl, hw, hi, hb⟩
          have HR := Lib.hid hw
          have I11 := Lib.hid hi
          clear hw hi
          have HX' := Lib.hid (HX.out.below hb)
          have HO' := Lib.hid (HO.out.below hb (Nat.le_refl _))
          have Hb' := Lib.hid (Hb.out.trans (hb.mono Hb.out.size))
          clear hb q0 q1 Hb HX HO
          have HX := HX'
          have HO := HO'
          have Hb := Hb'
          clear HX' HO' Hb'
          go_upto_region 5 with fail
          obtain ⟨g11, W11, e1, e2, hB, -, hq⟩ := boxed Hb.out (M : Int) b11 l11 c11 X11 HR.out
          rw [e2, e1]
          have HBX := Lib.hid hB
          clear e1 e2 hB
          have HX' := Lib.hid (HX.out.below hq)
          have HO' := Lib.hid (HO.out.below hq (Nat.le_refl _))
          have HR' := Lib.hid (HR.out.below hq (Nat.le_refl _))
          have Hb' := Lib.hid (Hb.out.trans (hq.mono Hb.out.size))
          clear hq  Hb HX HO HR
          have HX := HX'
          have HO := HO'
          have HR := HR'
          have Hb := Hb'
          clear HX' HO' HR' Hb'
          have H11 := HBX
          clear HBX
          clear HR
          have q0 : W11.cell? ⟨g0, 0, none⟩ = some (.int .i64 (M : Int)) := HX.out.blk.cell 0
          have q1 : W11.cell? ⟨g0, 1, none⟩ = some (.slice a0 len0 cap0) := HX.out.blk.cell 1
          have r0 : W11.cell? ⟨g11, 0, none⟩ = some (.int .i64 (M : Int)) := H11.out.blk.cell 0
          have r1 : W11.cell? ⟨g11, 1, none⟩ = some (.slice b11 l11 c11) := H11.out.blk.cell 1
          go_wp2_with fail
          refine (count_ok M a0 len0 cap0 xs0 W11 HX.out.rd A m E Vx.out hE hEM HO.out).mono ?_
          rintro e u3 ⟨rfl, hb⟩
          have HX' := Lib.hid (HX.out.below hb)
          have HO' := Lib.hid (HO.out.below hb (Nat.le_refl _))
          have H11' := Lib.hid (H11.out.below hb)
          have Hb' := Lib.hid (Hb.out.trans (hb.mono Hb.out.size))
          clear hb q0 q1 r0 r1 Hb HX HO H11
          have HX := HX'
          have HO := HO'
          have H11 := H11'
          have Hb := Hb'
          clear HX' HO' H11' Hb'
          rw [← Hn0.out]
          have q0 : u3.cell? ⟨g0, 0, none⟩ = some (.int .i64 (M : Int)) := HX.out.blk.cell 0
          have q1 : u3.cell? ⟨g0, 1, none⟩ = some (.slice a0 len0 cap0) := HX.out.blk.cell 1
          have r0 : u3.cell? ⟨g11, 0, none⟩ = some (.int .i64 (M : Int)) := H11.out.blk.cell 0
          have r1 : u3.cell? ⟨g11, 1, none⟩ = some (.slice b11 l11 c11) := H11.out.blk.cell 1
          go_wp2_with fail
          refine (right_any (M : Int) a0 len0 cap0 xs0 u3 HX.out.rd (by omega) (by omega) (by omega)).mono ?_
          rintro e u4 ⟨rfl, hb⟩
          have HX' := Lib.hid (HX.out.below hb)
          have HO' := Lib.hid (HO.out.below hb (Nat.le_refl _))
          have H11' := Lib.hid (H11.out.below hb)
          have Hb' := Lib.hid (Hb.out.trans (hb.mono Hb.out.size))
          clear hb q0 q1 r0 r1 Hb HX HO H11
          have HX := HX'
          have HO := HO'
          have H11 := H11'
          have Hb := Hb'
          clear HX' HO' H11' Hb'
          rw [← HV0.out]
          have q0 : u4.cell? ⟨g0, 0, none⟩ = some (.int .i64 (M : Int)) := HX.out.blk.cell 0
          have q1 : u4.cell? ⟨g0, 1, none⟩ = some (.slice a0 len0 cap0) := HX.out.blk.cell 1
          have r0 : u4.cell? ⟨g11, 0, none⟩ = some (.int .i64 (M : Int)) := H11.out.blk.cell 0
          have r1 : u4.cell? ⟨g11, 1, none⟩ = some (.slice b11 l11 c11) := H11.out.blk.cell 1
          go_wp2_with fail
          refine (check_any (M : Int) a0 len0 cap0 xs0 u4 HX.out.rd (by omega) (by omega)).mono ?_
          rintro e u5 ⟨rfl, hb⟩
          have HX' := Lib.hid (HX.out.below hb)
          have HO' := Lib.hid (HO.out.below hb (Nat.le_refl _))
          have H11' := Lib.hid (H11.out.below hb)
          have Hb' := Lib.hid (Hb.out.trans (hb.mono Hb.out.size))
          clear hb q0 q1 r0 r1 Hb HX HO H11
          have HX := HX'
          have HO := HO'
          have H11 := H11'
          have Hb := Hb'
          clear HX' HO' H11' Hb'
          rw [show chkE (M : Int) xs0 = 0 from by unfold chkE; rw [← HV0.out]; rfl]
          have q0 : u5.cell? ⟨g0, 0, none⟩ = some (.int .i64 (M : Int)) := HX.out.blk.cell 0
          have q1 : u5.cell? ⟨g0, 1, none⟩ = some (.slice a0 len0 cap0) := HX.out.blk.cell 1
          have r0 : u5.cell? ⟨g11, 0, none⟩ = some (.int .i64 (M : Int)) := H11.out.blk.cell 0
          have r1 : u5.cell? ⟨g11, 1, none⟩ = some (.slice b11 l11 c11) := H11.out.blk.cell 1
          go_wp2_with fail
          refine (bit_any (M : Int) a0 len0 cap0 xs0 A u5 HX.out.rd hA8).mono ?_
          rintro e u6 ⟨rfl, hb⟩
          have HX' := Lib.hid (HX.out.below hb)
          have HO' := Lib.hid (HO.out.below hb (Nat.le_refl _))
          have H11' := Lib.hid (H11.out.below hb)
          have Hb' := Lib.hid (Hb.out.trans (hb.mono Hb.out.size))
          clear hb q0 q1 r0 r1 Hb HX HO H11
          have HX := HX'
          have HO := HO'
          have H11 := H11'
          have Hb := Hb'
          clear HX' HO' H11' Hb'
          rw [← HB1.out]
          have q0 : u6.cell? ⟨g0, 0, none⟩ = some (.int .i64 (M : Int)) := HX.out.blk.cell 0
          have q1 : u6.cell? ⟨g0, 1, none⟩ = some (.slice a0 len0 cap0) := HX.out.blk.cell 1
          have r0 : u6.cell? ⟨g11, 0, none⟩ = some (.int .i64 (M : Int)) := H11.out.blk.cell 0
          have r1 : u6.cell? ⟨g11, 1, none⟩ = some (.slice b11 l11 c11) := H11.out.blk.cell 1
          try simp only [bne_self_eq_false]
          go_wp2_with fail
          refine (within_any (M : Int) (A : Int) (m : Int) (by omega) (by omega) u6).mono ?_
          rintro e u9 ⟨rfl, rfl⟩
          rw [← HQ.out]
          go_upto_region 17 with fail
          clear q0 q1 r0 r1
          refine wp_region_held_drew (S := Below u6.heap.size u6) (by kernel_rfl) ((Below.refl _ u6).drew) (fun _ => ?_)
          have HS : Hid (Below u6.heap.size u6 u6.drew) := Lib.hid ((Below.refl _ u6).drew)
          refine wpAnyH_ready (rs := [0]) (by kernel_rfl) (by simp) ?_
          refine AllReadyH.cons rfl (fun K hK => ?_) AllReadyH.nil
          go_simp
          refine (sane_any u6.drew (HO.out.below HS.out (Nat.le_refl _))).mono ?_
          rintro e u7 ⟨rfl, hb⟩
          have HS2 : Hid (Below u6.heap.size u6 u7) := Lib.hid (HS.out.trans (hb.mono HS.out.size))
          clear HS hb
          have HS := HS2
          clear HS2
          refine hK.out _ _ HS.out (fun _ => ?_)
          clear hK K
          refine wpAnyH_take (i := 1) (v := .bool true) rfl (by kernel_rfl) (by kernel_rfl) (by kernel_rfl) (fun _ _ _ h => h) (Or.inl ⟨by rfl, ?_⟩) HS.out ?_
          · intro u hu; go_simp
          go_simp
          refine wpAnyH_take (i := 2) (v := .int .i64 0) rfl (by kernel_rfl) (by kernel_rfl) (by kernel_rfl) (fun _ _ _ h => h) (Or.inl ⟨by rfl, ?_⟩) HS.out ?_
          · intro u hu; go_simp
          go_simp
          refine wpAnyH_take (i := 3) (v := .bool true) rfl (by kernel_rfl) (by kernel_rfl) (by kernel_rfl) (fun _ _ _ h => h) (Or.inl ⟨by rfl, ?_⟩) HS.out ?_
          · intro u hu; go_simp
          go_simp
          refine wpAnyH_take (i := 4) (v := .bool true) rfl (by kernel_rfl) (by kernel_rfl) (by kernel_rfl) (fun _ _ _ h => h) (Or.inl ⟨by rfl, ?_⟩) HS.out ?_
          · intro u hu; go_simp
          go_simp
          refine wpAnyH_take (i := 5) (v := .bool true) rfl (by kernel_rfl) (by kernel_rfl) (by kernel_rfl) (fun _ _ _ h => h) (Or.inl ⟨by rfl, ?_⟩) HS.out ?_
          · intro u hu; go_simp
          go_simp
          refine wpAnyH_take (i := 6) (v := .int .i64 0) rfl (by kernel_rfl) (by kernel_rfl) (by kernel_rfl) (fun _ _ _ h => h) (Or.inl ⟨by rfl, ?_⟩) HS.out ?_
          · intro u hu; go_simp
          go_simp
          refine wpAnyH_take (i := 7) (v := .bool true) rfl (by kernel_rfl) (by kernel_rfl) (by kernel_rfl) (fun _ _ _ h => h) (Or.inl ⟨by rfl, ?_⟩) HS.out ?_
          · intro u hu; go_simp
          go_simp
          refine wpAnyH_take (i := 8) (v := .bool true) rfl (by kernel_rfl) (by kernel_rfl) (by kernel_rfl) (fun _ _ _ h => h) (Or.inl ⟨by rfl, ?_⟩) HS.out ?_
          · intro u hu; go_simp
          go_simp
          refine wpAnyH_take (i := 9) (v := .bool true) rfl (by kernel_rfl) (by kernel_rfl) (by kernel_rfl) (fun _ _ _ h => h) (Or.inl ⟨by rfl, ?_⟩) HS.out ?_
          · intro u hu; go_simp
          go_simp
          refine wpAnyH_take (i := 10) (v := .agg #[.int .i64 (M : Int), .slice b11 l11 c11]) rfl (by kernel_rfl) (by kernel_rfl) (by kernel_rfl) (fun _ _ _ h => h) (Or.inl ⟨by rfl, ?_⟩) HS.out ?_
          · intro u hu; have : u.cell? ⟨g11, 0, none⟩ = some (.int .i64 (M : Int)) := (H11.out.below hu).blk.cell 0; have : u.cell? ⟨g11, 1, none⟩ = some (.slice b11 l11 c11) := (H11.out.below hu).blk.cell 1; go_simp
          go_simp
          refine wpAnyH_take (i := 11) (v := .agg #[.int .i64 (M : Int), .slice a0 len0 cap0]) rfl (by kernel_rfl) (by kernel_rfl) (by kernel_rfl) (fun _ _ _ h => h) (Or.inl ⟨by rfl, ?_⟩) HS.out ?_
          · intro u hu; have : u.cell? ⟨g0, 0, none⟩ = some (.int .i64 (M : Int)) := (HX.out.below hu).blk.cell 0; have : u.cell? ⟨g0, 1, none⟩ = some (.slice a0 len0 cap0) := (HX.out.below hu).blk.cell 1; go_simp
          go_simp
          refine wpAnyH_take (i := 12) (v := .int .i64 (A : Int)) rfl (by kernel_rfl) (by kernel_rfl) (by kernel_rfl) (fun _ _ _ h => h) (Or.inl ⟨by rfl, ?_⟩) HS.out ?_
          · intro u hu; go_simp
          go_simp
          refine wpAnyH_take (i := 13) (v := .int .i64 (m : Int)) rfl (by kernel_rfl) (by kernel_rfl) (by kernel_rfl) (fun _ _ _ h => h) (Or.inl ⟨by rfl, ?_⟩) HS.out ?_
          · intro u hu; go_simp
          go_simp
          refine wpAnyH_take (i := 14) (v := .bool a3) rfl (by kernel_rfl) (by kernel_rfl) (by kernel_rfl) (fun _ _ _ h => h) (Or.inl ⟨by rfl, ?_⟩) HS.out ?_
          · intro u hu; go_simp
          go_simp
          refine wpAnyH_ready (rs := [15]) (by kernel_rfl) (by simp) ?_
          refine AllReadyH.cons rfl (fun K hK => ?_) AllReadyH.nil
          go_simp
          refine (rset_is M a0 len0 cap0 xs0 A m E a3 u7 (HX.out.below HS.out).rd Vx.out hE hEM).mono ?_
          rintro e u8 ⟨bj, lj, cj, Xj, rfl, hw, hi, hb⟩
          have HS2 : Hid (Below u6.heap.size u6 u8) := Lib.hid (HS.out.trans (hb.mono HS.out.size))
          have HJ := Lib.hid hw
          have Ij := Lib.hid hi
          clear hw hi
          clear HS hb
          have HS := HS2
          clear HS2
          refine hK.out _ _ HS.out (fun _ => ?_)
          clear hK K
          have hEq : X11 = Xj := I11.out.eq Ij.out (fun j hj => rfl)
          refine wpAnyH_ready (rs := [16]) (by kernel_rfl) (by simp) ?_
          refine AllReadyH.cons rfl (fun K hK => ?_) AllReadyH.nil
          go_simp
          refine (same_is (M : Int) b11 l11 c11 bj lj cj X11 u8 (H11.out.below HS.out).rd (by rw [hEq]; exact HJ.out)).mono ?_
          rintro e u9 ⟨rfl, hb⟩
          have HS2 : Hid (Below u6.heap.size u6 u9) := Lib.hid (HS.out.trans (hb.mono HS.out.size))
          clear HS hb
          have HS := HS2
          clear HS2
          refine hK.out _ _ HS.out (fun _ => ?_)
          clear hK K
          clear hEq HJ Ij
          refine wpAnyH_take (i := 17) (v := .bool true) rfl (by kernel_rfl) (by kernel_rfl) (by kernel_rfl) (fun _ _ _ h => h) (Or.inl ⟨by rfl, ?_⟩) HS.out ?_
          · intro u hu; go_simp
          go_simp
          refine wpAnyH_take (i := 18) (v := .bool true) rfl (by kernel_rfl) (by kernel_rfl) (by kernel_rfl) (fun _ _ _ h => h) (Or.inl ⟨by rfl, ?_⟩) HS.out ?_
          · intro u hu; go_simp
          go_simp
          refine wpAnyH_take (i := 19) (v := .int .i64 (n0 : Int)) rfl (by kernel_rfl) (by kernel_rfl) (by kernel_rfl) (fun _ _ _ h => h) (Or.inl ⟨by rfl, ?_⟩) HS.out ?_
          · intro u hu; go_simp
          go_simp
          refine wpAnyH_take (i := 20) (v := .agg #[.int .i64 (M : Int), .slice a0 len0 cap0]) rfl (by kernel_rfl) (by kernel_rfl) (by kernel_rfl) (fun _ _ _ h => h) (Or.inl ⟨by rfl, ?_⟩) HS.out ?_
          · intro u hu; have : u.cell? ⟨g0, 0, none⟩ = some (.int .i64 (M : Int)) := (HX.out.below hu).blk.cell 0; have : u.cell? ⟨g0, 1, none⟩ = some (.slice a0 len0 cap0) := (HX.out.below hu).blk.cell 1; go_simp
          go_simp
          refine wpAnyH_take (i := 21) (v := .int .i64 (A : Int)) rfl (by kernel_rfl) (by kernel_rfl) (by kernel_rfl) (fun _ _ _ h => h) (Or.inl ⟨by rfl, ?_⟩) HS.out ?_
          · intro u hu; go_simp
          go_simp
          refine wpAnyH_take (i := 22) (v := .int .i64 (m : Int)) rfl (by kernel_rfl) (by kernel_rfl) (by kernel_rfl) (fun _ _ _ h => h) (Or.inl ⟨by rfl, ?_⟩) HS.out ?_
          · intro u hu; go_simp
          go_simp
          refine wpAnyH_ready (rs := [23]) (by kernel_rfl) (by simp) ?_
          refine AllReadyH.cons rfl (fun K hK => ?_) AllReadyH.nil
          go_simp
          refine (rcount_any M a0 len0 cap0 xs0 A m E u9 (HX.out.below HS.out).rd Vx.out hE hEM).mono ?_
          rintro e u10 ⟨rfl, hb⟩
          have HS2 : Hid (Below u6.heap.size u6 u10) := Lib.hid (HS.out.trans (hb.mono HS.out.size))
          rw [← Hn0.out]
          clear HS hb
          have HS := HS2
          clear HS2
          refine hK.out _ _ HS.out (fun _ => ?_)
          clear hK K
          refine wpAnyH_take (i := 24) (v := .bool true) rfl (by kernel_rfl) (by kernel_rfl) (by kernel_rfl) (fun _ _ _ h => h) (Or.inl ⟨by rfl, ?_⟩) HS.out ?_
          · intro u hu; go_simp
          go_simp
          refine wpAnyH_take (i := 25) (v := .bool true) rfl (by kernel_rfl) (by kernel_rfl) (by kernel_rfl) (fun _ _ _ h => h) (Or.inl ⟨by rfl, ?_⟩) HS.out ?_
          · intro u hu; go_simp
          go_simp
          refine wpAnyH_ready (rs := [26]) (by kernel_rfl) (by simp) ?_
          refine AllReadyH.cons rfl (fun K hK => ?_) AllReadyH.nil
          go_simp
          refine hK.out _ _ HS.out (fun _ => ?_)
          clear hK K
          refine wpAnyH_done (by kernel_rfl) ?_ _
          have hS := HS.out
          clear HS
          have HX' := Lib.hid (HX.out.below hS)
          have HO' := Lib.hid (HO.out.below hS (Nat.le_refl _))
          have H11' := Lib.hid (H11.out.below hS)
          have Hb' := Lib.hid (Hb.out.trans (hS.mono Hb.out.size))
          clear hS  Hb HX HO H11
          have HX := HX'
          have HO := HO'
          have H11 := H11'
          have Hb := Hb'
          clear HX' HO' H11' Hb'
          go_wp2_with fail
          go_ret
          exact ⟨rfl, Hb.out⟩
        | false =>
          have hnW := hQf rfl
          clear hQt hQf
          obtain ⟨A, rfl⟩ : ∃ A : Nat, a1 = (A : Int) := ⟨a1.toNat, by omega⟩
          have hAM : A < M := by omega
          have hA8 : A < 8 * len0 := by omega
          have hAMi : (A : Int) < (M : Int) := by omega
          obtain ⟨B1, hB1⟩ : ∃ B1, B1 = bitV xs0 A := ⟨_, rfl⟩
          have HB1 := Lib.hid hB1
          clear hB1 cI
          go_enter Tryd.func3, Tryd.ntmps3
          go_upto_region 1 with fail
          rw [HEV.out, HE0.out]
          clear HEV HE0
          have q0 : V.cell? ⟨g0, 0, none⟩ = some (.int .i64 (M : Int)) := HX.out.blk.cell 0
          have q1 : V.cell? ⟨g0, 1, none⟩ = some (.slice a0 len0 cap0) := HX.out.blk.cell 1
          go_wp2_with fail
          obtain ⟨WS, hWS⟩ : ∃ WS, WS = V.alloc (.cells #[.int .i64 (M : Int), .slice a0 len0 cap0] 24) := ⟨_, rfl⟩
          have hbS : Below V.heap.size V WS := by rw [hWS]; exact (Below.refl _ V).alloc (Nat.le_refl _) _
          have hBS : Blk WS V.heap.size 24 #[.int .i64 (M : Int), .slice a0 len0 cap0] := by rw [hWS]; exact heap_new V _
          rw [← hWS]
          refine (few1_any _ (M : Int) a0 len0 cap0 WS hBS).mono ?_
          rintro e u0 ⟨rfl, rfl⟩
          rw [← HF.out]
          clear hBS hWS
          have HX' := Lib.hid (HX.out.below hbS)
          have HO' := Lib.hid (HO.out.below hbS (Nat.le_refl _))
          have Hb' := Lib.hid (Hb.out.trans (hbS.mono Hb.out.size))
          clear hbS q0 q1 Hb HX HO
          have HX := HX'
          have HO := HO'
          have Hb := Hb'
          clear HX' HO' Hb'
          have q0 : WS.cell? ⟨g0, 0, none⟩ = some (.int .i64 (M : Int)) := HX.out.blk.cell 0
          have q1 : WS.cell? ⟨g0, 1, none⟩ = some (.slice a0 len0 cap0) := HX.out.blk.cell 1
          go_wp2_with fail
          refine (get_ok M a0 len0 cap0 xs0 A WS HX.out.rd Vx.out hAM).mono ?_
          rintro e u1 ⟨rfl, hb⟩
          have HX' := Lib.hid (HX.out.below hb)
          have HO' := Lib.hid (HO.out.below hb (Nat.le_refl _))
          have Hb' := Lib.hid (Hb.out.trans (hb.mono Hb.out.size))
          clear hb q0 q1 Hb HX HO
          have HX := HX'
          have HO := HO'
          have Hb := Hb'
          clear HX' HO' Hb'
          rw [← HB1.out]
          have q0 : u1.cell? ⟨g0, 0, none⟩ = some (.int .i64 (M : Int)) := HX.out.blk.cell 0
          have q1 : u1.cell? ⟨g0, 1, none⟩ = some (.slice a0 len0 cap0) := HX.out.blk.cell 1
          go_wp2_with fail
          refine (set_rng (M : Int) a0 len0 cap0 xs0 u1 HX.out.rd (by omega) (by omega) (A : Int) a2 a3 (by omega) (by omega) Vx.out.valid hnW).mono ?_
          rintro e u2 ⟨rfl, hb⟩
          have HX' := Lib.hid (HX.out.below hb)
          have HO' := Lib.hid (HO.out.below hb (Nat.le_refl _))
          have Hb' := Lib.hid (Hb.out.trans (hb.mono Hb.out.size))
          clear hb q0 q1 Hb HX HO
          have HX := HX'
          have HO := HO'
          have Hb := Hb'
          clear HX' HO' Hb'
          go_upto_region 5 with fail
          obtain ⟨g11, W11, e1, e2, hB, -, hq⟩ := boxed Hb.out 0 none 0 0 [] (Rd.nil u2)
          rw [e2, e1]
          have HBX := Lib.hid hB
          clear e1 e2 hB
          have HX' := Lib.hid (HX.out.below hq)
          have HO' := Lib.hid (HO.out.below hq (Nat.le_refl _))
          have Hb' := Lib.hid (Hb.out.trans (hq.mono Hb.out.size))
          clear hq  Hb HX HO
          have HX := HX'
          have HO := HO'
          have Hb := Hb'
          clear HX' HO' Hb'
          have H11 := HBX
          clear HBX
          have q0 : W11.cell? ⟨g0, 0, none⟩ = some (.int .i64 (M : Int)) := HX.out.blk.cell 0
          have q1 : W11.cell? ⟨g0, 1, none⟩ = some (.slice a0 len0 cap0) := HX.out.blk.cell 1
          have r0 : W11.cell? ⟨g11, 0, none⟩ = some (.int .i64 0) := H11.out.blk.cell 0
          have r1 : W11.cell? ⟨g11, 1, none⟩ = some (.slice none 0 0) := H11.out.blk.cell 1
          go_wp2_with fail
          refine (count_rng (M : Int) a0 len0 cap0 xs0 W11 HX.out.rd (by omega) (by omega) (A : Int) a2 (by omega) (by omega) Vx.out.valid hnW).mono ?_
          rintro e u3 ⟨rfl, hb⟩
          have HX' := Lib.hid (HX.out.below hb)
          have HO' := Lib.hid (HO.out.below hb (Nat.le_refl _))
          have H11' := Lib.hid (H11.out.below hb)
          have Hb' := Lib.hid (Hb.out.trans (hb.mono Hb.out.size))
          clear hb q0 q1 r0 r1 Hb HX HO H11
          have HX := HX'
          have HO := HO'
          have H11 := H11'
          have Hb := Hb'
          clear HX' HO' H11' Hb'
          have q0 : u3.cell? ⟨g0, 0, none⟩ = some (.int .i64 (M : Int)) := HX.out.blk.cell 0
          have q1 : u3.cell? ⟨g0, 1, none⟩ = some (.slice a0 len0 cap0) := HX.out.blk.cell 1
          have r0 : u3.cell? ⟨g11, 0, none⟩ = some (.int .i64 0) := H11.out.blk.cell 0
          have r1 : u3.cell? ⟨g11, 1, none⟩ = some (.slice none 0 0) := H11.out.blk.cell 1
          go_wp2_with fail
          refine (right_any (M : Int) a0 len0 cap0 xs0 u3 HX.out.rd (by omega) (by omega) (by omega)).mono ?_
          rintro e u4 ⟨rfl, hb⟩
          have HX' := Lib.hid (HX.out.below hb)
          have HO' := Lib.hid (HO.out.below hb (Nat.le_refl _))
          have H11' := Lib.hid (H11.out.below hb)
          have Hb' := Lib.hid (Hb.out.trans (hb.mono Hb.out.size))
          clear hb q0 q1 r0 r1 Hb HX HO H11
          have HX := HX'
          have HO := HO'
          have H11 := H11'
          have Hb := Hb'
          clear HX' HO' H11' Hb'
          rw [← HV0.out]
          have q0 : u4.cell? ⟨g0, 0, none⟩ = some (.int .i64 (M : Int)) := HX.out.blk.cell 0
          have q1 : u4.cell? ⟨g0, 1, none⟩ = some (.slice a0 len0 cap0) := HX.out.blk.cell 1
          have r0 : u4.cell? ⟨g11, 0, none⟩ = some (.int .i64 0) := H11.out.blk.cell 0
          have r1 : u4.cell? ⟨g11, 1, none⟩ = some (.slice none 0 0) := H11.out.blk.cell 1
          go_wp2_with fail
          refine (check_any (M : Int) a0 len0 cap0 xs0 u4 HX.out.rd (by omega) (by omega)).mono ?_
          rintro e u5 ⟨rfl, hb⟩
          have HX' := Lib.hid (HX.out.below hb)
          have HO' := Lib.hid (HO.out.below hb (Nat.le_refl _))
          have H11' := Lib.hid (H11.out.below hb)
          have Hb' := Lib.hid (Hb.out.trans (hb.mono Hb.out.size))
          clear hb q0 q1 r0 r1 Hb HX HO H11
          have HX := HX'
          have HO := HO'
          have H11 := H11'
          have Hb := Hb'
          clear HX' HO' H11' Hb'
          rw [show chkE (M : Int) xs0 = 0 from by unfold chkE; rw [← HV0.out]; rfl]
          have q0 : u5.cell? ⟨g0, 0, none⟩ = some (.int .i64 (M : Int)) := HX.out.blk.cell 0
          have q1 : u5.cell? ⟨g0, 1, none⟩ = some (.slice a0 len0 cap0) := HX.out.blk.cell 1
          have r0 : u5.cell? ⟨g11, 0, none⟩ = some (.int .i64 0) := H11.out.blk.cell 0
          have r1 : u5.cell? ⟨g11, 1, none⟩ = some (.slice none 0 0) := H11.out.blk.cell 1
          go_wp2_with fail
          refine (bit_any (M : Int) a0 len0 cap0 xs0 A u5 HX.out.rd hA8).mono ?_
          rintro e u6 ⟨rfl, hb⟩
          have HX' := Lib.hid (HX.out.below hb)
          have HO' := Lib.hid (HO.out.below hb (Nat.le_refl _))
          have H11' := Lib.hid (H11.out.below hb)
          have Hb' := Lib.hid (Hb.out.trans (hb.mono Hb.out.size))
          clear hb q0 q1 r0 r1 Hb HX HO H11
          have HX := HX'
          have HO := HO'
          have H11 := H11'
          have Hb := Hb'
          clear HX' HO' H11' Hb'
          rw [← HB1.out]
          have q0 : u6.cell? ⟨g0, 0, none⟩ = some (.int .i64 (M : Int)) := HX.out.blk.cell 0
          have q1 : u6.cell? ⟨g0, 1, none⟩ = some (.slice a0 len0 cap0) := HX.out.blk.cell 1
          have r0 : u6.cell? ⟨g11, 0, none⟩ = some (.int .i64 0) := H11.out.blk.cell 0
          have r1 : u6.cell? ⟨g11, 1, none⟩ = some (.slice none 0 0) := H11.out.blk.cell 1
          try simp only [bne_self_eq_false]
          go_wp2_with fail
          refine (within_any (M : Int) (A : Int) a2 (by omega) (by omega) u6).mono ?_
          rintro e u9 ⟨rfl, rfl⟩
          rw [← HQ.out]
          go_wp2_with fail
          refine (sane_any u6 HO.out).mono ?_
          rintro e u7 ⟨rfl, hb⟩
          have HX' := Lib.hid (HX.out.below hb)
          have HO' := Lib.hid (HO.out.below hb (Nat.le_refl _))
          have H11' := Lib.hid (H11.out.below hb)
          have Hb' := Lib.hid (Hb.out.trans (hb.mono Hb.out.size))
          clear hb q0 q1 r0 r1 Hb HX HO H11
          have HX := HX'
          have HO := HO'
          have H11 := H11'
          have Hb := Hb'
          clear HX' HO' H11' Hb'
          have q0 : u7.cell? ⟨g0, 0, none⟩ = some (.int .i64 (M : Int)) := HX.out.blk.cell 0
          have q1 : u7.cell? ⟨g0, 1, none⟩ = some (.slice a0 len0 cap0) := HX.out.blk.cell 1
          have r0 : u7.cell? ⟨g11, 0, none⟩ = some (.int .i64 0) := H11.out.blk.cell 0
          have r1 : u7.cell? ⟨g11, 1, none⟩ = some (.slice none 0 0) := H11.out.blk.cell 1
          go_wp2_with fail
          refine (none_zero u7).mono ?_
          rintro e u8 ⟨rfl, hb⟩
          have HX' := Lib.hid (HX.out.below hb)
          have HO' := Lib.hid (HO.out.below hb (Nat.le_refl _))
          have H11' := Lib.hid (H11.out.below hb)
          have Hb' := Lib.hid (Hb.out.trans (hb.mono Hb.out.size))
          clear hb q0 q1 r0 r1 Hb HX HO H11
          have HX := HX'
          have HO := HO'
          have H11 := H11'
          have Hb := Hb'
          clear HX' HO' H11' Hb'
          go_wp2_with fail
          go_ret
          exact ⟨rfl, Hb.out⟩
      · by_cases c0 : a1 < 0
        · cases Q with
          | true => have := hQt rfl; omega
          | false =>
            have hnW := hQf rfl
            clear hQt hQf
            clear cI
            go_enter Tryd.func3, Tryd.ntmps3
            go_upto_region 1 with fail
            rw [HEV.out, HE0.out]
            clear HEV HE0
            have q0 : V.cell? ⟨g0, 0, none⟩ = some (.int .i64 (M : Int)) := HX.out.blk.cell 0
            have q1 : V.cell? ⟨g0, 1, none⟩ = some (.slice a0 len0 cap0) := HX.out.blk.cell 1
            go_wp2_with fail
            obtain ⟨WS, hWS⟩ : ∃ WS, WS = V.alloc (.cells #[.int .i64 (M : Int), .slice a0 len0 cap0] 24) := ⟨_, rfl⟩
            have hbS : Below V.heap.size V WS := by rw [hWS]; exact (Below.refl _ V).alloc (Nat.le_refl _) _
            have hBS : Blk WS V.heap.size 24 #[.int .i64 (M : Int), .slice a0 len0 cap0] := by rw [hWS]; exact heap_new V _
            rw [← hWS]
            refine (few1_any _ (M : Int) a0 len0 cap0 WS hBS).mono ?_
            rintro e u0 ⟨rfl, rfl⟩
            rw [← HF.out]
            clear hBS hWS
            have HX' := Lib.hid (HX.out.below hbS)
            have HO' := Lib.hid (HO.out.below hbS (Nat.le_refl _))
            have Hb' := Lib.hid (Hb.out.trans (hbS.mono Hb.out.size))
            clear hbS q0 q1 Hb HX HO
            have HX := HX'
            have HO := HO'
            have Hb := Hb'
            clear HX' HO' Hb'
            have q0 : WS.cell? ⟨g0, 0, none⟩ = some (.int .i64 (M : Int)) := HX.out.blk.cell 0
            have q1 : WS.cell? ⟨g0, 1, none⟩ = some (.slice a0 len0 cap0) := HX.out.blk.cell 1
            go_wp2_with fail
            refine (get_rng (M : Int) a0 len0 cap0 xs0 a1 WS HX.out.rd (by omega) (by omega) (by omega) (by omega) Vx.out.valid (by omega)).mono ?_
            rintro e u1 ⟨rfl, hb⟩
            have HX' := Lib.hid (HX.out.below hb)
            have HO' := Lib.hid (HO.out.below hb (Nat.le_refl _))
            have Hb' := Lib.hid (Hb.out.trans (hb.mono Hb.out.size))
            clear hb q0 q1 Hb HX HO
            have HX := HX'
            have HO := HO'
            have Hb := Hb'
            clear HX' HO' Hb'
            have q0 : u1.cell? ⟨g0, 0, none⟩ = some (.int .i64 (M : Int)) := HX.out.blk.cell 0
            have q1 : u1.cell? ⟨g0, 1, none⟩ = some (.slice a0 len0 cap0) := HX.out.blk.cell 1
            go_wp2_with fail
            refine (set_rng (M : Int) a0 len0 cap0 xs0 u1 HX.out.rd (by omega) (by omega) a1 a2 a3 (by omega) (by omega) Vx.out.valid hnW).mono ?_
            rintro e u2 ⟨rfl, hb⟩
            have HX' := Lib.hid (HX.out.below hb)
            have HO' := Lib.hid (HO.out.below hb (Nat.le_refl _))
            have Hb' := Lib.hid (Hb.out.trans (hb.mono Hb.out.size))
            clear hb q0 q1 Hb HX HO
            have HX := HX'
            have HO := HO'
            have Hb := Hb'
            clear HX' HO' Hb'
            go_upto_region 5 with fail
            obtain ⟨g11, W11, e1, e2, hB, -, hq⟩ := boxed Hb.out 0 none 0 0 [] (Rd.nil u2)
            rw [e2, e1]
            have HBX := Lib.hid hB
            clear e1 e2 hB
            have HX' := Lib.hid (HX.out.below hq)
            have HO' := Lib.hid (HO.out.below hq (Nat.le_refl _))
            have Hb' := Lib.hid (Hb.out.trans (hq.mono Hb.out.size))
            clear hq  Hb HX HO
            have HX := HX'
            have HO := HO'
            have Hb := Hb'
            clear HX' HO' Hb'
            have H11 := HBX
            clear HBX
            have q0 : W11.cell? ⟨g0, 0, none⟩ = some (.int .i64 (M : Int)) := HX.out.blk.cell 0
            have q1 : W11.cell? ⟨g0, 1, none⟩ = some (.slice a0 len0 cap0) := HX.out.blk.cell 1
            have r0 : W11.cell? ⟨g11, 0, none⟩ = some (.int .i64 0) := H11.out.blk.cell 0
            have r1 : W11.cell? ⟨g11, 1, none⟩ = some (.slice none 0 0) := H11.out.blk.cell 1
            go_wp2_with fail
            refine (count_rng (M : Int) a0 len0 cap0 xs0 W11 HX.out.rd (by omega) (by omega) a1 a2 (by omega) (by omega) Vx.out.valid hnW).mono ?_
            rintro e u3 ⟨rfl, hb⟩
            have HX' := Lib.hid (HX.out.below hb)
            have HO' := Lib.hid (HO.out.below hb (Nat.le_refl _))
            have H11' := Lib.hid (H11.out.below hb)
            have Hb' := Lib.hid (Hb.out.trans (hb.mono Hb.out.size))
            clear hb q0 q1 r0 r1 Hb HX HO H11
            have HX := HX'
            have HO := HO'
            have H11 := H11'
            have Hb := Hb'
            clear HX' HO' H11' Hb'
            have q0 : u3.cell? ⟨g0, 0, none⟩ = some (.int .i64 (M : Int)) := HX.out.blk.cell 0
            have q1 : u3.cell? ⟨g0, 1, none⟩ = some (.slice a0 len0 cap0) := HX.out.blk.cell 1
            have r0 : u3.cell? ⟨g11, 0, none⟩ = some (.int .i64 0) := H11.out.blk.cell 0
            have r1 : u3.cell? ⟨g11, 1, none⟩ = some (.slice none 0 0) := H11.out.blk.cell 1
            go_wp2_with fail
            refine (right_any (M : Int) a0 len0 cap0 xs0 u3 HX.out.rd (by omega) (by omega) (by omega)).mono ?_
            rintro e u4 ⟨rfl, hb⟩
            have HX' := Lib.hid (HX.out.below hb)
            have HO' := Lib.hid (HO.out.below hb (Nat.le_refl _))
            have H11' := Lib.hid (H11.out.below hb)
            have Hb' := Lib.hid (Hb.out.trans (hb.mono Hb.out.size))
            clear hb q0 q1 r0 r1 Hb HX HO H11
            have HX := HX'
            have HO := HO'
            have H11 := H11'
            have Hb := Hb'
            clear HX' HO' H11' Hb'
            rw [← HV0.out]
            have q0 : u4.cell? ⟨g0, 0, none⟩ = some (.int .i64 (M : Int)) := HX.out.blk.cell 0
            have q1 : u4.cell? ⟨g0, 1, none⟩ = some (.slice a0 len0 cap0) := HX.out.blk.cell 1
            have r0 : u4.cell? ⟨g11, 0, none⟩ = some (.int .i64 0) := H11.out.blk.cell 0
            have r1 : u4.cell? ⟨g11, 1, none⟩ = some (.slice none 0 0) := H11.out.blk.cell 1
            go_wp2_with fail
            refine (check_any (M : Int) a0 len0 cap0 xs0 u4 HX.out.rd (by omega) (by omega)).mono ?_
            rintro e u5 ⟨rfl, hb⟩
            have HX' := Lib.hid (HX.out.below hb)
            have HO' := Lib.hid (HO.out.below hb (Nat.le_refl _))
            have H11' := Lib.hid (H11.out.below hb)
            have Hb' := Lib.hid (Hb.out.trans (hb.mono Hb.out.size))
            clear hb q0 q1 r0 r1 Hb HX HO H11
            have HX := HX'
            have HO := HO'
            have H11 := H11'
            have Hb := Hb'
            clear HX' HO' H11' Hb'
            rw [show chkE (M : Int) xs0 = 0 from by unfold chkE; rw [← HV0.out]; rfl]
            have q0 : u5.cell? ⟨g0, 0, none⟩ = some (.int .i64 (M : Int)) := HX.out.blk.cell 0
            have q1 : u5.cell? ⟨g0, 1, none⟩ = some (.slice a0 len0 cap0) := HX.out.blk.cell 1
            have r0 : u5.cell? ⟨g11, 0, none⟩ = some (.int .i64 0) := H11.out.blk.cell 0
            have r1 : u5.cell? ⟨g11, 1, none⟩ = some (.slice none 0 0) := H11.out.blk.cell 1
            go_wp2_with fail
            refine (within_any (M : Int) a1 a2 (by omega) (by omega) u5).mono ?_
            rintro e u9 ⟨rfl, rfl⟩
            rw [← HQ.out]
            go_wp2_with fail
            refine (sane_any u5 HO.out).mono ?_
            rintro e u6 ⟨rfl, hb⟩
            have HX' := Lib.hid (HX.out.below hb)
            have HO' := Lib.hid (HO.out.below hb (Nat.le_refl _))
            have H11' := Lib.hid (H11.out.below hb)
            have Hb' := Lib.hid (Hb.out.trans (hb.mono Hb.out.size))
            clear hb q0 q1 r0 r1 Hb HX HO H11
            have HX := HX'
            have HO := HO'
            have H11 := H11'
            have Hb := Hb'
            clear HX' HO' H11' Hb'
            have q0 : u6.cell? ⟨g0, 0, none⟩ = some (.int .i64 (M : Int)) := HX.out.blk.cell 0
            have q1 : u6.cell? ⟨g0, 1, none⟩ = some (.slice a0 len0 cap0) := HX.out.blk.cell 1
            have r0 : u6.cell? ⟨g11, 0, none⟩ = some (.int .i64 0) := H11.out.blk.cell 0
            have r1 : u6.cell? ⟨g11, 1, none⟩ = some (.slice none 0 0) := H11.out.blk.cell 1
            go_wp2_with fail
            refine (none_zero u6).mono ?_
            rintro e u7 ⟨rfl, hb⟩
            have HX' := Lib.hid (HX.out.below hb)
            have HO' := Lib.hid (HO.out.below hb (Nat.le_refl _))
            have H11' := Lib.hid (H11.out.below hb)
            have Hb' := Lib.hid (Hb.out.trans (hb.mono Hb.out.size))
            clear hb q0 q1 r0 r1 Hb HX HO H11
            have HX := HX'
            have HO := HO'
            have H11 := H11'
            have Hb := Hb'
            clear HX' HO' H11' Hb'
            go_wp2_with fail
            go_ret
            exact ⟨rfl, Hb.out⟩
        · cases Q with
          | true =>
            obtain ⟨k1, k2, k3, k4⟩ := hQt rfl
            obtain ⟨A, rfl⟩ : ∃ A : Nat, a1 = (A : Int) := ⟨a1.toNat, by omega⟩
            obtain ⟨m, rfl⟩ : ∃ m : Nat, a2 = (m : Int) := ⟨a2.toNat, by omega⟩
            obtain ⟨E, hE⟩ : ∃ E : Nat, E = A + m := ⟨_, rfl⟩
            have hEM : E ≤ M := by omega
            obtain ⟨n0, hn0⟩ : ∃ n, n = cntV xs0 A E := ⟨_, rfl⟩
            have Hn0 := Lib.hid hn0
            clear hn0 hQt hQf k1 k2 k3 k4
            have hbig : (M : Int) ≤ (A : Int) := by omega
            clear cI c0
            go_enter Tryd.func3, Tryd.ntmps3
            go_upto_region 1 with fail
            rw [HEV.out, HE0.out]
            clear HEV HE0
            have q0 : V.cell? ⟨g0, 0, none⟩ = some (.int .i64 (M : Int)) := HX.out.blk.cell 0
            have q1 : V.cell? ⟨g0, 1, none⟩ = some (.slice a0 len0 cap0) := HX.out.blk.cell 1
            go_wp2_with fail
            obtain ⟨WS, hWS⟩ : ∃ WS, WS = V.alloc (.cells #[.int .i64 (M : Int), .slice a0 len0 cap0] 24) := ⟨_, rfl⟩
            have hbS : Below V.heap.size V WS := by rw [hWS]; exact (Below.refl _ V).alloc (Nat.le_refl _) _
            have hBS : Blk WS V.heap.size 24 #[.int .i64 (M : Int), .slice a0 len0 cap0] := by rw [hWS]; exact heap_new V _
            rw [← hWS]
            refine (few1_any _ (M : Int) a0 len0 cap0 WS hBS).mono ?_
            rintro e u0 ⟨rfl, rfl⟩
            rw [← HF.out]
            clear hBS hWS
            have HX' := Lib.hid (HX.out.below hbS)
            have HO' := Lib.hid (HO.out.below hbS (Nat.le_refl _))
            have Hb' := Lib.hid (Hb.out.trans (hbS.mono Hb.out.size))
            clear hbS q0 q1 Hb HX HO
            have HX := HX'
            have HO := HO'
            have Hb := Hb'
            clear HX' HO' Hb'
            have q0 : WS.cell? ⟨g0, 0, none⟩ = some (.int .i64 (M : Int)) := HX.out.blk.cell 0
            have q1 : WS.cell? ⟨g0, 1, none⟩ = some (.slice a0 len0 cap0) := HX.out.blk.cell 1
            go_wp2_with fail
            refine (get_rng (M : Int) a0 len0 cap0 xs0 (A : Int) WS HX.out.rd (by omega) (by omega) (by omega) (by omega) Vx.out.valid (by omega)).mono ?_
            rintro e u1 ⟨rfl, hb⟩
            have HX' := Lib.hid (HX.out.below hb)
            have HO' := Lib.hid (HO.out.below hb (Nat.le_refl _))
            have Hb' := Lib.hid (Hb.out.trans (hb.mono Hb.out.size))
            clear hb q0 q1 Hb HX HO
            have HX := HX'
            have HO := HO'
            have Hb := Hb'
            clear HX' HO' Hb'
            have q0 : u1.cell? ⟨g0, 0, none⟩ = some (.int .i64 (M : Int)) := HX.out.blk.cell 0
            have q1 : u1.cell? ⟨g0, 1, none⟩ = some (.slice a0 len0 cap0) := HX.out.blk.cell 1
            go_wp2_with fail
            refine (set_is M a0 len0 cap0 xs0 u1 HX.out.rd A m E a3 Vx.out hE hEM).mono ?_
            rintro e u2 ⟨b11, l11, c11, X11, rfl, hw, hi, hb⟩
            have HR := Lib.hid hw
            have I11 := Lib.hid hi
            clear hw hi
            have HX' := Lib.hid (HX.out.below hb)
            have HO' := Lib.hid (HO.out.below hb (Nat.le_refl _))
            have Hb' := Lib.hid (Hb.out.trans (hb.mono Hb.out.size))
            clear hb q0 q1 Hb HX HO
            have HX := HX'
            have HO := HO'
            have Hb := Hb'
            clear HX' HO' Hb'
            go_upto_region 5 with fail
            obtain ⟨g11, W11, e1, e2, hB, -, hq⟩ := boxed Hb.out (M : Int) b11 l11 c11 X11 HR.out
            rw [e2, e1]
            have HBX := Lib.hid hB
            clear e1 e2 hB
            have HX' := Lib.hid (HX.out.below hq)
            have HO' := Lib.hid (HO.out.below hq (Nat.le_refl _))
            have HR' := Lib.hid (HR.out.below hq (Nat.le_refl _))
            have Hb' := Lib.hid (Hb.out.trans (hq.mono Hb.out.size))
            clear hq  Hb HX HO HR
            have HX := HX'
            have HO := HO'
            have HR := HR'
            have Hb := Hb'
            clear HX' HO' HR' Hb'
            have H11 := HBX
            clear HBX
            clear HR
            have q0 : W11.cell? ⟨g0, 0, none⟩ = some (.int .i64 (M : Int)) := HX.out.blk.cell 0
            have q1 : W11.cell? ⟨g0, 1, none⟩ = some (.slice a0 len0 cap0) := HX.out.blk.cell 1
            have r0 : W11.cell? ⟨g11, 0, none⟩ = some (.int .i64 (M : Int)) := H11.out.blk.cell 0
            have r1 : W11.cell? ⟨g11, 1, none⟩ = some (.slice b11 l11 c11) := H11.out.blk.cell 1
            go_wp2_with fail
            refine (count_ok M a0 len0 cap0 xs0 W11 HX.out.rd A m E Vx.out hE hEM HO.out).mono ?_
            rintro e u3 ⟨rfl, hb⟩
            have HX' := Lib.hid (HX.out.below hb)
            have HO' := Lib.hid (HO.out.below hb (Nat.le_refl _))
            have H11' := Lib.hid (H11.out.below hb)
            have Hb' := Lib.hid (Hb.out.trans (hb.mono Hb.out.size))
            clear hb q0 q1 r0 r1 Hb HX HO H11
            have HX := HX'
            have HO := HO'
            have H11 := H11'
            have Hb := Hb'
            clear HX' HO' H11' Hb'
            rw [← Hn0.out]
            have q0 : u3.cell? ⟨g0, 0, none⟩ = some (.int .i64 (M : Int)) := HX.out.blk.cell 0
            have q1 : u3.cell? ⟨g0, 1, none⟩ = some (.slice a0 len0 cap0) := HX.out.blk.cell 1
            have r0 : u3.cell? ⟨g11, 0, none⟩ = some (.int .i64 (M : Int)) := H11.out.blk.cell 0
            have r1 : u3.cell? ⟨g11, 1, none⟩ = some (.slice b11 l11 c11) := H11.out.blk.cell 1
            go_wp2_with fail
            refine (right_any (M : Int) a0 len0 cap0 xs0 u3 HX.out.rd (by omega) (by omega) (by omega)).mono ?_
            rintro e u4 ⟨rfl, hb⟩
            have HX' := Lib.hid (HX.out.below hb)
            have HO' := Lib.hid (HO.out.below hb (Nat.le_refl _))
            have H11' := Lib.hid (H11.out.below hb)
            have Hb' := Lib.hid (Hb.out.trans (hb.mono Hb.out.size))
            clear hb q0 q1 r0 r1 Hb HX HO H11
            have HX := HX'
            have HO := HO'
            have H11 := H11'
            have Hb := Hb'
            clear HX' HO' H11' Hb'
            rw [← HV0.out]
            have q0 : u4.cell? ⟨g0, 0, none⟩ = some (.int .i64 (M : Int)) := HX.out.blk.cell 0
            have q1 : u4.cell? ⟨g0, 1, none⟩ = some (.slice a0 len0 cap0) := HX.out.blk.cell 1
            have r0 : u4.cell? ⟨g11, 0, none⟩ = some (.int .i64 (M : Int)) := H11.out.blk.cell 0
            have r1 : u4.cell? ⟨g11, 1, none⟩ = some (.slice b11 l11 c11) := H11.out.blk.cell 1
            go_wp2_with fail
            refine (check_any (M : Int) a0 len0 cap0 xs0 u4 HX.out.rd (by omega) (by omega)).mono ?_
            rintro e u5 ⟨rfl, hb⟩
            have HX' := Lib.hid (HX.out.below hb)
            have HO' := Lib.hid (HO.out.below hb (Nat.le_refl _))
            have H11' := Lib.hid (H11.out.below hb)
            have Hb' := Lib.hid (Hb.out.trans (hb.mono Hb.out.size))
            clear hb q0 q1 r0 r1 Hb HX HO H11
            have HX := HX'
            have HO := HO'
            have H11 := H11'
            have Hb := Hb'
            clear HX' HO' H11' Hb'
            rw [show chkE (M : Int) xs0 = 0 from by unfold chkE; rw [← HV0.out]; rfl]
            have q0 : u5.cell? ⟨g0, 0, none⟩ = some (.int .i64 (M : Int)) := HX.out.blk.cell 0
            have q1 : u5.cell? ⟨g0, 1, none⟩ = some (.slice a0 len0 cap0) := HX.out.blk.cell 1
            have r0 : u5.cell? ⟨g11, 0, none⟩ = some (.int .i64 (M : Int)) := H11.out.blk.cell 0
            have r1 : u5.cell? ⟨g11, 1, none⟩ = some (.slice b11 l11 c11) := H11.out.blk.cell 1
            go_wp2_with fail
            refine (within_any (M : Int) (A : Int) (m : Int) (by omega) (by omega) u5).mono ?_
            rintro e u9 ⟨rfl, rfl⟩
            rw [← HQ.out]
            go_upto_region 17 with fail
            clear q0 q1 r0 r1
            refine wp_region_held_drew (S := Below u5.heap.size u5) (by kernel_rfl) ((Below.refl _ u5).drew) (fun _ => ?_)
            have HS : Hid (Below u5.heap.size u5 u5.drew) := Lib.hid ((Below.refl _ u5).drew)
            refine wpAnyH_ready (rs := [0]) (by kernel_rfl) (by simp) ?_
            refine AllReadyH.cons rfl (fun K hK => ?_) AllReadyH.nil
            go_simp
            refine (sane_any u5.drew (HO.out.below HS.out (Nat.le_refl _))).mono ?_
            rintro e u6 ⟨rfl, hb⟩
            have HS2 : Hid (Below u5.heap.size u5 u6) := Lib.hid (HS.out.trans (hb.mono HS.out.size))
            clear HS hb
            have HS := HS2
            clear HS2
            refine hK.out _ _ HS.out (fun _ => ?_)
            clear hK K
            refine wpAnyH_take (i := 1) (v := .bool true) rfl (by kernel_rfl) (by kernel_rfl) (by kernel_rfl) (fun _ _ _ h => h) (Or.inl ⟨by rfl, ?_⟩) HS.out ?_
            · intro u hu; go_simp
            go_simp
            refine wpAnyH_take (i := 2) (v := .int .i64 0) rfl (by kernel_rfl) (by kernel_rfl) (by kernel_rfl) (fun _ _ _ h => h) (Or.inl ⟨by rfl, ?_⟩) HS.out ?_
            · intro u hu; go_simp
            go_simp
            refine wpAnyH_take (i := 3) (v := .bool true) rfl (by kernel_rfl) (by kernel_rfl) (by kernel_rfl) (fun _ _ _ h => h) (Or.inl ⟨by rfl, ?_⟩) HS.out ?_
            · intro u hu; go_simp
            go_simp
            refine wpAnyH_take (i := 4) (v := .bool true) rfl (by kernel_rfl) (by kernel_rfl) (by kernel_rfl) (fun _ _ _ h => h) (Or.inl ⟨by rfl, ?_⟩) HS.out ?_
            · intro u hu; go_simp
            go_simp
            refine wpAnyH_take (i := 5) (v := .bool true) rfl (by kernel_rfl) (by kernel_rfl) (by kernel_rfl) (fun _ _ _ h => h) (Or.inl ⟨by rfl, ?_⟩) HS.out ?_
            · intro u hu; go_simp
            go_simp
            refine wpAnyH_take (i := 6) (v := .int .i64 0) rfl (by kernel_rfl) (by kernel_rfl) (by kernel_rfl) (fun _ _ _ h => h) (Or.inl ⟨by rfl, ?_⟩) HS.out ?_
            · intro u hu; go_simp
            go_simp
            refine wpAnyH_take (i := 7) (v := .bool true) rfl (by kernel_rfl) (by kernel_rfl) (by kernel_rfl) (fun _ _ _ h => h) (Or.inl ⟨by rfl, ?_⟩) HS.out ?_
            · intro u hu; go_simp
            go_simp
            refine wpAnyH_take (i := 8) (v := .bool true) rfl (by kernel_rfl) (by kernel_rfl) (by kernel_rfl) (fun _ _ _ h => h) (Or.inl ⟨by rfl, ?_⟩) HS.out ?_
            · intro u hu; go_simp
            go_simp
            refine wpAnyH_take (i := 9) (v := .bool true) rfl (by kernel_rfl) (by kernel_rfl) (by kernel_rfl) (fun _ _ _ h => h) (Or.inl ⟨by rfl, ?_⟩) HS.out ?_
            · intro u hu; go_simp
            go_simp
            refine wpAnyH_take (i := 10) (v := .agg #[.int .i64 (M : Int), .slice b11 l11 c11]) rfl (by kernel_rfl) (by kernel_rfl) (by kernel_rfl) (fun _ _ _ h => h) (Or.inl ⟨by rfl, ?_⟩) HS.out ?_
            · intro u hu; have : u.cell? ⟨g11, 0, none⟩ = some (.int .i64 (M : Int)) := (H11.out.below hu).blk.cell 0; have : u.cell? ⟨g11, 1, none⟩ = some (.slice b11 l11 c11) := (H11.out.below hu).blk.cell 1; go_simp
            go_simp
            refine wpAnyH_take (i := 11) (v := .agg #[.int .i64 (M : Int), .slice a0 len0 cap0]) rfl (by kernel_rfl) (by kernel_rfl) (by kernel_rfl) (fun _ _ _ h => h) (Or.inl ⟨by rfl, ?_⟩) HS.out ?_
            · intro u hu; have : u.cell? ⟨g0, 0, none⟩ = some (.int .i64 (M : Int)) := (HX.out.below hu).blk.cell 0; have : u.cell? ⟨g0, 1, none⟩ = some (.slice a0 len0 cap0) := (HX.out.below hu).blk.cell 1; go_simp
            go_simp
            refine wpAnyH_take (i := 12) (v := .int .i64 (A : Int)) rfl (by kernel_rfl) (by kernel_rfl) (by kernel_rfl) (fun _ _ _ h => h) (Or.inl ⟨by rfl, ?_⟩) HS.out ?_
            · intro u hu; go_simp
            go_simp
            refine wpAnyH_take (i := 13) (v := .int .i64 (m : Int)) rfl (by kernel_rfl) (by kernel_rfl) (by kernel_rfl) (fun _ _ _ h => h) (Or.inl ⟨by rfl, ?_⟩) HS.out ?_
            · intro u hu; go_simp
            go_simp
            refine wpAnyH_take (i := 14) (v := .bool a3) rfl (by kernel_rfl) (by kernel_rfl) (by kernel_rfl) (fun _ _ _ h => h) (Or.inl ⟨by rfl, ?_⟩) HS.out ?_
            · intro u hu; go_simp
            go_simp
            refine wpAnyH_ready (rs := [15]) (by kernel_rfl) (by simp) ?_
            refine AllReadyH.cons rfl (fun K hK => ?_) AllReadyH.nil
            go_simp
            refine (rset_is M a0 len0 cap0 xs0 A m E a3 u6 (HX.out.below HS.out).rd Vx.out hE hEM).mono ?_
            rintro e u7 ⟨bj, lj, cj, Xj, rfl, hw, hi, hb⟩
            have HS2 : Hid (Below u5.heap.size u5 u7) := Lib.hid (HS.out.trans (hb.mono HS.out.size))
            have HJ := Lib.hid hw
            have Ij := Lib.hid hi
            clear hw hi
            clear HS hb
            have HS := HS2
            clear HS2
            refine hK.out _ _ HS.out (fun _ => ?_)
            clear hK K
            have hEq : X11 = Xj := I11.out.eq Ij.out (fun j hj => rfl)
            refine wpAnyH_ready (rs := [16]) (by kernel_rfl) (by simp) ?_
            refine AllReadyH.cons rfl (fun K hK => ?_) AllReadyH.nil
            go_simp
            refine (same_is (M : Int) b11 l11 c11 bj lj cj X11 u7 (H11.out.below HS.out).rd (by rw [hEq]; exact HJ.out)).mono ?_
            rintro e u8 ⟨rfl, hb⟩
            have HS2 : Hid (Below u5.heap.size u5 u8) := Lib.hid (HS.out.trans (hb.mono HS.out.size))
            clear HS hb
            have HS := HS2
            clear HS2
            refine hK.out _ _ HS.out (fun _ => ?_)
            clear hK K
            clear hEq HJ Ij
            refine wpAnyH_take (i := 17) (v := .bool true) rfl (by kernel_rfl) (by kernel_rfl) (by kernel_rfl) (fun _ _ _ h => h) (Or.inl ⟨by rfl, ?_⟩) HS.out ?_
            · intro u hu; go_simp
            go_simp
            refine wpAnyH_take (i := 18) (v := .bool true) rfl (by kernel_rfl) (by kernel_rfl) (by kernel_rfl) (fun _ _ _ h => h) (Or.inl ⟨by rfl, ?_⟩) HS.out ?_
            · intro u hu; go_simp
            go_simp
            refine wpAnyH_take (i := 19) (v := .int .i64 (n0 : Int)) rfl (by kernel_rfl) (by kernel_rfl) (by kernel_rfl) (fun _ _ _ h => h) (Or.inl ⟨by rfl, ?_⟩) HS.out ?_
            · intro u hu; go_simp
            go_simp
            refine wpAnyH_take (i := 20) (v := .agg #[.int .i64 (M : Int), .slice a0 len0 cap0]) rfl (by kernel_rfl) (by kernel_rfl) (by kernel_rfl) (fun _ _ _ h => h) (Or.inl ⟨by rfl, ?_⟩) HS.out ?_
            · intro u hu; have : u.cell? ⟨g0, 0, none⟩ = some (.int .i64 (M : Int)) := (HX.out.below hu).blk.cell 0; have : u.cell? ⟨g0, 1, none⟩ = some (.slice a0 len0 cap0) := (HX.out.below hu).blk.cell 1; go_simp
            go_simp
            refine wpAnyH_take (i := 21) (v := .int .i64 (A : Int)) rfl (by kernel_rfl) (by kernel_rfl) (by kernel_rfl) (fun _ _ _ h => h) (Or.inl ⟨by rfl, ?_⟩) HS.out ?_
            · intro u hu; go_simp
            go_simp
            refine wpAnyH_take (i := 22) (v := .int .i64 (m : Int)) rfl (by kernel_rfl) (by kernel_rfl) (by kernel_rfl) (fun _ _ _ h => h) (Or.inl ⟨by rfl, ?_⟩) HS.out ?_
            · intro u hu; go_simp
            go_simp
            refine wpAnyH_ready (rs := [23]) (by kernel_rfl) (by simp) ?_
            refine AllReadyH.cons rfl (fun K hK => ?_) AllReadyH.nil
            go_simp
            refine (rcount_any M a0 len0 cap0 xs0 A m E u8 (HX.out.below HS.out).rd Vx.out hE hEM).mono ?_
            rintro e u9 ⟨rfl, hb⟩
            have HS2 : Hid (Below u5.heap.size u5 u9) := Lib.hid (HS.out.trans (hb.mono HS.out.size))
            rw [← Hn0.out]
            clear HS hb
            have HS := HS2
            clear HS2
            refine hK.out _ _ HS.out (fun _ => ?_)
            clear hK K
            refine wpAnyH_take (i := 24) (v := .bool true) rfl (by kernel_rfl) (by kernel_rfl) (by kernel_rfl) (fun _ _ _ h => h) (Or.inl ⟨by rfl, ?_⟩) HS.out ?_
            · intro u hu; go_simp
            go_simp
            refine wpAnyH_take (i := 25) (v := .bool true) rfl (by kernel_rfl) (by kernel_rfl) (by kernel_rfl) (fun _ _ _ h => h) (Or.inl ⟨by rfl, ?_⟩) HS.out ?_
            · intro u hu; go_simp
            go_simp
            refine wpAnyH_ready (rs := [26]) (by kernel_rfl) (by simp) ?_
            refine AllReadyH.cons rfl (fun K hK => ?_) AllReadyH.nil
            go_simp
            refine hK.out _ _ HS.out (fun _ => ?_)
            clear hK K
            refine wpAnyH_done (by kernel_rfl) ?_ _
            have hS := HS.out
            clear HS
            have HX' := Lib.hid (HX.out.below hS)
            have HO' := Lib.hid (HO.out.below hS (Nat.le_refl _))
            have H11' := Lib.hid (H11.out.below hS)
            have Hb' := Lib.hid (Hb.out.trans (hS.mono Hb.out.size))
            clear hS  Hb HX HO H11
            have HX := HX'
            have HO := HO'
            have H11 := H11'
            have Hb := Hb'
            clear HX' HO' H11' Hb'
            go_wp2_with fail
            go_ret
            exact ⟨rfl, Hb.out⟩
          | false =>
            have hnW := hQf rfl
            clear hQt hQf
            have hbig : (M : Int) ≤ a1 := by omega
            clear cI c0
            go_enter Tryd.func3, Tryd.ntmps3
            go_upto_region 1 with fail
            rw [HEV.out, HE0.out]
            clear HEV HE0
            have q0 : V.cell? ⟨g0, 0, none⟩ = some (.int .i64 (M : Int)) := HX.out.blk.cell 0
            have q1 : V.cell? ⟨g0, 1, none⟩ = some (.slice a0 len0 cap0) := HX.out.blk.cell 1
            go_wp2_with fail
            obtain ⟨WS, hWS⟩ : ∃ WS, WS = V.alloc (.cells #[.int .i64 (M : Int), .slice a0 len0 cap0] 24) := ⟨_, rfl⟩
            have hbS : Below V.heap.size V WS := by rw [hWS]; exact (Below.refl _ V).alloc (Nat.le_refl _) _
            have hBS : Blk WS V.heap.size 24 #[.int .i64 (M : Int), .slice a0 len0 cap0] := by rw [hWS]; exact heap_new V _
            rw [← hWS]
            refine (few1_any _ (M : Int) a0 len0 cap0 WS hBS).mono ?_
            rintro e u0 ⟨rfl, rfl⟩
            rw [← HF.out]
            clear hBS hWS
            have HX' := Lib.hid (HX.out.below hbS)
            have HO' := Lib.hid (HO.out.below hbS (Nat.le_refl _))
            have Hb' := Lib.hid (Hb.out.trans (hbS.mono Hb.out.size))
            clear hbS q0 q1 Hb HX HO
            have HX := HX'
            have HO := HO'
            have Hb := Hb'
            clear HX' HO' Hb'
            have q0 : WS.cell? ⟨g0, 0, none⟩ = some (.int .i64 (M : Int)) := HX.out.blk.cell 0
            have q1 : WS.cell? ⟨g0, 1, none⟩ = some (.slice a0 len0 cap0) := HX.out.blk.cell 1
            go_wp2_with fail
            refine (get_rng (M : Int) a0 len0 cap0 xs0 a1 WS HX.out.rd (by omega) (by omega) (by omega) (by omega) Vx.out.valid (by omega)).mono ?_
            rintro e u1 ⟨rfl, hb⟩
            have HX' := Lib.hid (HX.out.below hb)
            have HO' := Lib.hid (HO.out.below hb (Nat.le_refl _))
            have Hb' := Lib.hid (Hb.out.trans (hb.mono Hb.out.size))
            clear hb q0 q1 Hb HX HO
            have HX := HX'
            have HO := HO'
            have Hb := Hb'
            clear HX' HO' Hb'
            have q0 : u1.cell? ⟨g0, 0, none⟩ = some (.int .i64 (M : Int)) := HX.out.blk.cell 0
            have q1 : u1.cell? ⟨g0, 1, none⟩ = some (.slice a0 len0 cap0) := HX.out.blk.cell 1
            go_wp2_with fail
            refine (set_rng (M : Int) a0 len0 cap0 xs0 u1 HX.out.rd (by omega) (by omega) a1 a2 a3 (by omega) (by omega) Vx.out.valid hnW).mono ?_
            rintro e u2 ⟨rfl, hb⟩
            have HX' := Lib.hid (HX.out.below hb)
            have HO' := Lib.hid (HO.out.below hb (Nat.le_refl _))
            have Hb' := Lib.hid (Hb.out.trans (hb.mono Hb.out.size))
            clear hb q0 q1 Hb HX HO
            have HX := HX'
            have HO := HO'
            have Hb := Hb'
            clear HX' HO' Hb'
            go_upto_region 5 with fail
            obtain ⟨g11, W11, e1, e2, hB, -, hq⟩ := boxed Hb.out 0 none 0 0 [] (Rd.nil u2)
            rw [e2, e1]
            have HBX := Lib.hid hB
            clear e1 e2 hB
            have HX' := Lib.hid (HX.out.below hq)
            have HO' := Lib.hid (HO.out.below hq (Nat.le_refl _))
            have Hb' := Lib.hid (Hb.out.trans (hq.mono Hb.out.size))
            clear hq  Hb HX HO
            have HX := HX'
            have HO := HO'
            have Hb := Hb'
            clear HX' HO' Hb'
            have H11 := HBX
            clear HBX
            have q0 : W11.cell? ⟨g0, 0, none⟩ = some (.int .i64 (M : Int)) := HX.out.blk.cell 0
            have q1 : W11.cell? ⟨g0, 1, none⟩ = some (.slice a0 len0 cap0) := HX.out.blk.cell 1
            have r0 : W11.cell? ⟨g11, 0, none⟩ = some (.int .i64 0) := H11.out.blk.cell 0
            have r1 : W11.cell? ⟨g11, 1, none⟩ = some (.slice none 0 0) := H11.out.blk.cell 1
            go_wp2_with fail
            refine (count_rng (M : Int) a0 len0 cap0 xs0 W11 HX.out.rd (by omega) (by omega) a1 a2 (by omega) (by omega) Vx.out.valid hnW).mono ?_
            rintro e u3 ⟨rfl, hb⟩
            have HX' := Lib.hid (HX.out.below hb)
            have HO' := Lib.hid (HO.out.below hb (Nat.le_refl _))
            have H11' := Lib.hid (H11.out.below hb)
            have Hb' := Lib.hid (Hb.out.trans (hb.mono Hb.out.size))
            clear hb q0 q1 r0 r1 Hb HX HO H11
            have HX := HX'
            have HO := HO'
            have H11 := H11'
            have Hb := Hb'
            clear HX' HO' H11' Hb'
            have q0 : u3.cell? ⟨g0, 0, none⟩ = some (.int .i64 (M : Int)) := HX.out.blk.cell 0
            have q1 : u3.cell? ⟨g0, 1, none⟩ = some (.slice a0 len0 cap0) := HX.out.blk.cell 1
            have r0 : u3.cell? ⟨g11, 0, none⟩ = some (.int .i64 0) := H11.out.blk.cell 0
            have r1 : u3.cell? ⟨g11, 1, none⟩ = some (.slice none 0 0) := H11.out.blk.cell 1
            go_wp2_with fail
            refine (right_any (M : Int) a0 len0 cap0 xs0 u3 HX.out.rd (by omega) (by omega) (by omega)).mono ?_
            rintro e u4 ⟨rfl, hb⟩
            have HX' := Lib.hid (HX.out.below hb)
            have HO' := Lib.hid (HO.out.below hb (Nat.le_refl _))
            have H11' := Lib.hid (H11.out.below hb)
            have Hb' := Lib.hid (Hb.out.trans (hb.mono Hb.out.size))
            clear hb q0 q1 r0 r1 Hb HX HO H11
            have HX := HX'
            have HO := HO'
            have H11 := H11'
            have Hb := Hb'
            clear HX' HO' H11' Hb'
            rw [← HV0.out]
            have q0 : u4.cell? ⟨g0, 0, none⟩ = some (.int .i64 (M : Int)) := HX.out.blk.cell 0
            have q1 : u4.cell? ⟨g0, 1, none⟩ = some (.slice a0 len0 cap0) := HX.out.blk.cell 1
            have r0 : u4.cell? ⟨g11, 0, none⟩ = some (.int .i64 0) := H11.out.blk.cell 0
            have r1 : u4.cell? ⟨g11, 1, none⟩ = some (.slice none 0 0) := H11.out.blk.cell 1
            go_wp2_with fail
            refine (check_any (M : Int) a0 len0 cap0 xs0 u4 HX.out.rd (by omega) (by omega)).mono ?_
            rintro e u5 ⟨rfl, hb⟩
            have HX' := Lib.hid (HX.out.below hb)
            have HO' := Lib.hid (HO.out.below hb (Nat.le_refl _))
            have H11' := Lib.hid (H11.out.below hb)
            have Hb' := Lib.hid (Hb.out.trans (hb.mono Hb.out.size))
            clear hb q0 q1 r0 r1 Hb HX HO H11
            have HX := HX'
            have HO := HO'
            have H11 := H11'
            have Hb := Hb'
            clear HX' HO' H11' Hb'
            rw [show chkE (M : Int) xs0 = 0 from by unfold chkE; rw [← HV0.out]; rfl]
            have q0 : u5.cell? ⟨g0, 0, none⟩ = some (.int .i64 (M : Int)) := HX.out.blk.cell 0
            have q1 : u5.cell? ⟨g0, 1, none⟩ = some (.slice a0 len0 cap0) := HX.out.blk.cell 1
            have r0 : u5.cell? ⟨g11, 0, none⟩ = some (.int .i64 0) := H11.out.blk.cell 0
            have r1 : u5.cell? ⟨g11, 1, none⟩ = some (.slice none 0 0) := H11.out.blk.cell 1
            go_wp2_with fail
            refine (within_any (M : Int) a1 a2 (by omega) (by omega) u5).mono ?_
            rintro e u9 ⟨rfl, rfl⟩
            rw [← HQ.out]
            go_wp2_with fail
            refine (sane_any u5 HO.out).mono ?_
            rintro e u6 ⟨rfl, hb⟩
            have HX' := Lib.hid (HX.out.below hb)
            have HO' := Lib.hid (HO.out.below hb (Nat.le_refl _))
            have H11' := Lib.hid (H11.out.below hb)
            have Hb' := Lib.hid (Hb.out.trans (hb.mono Hb.out.size))
            clear hb q0 q1 r0 r1 Hb HX HO H11
            have HX := HX'
            have HO := HO'
            have H11 := H11'
            have Hb := Hb'
            clear HX' HO' H11' Hb'
            have q0 : u6.cell? ⟨g0, 0, none⟩ = some (.int .i64 (M : Int)) := HX.out.blk.cell 0
            have q1 : u6.cell? ⟨g0, 1, none⟩ = some (.slice a0 len0 cap0) := HX.out.blk.cell 1
            have r0 : u6.cell? ⟨g11, 0, none⟩ = some (.int .i64 0) := H11.out.blk.cell 0
            have r1 : u6.cell? ⟨g11, 1, none⟩ = some (.slice none 0 0) := H11.out.blk.cell 1
            go_wp2_with fail
            refine (none_zero u6).mono ?_
            rintro e u7 ⟨rfl, hb⟩
            have HX' := Lib.hid (HX.out.below hb)
            have HO' := Lib.hid (HO.out.below hb (Nat.le_refl _))
            have H11' := Lib.hid (H11.out.below hb)
            have Hb' := Lib.hid (Hb.out.trans (hb.mono Hb.out.size))
            clear hb q0 q1 r0 r1 Hb HX HO H11
            have HX := HX'
            have HO := HO'
            have H11 := H11'
            have Hb := Hb'
            clear HX' HO' H11' Hb'
            go_wp2_with fail
            go_ret
            exact ⟨rfl, Hb.out⟩
end Go.Proofs.YthognmkjoekilaaDoor.bitsMatches

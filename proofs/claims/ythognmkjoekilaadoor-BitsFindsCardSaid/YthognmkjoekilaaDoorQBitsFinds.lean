/- What the statement BitsFinds calls answers true, for every input that its walk is handed. -/
import Derived.Test.YthognmkjoekilaaDoorRows
import Derived.WalkKit
import Derived.ProofKit
import Derived.OpenShut
import Derived.ShutString
import Derived.ChangeOld
import Derived.Below
import Derived.SizedLaws
import Derived.Test.YthognmkjoekilaaDoorBrfind
namespace Go.Proofs.YthognmkjoekilaaDoor.bitsFinds
open Go.ChangeShapes Go.WideShapes Go.ChangeAt Go.RowKit
open Go.ChangeMaps (open_string shut_string)
set_option linter.unusedVariables false

theorem find_bad (N : Int) (a : Option Addr) (l c : Nat) (bs : List Int) (many how near : Int) (w : World) (hr : Rd w a l c bs) (hN1 : -9223372036854775808 ≤ N) (hN2 : N ≤ 9223372036854775807) (hv : validB N bs = false) :
    Calls Tryd.prog 40 #[.agg #[.int .i64 N, .slice a l c], .int .i64 many, .int .i64 how, .int .i64 near] w fun e w' => e = .returned (.tuple #[.int .i64 0, .int .i64 9]) ∧ Below w.heap.size w w' :=
  find_lift_bad N a l c many how near 9 w fun W hb h0 h1 h2 h3 => find1_bad _ _ _ _ N a l c bs many near how W h0 h1 h3 h2 (hr.below hb (Nat.le_refl _)) hN1 hN2 hv
theorem find_rng (M : Nat) (a : Option Addr) (l c : Nat) (bs : List Int) (many how near : Int) (w : World) (hr : Rd w a l c bs) (hv : Vb M bs) (hc : ¬ (1 ≤ many ∧ 0 ≤ near ∧ near ≤ (M : Int)) ∨ ((1 ≤ many ∧ 0 ≤ near ∧ near ≤ (M : Int)) ∧ ¬ (1 ≤ how ∧ how ≤ 3))) :
    Calls Tryd.prog 40 #[.agg #[.int .i64 (M : Int), .slice a l c], .int .i64 many, .int .i64 how, .int .i64 near] w fun e w' => e = .returned (.tuple #[.int .i64 0, .int .i64 1]) ∧ Below w.heap.size w w' := by
  have hM := hv.le
  rcases hc with hc | ⟨⟨c1, c2, c3⟩, hc⟩
  · exact find_lift_bad M a l c many how near 1 w fun W hb h0 h1 h2 h3 => find1_rng _ _ _ _ M a l c bs many near how W h0 h1 h3 h2 (hr.below hb (Nat.le_refl _)) (by omega) (by omega) hv.valid hc
  · obtain ⟨nr, rfl⟩ : ∃ nr : Nat, near = (nr : Int) := ⟨near.toNat, by omega⟩
    exact find_lift_bad M a l c many how nr 1 w fun W hb h0 h1 h2 h3 => find1_how _ _ _ _ M a l c bs many nr how W h0 h1 h3 h2 (hr.below hb (Nat.le_refl _)) hv.valid c1 (by omega) hc
theorem find_no (M : Nat) (a : Option Addr) (l c : Nat) (bs : List Int) (many : Int) (how near : Nat) (w : World) (hr : Rd w a l c bs) (hv : Vb M bs) (h1 : 1 ≤ many) (hn : near ≤ M) (hh1 : 1 ≤ how) (hh3 : how ≤ 3) (hf : findV bs M many near (bstV bs M many) how = none) :
    Calls Tryd.prog 40 #[.agg #[.int .i64 (M : Int), .slice a l c], .int .i64 many, .int .i64 (how : Int), .int .i64 (near : Int)] w fun e w' => e = .returned (.tuple #[.int .i64 0, .int .i64 3]) ∧ Below w.heap.size w w' :=
  find_lift_bad M a l c many how near 3 w fun W hb k0 k1 k2 k3 => find1_none _ _ _ _ M a l c bs many near how W k0 k1 k3 k2 (hr.below hb (Nat.le_refl _)) hv.valid h1 hn (bstV bs M many) hh1 hh3 (fun _ V hbV => best_any M a l c bs many near V ((hr.below hb (Nat.le_refl _)).below hbV (Nat.le_refl _)) hv.valid) hf
theorem find_ok (M : Nat) (a : Option Addr) (l c : Nat) (bs : List Int) (many : Int) (how near x : Nat) (w : World) (hr : Rd w a l c bs) (hv : Vb M bs) (h1 : 1 ≤ many) (hn : near ≤ M) (hh1 : 1 ≤ how) (hh3 : how ≤ 3) (hf : findV bs M many near (bstV bs M many) how = some x) :
    Calls Tryd.prog 40 #[.agg #[.int .i64 (M : Int), .slice a l c], .int .i64 many, .int .i64 (how : Int), .int .i64 (near : Int)] w fun e w' => e = .returned (.tuple #[.int .i64 (x : Int), .int .i64 0]) ∧ Below w.heap.size w w' :=
  find_lift_ok M a l c many how near x w fun W hb k0 k1 k2 k3 => find1_ok _ _ _ _ M a l c bs many near how W k0 k1 k3 k2 (hr.below hb (Nat.le_refl _)) hv.valid h1 hn (bstV bs M many) hh1 hh3 (fun _ V hbV => best_any M a l c bs many near V ((hr.below hb (Nat.le_refl _)).below hbV (Nat.le_refl _)) hv.valid) x hf
theorem rfind_any (M : Nat) (a : Option Addr) (l c : Nat) (bs : List Int) (many : Int) (how near : Nat) (w : World) (hr : Rd w a l c bs) (hv : Vb M bs) (h1 : 1 ≤ many) (h2 : many ≤ 9223372036854775807) (hn : near ≤ M) (hh1 : 1 ≤ how) (hh3 : how ≤ 3) :
    Calls Tryd.prog 41 #[.agg #[.int .i64 (M : Int), .slice a l c], .int .i64 many, .int .i64 (how : Int), .int .i64 (near : Int)] w fun e w' => e = .returned (.int .i64 (refV (runsV bs M false) many near how)) ∧ Below w.heap.size w w' := by
  have : how = 1 ∨ how = 2 ∨ how = 3 := by omega
  rcases this with rfl | rfl | rfl
  · exact rfind1_any M a l c bs many near w hr hv h1 h2 hn
  · exact rfind2_any M a l c bs many near w hr hv h1 h2 hn
  · exact rfind3_any M a l c bs many near w hr hv h1 h2 hn
theorem runs_ok (M : Nat) (a : Option Addr) (l c : Nat) (bs : List Int) (on : Bool) (w : World) (hr : Rd w a l c bs) (hv : Vb M bs) :
    Calls Tryd.prog 37 #[.agg #[.int .i64 (M : Int), .slice a l c], .bool on] w fun e w' => ∃ a' l' c', e = .returned (.tuple #[.slice a' l' c', .int .i64 0]) ∧ OwnR w' w.heap.size (.slice a' l' c') (runsV bs M on) ∧ Below w.heap.size w w' :=
  runs_lift_ok M a l c on (runsV bs M on) w fun W hb h0 h1 => runs1_ok _ _ M a l c bs on W h0 h1 (hr.below hb (Nat.le_refl _)) M rfl hv.valid
set_option maxRecDepth 100000 in
set_option maxHeartbeats 8000000 in
theorem walk (N0 : Int) (a0 : Option Addr) (len0 cap0 : Nat) (xs0 : List Int) (a1 : Int) (a2 : Int) (a3 : Int) (w : World) (w0 : (Rd w a0 len0 cap0 xs0 ∧ cap0 ≤ 140737488351232) ∧ (-9223372036854775808 ≤ N0 ∧ N0 ≤ 9223372036854775807)) (w1 : (Lit.int .i64 a1).wf = true) (w2 : (Lit.int .i64 a2).wf = true) (w3 : (Lit.int .i64 a3).wf = true) (ho : Ones w) :
    Calls Tryd.prog 10 #[.agg #[.int .i64 N0, .slice a0 len0 cap0], .int .i64 a1, .int .i64 a2, .int .i64 a3] w fun e w' => e = .returned (.bool true) ∧ Below w.heap.size w w' := by
  have hwf1 := wf_i64 w1
  have hwf2 := wf_i64 w2
  have hwf3 := wf_i64 w3
  clear w1 w2 w3
  have HO := Lib.hid ho
  have HX := Lib.hid w0.1.1
  have hN0 := w0.2
  have hc0 := w0.1.2
  have hl0 := w0.1.1.hc
  clear w0 ho
  obtain ⟨g0, V, e0, eV, hBx, hb, -⟩ := boxed (Below.refl _ w) N0 a0 len0 cap0 xs0 HX.out
  have HEV := Lib.hid eV
  have HE0 := Lib.hid e0
  have HX' := Lib.hid hBx
  have HO' := Lib.hid (HO.out.below hb (Nat.le_refl _))
  have Hb := Lib.hid hb
  clear HX HO e0 eV hBx hb
  have HX := HX'
  have HO := HO'
  clear HX' HO'
  obtain ⟨F, hF⟩ : ∃ F, F = fewV N0 len0 := ⟨_, rfl⟩
  obtain ⟨V0, hV0⟩ : ∃ V, V = validB N0 xs0 := ⟨_, rfl⟩
  have HF := Lib.hid hF
  have HV0 := Lib.hid hV0
  clear hF hV0
  cases F with
  | false =>
    go_enter Tryd.func10, Tryd.ntmps10
    go_upto_region 1 with fail
    rw [HEV.out, HE0.out]
    clear HEV HE0
    have q0 : V.cell? ⟨g0, 0, none⟩ = some (.int .i64 N0) := HX.out.blk.cell 0
    have q1 : V.cell? ⟨g0, 1, none⟩ = some (.slice a0 len0 cap0) := HX.out.blk.cell 1
    go_wp2_with fail
    obtain ⟨WS, hWS⟩ : ∃ WS, WS = V.alloc (.cells #[.int .i64 N0, .slice a0 len0 cap0] 24) := ⟨_, rfl⟩
    have hbS : Below V.heap.size V WS := by rw [hWS]; exact (Below.refl _ V).alloc (Nat.le_refl _) _
    have hBS : Blk WS V.heap.size 24 #[.int .i64 N0, .slice a0 len0 cap0] := by rw [hWS]; exact heap_new V _
    rw [← hWS]
    refine (few1_any _ N0 a0 len0 cap0 WS hBS).mono ?_
    rintro e u0 ⟨rfl, rfl⟩
    rw [← HF.out]
    clear hBS hWS
    have HX' := Lib.hid (HX.out.below hbS)
    have HO' := Lib.hid (HO.out.below hbS (Nat.le_refl _))
    have Hb' := Lib.hid (Hb.out.trans (hbS.mono Hb.out.size))
    clear hbS q0 q1 Hb HX HO
    have HX := HX'
    have HO := HO'
    have Hb := Hb'
    clear HX' HO' Hb'
    have q0 : WS.cell? ⟨g0, 0, none⟩ = some (.int .i64 N0) := HX.out.blk.cell 0
    have q1 : WS.cell? ⟨g0, 1, none⟩ = some (.slice a0 len0 cap0) := HX.out.blk.cell 1
    go_wp2_with fail
    refine (sane_any WS HO.out).mono ?_
    rintro e u1 ⟨rfl, hb⟩
    have HX' := Lib.hid (HX.out.below hb)
    have HO' := Lib.hid (HO.out.below hb (Nat.le_refl _))
    have Hb' := Lib.hid (Hb.out.trans (hb.mono Hb.out.size))
    clear hb q0 q1 Hb HX HO
    have HX := HX'
    have HO := HO'
    have Hb := Hb'
    clear HX' HO' Hb'
    go_wp2_with fail
    go_ret
    exact ⟨rfl, Hb.out⟩
  | true =>
    cases V0 with
    | false =>
      go_enter Tryd.func10, Tryd.ntmps10
      go_upto_region 1 with fail
      rw [HEV.out, HE0.out]
      clear HEV HE0
      have q0 : V.cell? ⟨g0, 0, none⟩ = some (.int .i64 N0) := HX.out.blk.cell 0
      have q1 : V.cell? ⟨g0, 1, none⟩ = some (.slice a0 len0 cap0) := HX.out.blk.cell 1
      go_wp2_with fail
      obtain ⟨WS, hWS⟩ : ∃ WS, WS = V.alloc (.cells #[.int .i64 N0, .slice a0 len0 cap0] 24) := ⟨_, rfl⟩
      have hbS : Below V.heap.size V WS := by rw [hWS]; exact (Below.refl _ V).alloc (Nat.le_refl _) _
      have hBS : Blk WS V.heap.size 24 #[.int .i64 N0, .slice a0 len0 cap0] := by rw [hWS]; exact heap_new V _
      rw [← hWS]
      refine (few1_any _ N0 a0 len0 cap0 WS hBS).mono ?_
      rintro e u0 ⟨rfl, rfl⟩
      rw [← HF.out]
      clear hBS hWS
      have HX' := Lib.hid (HX.out.below hbS)
      have HO' := Lib.hid (HO.out.below hbS (Nat.le_refl _))
      have Hb' := Lib.hid (Hb.out.trans (hbS.mono Hb.out.size))
      clear hbS q0 q1 Hb HX HO
      have HX := HX'
      have HO := HO'
      have Hb := Hb'
      clear HX' HO' Hb'
      have q0 : WS.cell? ⟨g0, 0, none⟩ = some (.int .i64 N0) := HX.out.blk.cell 0
      have q1 : WS.cell? ⟨g0, 1, none⟩ = some (.slice a0 len0 cap0) := HX.out.blk.cell 1
      go_wp2_with fail
      refine (find_bad N0 a0 len0 cap0 xs0 a1 a2 a3 WS HX.out.rd (by omega) (by omega) HV0.out.symm).mono ?_
      rintro e u1 ⟨rfl, hb⟩
      have HX' := Lib.hid (HX.out.below hb)
      have HO' := Lib.hid (HO.out.below hb (Nat.le_refl _))
      have Hb' := Lib.hid (Hb.out.trans (hb.mono Hb.out.size))
      clear hb q0 q1 Hb HX HO
      have HX := HX'
      have HO := HO'
      have Hb := Hb'
      clear HX' HO' Hb'
      have q0 : u1.cell? ⟨g0, 0, none⟩ = some (.int .i64 N0) := HX.out.blk.cell 0
      have q1 : u1.cell? ⟨g0, 1, none⟩ = some (.slice a0 len0 cap0) := HX.out.blk.cell 1
      go_wp2_with fail
      refine (right_any N0 a0 len0 cap0 xs0 u1 HX.out.rd (by omega) (by omega) (by omega)).mono ?_
      rintro e u2 ⟨rfl, hb⟩
      have HX' := Lib.hid (HX.out.below hb)
      have HO' := Lib.hid (HO.out.below hb (Nat.le_refl _))
      have Hb' := Lib.hid (Hb.out.trans (hb.mono Hb.out.size))
      clear hb q0 q1 Hb HX HO
      have HX := HX'
      have HO := HO'
      have Hb := Hb'
      clear HX' HO' Hb'
      rw [← HV0.out]
      have q0 : u2.cell? ⟨g0, 0, none⟩ = some (.int .i64 N0) := HX.out.blk.cell 0
      have q1 : u2.cell? ⟨g0, 1, none⟩ = some (.slice a0 len0 cap0) := HX.out.blk.cell 1
      go_wp2_with fail
      refine (sane_any u2 HO.out).mono ?_
      rintro e u3 ⟨rfl, hb⟩
      have HX' := Lib.hid (HX.out.below hb)
      have HO' := Lib.hid (HO.out.below hb (Nat.le_refl _))
      have Hb' := Lib.hid (Hb.out.trans (hb.mono Hb.out.size))
      clear hb q0 q1 Hb HX HO
      have HX := HX'
      have HO := HO'
      have Hb := Hb'
      clear HX' HO' Hb'
      go_wp2_with fail
      go_ret
      exact ⟨rfl, Hb.out⟩
    | true =>
      obtain ⟨M, rfl, vx⟩ := Vb.of HX.out.rd.hb HV0.out.symm
      have hM := vx.le
      have Vx := Lib.hid vx
      clear vx
      by_cases c1 : a1 < 1
      · go_enter Tryd.func10, Tryd.ntmps10
        go_upto_region 1 with fail
        rw [HEV.out, HE0.out]
        clear HEV HE0
        have q0 : V.cell? ⟨g0, 0, none⟩ = some (.int .i64 (M : Int)) := HX.out.blk.cell 0
        have q1 : V.cell? ⟨g0, 1, none⟩ = some (.slice a0 len0 cap0) := HX.out.blk.cell 1
        go_wp2_with fail
        obtain ⟨WS, hWS⟩ : ∃ WS, WS = V.alloc (.cells #[.int .i64 (M : Int), .slice a0 len0 cap0] 24) := ⟨_, rfl⟩
        have hbS : Below V.heap.size V WS := by rw [hWS]; exact (Below.refl _ V).alloc (Nat.le_refl _) _
        have hBS : Blk WS V.heap.size 24 #[.int .i64 (M : Int), .slice a0 len0 cap0] := by rw [hWS]; exact heap_new V _
        rw [← hWS]
        refine (few1_any _ (M : Int) a0 len0 cap0 WS hBS).mono ?_
        rintro e u0 ⟨rfl, rfl⟩
        rw [← HF.out]
        clear hBS hWS
        have HX' := Lib.hid (HX.out.below hbS)
        have HO' := Lib.hid (HO.out.below hbS (Nat.le_refl _))
        have Hb' := Lib.hid (Hb.out.trans (hbS.mono Hb.out.size))
        clear hbS q0 q1 Hb HX HO
        have HX := HX'
        have HO := HO'
        have Hb := Hb'
        clear HX' HO' Hb'
        have q0 : WS.cell? ⟨g0, 0, none⟩ = some (.int .i64 (M : Int)) := HX.out.blk.cell 0
        have q1 : WS.cell? ⟨g0, 1, none⟩ = some (.slice a0 len0 cap0) := HX.out.blk.cell 1
        go_wp2_with fail
        refine (find_rng M a0 len0 cap0 xs0 a1 a2 a3 WS HX.out.rd Vx.out (by omega)).mono ?_
        rintro e u1 ⟨rfl, hb⟩
        have HX' := Lib.hid (HX.out.below hb)
        have HO' := Lib.hid (HO.out.below hb (Nat.le_refl _))
        have Hb' := Lib.hid (Hb.out.trans (hb.mono Hb.out.size))
        clear hb q0 q1 Hb HX HO
        have HX := HX'
        have HO := HO'
        have Hb := Hb'
        clear HX' HO' Hb'
        have q0 : u1.cell? ⟨g0, 0, none⟩ = some (.int .i64 (M : Int)) := HX.out.blk.cell 0
        have q1 : u1.cell? ⟨g0, 1, none⟩ = some (.slice a0 len0 cap0) := HX.out.blk.cell 1
        go_wp2_with fail
        refine (right_any (M : Int) a0 len0 cap0 xs0 u1 HX.out.rd (by omega) (by omega) (by omega)).mono ?_
        rintro e u2 ⟨rfl, hb⟩
        have HX' := Lib.hid (HX.out.below hb)
        have HO' := Lib.hid (HO.out.below hb (Nat.le_refl _))
        have Hb' := Lib.hid (Hb.out.trans (hb.mono Hb.out.size))
        clear hb q0 q1 Hb HX HO
        have HX := HX'
        have HO := HO'
        have Hb := Hb'
        clear HX' HO' Hb'
        rw [← HV0.out]
        have q0 : u2.cell? ⟨g0, 0, none⟩ = some (.int .i64 (M : Int)) := HX.out.blk.cell 0
        have q1 : u2.cell? ⟨g0, 1, none⟩ = some (.slice a0 len0 cap0) := HX.out.blk.cell 1
        go_wp2_with fail
        refine (sane_any u2 HO.out).mono ?_
        rintro e u3 ⟨rfl, hb⟩
        have HX' := Lib.hid (HX.out.below hb)
        have HO' := Lib.hid (HO.out.below hb (Nat.le_refl _))
        have Hb' := Lib.hid (Hb.out.trans (hb.mono Hb.out.size))
        clear hb q0 q1 Hb HX HO
        have HX := HX'
        have HO := HO'
        have Hb := Hb'
        clear HX' HO' Hb'
        go_wp2_with fail
        go_ret
        exact ⟨rfl, Hb.out⟩
      by_cases c2 : a2 < 1
      · have d1 : 1 ≤ a1 := by omega
        go_enter Tryd.func10, Tryd.ntmps10
        go_upto_region 1 with fail
        rw [HEV.out, HE0.out]
        clear HEV HE0
        have q0 : V.cell? ⟨g0, 0, none⟩ = some (.int .i64 (M : Int)) := HX.out.blk.cell 0
        have q1 : V.cell? ⟨g0, 1, none⟩ = some (.slice a0 len0 cap0) := HX.out.blk.cell 1
        go_wp2_with fail
        obtain ⟨WS, hWS⟩ : ∃ WS, WS = V.alloc (.cells #[.int .i64 (M : Int), .slice a0 len0 cap0] 24) := ⟨_, rfl⟩
        have hbS : Below V.heap.size V WS := by rw [hWS]; exact (Below.refl _ V).alloc (Nat.le_refl _) _
        have hBS : Blk WS V.heap.size 24 #[.int .i64 (M : Int), .slice a0 len0 cap0] := by rw [hWS]; exact heap_new V _
        rw [← hWS]
        refine (few1_any _ (M : Int) a0 len0 cap0 WS hBS).mono ?_
        rintro e u0 ⟨rfl, rfl⟩
        rw [← HF.out]
        clear hBS hWS
        have HX' := Lib.hid (HX.out.below hbS)
        have HO' := Lib.hid (HO.out.below hbS (Nat.le_refl _))
        have Hb' := Lib.hid (Hb.out.trans (hbS.mono Hb.out.size))
        clear hbS q0 q1 Hb HX HO
        have HX := HX'
        have HO := HO'
        have Hb := Hb'
        clear HX' HO' Hb'
        have q0 : WS.cell? ⟨g0, 0, none⟩ = some (.int .i64 (M : Int)) := HX.out.blk.cell 0
        have q1 : WS.cell? ⟨g0, 1, none⟩ = some (.slice a0 len0 cap0) := HX.out.blk.cell 1
        go_wp2_with fail
        refine (find_rng M a0 len0 cap0 xs0 a1 a2 a3 WS HX.out.rd Vx.out (by omega)).mono ?_
        rintro e u1 ⟨rfl, hb⟩
        have HX' := Lib.hid (HX.out.below hb)
        have HO' := Lib.hid (HO.out.below hb (Nat.le_refl _))
        have Hb' := Lib.hid (Hb.out.trans (hb.mono Hb.out.size))
        clear hb q0 q1 Hb HX HO
        have HX := HX'
        have HO := HO'
        have Hb := Hb'
        clear HX' HO' Hb'
        have q0 : u1.cell? ⟨g0, 0, none⟩ = some (.int .i64 (M : Int)) := HX.out.blk.cell 0
        have q1 : u1.cell? ⟨g0, 1, none⟩ = some (.slice a0 len0 cap0) := HX.out.blk.cell 1
        go_wp2_with fail
        refine (right_any (M : Int) a0 len0 cap0 xs0 u1 HX.out.rd (by omega) (by omega) (by omega)).mono ?_
        rintro e u2 ⟨rfl, hb⟩
        have HX' := Lib.hid (HX.out.below hb)
        have HO' := Lib.hid (HO.out.below hb (Nat.le_refl _))
        have Hb' := Lib.hid (Hb.out.trans (hb.mono Hb.out.size))
        clear hb q0 q1 Hb HX HO
        have HX := HX'
        have HO := HO'
        have Hb := Hb'
        clear HX' HO' Hb'
        rw [← HV0.out]
        have q0 : u2.cell? ⟨g0, 0, none⟩ = some (.int .i64 (M : Int)) := HX.out.blk.cell 0
        have q1 : u2.cell? ⟨g0, 1, none⟩ = some (.slice a0 len0 cap0) := HX.out.blk.cell 1
        go_wp2_with fail
        refine (sane_any u2 HO.out).mono ?_
        rintro e u3 ⟨rfl, hb⟩
        have HX' := Lib.hid (HX.out.below hb)
        have HO' := Lib.hid (HO.out.below hb (Nat.le_refl _))
        have Hb' := Lib.hid (Hb.out.trans (hb.mono Hb.out.size))
        clear hb q0 q1 Hb HX HO
        have HX := HX'
        have HO := HO'
        have Hb := Hb'
        clear HX' HO' Hb'
        go_wp2_with fail
        go_ret
        exact ⟨rfl, Hb.out⟩
      by_cases c3 : 3 < a2
      · have d1 : 1 ≤ a1 := by omega
        have d2 : 1 ≤ a2 := by omega
        go_enter Tryd.func10, Tryd.ntmps10
        go_upto_region 1 with fail
        rw [HEV.out, HE0.out]
        clear HEV HE0
        have q0 : V.cell? ⟨g0, 0, none⟩ = some (.int .i64 (M : Int)) := HX.out.blk.cell 0
        have q1 : V.cell? ⟨g0, 1, none⟩ = some (.slice a0 len0 cap0) := HX.out.blk.cell 1
        go_wp2_with fail
        obtain ⟨WS, hWS⟩ : ∃ WS, WS = V.alloc (.cells #[.int .i64 (M : Int), .slice a0 len0 cap0] 24) := ⟨_, rfl⟩
        have hbS : Below V.heap.size V WS := by rw [hWS]; exact (Below.refl _ V).alloc (Nat.le_refl _) _
        have hBS : Blk WS V.heap.size 24 #[.int .i64 (M : Int), .slice a0 len0 cap0] := by rw [hWS]; exact heap_new V _
        rw [← hWS]
        refine (few1_any _ (M : Int) a0 len0 cap0 WS hBS).mono ?_
        rintro e u0 ⟨rfl, rfl⟩
        rw [← HF.out]
        clear hBS hWS
        have HX' := Lib.hid (HX.out.below hbS)
        have HO' := Lib.hid (HO.out.below hbS (Nat.le_refl _))
        have Hb' := Lib.hid (Hb.out.trans (hbS.mono Hb.out.size))
        clear hbS q0 q1 Hb HX HO
        have HX := HX'
        have HO := HO'
        have Hb := Hb'
        clear HX' HO' Hb'
        have q0 : WS.cell? ⟨g0, 0, none⟩ = some (.int .i64 (M : Int)) := HX.out.blk.cell 0
        have q1 : WS.cell? ⟨g0, 1, none⟩ = some (.slice a0 len0 cap0) := HX.out.blk.cell 1
        go_wp2_with fail
        refine (find_rng M a0 len0 cap0 xs0 a1 a2 a3 WS HX.out.rd Vx.out (by omega)).mono ?_
        rintro e u1 ⟨rfl, hb⟩
        have HX' := Lib.hid (HX.out.below hb)
        have HO' := Lib.hid (HO.out.below hb (Nat.le_refl _))
        have Hb' := Lib.hid (Hb.out.trans (hb.mono Hb.out.size))
        clear hb q0 q1 Hb HX HO
        have HX := HX'
        have HO := HO'
        have Hb := Hb'
        clear HX' HO' Hb'
        have q0 : u1.cell? ⟨g0, 0, none⟩ = some (.int .i64 (M : Int)) := HX.out.blk.cell 0
        have q1 : u1.cell? ⟨g0, 1, none⟩ = some (.slice a0 len0 cap0) := HX.out.blk.cell 1
        go_wp2_with fail
        refine (right_any (M : Int) a0 len0 cap0 xs0 u1 HX.out.rd (by omega) (by omega) (by omega)).mono ?_
        rintro e u2 ⟨rfl, hb⟩
        have HX' := Lib.hid (HX.out.below hb)
        have HO' := Lib.hid (HO.out.below hb (Nat.le_refl _))
        have Hb' := Lib.hid (Hb.out.trans (hb.mono Hb.out.size))
        clear hb q0 q1 Hb HX HO
        have HX := HX'
        have HO := HO'
        have Hb := Hb'
        clear HX' HO' Hb'
        rw [← HV0.out]
        have q0 : u2.cell? ⟨g0, 0, none⟩ = some (.int .i64 (M : Int)) := HX.out.blk.cell 0
        have q1 : u2.cell? ⟨g0, 1, none⟩ = some (.slice a0 len0 cap0) := HX.out.blk.cell 1
        go_wp2_with fail
        refine (sane_any u2 HO.out).mono ?_
        rintro e u3 ⟨rfl, hb⟩
        have HX' := Lib.hid (HX.out.below hb)
        have HO' := Lib.hid (HO.out.below hb (Nat.le_refl _))
        have Hb' := Lib.hid (Hb.out.trans (hb.mono Hb.out.size))
        clear hb q0 q1 Hb HX HO
        have HX := HX'
        have HO := HO'
        have Hb := Hb'
        clear HX' HO' Hb'
        go_wp2_with fail
        go_ret
        exact ⟨rfl, Hb.out⟩
      by_cases c4 : a3 < 0
      · have d1 : 1 ≤ a1 := by omega
        have d2 : 1 ≤ a2 := by omega
        have d3 : a2 ≤ 3 := by omega
        go_enter Tryd.func10, Tryd.ntmps10
        go_upto_region 1 with fail
        rw [HEV.out, HE0.out]
        clear HEV HE0
        have q0 : V.cell? ⟨g0, 0, none⟩ = some (.int .i64 (M : Int)) := HX.out.blk.cell 0
        have q1 : V.cell? ⟨g0, 1, none⟩ = some (.slice a0 len0 cap0) := HX.out.blk.cell 1
        go_wp2_with fail
        obtain ⟨WS, hWS⟩ : ∃ WS, WS = V.alloc (.cells #[.int .i64 (M : Int), .slice a0 len0 cap0] 24) := ⟨_, rfl⟩
        have hbS : Below V.heap.size V WS := by rw [hWS]; exact (Below.refl _ V).alloc (Nat.le_refl _) _
        have hBS : Blk WS V.heap.size 24 #[.int .i64 (M : Int), .slice a0 len0 cap0] := by rw [hWS]; exact heap_new V _
        rw [← hWS]
        refine (few1_any _ (M : Int) a0 len0 cap0 WS hBS).mono ?_
        rintro e u0 ⟨rfl, rfl⟩
        rw [← HF.out]
        clear hBS hWS
        have HX' := Lib.hid (HX.out.below hbS)
        have HO' := Lib.hid (HO.out.below hbS (Nat.le_refl _))
        have Hb' := Lib.hid (Hb.out.trans (hbS.mono Hb.out.size))
        clear hbS q0 q1 Hb HX HO
        have HX := HX'
        have HO := HO'
        have Hb := Hb'
        clear HX' HO' Hb'
        have q0 : WS.cell? ⟨g0, 0, none⟩ = some (.int .i64 (M : Int)) := HX.out.blk.cell 0
        have q1 : WS.cell? ⟨g0, 1, none⟩ = some (.slice a0 len0 cap0) := HX.out.blk.cell 1
        go_wp2_with fail
        refine (find_rng M a0 len0 cap0 xs0 a1 a2 a3 WS HX.out.rd Vx.out (by omega)).mono ?_
        rintro e u1 ⟨rfl, hb⟩
        have HX' := Lib.hid (HX.out.below hb)
        have HO' := Lib.hid (HO.out.below hb (Nat.le_refl _))
        have Hb' := Lib.hid (Hb.out.trans (hb.mono Hb.out.size))
        clear hb q0 q1 Hb HX HO
        have HX := HX'
        have HO := HO'
        have Hb := Hb'
        clear HX' HO' Hb'
        have q0 : u1.cell? ⟨g0, 0, none⟩ = some (.int .i64 (M : Int)) := HX.out.blk.cell 0
        have q1 : u1.cell? ⟨g0, 1, none⟩ = some (.slice a0 len0 cap0) := HX.out.blk.cell 1
        go_wp2_with fail
        refine (right_any (M : Int) a0 len0 cap0 xs0 u1 HX.out.rd (by omega) (by omega) (by omega)).mono ?_
        rintro e u2 ⟨rfl, hb⟩
        have HX' := Lib.hid (HX.out.below hb)
        have HO' := Lib.hid (HO.out.below hb (Nat.le_refl _))
        have Hb' := Lib.hid (Hb.out.trans (hb.mono Hb.out.size))
        clear hb q0 q1 Hb HX HO
        have HX := HX'
        have HO := HO'
        have Hb := Hb'
        clear HX' HO' Hb'
        rw [← HV0.out]
        have q0 : u2.cell? ⟨g0, 0, none⟩ = some (.int .i64 (M : Int)) := HX.out.blk.cell 0
        have q1 : u2.cell? ⟨g0, 1, none⟩ = some (.slice a0 len0 cap0) := HX.out.blk.cell 1
        go_wp2_with fail
        refine (sane_any u2 HO.out).mono ?_
        rintro e u3 ⟨rfl, hb⟩
        have HX' := Lib.hid (HX.out.below hb)
        have HO' := Lib.hid (HO.out.below hb (Nat.le_refl _))
        have Hb' := Lib.hid (Hb.out.trans (hb.mono Hb.out.size))
        clear hb q0 q1 Hb HX HO
        have HX := HX'
        have HO := HO'
        have Hb := Hb'
        clear HX' HO' Hb'
        go_wp2_with fail
        go_ret
        exact ⟨rfl, Hb.out⟩
      by_cases c5 : (M : Int) < a3
      · have d1 : 1 ≤ a1 := by omega
        have d2 : 1 ≤ a2 := by omega
        have d3 : a2 ≤ 3 := by omega
        have d4 : 0 ≤ a3 := by omega
        go_enter Tryd.func10, Tryd.ntmps10
        go_upto_region 1 with fail
        rw [HEV.out, HE0.out]
        clear HEV HE0
        have q0 : V.cell? ⟨g0, 0, none⟩ = some (.int .i64 (M : Int)) := HX.out.blk.cell 0
        have q1 : V.cell? ⟨g0, 1, none⟩ = some (.slice a0 len0 cap0) := HX.out.blk.cell 1
        go_wp2_with fail
        obtain ⟨WS, hWS⟩ : ∃ WS, WS = V.alloc (.cells #[.int .i64 (M : Int), .slice a0 len0 cap0] 24) := ⟨_, rfl⟩
        have hbS : Below V.heap.size V WS := by rw [hWS]; exact (Below.refl _ V).alloc (Nat.le_refl _) _
        have hBS : Blk WS V.heap.size 24 #[.int .i64 (M : Int), .slice a0 len0 cap0] := by rw [hWS]; exact heap_new V _
        rw [← hWS]
        refine (few1_any _ (M : Int) a0 len0 cap0 WS hBS).mono ?_
        rintro e u0 ⟨rfl, rfl⟩
        rw [← HF.out]
        clear hBS hWS
        have HX' := Lib.hid (HX.out.below hbS)
        have HO' := Lib.hid (HO.out.below hbS (Nat.le_refl _))
        have Hb' := Lib.hid (Hb.out.trans (hbS.mono Hb.out.size))
        clear hbS q0 q1 Hb HX HO
        have HX := HX'
        have HO := HO'
        have Hb := Hb'
        clear HX' HO' Hb'
        have q0 : WS.cell? ⟨g0, 0, none⟩ = some (.int .i64 (M : Int)) := HX.out.blk.cell 0
        have q1 : WS.cell? ⟨g0, 1, none⟩ = some (.slice a0 len0 cap0) := HX.out.blk.cell 1
        go_wp2_with fail
        refine (find_rng M a0 len0 cap0 xs0 a1 a2 a3 WS HX.out.rd Vx.out (by omega)).mono ?_
        rintro e u1 ⟨rfl, hb⟩
        have HX' := Lib.hid (HX.out.below hb)
        have HO' := Lib.hid (HO.out.below hb (Nat.le_refl _))
        have Hb' := Lib.hid (Hb.out.trans (hb.mono Hb.out.size))
        clear hb q0 q1 Hb HX HO
        have HX := HX'
        have HO := HO'
        have Hb := Hb'
        clear HX' HO' Hb'
        have q0 : u1.cell? ⟨g0, 0, none⟩ = some (.int .i64 (M : Int)) := HX.out.blk.cell 0
        have q1 : u1.cell? ⟨g0, 1, none⟩ = some (.slice a0 len0 cap0) := HX.out.blk.cell 1
        go_wp2_with fail
        refine (right_any (M : Int) a0 len0 cap0 xs0 u1 HX.out.rd (by omega) (by omega) (by omega)).mono ?_
        rintro e u2 ⟨rfl, hb⟩
        have HX' := Lib.hid (HX.out.below hb)
        have HO' := Lib.hid (HO.out.below hb (Nat.le_refl _))
        have Hb' := Lib.hid (Hb.out.trans (hb.mono Hb.out.size))
        clear hb q0 q1 Hb HX HO
        have HX := HX'
        have HO := HO'
        have Hb := Hb'
        clear HX' HO' Hb'
        rw [← HV0.out]
        have q0 : u2.cell? ⟨g0, 0, none⟩ = some (.int .i64 (M : Int)) := HX.out.blk.cell 0
        have q1 : u2.cell? ⟨g0, 1, none⟩ = some (.slice a0 len0 cap0) := HX.out.blk.cell 1
        go_wp2_with fail
        refine (sane_any u2 HO.out).mono ?_
        rintro e u3 ⟨rfl, hb⟩
        have HX' := Lib.hid (HX.out.below hb)
        have HO' := Lib.hid (HO.out.below hb (Nat.le_refl _))
        have Hb' := Lib.hid (Hb.out.trans (hb.mono Hb.out.size))
        clear hb q0 q1 Hb HX HO
        have HX := HX'
        have HO := HO'
        have Hb := Hb'
        clear HX' HO' Hb'
        go_wp2_with fail
        go_ret
        exact ⟨rfl, Hb.out⟩
      have hc : 1 ≤ a1 ∧ 1 ≤ a2 ∧ a2 ≤ 3 ∧ 0 ≤ a3 ∧ a3 ≤ (M : Int) := by omega
      clear c1 c2 c3 c4 c5
      obtain ⟨how, rfl⟩ : ∃ how : Nat, a2 = (how : Int) := ⟨a2.toNat, by omega⟩
      obtain ⟨near, rfl⟩ : ∃ near : Nat, a3 = (near : Int) := ⟨a3.toNat, by omega⟩
      have h1 : 1 ≤ a1 := by omega
      have hnr : near ≤ M := by omega
      have hh1 : 1 ≤ how := by omega
      have hh3 : how ≤ 3 := by omega
      have hni : (near : Int) ≤ (M : Int) := by omega
      have hi1 : (1 : Int) ≤ (how : Int) := by omega
      have hi3 : (how : Int) ≤ 3 := by omega
      clear hc
      obtain ⟨L, hL⟩ : ∃ L, L = runsV xs0 M false := ⟨_, rfl⟩
      have HL := Lib.hid hL
      have hlg := find_none xs0 M a1 near how h1
      have hsm := fun x => find_some xs0 M a1 near how x hh1 hh3
      obtain ⟨fv, hfv⟩ : ∃ fv, fv = findV xs0 M a1 near (bstV xs0 M a1) how := ⟨_, rfl⟩
      rw [← hfv, ← hL] at hlg
      simp only [← hfv] at hsm
      have Hf := Lib.hid hfv.symm
      clear hfv
      cases fv with
      | none =>
        have Hlong : Hid (((longR L : Nat) : Int) < a1) := Lib.hid (hlg.mp rfl)
        clear hlg hsm hL
        go_enter Tryd.func10, Tryd.ntmps10
        go_upto_region 1 with fail
        rw [HEV.out, HE0.out]
        clear HEV HE0
        have q0 : V.cell? ⟨g0, 0, none⟩ = some (.int .i64 (M : Int)) := HX.out.blk.cell 0
        have q1 : V.cell? ⟨g0, 1, none⟩ = some (.slice a0 len0 cap0) := HX.out.blk.cell 1
        go_wp2_with fail
        obtain ⟨WS, hWS⟩ : ∃ WS, WS = V.alloc (.cells #[.int .i64 (M : Int), .slice a0 len0 cap0] 24) := ⟨_, rfl⟩
        have hbS : Below V.heap.size V WS := by rw [hWS]; exact (Below.refl _ V).alloc (Nat.le_refl _) _
        have hBS : Blk WS V.heap.size 24 #[.int .i64 (M : Int), .slice a0 len0 cap0] := by rw [hWS]; exact heap_new V _
        rw [← hWS]
        refine (few1_any _ (M : Int) a0 len0 cap0 WS hBS).mono ?_
        rintro e u0 ⟨rfl, rfl⟩
        rw [← HF.out]
        clear hBS hWS
        have HX' := Lib.hid (HX.out.below hbS)
        have HO' := Lib.hid (HO.out.below hbS (Nat.le_refl _))
        have Hb' := Lib.hid (Hb.out.trans (hbS.mono Hb.out.size))
        clear hbS q0 q1 Hb HX HO
        have HX := HX'
        have HO := HO'
        have Hb := Hb'
        clear HX' HO' Hb'
        have q0 : WS.cell? ⟨g0, 0, none⟩ = some (.int .i64 (M : Int)) := HX.out.blk.cell 0
        have q1 : WS.cell? ⟨g0, 1, none⟩ = some (.slice a0 len0 cap0) := HX.out.blk.cell 1
        go_wp2_with fail
        refine (find_no M a0 len0 cap0 xs0 a1 how near WS HX.out.rd Vx.out h1 hnr hh1 hh3 Hf.out).mono ?_
        rintro e u1 ⟨rfl, hb⟩
        have HX' := Lib.hid (HX.out.below hb)
        have HO' := Lib.hid (HO.out.below hb (Nat.le_refl _))
        have Hb' := Lib.hid (Hb.out.trans (hb.mono Hb.out.size))
        clear hb q0 q1 Hb HX HO
        have HX := HX'
        have HO := HO'
        have Hb := Hb'
        clear HX' HO' Hb'
        have q0 : u1.cell? ⟨g0, 0, none⟩ = some (.int .i64 (M : Int)) := HX.out.blk.cell 0
        have q1 : u1.cell? ⟨g0, 1, none⟩ = some (.slice a0 len0 cap0) := HX.out.blk.cell 1
        go_wp2_with fail
        refine (right_any (M : Int) a0 len0 cap0 xs0 u1 HX.out.rd (by omega) (by omega) (by omega)).mono ?_
        rintro e u2 ⟨rfl, hb⟩
        have HX' := Lib.hid (HX.out.below hb)
        have HO' := Lib.hid (HO.out.below hb (Nat.le_refl _))
        have Hb' := Lib.hid (Hb.out.trans (hb.mono Hb.out.size))
        clear hb q0 q1 Hb HX HO
        have HX := HX'
        have HO := HO'
        have Hb := Hb'
        clear HX' HO' Hb'
        rw [← HV0.out]
        have q0 : u2.cell? ⟨g0, 0, none⟩ = some (.int .i64 (M : Int)) := HX.out.blk.cell 0
        have q1 : u2.cell? ⟨g0, 1, none⟩ = some (.slice a0 len0 cap0) := HX.out.blk.cell 1
        go_wp2_with fail
        refine (runs_ok M a0 len0 cap0 xs0 false u2 HX.out.rd Vx.out).mono ?_
        rintro e u3 ⟨b5, l5, c5, rfl, hw, hb⟩
        rw [← HL.out] at hw
        have HR := Lib.hid hw
        clear hw
        have HX' := Lib.hid (HX.out.below hb)
        have HO' := Lib.hid (HO.out.below hb (Nat.le_refl _))
        have Hb' := Lib.hid (Hb.out.trans (hb.mono Hb.out.size))
        clear hb q0 q1 Hb HX HO
        have HX := HX'
        have HO := HO'
        have Hb := Hb'
        clear HX' HO' Hb'
        have HF2 := HR
        clear HR
        go_wp2_with fail
        have hlF := HF2.out.len.1
        have hcF := HF2.out.len.2.1
        have hmF := HF2.out.len.2.2
        unfold maxLen at hmF
        have HlF := Lib.hid hlF
        clear hlF
        go_loopw [13, 14] (fun o p wr => ∃ (k n : Nat), o = .int .i64 (n : Int) ∧ p = .int .i64 (k : Int) ∧ k ≤ l5 ∧ Hid (n = longR (L.take k)) ∧ wr = u3) (fun _ p _ => l5 - (intOf p).toNat)
        case atStart => exact ⟨0, 0, rfl, rfl, Nat.zero_le _, Lib.hid (by simp [longR]), rfl⟩
        case round =>
          obtain ⟨k, n, rfl, rfl, hk, Hn, rfl⟩ := hrel
          by_cases hlt : k < l5
          · have hki : (k : Int) < (l5 : Int) := by omega
            obtain ⟨gf, rfl, -, hgf⟩ := HF2.out.addr (by omega)
            obtain ⟨-, c1⟩ := HF2.out.at_ k (by rw [HlF.out]; exact hlt)
            have hs : longR (L.take (k + 1)) = max n (L.getD k (0, 0)).2 := by rw [take_more L k (by rw [HlF.out]; exact hlt), longR_snoc, ← Hn.out]
            obtain ⟨q, hq⟩ : ∃ q, q = (L.getD k (0, 0)).2 := ⟨_, rfl⟩
            rw [← hq] at c1 hs
            obtain ⟨mx, hmx⟩ : ∃ m, m = max n q := ⟨_, rfl⟩
            have em : max (n : Int) (q : Int) = (mx : Int) := by omega
            rw [← hmx] at hs
            have Hs := Lib.hid hs
            clear hs hq hmx
            go_wp2_with fail
            go_roundw
            case rel => exact ⟨k + 1, mx, rfl, by go_num, by omega, Lib.hid Hs.out.symm, by first | rfl | trivial⟩
            case measure => simp only [intOf]; omega
          · obtain rfl : l5 = k := by omega
            have hn2 : n = longR L := by rw [Hn.out, List.take_of_length_le (by rw [HlF.out]; exact Nat.le_refl _)]
            rw [← hn2] at Hlong
            clear Hn hn2 HF2 HlF hcF hmF
            have hlong : (n : Int) < a1 := Hlong.out
            clear Hlong
            go_wp2_with fail
            refine (sane_any wr HO.out).mono ?_
            rintro e u4 ⟨rfl, hb⟩
            have HX' := Lib.hid (HX.out.below hb)
            have HO' := Lib.hid (HO.out.below hb (Nat.le_refl _))
            have Hb' := Lib.hid (Hb.out.trans (hb.mono Hb.out.size))
            clear hb  Hb HX HO
            have HX := HX'
            have HO := HO'
            have Hb := Hb'
            clear HX' HO' Hb'
            go_wp2_with fail
            go_ret
            exact ⟨rfl, Hb.out⟩
      | some x =>
        have hnl : ¬ ((longR L : Nat) : Int) < a1 := fun h => by have := hlg.mpr h; cases this
        have Hlong : Hid (¬ ((longR L : Nat) : Int) < a1) := Lib.hid hnl
        obtain ⟨hrv, r, hrm, hr1, hr2⟩ := hsm x rfl
        rw [← hL] at hrv
        have Href := Lib.hid hrv
        have Hclear : Hid (∀ m : Nat, a1 = (m : Int) → x + m ≤ M ∧ cntV xs0 x (x + m) = 0) := Lib.hid (fun m hm => run_clear hrm x m hr1 (by omega))
        clear hnl hlg hsm hrv hrm hr1 hr2 hL
        go_enter Tryd.func10, Tryd.ntmps10
        go_upto_region 1 with fail
        rw [HEV.out, HE0.out]
        clear HEV HE0
        have q0 : V.cell? ⟨g0, 0, none⟩ = some (.int .i64 (M : Int)) := HX.out.blk.cell 0
        have q1 : V.cell? ⟨g0, 1, none⟩ = some (.slice a0 len0 cap0) := HX.out.blk.cell 1
        go_wp2_with fail
        obtain ⟨WS, hWS⟩ : ∃ WS, WS = V.alloc (.cells #[.int .i64 (M : Int), .slice a0 len0 cap0] 24) := ⟨_, rfl⟩
        have hbS : Below V.heap.size V WS := by rw [hWS]; exact (Below.refl _ V).alloc (Nat.le_refl _) _
        have hBS : Blk WS V.heap.size 24 #[.int .i64 (M : Int), .slice a0 len0 cap0] := by rw [hWS]; exact heap_new V _
        rw [← hWS]
        refine (few1_any _ (M : Int) a0 len0 cap0 WS hBS).mono ?_
        rintro e u0 ⟨rfl, rfl⟩
        rw [← HF.out]
        clear hBS hWS
        have HX' := Lib.hid (HX.out.below hbS)
        have HO' := Lib.hid (HO.out.below hbS (Nat.le_refl _))
        have Hb' := Lib.hid (Hb.out.trans (hbS.mono Hb.out.size))
        clear hbS q0 q1 Hb HX HO
        have HX := HX'
        have HO := HO'
        have Hb := Hb'
        clear HX' HO' Hb'
        have q0 : WS.cell? ⟨g0, 0, none⟩ = some (.int .i64 (M : Int)) := HX.out.blk.cell 0
        have q1 : WS.cell? ⟨g0, 1, none⟩ = some (.slice a0 len0 cap0) := HX.out.blk.cell 1
        go_wp2_with fail
        refine (find_ok M a0 len0 cap0 xs0 a1 how near x WS HX.out.rd Vx.out h1 hnr hh1 hh3 Hf.out).mono ?_
        rintro e u1 ⟨rfl, hb⟩
        have HX' := Lib.hid (HX.out.below hb)
        have HO' := Lib.hid (HO.out.below hb (Nat.le_refl _))
        have Hb' := Lib.hid (Hb.out.trans (hb.mono Hb.out.size))
        clear hb q0 q1 Hb HX HO
        have HX := HX'
        have HO := HO'
        have Hb := Hb'
        clear HX' HO' Hb'
        have q0 : u1.cell? ⟨g0, 0, none⟩ = some (.int .i64 (M : Int)) := HX.out.blk.cell 0
        have q1 : u1.cell? ⟨g0, 1, none⟩ = some (.slice a0 len0 cap0) := HX.out.blk.cell 1
        go_wp2_with fail
        refine (right_any (M : Int) a0 len0 cap0 xs0 u1 HX.out.rd (by omega) (by omega) (by omega)).mono ?_
        rintro e u2 ⟨rfl, hb⟩
        have HX' := Lib.hid (HX.out.below hb)
        have HO' := Lib.hid (HO.out.below hb (Nat.le_refl _))
        have Hb' := Lib.hid (Hb.out.trans (hb.mono Hb.out.size))
        clear hb q0 q1 Hb HX HO
        have HX := HX'
        have HO := HO'
        have Hb := Hb'
        clear HX' HO' Hb'
        rw [← HV0.out]
        have q0 : u2.cell? ⟨g0, 0, none⟩ = some (.int .i64 (M : Int)) := HX.out.blk.cell 0
        have q1 : u2.cell? ⟨g0, 1, none⟩ = some (.slice a0 len0 cap0) := HX.out.blk.cell 1
        go_wp2_with fail
        refine (runs_ok M a0 len0 cap0 xs0 false u2 HX.out.rd Vx.out).mono ?_
        rintro e u3 ⟨b5, l5, c5, rfl, hw, hb⟩
        rw [← HL.out] at hw
        have HR := Lib.hid hw
        clear hw
        have HX' := Lib.hid (HX.out.below hb)
        have HO' := Lib.hid (HO.out.below hb (Nat.le_refl _))
        have Hb' := Lib.hid (Hb.out.trans (hb.mono Hb.out.size))
        clear hb q0 q1 Hb HX HO
        have HX := HX'
        have HO := HO'
        have Hb := Hb'
        clear HX' HO' Hb'
        have HF2 := HR
        clear HR
        go_wp2_with fail
        have hlF := HF2.out.len.1
        have hcF := HF2.out.len.2.1
        have hmF := HF2.out.len.2.2
        unfold maxLen at hmF
        have HlF := Lib.hid hlF
        clear hlF
        go_loopw [13, 14] (fun o p wr => ∃ (k n : Nat), o = .int .i64 (n : Int) ∧ p = .int .i64 (k : Int) ∧ k ≤ l5 ∧ Hid (n = longR (L.take k)) ∧ wr = u3) (fun _ p _ => l5 - (intOf p).toNat)
        case atStart => exact ⟨0, 0, rfl, rfl, Nat.zero_le _, Lib.hid (by simp [longR]), rfl⟩
        case round =>
          obtain ⟨k, n, rfl, rfl, hk, Hn, rfl⟩ := hrel
          by_cases hlt : k < l5
          · have hki : (k : Int) < (l5 : Int) := by omega
            obtain ⟨gf, rfl, -, hgf⟩ := HF2.out.addr (by omega)
            obtain ⟨-, c1⟩ := HF2.out.at_ k (by rw [HlF.out]; exact hlt)
            have hs : longR (L.take (k + 1)) = max n (L.getD k (0, 0)).2 := by rw [take_more L k (by rw [HlF.out]; exact hlt), longR_snoc, ← Hn.out]
            obtain ⟨q, hq⟩ : ∃ q, q = (L.getD k (0, 0)).2 := ⟨_, rfl⟩
            rw [← hq] at c1 hs
            obtain ⟨mx, hmx⟩ : ∃ m, m = max n q := ⟨_, rfl⟩
            have em : max (n : Int) (q : Int) = (mx : Int) := by omega
            rw [← hmx] at hs
            have Hs := Lib.hid hs
            clear hs hq hmx
            go_wp2_with fail
            go_roundw
            case rel => exact ⟨k + 1, mx, rfl, by go_num, by omega, Lib.hid Hs.out.symm, by first | rfl | trivial⟩
            case measure => simp only [intOf]; omega
          · obtain rfl : l5 = k := by omega
            have hn2 : n = longR L := by rw [Hn.out, List.take_of_length_le (by rw [HlF.out]; exact Nat.le_refl _)]
            rw [← hn2] at Hlong
            clear Hn hn2 HF2 HlF hcF hmF
            have hlong : a1 ≤ (n : Int) := by have := Hlong.out; omega
            clear Hlong
            have q0 : wr.cell? ⟨g0, 0, none⟩ = some (.int .i64 (M : Int)) := HX.out.blk.cell 0
            have q1 : wr.cell? ⟨g0, 1, none⟩ = some (.slice a0 len0 cap0) := HX.out.blk.cell 1
            obtain ⟨m, rfl⟩ : ∃ m : Nat, a1 = (m : Int) := ⟨a1.toNat, by omega⟩
            go_wp2_with fail
            refine (count_ok M a0 len0 cap0 xs0 wr HX.out.rd x m (x + m) Vx.out rfl (Hclear.out m rfl).1 HO.out).mono ?_
            rintro e u4 ⟨rfl, hb⟩
            have HX' := Lib.hid (HX.out.below hb)
            have HO' := Lib.hid (HO.out.below hb (Nat.le_refl _))
            have Hb' := Lib.hid (Hb.out.trans (hb.mono Hb.out.size))
            clear hb q0 q1 Hb HX HO
            have HX := HX'
            have HO := HO'
            have Hb := Hb'
            clear HX' HO' Hb'
            rw [(Hclear.out m rfl).2]
            go_wp2_with fail
            refine (sane_any u4 HO.out).mono ?_
            rintro e u5 ⟨rfl, hb⟩
            have HX' := Lib.hid (HX.out.below hb)
            have HO' := Lib.hid (HO.out.below hb (Nat.le_refl _))
            have Hb' := Lib.hid (Hb.out.trans (hb.mono Hb.out.size))
            clear hb  Hb HX HO
            have HX := HX'
            have HO := HO'
            have Hb := Hb'
            clear HX' HO' Hb'
            have q0 : u5.cell? ⟨g0, 0, none⟩ = some (.int .i64 (M : Int)) := HX.out.blk.cell 0
            have q1 : u5.cell? ⟨g0, 1, none⟩ = some (.slice a0 len0 cap0) := HX.out.blk.cell 1
            go_wp2_with fail
            refine (rfind_any M a0 len0 cap0 xs0 m how near u5 HX.out.rd Vx.out h1 (by omega) hnr hh1 hh3).mono ?_
            rintro e u6 ⟨rfl, hb⟩
            have HX' := Lib.hid (HX.out.below hb)
            have HO' := Lib.hid (HO.out.below hb (Nat.le_refl _))
            have Hb' := Lib.hid (Hb.out.trans (hb.mono Hb.out.size))
            clear hb q0 q1 Hb HX HO
            have HX := HX'
            have HO := HO'
            have Hb := Hb'
            clear HX' HO' Hb'
            rw [← HL.out, Href.out]
            go_wp2_with fail
            go_ret
            exact ⟨rfl, Hb.out⟩
end Go.Proofs.YthognmkjoekilaaDoor.bitsFinds

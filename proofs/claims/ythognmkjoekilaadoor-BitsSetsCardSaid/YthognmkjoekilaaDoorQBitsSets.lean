/- What the statement BitsSets calls answers true, for every input that its walk is handed. -/
import Derived.Test.YthognmkjoekilaaDoorRows
import Derived.WalkKit
import Derived.ProofKit
import Derived.OpenShut
import Derived.ShutString
import Derived.ChangeOld
import Derived.Below
import Derived.SizedLaws
import Derived.Test.YthognmkjoekilaaDoorBwide
import Derived.Test.YthognmkjoekilaaDoorBlcount
import Derived.Test.YthognmkjoekilaaDoorBmc
namespace Go.Proofs.YthognmkjoekilaaDoor.bitsSets
open Go.ChangeShapes Go.WideShapes Go.ChangeAt Go.RowKit
open Go.ChangeMaps (open_string shut_string)
set_option linter.unusedVariables false

/-- A bitmap's bits, told. -/
structure Is (M : Nat) (X : List Int) (f : Nat → Bool) : Prop where
  v : Vb M X
  b : ∀ j, j < M → bitV X j = f j
theorem Is.eq {M : Nat} {X Y : List Int} {f g : Nat → Bool} (h : Is M X f) (k : Is M Y g) (hfg : ∀ j, j < M → f j = g j) : X = Y :=
  h.v.ext k.v fun j hj => by rw [h.b j hj, k.b j hj, hfg j hj]
theorem and_is (M : Nat) (a b : Option Addr) (l c l2 c2 : Nat) (xs ys : List Int) (w : World) (hx : Rd w a l c xs) (hy : Rd w b l2 c2 ys) (hv : Vb M xs) (hv2 : Vb M ys) :
    Calls Tryd.prog 30 #[.agg #[.int .i64 (M : Int), .slice a l c], .agg #[.int .i64 (M : Int), .slice b l2 c2]] w fun e w' => ∃ a' l' c' X, e = .returned (.tuple #[.agg #[.int .i64 (M : Int), .slice a' l' c'], .int .i64 0]) ∧ Rd w' a' l' c' X ∧ Is M X (fun j => bitV xs j && bitV ys j) ∧ Below w.heap.size w w' :=
  (and_ok M a b l c l2 c2 xs ys w hx hy hv hv2).mono fun e w' ⟨x, y, z, h1, h2, h3⟩ => ⟨x, y, z, _, h1, h2, ⟨Vb.join and_bitly rfl hv hv2 hx.hl, fun j hj => Vb.joinBit and_bitly hv hv2 hx.hl j hj⟩, h3⟩
theorem or_is (M : Nat) (a b : Option Addr) (l c l2 c2 : Nat) (xs ys : List Int) (w : World) (hx : Rd w a l c xs) (hy : Rd w b l2 c2 ys) (hv : Vb M xs) (hv2 : Vb M ys) :
    Calls Tryd.prog 31 #[.agg #[.int .i64 (M : Int), .slice a l c], .agg #[.int .i64 (M : Int), .slice b l2 c2]] w fun e w' => ∃ a' l' c' X, e = .returned (.tuple #[.agg #[.int .i64 (M : Int), .slice a' l' c'], .int .i64 0]) ∧ Rd w' a' l' c' X ∧ Is M X (fun j => bitV xs j || bitV ys j) ∧ Below w.heap.size w w' :=
  (or_ok M a b l c l2 c2 xs ys w hx hy hv hv2).mono fun e w' ⟨x, y, z, h1, h2, h3⟩ => ⟨x, y, z, _, h1, h2, ⟨Vb.join or_bitly rfl hv hv2 hx.hl, fun j hj => Vb.joinBit or_bitly hv hv2 hx.hl j hj⟩, h3⟩
theorem minus_is (M : Nat) (a b : Option Addr) (l c l2 c2 : Nat) (xs ys : List Int) (w : World) (hx : Rd w a l c xs) (hy : Rd w b l2 c2 ys) (hv : Vb M xs) (hv2 : Vb M ys) :
    Calls Tryd.prog 32 #[.agg #[.int .i64 (M : Int), .slice a l c], .agg #[.int .i64 (M : Int), .slice b l2 c2]] w fun e w' => ∃ a' l' c' X, e = .returned (.tuple #[.agg #[.int .i64 (M : Int), .slice a' l' c'], .int .i64 0]) ∧ Rd w' a' l' c' X ∧ Is M X (fun j => bitV xs j && !bitV ys j) ∧ Below w.heap.size w w' :=
  (minus_ok M a b l c l2 c2 xs ys w hx hy hv hv2).mono fun e w' ⟨x, y, z, h1, h2, h3⟩ => ⟨x, y, z, _, h1, h2, ⟨Vb.join an_bitly rfl hv hv2 hx.hl, fun j hj => Vb.joinBit an_bitly hv hv2 hx.hl j hj⟩, h3⟩
theorem not_is (M : Nat) (a : Option Addr) (l c : Nat) (xs : List Int) (w : World) (hx : Rd w a l c xs) (hv : Vb M xs) :
    Calls Tryd.prog 33 #[.agg #[.int .i64 (M : Int), .slice a l c]] w fun e w' => ∃ a' l' c' X, e = .returned (.tuple #[.agg #[.int .i64 (M : Int), .slice a' l' c'], .int .i64 0]) ∧ Rd w' a' l' c' X ∧ Is M X (fun j => !bitV xs j) ∧ Below w.heap.size w w' :=
  (not_ok M a l c xs w hx hv).mono fun e w' ⟨x, y, z, h1, h2, h3⟩ => ⟨x, y, z, _, h1, h2, ⟨Vb.not hv hx.hl, fun j hj => Vb.notBit hv hx.hl j hj⟩, h3⟩
theorem same_is (N : Int) (a : Option Addr) (l c : Nat) (a2 : Option Addr) (l2 c2 : Nat) (xs : List Int) (w : World) (h1 : Rd w a l c xs) (h2 : Rd w a2 l2 c2 xs) :
    Calls Tryd.prog 22 #[.agg #[.int .i64 N, .slice a l c], .agg #[.int .i64 N, .slice a2 l2 c2]] w fun e w' => e = .returned (.bool true) ∧ Below w.heap.size w w' :=
  (same_any N N a l c xs a2 l2 c2 xs w h1 h2).mono fun e w' ⟨k1, k2⟩ => ⟨by rw [k1, show decide (N = N ∧ xs = xs) = true from by simp], k2⟩
/-- Two boxes. -/
theorem boxed_two (w : World) (N1 N2 : Int) (a b : Option Addr) (l c l2 c2 : Nat) (xs ys : List Int) (hx : Rd w a l c xs) (hy : Rd w b l2 c2 ys) :
    ∃ g2 g3 V, w.heap.size = g2 ∧ w.heap.size + 1 = g3 ∧ (w.alloc (.cells #[.int .i64 N1, .slice a l c] 24)).alloc (.cells #[.int .i64 N2, .slice b l2 c2] 24) = V ∧ Bx V g2 N1 a l c xs ∧ Bx V g3 N2 b l2 c2 ys ∧ Below w.heap.size w V := by
  obtain ⟨g, W, e1, e2, hB, hb, hq⟩ := boxed (Below.refl _ w) N1 a l c xs hx
  obtain ⟨g', W', e1', e2', hB', hb', hq'⟩ := boxed hb N2 b l2 c2 ys (hy.below hb (Nat.le_refl _))
  refine ⟨g, g', W', e1, ?_, by rw [e2]; exact e2', hB.below hq', hB', hb'⟩
  rw [← e1', ← e2]; simp
set_option maxRecDepth 100000 in
set_option maxHeartbeats 8000000 in
theorem walk (N0 : Int) (a0 : Option Addr) (len0 cap0 : Nat) (xs0 : List Int) (N1 : Int) (a1 : Option Addr) (len1 cap1 : Nat) (xs1 : List Int) (w : World) (w0 : (Rd w a0 len0 cap0 xs0 ∧ cap0 ≤ 140737488351232) ∧ (-9223372036854775808 ≤ N0 ∧ N0 ≤ 9223372036854775807)) (w1 : (Rd w a1 len1 cap1 xs1 ∧ cap1 ≤ 140737488351232) ∧ (-9223372036854775808 ≤ N1 ∧ N1 ≤ 9223372036854775807)) (ho : Ones w) :
    Calls Tryd.prog 7 #[.agg #[.int .i64 N0, .slice a0 len0 cap0], .agg #[.int .i64 N1, .slice a1 len1 cap1]] w fun e w' => e = .returned (.bool true) ∧ Below w.heap.size w w' := by
  have HO := Lib.hid ho
  have HX := Lib.hid w0.1.1
  have HY := Lib.hid w1.1.1
  have hN0 := w0.2
  have hN1 := w1.2
  have hc0 := w0.1.2
  have hc1 := w1.1.2
  have hl0 := w0.1.1.hc
  have hl1 := w1.1.1.hc
  clear w0 w1 ho
  obtain ⟨g2, g3, V, e2, e3, eV, hBx, hBy, hb⟩ := boxed_two w N0 N1 a0 a1 len0 cap0 len1 cap1 xs0 xs1 HX.out HY.out
  have HEV := Lib.hid eV
  have HE2 := Lib.hid e2
  have HE3 := Lib.hid e3
  have HX' := Lib.hid hBx
  have HY' := Lib.hid hBy
  have HO' := Lib.hid (HO.out.below hb (Nat.le_refl _))
  have Hb := Lib.hid hb
  clear HX HY HO e2 e3 eV hBx hBy hb
  have HX := HX'
  have HY := HY'
  have HO := HO'
  clear HX' HY' HO'
  obtain ⟨F, hF⟩ : ∃ F, F = (fewV N0 len0 && fewV N1 len1) := ⟨_, rfl⟩
  obtain ⟨V0, hV0⟩ : ∃ V, V = validB N0 xs0 := ⟨_, rfl⟩
  obtain ⟨V1, hV1⟩ : ∃ V, V = validB N1 xs1 := ⟨_, rfl⟩
  have HF := Lib.hid hF
  have HV0 := Lib.hid hV0
  have HV1 := Lib.hid hV1
  clear hF hV0 hV1
  cases F with
  | false =>
    go_enter Tryd.func7, Tryd.ntmps7
    go_upto_region 1 with fail
    rw [HEV.out, HE3.out, HE2.out]
    clear HEV HE3 HE2
    have q0 : V.cell? ⟨g2, 0, none⟩ = some (.int .i64 N0) := HX.out.blk.cell 0
    have q1 : V.cell? ⟨g2, 1, none⟩ = some (.slice a0 len0 cap0) := HX.out.blk.cell 1
    have q2 : V.cell? ⟨g3, 0, none⟩ = some (.int .i64 N1) := HY.out.blk.cell 0
    have q3 : V.cell? ⟨g3, 1, none⟩ = some (.slice a1 len1 cap1) := HY.out.blk.cell 1
    go_wp2_with fail
    obtain ⟨WS, hWS⟩ : ∃ WS, WS = V.alloc (.cells #[.int .i64 N0, .slice a0 len0 cap0, .int .i64 N1, .slice a1 len1 cap1] 24) := ⟨_, rfl⟩
    have hbS : Below V.heap.size V WS := by rw [hWS]; exact (Below.refl _ V).alloc (Nat.le_refl _) _
    have hBS : Blk WS V.heap.size 24 #[.int .i64 N0, .slice a0 len0 cap0, .int .i64 N1, .slice a1 len1 cap1] := by rw [hWS]; exact heap_new V _
    rw [← hWS]
    refine (few2_any _ N0 a0 len0 cap0 N1 a1 len1 cap1 WS hBS).mono ?_
    rintro e u0 ⟨rfl, rfl⟩
    rw [← HF.out]
    clear hBS hWS
    have HX' := Lib.hid (HX.out.below hbS)
    have HY' := Lib.hid (HY.out.below hbS)
    have HO' := Lib.hid (HO.out.below hbS (Nat.le_refl _))
    have Hb' := Lib.hid (Hb.out.trans (hbS.mono Hb.out.size))
    clear hbS q0 q1 q2 q3 Hb HX HY HO
    have HX := HX'
    have HY := HY'
    have HO := HO'
    have Hb := Hb'
    clear HX' HY' HO' Hb'
    have q0 : WS.cell? ⟨g2, 0, none⟩ = some (.int .i64 N0) := HX.out.blk.cell 0
    have q1 : WS.cell? ⟨g2, 1, none⟩ = some (.slice a0 len0 cap0) := HX.out.blk.cell 1
    have q2 : WS.cell? ⟨g3, 0, none⟩ = some (.int .i64 N1) := HY.out.blk.cell 0
    have q3 : WS.cell? ⟨g3, 1, none⟩ = some (.slice a1 len1 cap1) := HY.out.blk.cell 1
    go_wp2_with fail
    refine (sane_any WS HO.out).mono ?_
    rintro e u1 ⟨rfl, hb⟩
    have HX' := Lib.hid (HX.out.below hb)
    have HY' := Lib.hid (HY.out.below hb)
    have HO' := Lib.hid (HO.out.below hb (Nat.le_refl _))
    have Hb' := Lib.hid (Hb.out.trans (hb.mono Hb.out.size))
    clear hb q0 q1 q2 q3 Hb HX HY HO
    have HX := HX'
    have HY := HY'
    have HO := HO'
    have Hb := Hb'
    clear HX' HY' HO' Hb'
    go_wp2_with fail
    go_ret
    exact ⟨rfl, Hb.out⟩
  | true =>
    cases V0 with
    | false =>
      go_enter Tryd.func7, Tryd.ntmps7
      go_upto_region 1 with fail
      rw [HEV.out, HE3.out, HE2.out]
      clear HEV HE3 HE2
      have q0 : V.cell? ⟨g2, 0, none⟩ = some (.int .i64 N0) := HX.out.blk.cell 0
      have q1 : V.cell? ⟨g2, 1, none⟩ = some (.slice a0 len0 cap0) := HX.out.blk.cell 1
      have q2 : V.cell? ⟨g3, 0, none⟩ = some (.int .i64 N1) := HY.out.blk.cell 0
      have q3 : V.cell? ⟨g3, 1, none⟩ = some (.slice a1 len1 cap1) := HY.out.blk.cell 1
      go_wp2_with fail
      obtain ⟨WS, hWS⟩ : ∃ WS, WS = V.alloc (.cells #[.int .i64 N0, .slice a0 len0 cap0, .int .i64 N1, .slice a1 len1 cap1] 24) := ⟨_, rfl⟩
      have hbS : Below V.heap.size V WS := by rw [hWS]; exact (Below.refl _ V).alloc (Nat.le_refl _) _
      have hBS : Blk WS V.heap.size 24 #[.int .i64 N0, .slice a0 len0 cap0, .int .i64 N1, .slice a1 len1 cap1] := by rw [hWS]; exact heap_new V _
      rw [← hWS]
      refine (few2_any _ N0 a0 len0 cap0 N1 a1 len1 cap1 WS hBS).mono ?_
      rintro e u0 ⟨rfl, rfl⟩
      rw [← HF.out]
      clear hBS hWS
      have HX' := Lib.hid (HX.out.below hbS)
      have HY' := Lib.hid (HY.out.below hbS)
      have HO' := Lib.hid (HO.out.below hbS (Nat.le_refl _))
      have Hb' := Lib.hid (Hb.out.trans (hbS.mono Hb.out.size))
      clear hbS q0 q1 q2 q3 Hb HX HY HO
      have HX := HX'
      have HY := HY'
      have HO := HO'
      have Hb := Hb'
      clear HX' HY' HO' Hb'
      have q0 : WS.cell? ⟨g2, 0, none⟩ = some (.int .i64 N0) := HX.out.blk.cell 0
      have q1 : WS.cell? ⟨g2, 1, none⟩ = some (.slice a0 len0 cap0) := HX.out.blk.cell 1
      have q2 : WS.cell? ⟨g3, 0, none⟩ = some (.int .i64 N1) := HY.out.blk.cell 0
      have q3 : WS.cell? ⟨g3, 1, none⟩ = some (.slice a1 len1 cap1) := HY.out.blk.cell 1
      go_wp2_with fail
      refine (right_any N0 a0 len0 cap0 xs0 WS HX.out.rd (by omega) (by omega) (by omega)).mono ?_
      rintro e u1 ⟨rfl, hb⟩
      have HX' := Lib.hid (HX.out.below hb)
      have HY' := Lib.hid (HY.out.below hb)
      have HO' := Lib.hid (HO.out.below hb (Nat.le_refl _))
      have Hb' := Lib.hid (Hb.out.trans (hb.mono Hb.out.size))
      clear hb q0 q1 q2 q3 Hb HX HY HO
      have HX := HX'
      have HY := HY'
      have HO := HO'
      have Hb := Hb'
      clear HX' HY' HO' Hb'
      rw [← HV0.out]
      have q0 : u1.cell? ⟨g2, 0, none⟩ = some (.int .i64 N0) := HX.out.blk.cell 0
      have q1 : u1.cell? ⟨g2, 1, none⟩ = some (.slice a0 len0 cap0) := HX.out.blk.cell 1
      have q2 : u1.cell? ⟨g3, 0, none⟩ = some (.int .i64 N1) := HY.out.blk.cell 0
      have q3 : u1.cell? ⟨g3, 1, none⟩ = some (.slice a1 len1 cap1) := HY.out.blk.cell 1
      go_wp2_with fail
      refine (sane_any u1 HO.out).mono ?_
      rintro e u2 ⟨rfl, hb⟩
      have HX' := Lib.hid (HX.out.below hb)
      have HY' := Lib.hid (HY.out.below hb)
      have HO' := Lib.hid (HO.out.below hb (Nat.le_refl _))
      have Hb' := Lib.hid (Hb.out.trans (hb.mono Hb.out.size))
      clear hb q0 q1 q2 q3 Hb HX HY HO
      have HX := HX'
      have HY := HY'
      have HO := HO'
      have Hb := Hb'
      clear HX' HY' HO' Hb'
      go_wp2_with fail
      go_ret
      exact ⟨rfl, Hb.out⟩
    | true =>
      cases V1 with
      | false =>
        go_enter Tryd.func7, Tryd.ntmps7
        go_upto_region 1 with fail
        rw [HEV.out, HE3.out, HE2.out]
        clear HEV HE3 HE2
        have q0 : V.cell? ⟨g2, 0, none⟩ = some (.int .i64 N0) := HX.out.blk.cell 0
        have q1 : V.cell? ⟨g2, 1, none⟩ = some (.slice a0 len0 cap0) := HX.out.blk.cell 1
        have q2 : V.cell? ⟨g3, 0, none⟩ = some (.int .i64 N1) := HY.out.blk.cell 0
        have q3 : V.cell? ⟨g3, 1, none⟩ = some (.slice a1 len1 cap1) := HY.out.blk.cell 1
        go_wp2_with fail
        obtain ⟨WS, hWS⟩ : ∃ WS, WS = V.alloc (.cells #[.int .i64 N0, .slice a0 len0 cap0, .int .i64 N1, .slice a1 len1 cap1] 24) := ⟨_, rfl⟩
        have hbS : Below V.heap.size V WS := by rw [hWS]; exact (Below.refl _ V).alloc (Nat.le_refl _) _
        have hBS : Blk WS V.heap.size 24 #[.int .i64 N0, .slice a0 len0 cap0, .int .i64 N1, .slice a1 len1 cap1] := by rw [hWS]; exact heap_new V _
        rw [← hWS]
        refine (few2_any _ N0 a0 len0 cap0 N1 a1 len1 cap1 WS hBS).mono ?_
        rintro e u0 ⟨rfl, rfl⟩
        rw [← HF.out]
        clear hBS hWS
        have HX' := Lib.hid (HX.out.below hbS)
        have HY' := Lib.hid (HY.out.below hbS)
        have HO' := Lib.hid (HO.out.below hbS (Nat.le_refl _))
        have Hb' := Lib.hid (Hb.out.trans (hbS.mono Hb.out.size))
        clear hbS q0 q1 q2 q3 Hb HX HY HO
        have HX := HX'
        have HY := HY'
        have HO := HO'
        have Hb := Hb'
        clear HX' HY' HO' Hb'
        have q0 : WS.cell? ⟨g2, 0, none⟩ = some (.int .i64 N0) := HX.out.blk.cell 0
        have q1 : WS.cell? ⟨g2, 1, none⟩ = some (.slice a0 len0 cap0) := HX.out.blk.cell 1
        have q2 : WS.cell? ⟨g3, 0, none⟩ = some (.int .i64 N1) := HY.out.blk.cell 0
        have q3 : WS.cell? ⟨g3, 1, none⟩ = some (.slice a1 len1 cap1) := HY.out.blk.cell 1
        go_wp2_with fail
        refine (right_any N0 a0 len0 cap0 xs0 WS HX.out.rd (by omega) (by omega) (by omega)).mono ?_
        rintro e u1 ⟨rfl, hb⟩
        have HX' := Lib.hid (HX.out.below hb)
        have HY' := Lib.hid (HY.out.below hb)
        have HO' := Lib.hid (HO.out.below hb (Nat.le_refl _))
        have Hb' := Lib.hid (Hb.out.trans (hb.mono Hb.out.size))
        clear hb q0 q1 q2 q3 Hb HX HY HO
        have HX := HX'
        have HY := HY'
        have HO := HO'
        have Hb := Hb'
        clear HX' HY' HO' Hb'
        rw [← HV0.out]
        have q0 : u1.cell? ⟨g2, 0, none⟩ = some (.int .i64 N0) := HX.out.blk.cell 0
        have q1 : u1.cell? ⟨g2, 1, none⟩ = some (.slice a0 len0 cap0) := HX.out.blk.cell 1
        have q2 : u1.cell? ⟨g3, 0, none⟩ = some (.int .i64 N1) := HY.out.blk.cell 0
        have q3 : u1.cell? ⟨g3, 1, none⟩ = some (.slice a1 len1 cap1) := HY.out.blk.cell 1
        go_wp2_with fail
        refine (right_any N1 a1 len1 cap1 xs1 u1 HY.out.rd (by omega) (by omega) (by omega)).mono ?_
        rintro e u2 ⟨rfl, hb⟩
        have HX' := Lib.hid (HX.out.below hb)
        have HY' := Lib.hid (HY.out.below hb)
        have HO' := Lib.hid (HO.out.below hb (Nat.le_refl _))
        have Hb' := Lib.hid (Hb.out.trans (hb.mono Hb.out.size))
        clear hb q0 q1 q2 q3 Hb HX HY HO
        have HX := HX'
        have HY := HY'
        have HO := HO'
        have Hb := Hb'
        clear HX' HY' HO' Hb'
        rw [← HV1.out]
        have q0 : u2.cell? ⟨g2, 0, none⟩ = some (.int .i64 N0) := HX.out.blk.cell 0
        have q1 : u2.cell? ⟨g2, 1, none⟩ = some (.slice a0 len0 cap0) := HX.out.blk.cell 1
        have q2 : u2.cell? ⟨g3, 0, none⟩ = some (.int .i64 N1) := HY.out.blk.cell 0
        have q3 : u2.cell? ⟨g3, 1, none⟩ = some (.slice a1 len1 cap1) := HY.out.blk.cell 1
        go_wp2_with fail
        refine (sane_any u2 HO.out).mono ?_
        rintro e u3 ⟨rfl, hb⟩
        have HX' := Lib.hid (HX.out.below hb)
        have HY' := Lib.hid (HY.out.below hb)
        have HO' := Lib.hid (HO.out.below hb (Nat.le_refl _))
        have Hb' := Lib.hid (Hb.out.trans (hb.mono Hb.out.size))
        clear hb q0 q1 q2 q3 Hb HX HY HO
        have HX := HX'
        have HY := HY'
        have HO := HO'
        have Hb := Hb'
        clear HX' HY' HO' Hb'
        go_wp2_with fail
        go_ret
        exact ⟨rfl, Hb.out⟩
      | true =>
        by_cases hne : N0 = N1
        · subst hne
          obtain ⟨M, rfl, vx⟩ := Vb.of HX.out.rd.hb HV0.out.symm
          have vy := Vb.of2 HY.out.rd.hb HV1.out.symm
          have Vx := Lib.hid vx
          have Vy := Lib.hid vy
          have hM : M ≤ 65536 := vx.le
          clear vx vy
          go_enter Tryd.func7, Tryd.ntmps7
          go_upto_region 1 with fail
          rw [HEV.out, HE3.out, HE2.out]
          clear HEV HE3 HE2
          have q0 : V.cell? ⟨g2, 0, none⟩ = some (.int .i64 (M : Int)) := HX.out.blk.cell 0
          have q1 : V.cell? ⟨g2, 1, none⟩ = some (.slice a0 len0 cap0) := HX.out.blk.cell 1
          have q2 : V.cell? ⟨g3, 0, none⟩ = some (.int .i64 (M : Int)) := HY.out.blk.cell 0
          have q3 : V.cell? ⟨g3, 1, none⟩ = some (.slice a1 len1 cap1) := HY.out.blk.cell 1
          go_wp2_with fail
          obtain ⟨WS, hWS⟩ : ∃ WS, WS = V.alloc (.cells #[.int .i64 (M : Int), .slice a0 len0 cap0, .int .i64 (M : Int), .slice a1 len1 cap1] 24) := ⟨_, rfl⟩
          have hbS : Below V.heap.size V WS := by rw [hWS]; exact (Below.refl _ V).alloc (Nat.le_refl _) _
          have hBS : Blk WS V.heap.size 24 #[.int .i64 (M : Int), .slice a0 len0 cap0, .int .i64 (M : Int), .slice a1 len1 cap1] := by rw [hWS]; exact heap_new V _
          rw [← hWS]
          refine (few2_any _ (M : Int) a0 len0 cap0 (M : Int) a1 len1 cap1 WS hBS).mono ?_
          rintro e u0 ⟨rfl, rfl⟩
          rw [← HF.out]
          clear hBS hWS
          have HX' := Lib.hid (HX.out.below hbS)
          have HY' := Lib.hid (HY.out.below hbS)
          have HO' := Lib.hid (HO.out.below hbS (Nat.le_refl _))
          have Hb' := Lib.hid (Hb.out.trans (hbS.mono Hb.out.size))
          clear hbS q0 q1 q2 q3 Hb HX HY HO
          have HX := HX'
          have HY := HY'
          have HO := HO'
          have Hb := Hb'
          clear HX' HY' HO' Hb'
          have q0 : WS.cell? ⟨g2, 0, none⟩ = some (.int .i64 (M : Int)) := HX.out.blk.cell 0
          have q1 : WS.cell? ⟨g2, 1, none⟩ = some (.slice a0 len0 cap0) := HX.out.blk.cell 1
          have q2 : WS.cell? ⟨g3, 0, none⟩ = some (.int .i64 (M : Int)) := HY.out.blk.cell 0
          have q3 : WS.cell? ⟨g3, 1, none⟩ = some (.slice a1 len1 cap1) := HY.out.blk.cell 1
          go_wp2_with fail
          refine (right_any (M : Int) a0 len0 cap0 xs0 WS HX.out.rd (by omega) (by omega) (by omega)).mono ?_
          rintro e u1 ⟨rfl, hb⟩
          have HX' := Lib.hid (HX.out.below hb)
          have HY' := Lib.hid (HY.out.below hb)
          have HO' := Lib.hid (HO.out.below hb (Nat.le_refl _))
          have Hb' := Lib.hid (Hb.out.trans (hb.mono Hb.out.size))
          clear hb q0 q1 q2 q3 Hb HX HY HO
          have HX := HX'
          have HY := HY'
          have HO := HO'
          have Hb := Hb'
          clear HX' HY' HO' Hb'
          rw [← HV0.out]
          have q0 : u1.cell? ⟨g2, 0, none⟩ = some (.int .i64 (M : Int)) := HX.out.blk.cell 0
          have q1 : u1.cell? ⟨g2, 1, none⟩ = some (.slice a0 len0 cap0) := HX.out.blk.cell 1
          have q2 : u1.cell? ⟨g3, 0, none⟩ = some (.int .i64 (M : Int)) := HY.out.blk.cell 0
          have q3 : u1.cell? ⟨g3, 1, none⟩ = some (.slice a1 len1 cap1) := HY.out.blk.cell 1
          go_wp2_with fail
          refine (right_any (M : Int) a1 len1 cap1 xs1 u1 HY.out.rd (by omega) (by omega) (by omega)).mono ?_
          rintro e u2 ⟨rfl, hb⟩
          have HX' := Lib.hid (HX.out.below hb)
          have HY' := Lib.hid (HY.out.below hb)
          have HO' := Lib.hid (HO.out.below hb (Nat.le_refl _))
          have Hb' := Lib.hid (Hb.out.trans (hb.mono Hb.out.size))
          clear hb q0 q1 q2 q3 Hb HX HY HO
          have HX := HX'
          have HY := HY'
          have HO := HO'
          have Hb := Hb'
          clear HX' HY' HO' Hb'
          rw [← HV1.out]
          have q0 : u2.cell? ⟨g2, 0, none⟩ = some (.int .i64 (M : Int)) := HX.out.blk.cell 0
          have q1 : u2.cell? ⟨g2, 1, none⟩ = some (.slice a0 len0 cap0) := HX.out.blk.cell 1
          have q2 : u2.cell? ⟨g3, 0, none⟩ = some (.int .i64 (M : Int)) := HY.out.blk.cell 0
          have q3 : u2.cell? ⟨g3, 1, none⟩ = some (.slice a1 len1 cap1) := HY.out.blk.cell 1
          have Ia := Lib.hid (Is.mk Vx.out (fun j hj => rfl) : Is M xs0 (bitV xs0))
          have Ib := Lib.hid (Is.mk Vy.out (fun j hj => rfl) : Is M xs1 (bitV xs1))
          clear Vx Vy HV0 HV1 HF hN0 hN1
          clear q0 q1 q2 q3
          have q0 : u2.cell? ⟨g2, 0, none⟩ = some (.int .i64 (M : Int)) := HX.out.blk.cell 0
          have q1 : u2.cell? ⟨g2, 1, none⟩ = some (.slice a0 len0 cap0) := HX.out.blk.cell 1
          have q2 : u2.cell? ⟨g3, 0, none⟩ = some (.int .i64 (M : Int)) := HY.out.blk.cell 0
          have q3 : u2.cell? ⟨g3, 1, none⟩ = some (.slice a1 len1 cap1) := HY.out.blk.cell 1
          go_wp2_with fail
          refine (and_is M a0 a1 len0 cap0 len1 cap1 xs0 xs1 u2 HX.out.rd HY.out.rd Ia.out.v Ib.out.v).mono ?_
          rintro e u3 ⟨b5, l5, c5, X5, rfl, hw, hi, hb⟩
          have HR := Lib.hid hw
          have I5 := Lib.hid hi
          clear hw hi
          have HX' := Lib.hid (HX.out.below hb)
          have HY' := Lib.hid (HY.out.below hb)
          have HO' := Lib.hid (HO.out.below hb (Nat.le_refl _))
          have Hb' := Lib.hid (Hb.out.trans (hb.mono Hb.out.size))
          clear hb q0 q1 q2 q3 Hb HX HY HO
          have HX := HX'
          have HY := HY'
          have HO := HO'
          have Hb := Hb'
          clear HX' HY' HO' Hb'
          go_upto_region 4 with fail
          obtain ⟨g5, W5, e1, e2, hB, -, hq⟩ := boxed Hb.out (M : Int) b5 l5 c5 X5 HR.out
          rw [e2, e1]
          have HBX := Lib.hid hB
          clear e1 e2 hB
          have HX' := Lib.hid (HX.out.below hq)
          have HY' := Lib.hid (HY.out.below hq)
          have HO' := Lib.hid (HO.out.below hq (Nat.le_refl _))
          have HR' := Lib.hid (HR.out.below hq (Nat.le_refl _))
          have Hb' := Lib.hid (Hb.out.trans (hq.mono Hb.out.size))
          clear hq  Hb HX HY HO HR
          have HX := HX'
          have HY := HY'
          have HO := HO'
          have HR := HR'
          have Hb := Hb'
          clear HX' HY' HO' HR' Hb'
          have H5 := HBX
          clear HBX
          clear HR
          have q0 : W5.cell? ⟨g2, 0, none⟩ = some (.int .i64 (M : Int)) := HX.out.blk.cell 0
          have q1 : W5.cell? ⟨g2, 1, none⟩ = some (.slice a0 len0 cap0) := HX.out.blk.cell 1
          have q2 : W5.cell? ⟨g3, 0, none⟩ = some (.int .i64 (M : Int)) := HY.out.blk.cell 0
          have q3 : W5.cell? ⟨g3, 1, none⟩ = some (.slice a1 len1 cap1) := HY.out.blk.cell 1
          go_wp2_with fail
          refine (or_is M a0 a1 len0 cap0 len1 cap1 xs0 xs1 W5 HX.out.rd HY.out.rd Ia.out.v Ib.out.v).mono ?_
          rintro e u4 ⟨b7, l7, c7, X7, rfl, hw, hi, hb⟩
          have HR := Lib.hid hw
          have I7 := Lib.hid hi
          clear hw hi
          have HX' := Lib.hid (HX.out.below hb)
          have HY' := Lib.hid (HY.out.below hb)
          have HO' := Lib.hid (HO.out.below hb (Nat.le_refl _))
          have H5' := Lib.hid (H5.out.below hb)
          have Hb' := Lib.hid (Hb.out.trans (hb.mono Hb.out.size))
          clear hb q0 q1 q2 q3 Hb HX HY HO H5
          have HX := HX'
          have HY := HY'
          have HO := HO'
          have H5 := H5'
          have Hb := Hb'
          clear HX' HY' HO' H5' Hb'
          go_upto_region 5 with fail
          obtain ⟨g7, W7, e1, e2, hB, -, hq⟩ := boxed Hb.out (M : Int) b7 l7 c7 X7 HR.out
          rw [e2, e1]
          have HBX := Lib.hid hB
          clear e1 e2 hB
          have HX' := Lib.hid (HX.out.below hq)
          have HY' := Lib.hid (HY.out.below hq)
          have HO' := Lib.hid (HO.out.below hq (Nat.le_refl _))
          have H5' := Lib.hid (H5.out.below hq)
          have HR' := Lib.hid (HR.out.below hq (Nat.le_refl _))
          have Hb' := Lib.hid (Hb.out.trans (hq.mono Hb.out.size))
          clear hq  Hb HX HY HO H5 HR
          have HX := HX'
          have HY := HY'
          have HO := HO'
          have H5 := H5'
          have HR := HR'
          have Hb := Hb'
          clear HX' HY' HO' H5' HR' Hb'
          have H7 := HBX
          clear HBX
          clear HR
          have q0 : W7.cell? ⟨g2, 0, none⟩ = some (.int .i64 (M : Int)) := HX.out.blk.cell 0
          have q1 : W7.cell? ⟨g2, 1, none⟩ = some (.slice a0 len0 cap0) := HX.out.blk.cell 1
          have q2 : W7.cell? ⟨g3, 0, none⟩ = some (.int .i64 (M : Int)) := HY.out.blk.cell 0
          have q3 : W7.cell? ⟨g3, 1, none⟩ = some (.slice a1 len1 cap1) := HY.out.blk.cell 1
          go_wp2_with fail
          refine (minus_is M a0 a1 len0 cap0 len1 cap1 xs0 xs1 W7 HX.out.rd HY.out.rd Ia.out.v Ib.out.v).mono ?_
          rintro e u5 ⟨b9, l9, c9, X9, rfl, hw, hi, hb⟩
          have HR := Lib.hid hw
          have I9 := Lib.hid hi
          clear hw hi
          have HX' := Lib.hid (HX.out.below hb)
          have HY' := Lib.hid (HY.out.below hb)
          have HO' := Lib.hid (HO.out.below hb (Nat.le_refl _))
          have H5' := Lib.hid (H5.out.below hb)
          have H7' := Lib.hid (H7.out.below hb)
          have Hb' := Lib.hid (Hb.out.trans (hb.mono Hb.out.size))
          clear hb q0 q1 q2 q3 Hb HX HY HO H5 H7
          have HX := HX'
          have HY := HY'
          have HO := HO'
          have H5 := H5'
          have H7 := H7'
          have Hb := Hb'
          clear HX' HY' HO' H5' H7' Hb'
          go_upto_region 6 with fail
          obtain ⟨g9, W9, e1, e2, hB, -, hq⟩ := boxed Hb.out (M : Int) b9 l9 c9 X9 HR.out
          rw [e2, e1]
          have HBX := Lib.hid hB
          clear e1 e2 hB
          have HX' := Lib.hid (HX.out.below hq)
          have HY' := Lib.hid (HY.out.below hq)
          have HO' := Lib.hid (HO.out.below hq (Nat.le_refl _))
          have H5' := Lib.hid (H5.out.below hq)
          have H7' := Lib.hid (H7.out.below hq)
          have HR' := Lib.hid (HR.out.below hq (Nat.le_refl _))
          have Hb' := Lib.hid (Hb.out.trans (hq.mono Hb.out.size))
          clear hq  Hb HX HY HO H5 H7 HR
          have HX := HX'
          have HY := HY'
          have HO := HO'
          have H5 := H5'
          have H7 := H7'
          have HR := HR'
          have Hb := Hb'
          clear HX' HY' HO' H5' H7' HR' Hb'
          have H9 := HBX
          clear HBX
          clear HR
          have q0 : W9.cell? ⟨g2, 0, none⟩ = some (.int .i64 (M : Int)) := HX.out.blk.cell 0
          have q1 : W9.cell? ⟨g2, 1, none⟩ = some (.slice a0 len0 cap0) := HX.out.blk.cell 1
          go_wp2_with fail
          refine (not_is M a0 len0 cap0 xs0 W9 HX.out.rd Ia.out.v).mono ?_
          rintro e u6 ⟨b11, l11, c11, X11, rfl, hw, hi, hb⟩
          have HR := Lib.hid hw
          have I11 := Lib.hid hi
          clear hw hi
          have HX' := Lib.hid (HX.out.below hb)
          have HY' := Lib.hid (HY.out.below hb)
          have HO' := Lib.hid (HO.out.below hb (Nat.le_refl _))
          have H5' := Lib.hid (H5.out.below hb)
          have H7' := Lib.hid (H7.out.below hb)
          have H9' := Lib.hid (H9.out.below hb)
          have Hb' := Lib.hid (Hb.out.trans (hb.mono Hb.out.size))
          clear hb q0 q1 Hb HX HY HO H5 H7 H9
          have HX := HX'
          have HY := HY'
          have HO := HO'
          have H5 := H5'
          have H7 := H7'
          have H9 := H9'
          have Hb := Hb'
          clear HX' HY' HO' H5' H7' H9' Hb'
          go_upto_region 7 with fail
          obtain ⟨g11, W11, e1, e2, hB, -, hq⟩ := boxed Hb.out (M : Int) b11 l11 c11 X11 HR.out
          rw [e2, e1]
          have HBX := Lib.hid hB
          clear e1 e2 hB
          have HX' := Lib.hid (HX.out.below hq)
          have HY' := Lib.hid (HY.out.below hq)
          have HO' := Lib.hid (HO.out.below hq (Nat.le_refl _))
          have H5' := Lib.hid (H5.out.below hq)
          have H7' := Lib.hid (H7.out.below hq)
          have H9' := Lib.hid (H9.out.below hq)
          have HR' := Lib.hid (HR.out.below hq (Nat.le_refl _))
          have Hb' := Lib.hid (Hb.out.trans (hq.mono Hb.out.size))
          clear hq  Hb HX HY HO H5 H7 H9 HR
          have HX := HX'
          have HY := HY'
          have HO := HO'
          have H5 := H5'
          have H7 := H7'
          have H9 := H9'
          have HR := HR'
          have Hb := Hb'
          clear HX' HY' HO' H5' H7' H9' HR' Hb'
          have H11 := HBX
          clear HBX
          clear HR
          have q0 : W11.cell? ⟨g3, 0, none⟩ = some (.int .i64 (M : Int)) := HY.out.blk.cell 0
          have q1 : W11.cell? ⟨g3, 1, none⟩ = some (.slice a1 len1 cap1) := HY.out.blk.cell 1
          go_wp2_with fail
          refine (not_is M a1 len1 cap1 xs1 W11 HY.out.rd Ib.out.v).mono ?_
          rintro e u7 ⟨b13, l13, c13, X13, rfl, hw, hi, hb⟩
          have HR := Lib.hid hw
          have I13 := Lib.hid hi
          clear hw hi
          have HX' := Lib.hid (HX.out.below hb)
          have HY' := Lib.hid (HY.out.below hb)
          have HO' := Lib.hid (HO.out.below hb (Nat.le_refl _))
          have H5' := Lib.hid (H5.out.below hb)
          have H7' := Lib.hid (H7.out.below hb)
          have H9' := Lib.hid (H9.out.below hb)
          have H11' := Lib.hid (H11.out.below hb)
          have Hb' := Lib.hid (Hb.out.trans (hb.mono Hb.out.size))
          clear hb q0 q1 Hb HX HY HO H5 H7 H9 H11
          have HX := HX'
          have HY := HY'
          have HO := HO'
          have H5 := H5'
          have H7 := H7'
          have H9 := H9'
          have H11 := H11'
          have Hb := Hb'
          clear HX' HY' HO' H5' H7' H9' H11' Hb'
          go_upto_region 8 with fail
          obtain ⟨g13, W13, e1, e2, hB, -, hq⟩ := boxed Hb.out (M : Int) b13 l13 c13 X13 HR.out
          rw [e2, e1]
          have HBX := Lib.hid hB
          clear e1 e2 hB
          have HX' := Lib.hid (HX.out.below hq)
          have HY' := Lib.hid (HY.out.below hq)
          have HO' := Lib.hid (HO.out.below hq (Nat.le_refl _))
          have H5' := Lib.hid (H5.out.below hq)
          have H7' := Lib.hid (H7.out.below hq)
          have H9' := Lib.hid (H9.out.below hq)
          have H11' := Lib.hid (H11.out.below hq)
          have HR' := Lib.hid (HR.out.below hq (Nat.le_refl _))
          have Hb' := Lib.hid (Hb.out.trans (hq.mono Hb.out.size))
          clear hq  Hb HX HY HO H5 H7 H9 H11 HR
          have HX := HX'
          have HY := HY'
          have HO := HO'
          have H5 := H5'
          have H7 := H7'
          have H9 := H9'
          have H11 := H11'
          have HR := HR'
          have Hb := Hb'
          clear HX' HY' HO' H5' H7' H9' H11' HR' Hb'
          have H13 := HBX
          clear HBX
          clear HR
          have q0 : W13.cell? ⟨g2, 0, none⟩ = some (.int .i64 (M : Int)) := HX.out.blk.cell 0
          have q1 : W13.cell? ⟨g2, 1, none⟩ = some (.slice a0 len0 cap0) := HX.out.blk.cell 1
          have q2 : W13.cell? ⟨g13, 0, none⟩ = some (.int .i64 (M : Int)) := H13.out.blk.cell 0
          have q3 : W13.cell? ⟨g13, 1, none⟩ = some (.slice b13 l13 c13) := H13.out.blk.cell 1
          go_wp2_with fail
          refine (and_is M a0 b13 len0 cap0 l13 c13 xs0 X13 W13 HX.out.rd H13.out.rd Ia.out.v I13.out.v).mono ?_
          rintro e u8 ⟨b15, l15, c15, X15, rfl, hw, hi, hb⟩
          have HR := Lib.hid hw
          have I15 := Lib.hid hi
          clear hw hi
          have HX' := Lib.hid (HX.out.below hb)
          have HY' := Lib.hid (HY.out.below hb)
          have HO' := Lib.hid (HO.out.below hb (Nat.le_refl _))
          have H5' := Lib.hid (H5.out.below hb)
          have H7' := Lib.hid (H7.out.below hb)
          have H9' := Lib.hid (H9.out.below hb)
          have H11' := Lib.hid (H11.out.below hb)
          have H13' := Lib.hid (H13.out.below hb)
          have Hb' := Lib.hid (Hb.out.trans (hb.mono Hb.out.size))
          clear hb q0 q1 q2 q3 Hb HX HY HO H5 H7 H9 H11 H13
          have HX := HX'
          have HY := HY'
          have HO := HO'
          have H5 := H5'
          have H7 := H7'
          have H9 := H9'
          have H11 := H11'
          have H13 := H13'
          have Hb := Hb'
          clear HX' HY' HO' H5' H7' H9' H11' H13' Hb'
          go_upto_region 9 with fail
          obtain ⟨g15, W15, e1, e2, hB, -, hq⟩ := boxed Hb.out (M : Int) b15 l15 c15 X15 HR.out
          rw [e2, e1]
          have HBX := Lib.hid hB
          clear e1 e2 hB
          have HX' := Lib.hid (HX.out.below hq)
          have HY' := Lib.hid (HY.out.below hq)
          have HO' := Lib.hid (HO.out.below hq (Nat.le_refl _))
          have H5' := Lib.hid (H5.out.below hq)
          have H7' := Lib.hid (H7.out.below hq)
          have H9' := Lib.hid (H9.out.below hq)
          have H11' := Lib.hid (H11.out.below hq)
          have H13' := Lib.hid (H13.out.below hq)
          have HR' := Lib.hid (HR.out.below hq (Nat.le_refl _))
          have Hb' := Lib.hid (Hb.out.trans (hq.mono Hb.out.size))
          clear hq  Hb HX HY HO H5 H7 H9 H11 H13 HR
          have HX := HX'
          have HY := HY'
          have HO := HO'
          have H5 := H5'
          have H7 := H7'
          have H9 := H9'
          have H11 := H11'
          have H13 := H13'
          have HR := HR'
          have Hb := Hb'
          clear HX' HY' HO' H5' H7' H9' H11' H13' HR' Hb'
          have H15 := HBX
          clear HBX
          clear HR
          have q0 : W15.cell? ⟨g11, 0, none⟩ = some (.int .i64 (M : Int)) := H11.out.blk.cell 0
          have q1 : W15.cell? ⟨g11, 1, none⟩ = some (.slice b11 l11 c11) := H11.out.blk.cell 1
          have q2 : W15.cell? ⟨g13, 0, none⟩ = some (.int .i64 (M : Int)) := H13.out.blk.cell 0
          have q3 : W15.cell? ⟨g13, 1, none⟩ = some (.slice b13 l13 c13) := H13.out.blk.cell 1
          go_wp2_with fail
          refine (or_is M b11 b13 l11 c11 l13 c13 X11 X13 W15 H11.out.rd H13.out.rd I11.out.v I13.out.v).mono ?_
          rintro e u9 ⟨b17, l17, c17, X17, rfl, hw, hi, hb⟩
          have HR := Lib.hid hw
          have I17 := Lib.hid hi
          clear hw hi
          have HX' := Lib.hid (HX.out.below hb)
          have HY' := Lib.hid (HY.out.below hb)
          have HO' := Lib.hid (HO.out.below hb (Nat.le_refl _))
          have H5' := Lib.hid (H5.out.below hb)
          have H7' := Lib.hid (H7.out.below hb)
          have H9' := Lib.hid (H9.out.below hb)
          have H11' := Lib.hid (H11.out.below hb)
          have H13' := Lib.hid (H13.out.below hb)
          have H15' := Lib.hid (H15.out.below hb)
          have Hb' := Lib.hid (Hb.out.trans (hb.mono Hb.out.size))
          clear hb q0 q1 q2 q3 Hb HX HY HO H5 H7 H9 H11 H13 H15
          have HX := HX'
          have HY := HY'
          have HO := HO'
          have H5 := H5'
          have H7 := H7'
          have H9 := H9'
          have H11 := H11'
          have H13 := H13'
          have H15 := H15'
          have Hb := Hb'
          clear HX' HY' HO' H5' H7' H9' H11' H13' H15' Hb'
          go_upto_region 10 with fail
          obtain ⟨g17, W17, e1, e2, hB, -, hq⟩ := boxed Hb.out (M : Int) b17 l17 c17 X17 HR.out
          rw [e2, e1]
          have HBX := Lib.hid hB
          clear e1 e2 hB
          have HX' := Lib.hid (HX.out.below hq)
          have HY' := Lib.hid (HY.out.below hq)
          have HO' := Lib.hid (HO.out.below hq (Nat.le_refl _))
          have H5' := Lib.hid (H5.out.below hq)
          have H7' := Lib.hid (H7.out.below hq)
          have H9' := Lib.hid (H9.out.below hq)
          have H11' := Lib.hid (H11.out.below hq)
          have H13' := Lib.hid (H13.out.below hq)
          have H15' := Lib.hid (H15.out.below hq)
          have HR' := Lib.hid (HR.out.below hq (Nat.le_refl _))
          have Hb' := Lib.hid (Hb.out.trans (hq.mono Hb.out.size))
          clear hq  Hb HX HY HO H5 H7 H9 H11 H13 H15 HR
          have HX := HX'
          have HY := HY'
          have HO := HO'
          have H5 := H5'
          have H7 := H7'
          have H9 := H9'
          have H11 := H11'
          have H13 := H13'
          have H15 := H15'
          have HR := HR'
          have Hb := Hb'
          clear HX' HY' HO' H5' H7' H9' H11' H13' H15' HR' Hb'
          have H17 := HBX
          clear HBX
          clear HR
          have q0 : W17.cell? ⟨g5, 0, none⟩ = some (.int .i64 (M : Int)) := H5.out.blk.cell 0
          have q1 : W17.cell? ⟨g5, 1, none⟩ = some (.slice b5 l5 c5) := H5.out.blk.cell 1
          go_wp2_with fail
          refine (not_is M b5 l5 c5 X5 W17 H5.out.rd I5.out.v).mono ?_
          rintro e u10 ⟨b19, l19, c19, X19, rfl, hw, hi, hb⟩
          have HR := Lib.hid hw
          have I19 := Lib.hid hi
          clear hw hi
          have HX' := Lib.hid (HX.out.below hb)
          have HY' := Lib.hid (HY.out.below hb)
          have HO' := Lib.hid (HO.out.below hb (Nat.le_refl _))
          have H5' := Lib.hid (H5.out.below hb)
          have H7' := Lib.hid (H7.out.below hb)
          have H9' := Lib.hid (H9.out.below hb)
          have H11' := Lib.hid (H11.out.below hb)
          have H13' := Lib.hid (H13.out.below hb)
          have H15' := Lib.hid (H15.out.below hb)
          have H17' := Lib.hid (H17.out.below hb)
          have Hb' := Lib.hid (Hb.out.trans (hb.mono Hb.out.size))
          clear hb q0 q1 Hb HX HY HO H5 H7 H9 H11 H13 H15 H17
          have HX := HX'
          have HY := HY'
          have HO := HO'
          have H5 := H5'
          have H7 := H7'
          have H9 := H9'
          have H11 := H11'
          have H13 := H13'
          have H15 := H15'
          have H17 := H17'
          have Hb := Hb'
          clear HX' HY' HO' H5' H7' H9' H11' H13' H15' H17' Hb'
          go_upto_region 11 with fail
          obtain ⟨g19, W19, e1, e2, hB, -, hq⟩ := boxed Hb.out (M : Int) b19 l19 c19 X19 HR.out
          rw [e2, e1]
          have HBX := Lib.hid hB
          clear e1 e2 hB
          have HX' := Lib.hid (HX.out.below hq)
          have HY' := Lib.hid (HY.out.below hq)
          have HO' := Lib.hid (HO.out.below hq (Nat.le_refl _))
          have H5' := Lib.hid (H5.out.below hq)
          have H7' := Lib.hid (H7.out.below hq)
          have H9' := Lib.hid (H9.out.below hq)
          have H11' := Lib.hid (H11.out.below hq)
          have H13' := Lib.hid (H13.out.below hq)
          have H15' := Lib.hid (H15.out.below hq)
          have H17' := Lib.hid (H17.out.below hq)
          have HR' := Lib.hid (HR.out.below hq (Nat.le_refl _))
          have Hb' := Lib.hid (Hb.out.trans (hq.mono Hb.out.size))
          clear hq  Hb HX HY HO H5 H7 H9 H11 H13 H15 H17 HR
          have HX := HX'
          have HY := HY'
          have HO := HO'
          have H5 := H5'
          have H7 := H7'
          have H9 := H9'
          have H11 := H11'
          have H13 := H13'
          have H15 := H15'
          have H17 := H17'
          have HR := HR'
          have Hb := Hb'
          clear HX' HY' HO' H5' H7' H9' H11' H13' H15' H17' HR' Hb'
          have H19 := HBX
          clear HBX
          clear HR
          have q0 : W19.cell? ⟨g11, 0, none⟩ = some (.int .i64 (M : Int)) := H11.out.blk.cell 0
          have q1 : W19.cell? ⟨g11, 1, none⟩ = some (.slice b11 l11 c11) := H11.out.blk.cell 1
          go_wp2_with fail
          refine (not_is M b11 l11 c11 X11 W19 H11.out.rd I11.out.v).mono ?_
          rintro e u11 ⟨b21, l21, c21, X21, rfl, hw, hi, hb⟩
          have HR := Lib.hid hw
          have I21 := Lib.hid hi
          clear hw hi
          have HX' := Lib.hid (HX.out.below hb)
          have HY' := Lib.hid (HY.out.below hb)
          have HO' := Lib.hid (HO.out.below hb (Nat.le_refl _))
          have H5' := Lib.hid (H5.out.below hb)
          have H7' := Lib.hid (H7.out.below hb)
          have H9' := Lib.hid (H9.out.below hb)
          have H11' := Lib.hid (H11.out.below hb)
          have H13' := Lib.hid (H13.out.below hb)
          have H15' := Lib.hid (H15.out.below hb)
          have H17' := Lib.hid (H17.out.below hb)
          have H19' := Lib.hid (H19.out.below hb)
          have Hb' := Lib.hid (Hb.out.trans (hb.mono Hb.out.size))
          clear hb q0 q1 Hb HX HY HO H5 H7 H9 H11 H13 H15 H17 H19
          have HX := HX'
          have HY := HY'
          have HO := HO'
          have H5 := H5'
          have H7 := H7'
          have H9 := H9'
          have H11 := H11'
          have H13 := H13'
          have H15 := H15'
          have H17 := H17'
          have H19 := H19'
          have Hb := Hb'
          clear HX' HY' HO' H5' H7' H9' H11' H13' H15' H17' H19' Hb'
          go_upto_region 12 with fail
          obtain ⟨g21, W21, e1, e2, hB, -, hq⟩ := boxed Hb.out (M : Int) b21 l21 c21 X21 HR.out
          rw [e2, e1]
          have HBX := Lib.hid hB
          clear e1 e2 hB
          have HX' := Lib.hid (HX.out.below hq)
          have HY' := Lib.hid (HY.out.below hq)
          have HO' := Lib.hid (HO.out.below hq (Nat.le_refl _))
          have H5' := Lib.hid (H5.out.below hq)
          have H7' := Lib.hid (H7.out.below hq)
          have H9' := Lib.hid (H9.out.below hq)
          have H11' := Lib.hid (H11.out.below hq)
          have H13' := Lib.hid (H13.out.below hq)
          have H15' := Lib.hid (H15.out.below hq)
          have H17' := Lib.hid (H17.out.below hq)
          have H19' := Lib.hid (H19.out.below hq)
          have HR' := Lib.hid (HR.out.below hq (Nat.le_refl _))
          have Hb' := Lib.hid (Hb.out.trans (hq.mono Hb.out.size))
          clear hq  Hb HX HY HO H5 H7 H9 H11 H13 H15 H17 H19 HR
          have HX := HX'
          have HY := HY'
          have HO := HO'
          have H5 := H5'
          have H7 := H7'
          have H9 := H9'
          have H11 := H11'
          have H13 := H13'
          have H15 := H15'
          have H17 := H17'
          have H19 := H19'
          have HR := HR'
          have Hb := Hb'
          clear HX' HY' HO' H5' H7' H9' H11' H13' H15' H17' H19' HR' Hb'
          have H21 := HBX
          clear HBX
          clear HR
          have q0 : W21.cell? ⟨g3, 0, none⟩ = some (.int .i64 (M : Int)) := HY.out.blk.cell 0
          have q1 : W21.cell? ⟨g3, 1, none⟩ = some (.slice a1 len1 cap1) := HY.out.blk.cell 1
          have q2 : W21.cell? ⟨g2, 0, none⟩ = some (.int .i64 (M : Int)) := HX.out.blk.cell 0
          have q3 : W21.cell? ⟨g2, 1, none⟩ = some (.slice a0 len0 cap0) := HX.out.blk.cell 1
          go_wp2_with fail
          refine (and_is M a1 a0 len1 cap1 len0 cap0 xs1 xs0 W21 HY.out.rd HX.out.rd Ib.out.v Ia.out.v).mono ?_
          rintro e u12 ⟨b23, l23, c23, X23, rfl, hw, hi, hb⟩
          have HR := Lib.hid hw
          have I23 := Lib.hid hi
          clear hw hi
          have HX' := Lib.hid (HX.out.below hb)
          have HY' := Lib.hid (HY.out.below hb)
          have HO' := Lib.hid (HO.out.below hb (Nat.le_refl _))
          have H5' := Lib.hid (H5.out.below hb)
          have H7' := Lib.hid (H7.out.below hb)
          have H9' := Lib.hid (H9.out.below hb)
          have H11' := Lib.hid (H11.out.below hb)
          have H13' := Lib.hid (H13.out.below hb)
          have H15' := Lib.hid (H15.out.below hb)
          have H17' := Lib.hid (H17.out.below hb)
          have H19' := Lib.hid (H19.out.below hb)
          have H21' := Lib.hid (H21.out.below hb)
          have Hb' := Lib.hid (Hb.out.trans (hb.mono Hb.out.size))
          clear hb q0 q1 q2 q3 Hb HX HY HO H5 H7 H9 H11 H13 H15 H17 H19 H21
          have HX := HX'
          have HY := HY'
          have HO := HO'
          have H5 := H5'
          have H7 := H7'
          have H9 := H9'
          have H11 := H11'
          have H13 := H13'
          have H15 := H15'
          have H17 := H17'
          have H19 := H19'
          have H21 := H21'
          have Hb := Hb'
          clear HX' HY' HO' H5' H7' H9' H11' H13' H15' H17' H19' H21' Hb'
          go_upto_region 13 with fail
          obtain ⟨g23, W23, e1, e2, hB, -, hq⟩ := boxed Hb.out (M : Int) b23 l23 c23 X23 HR.out
          rw [e2, e1]
          have HBX := Lib.hid hB
          clear e1 e2 hB
          have HX' := Lib.hid (HX.out.below hq)
          have HY' := Lib.hid (HY.out.below hq)
          have HO' := Lib.hid (HO.out.below hq (Nat.le_refl _))
          have H5' := Lib.hid (H5.out.below hq)
          have H7' := Lib.hid (H7.out.below hq)
          have H9' := Lib.hid (H9.out.below hq)
          have H11' := Lib.hid (H11.out.below hq)
          have H13' := Lib.hid (H13.out.below hq)
          have H15' := Lib.hid (H15.out.below hq)
          have H17' := Lib.hid (H17.out.below hq)
          have H19' := Lib.hid (H19.out.below hq)
          have H21' := Lib.hid (H21.out.below hq)
          have HR' := Lib.hid (HR.out.below hq (Nat.le_refl _))
          have Hb' := Lib.hid (Hb.out.trans (hq.mono Hb.out.size))
          clear hq  Hb HX HY HO H5 H7 H9 H11 H13 H15 H17 H19 H21 HR
          have HX := HX'
          have HY := HY'
          have HO := HO'
          have H5 := H5'
          have H7 := H7'
          have H9 := H9'
          have H11 := H11'
          have H13 := H13'
          have H15 := H15'
          have H17 := H17'
          have H19 := H19'
          have H21 := H21'
          have HR := HR'
          have Hb := Hb'
          clear HX' HY' HO' H5' H7' H9' H11' H13' H15' H17' H19' H21' HR' Hb'
          have H23 := HBX
          clear HBX
          clear HR
          have q0 : W23.cell? ⟨g3, 0, none⟩ = some (.int .i64 (M : Int)) := HY.out.blk.cell 0
          have q1 : W23.cell? ⟨g3, 1, none⟩ = some (.slice a1 len1 cap1) := HY.out.blk.cell 1
          have q2 : W23.cell? ⟨g2, 0, none⟩ = some (.int .i64 (M : Int)) := HX.out.blk.cell 0
          have q3 : W23.cell? ⟨g2, 1, none⟩ = some (.slice a0 len0 cap0) := HX.out.blk.cell 1
          go_wp2_with fail
          refine (or_is M a1 a0 len1 cap1 len0 cap0 xs1 xs0 W23 HY.out.rd HX.out.rd Ib.out.v Ia.out.v).mono ?_
          rintro e u13 ⟨b25, l25, c25, X25, rfl, hw, hi, hb⟩
          have HR := Lib.hid hw
          have I25 := Lib.hid hi
          clear hw hi
          have HX' := Lib.hid (HX.out.below hb)
          have HY' := Lib.hid (HY.out.below hb)
          have HO' := Lib.hid (HO.out.below hb (Nat.le_refl _))
          have H5' := Lib.hid (H5.out.below hb)
          have H7' := Lib.hid (H7.out.below hb)
          have H9' := Lib.hid (H9.out.below hb)
          have H11' := Lib.hid (H11.out.below hb)
          have H13' := Lib.hid (H13.out.below hb)
          have H15' := Lib.hid (H15.out.below hb)
          have H17' := Lib.hid (H17.out.below hb)
          have H19' := Lib.hid (H19.out.below hb)
          have H21' := Lib.hid (H21.out.below hb)
          have H23' := Lib.hid (H23.out.below hb)
          have Hb' := Lib.hid (Hb.out.trans (hb.mono Hb.out.size))
          clear hb q0 q1 q2 q3 Hb HX HY HO H5 H7 H9 H11 H13 H15 H17 H19 H21 H23
          have HX := HX'
          have HY := HY'
          have HO := HO'
          have H5 := H5'
          have H7 := H7'
          have H9 := H9'
          have H11 := H11'
          have H13 := H13'
          have H15 := H15'
          have H17 := H17'
          have H19 := H19'
          have H21 := H21'
          have H23 := H23'
          have Hb := Hb'
          clear HX' HY' HO' H5' H7' H9' H11' H13' H15' H17' H19' H21' H23' Hb'
          go_upto_region 14 with fail
          obtain ⟨g25, W25, e1, e2, hB, -, hq⟩ := boxed Hb.out (M : Int) b25 l25 c25 X25 HR.out
          rw [e2, e1]
          have HBX := Lib.hid hB
          clear e1 e2 hB
          have HX' := Lib.hid (HX.out.below hq)
          have HY' := Lib.hid (HY.out.below hq)
          have HO' := Lib.hid (HO.out.below hq (Nat.le_refl _))
          have H5' := Lib.hid (H5.out.below hq)
          have H7' := Lib.hid (H7.out.below hq)
          have H9' := Lib.hid (H9.out.below hq)
          have H11' := Lib.hid (H11.out.below hq)
          have H13' := Lib.hid (H13.out.below hq)
          have H15' := Lib.hid (H15.out.below hq)
          have H17' := Lib.hid (H17.out.below hq)
          have H19' := Lib.hid (H19.out.below hq)
          have H21' := Lib.hid (H21.out.below hq)
          have H23' := Lib.hid (H23.out.below hq)
          have HR' := Lib.hid (HR.out.below hq (Nat.le_refl _))
          have Hb' := Lib.hid (Hb.out.trans (hq.mono Hb.out.size))
          clear hq  Hb HX HY HO H5 H7 H9 H11 H13 H15 H17 H19 H21 H23 HR
          have HX := HX'
          have HY := HY'
          have HO := HO'
          have H5 := H5'
          have H7 := H7'
          have H9 := H9'
          have H11 := H11'
          have H13 := H13'
          have H15 := H15'
          have H17 := H17'
          have H19 := H19'
          have H21 := H21'
          have H23 := H23'
          have HR := HR'
          have Hb := Hb'
          clear HX' HY' HO' H5' H7' H9' H11' H13' H15' H17' H19' H21' H23' HR' Hb'
          have H25 := HBX
          clear HBX
          clear HR
          have Zp := Lib.hid (show X9 = X15 from I9.out.eq I15.out (fun j hj => by rw [I13.out.b j hj]))
          have Qr := Lib.hid (show X17 = X19 from I17.out.eq I19.out (fun j hj => by rw [I11.out.b j hj, I13.out.b j hj, I5.out.b j hj]; cases bitV xs0 j <;> cases bitV xs1 j <;> rfl))
          have Sa := Lib.hid (show X21 = xs0 from I21.out.eq Ia.out (fun j hj => by rw [I11.out.b j hj, Bool.not_not]))
          have Ux := Lib.hid (show X23 = X5 from I23.out.eq I5.out (fun j hj => Bool.and_comm _ _))
          have Vy := Lib.hid (show X25 = X7 from I25.out.eq I7.out (fun j hj => Bool.or_comm _ _))
          have c1 := cnt_and_or (x := xs0) (y := xs1) (z := X5) (u := X7) M I5.out.b I7.out.b
          have c2 := cnt_not (x := xs0) (z := X11) M I11.out.b
          have d5 := cnt_le X5 0 M
          have d7 := cnt_le X7 0 M
          have da := cnt_le xs0 0 M
          have db := cnt_le xs1 0 M
          have d11 := cnt_le X11 0 M
          have C5 := Lib.hid (fun w h h2 => lcount_any M b5 l5 c5 X5 w h I5.out.v h2)
          have C7 := Lib.hid (fun w h h2 => lcount_any M b7 l7 c7 X7 w h I7.out.v h2)
          have Ca := Lib.hid (fun w h h2 => lcount_any M a0 len0 cap0 xs0 w h Ia.out.v h2)
          have Cb := Lib.hid (fun w h h2 => lcount_any M a1 len1 cap1 xs1 w h Ib.out.v h2)
          have C11 := Lib.hid (fun w h h2 => lcount_any M b11 l11 c11 X11 w h I11.out.v h2)
          obtain ⟨n5, hn5⟩ : ∃ n, n = cntV X5 0 M := ⟨_, rfl⟩
          obtain ⟨n7, hn7⟩ : ∃ n, n = cntV X7 0 M := ⟨_, rfl⟩
          obtain ⟨na, hna⟩ : ∃ n, n = cntV xs0 0 M := ⟨_, rfl⟩
          obtain ⟨nb, hnb⟩ : ∃ n, n = cntV xs1 0 M := ⟨_, rfl⟩
          obtain ⟨n11, hn11⟩ : ∃ n, n = cntV X11 0 M := ⟨_, rfl⟩
          rw [← hn5] at c1 d5 C5
          rw [← hn7] at c1 d7 C7
          rw [← hna] at c1 c2 da Ca
          rw [← hnb] at c1 db Cb
          rw [← hn11] at c2 d11 C11
          obtain ⟨S, hS⟩ : ∃ S : Int, (n5 : Int) + (n7 : Int) = S := ⟨_, rfl⟩
          have hS2 : (na : Int) + (nb : Int) = S := by omega
          have hS3 : IntKind.i64.wrap S = S := IntWalk.i64_in _ (by omega)
          have hT : (na : Int) + (n11 : Int) = (M : Int) := by omega
          have hT3 : IntKind.i64.wrap (M : Int) = (M : Int) := IntWalk.i64_in _ (by omega)
          have Hn := Lib.hid (And.intro hn5 (And.intro hn7 (And.intro hna (And.intro hnb hn11))))
          clear hn5 hn7 hna hnb hn11 c1 c2 d5 d7 da db d11
          go_upto_region 14 with fail
          refine wp_region_held_drew (S := Below W25.heap.size W25) (by kernel_rfl) ((Below.refl _ W25).drew) (fun _ => ?_)
          have HS : Hid (Below W25.heap.size W25 W25.drew) := Lib.hid ((Below.refl _ W25).drew)
          refine wpAnyH_take (i := 0) (v := .agg #[.int .i64 (M : Int), .slice b5 l5 c5]) rfl (by kernel_rfl) (by kernel_rfl) (by kernel_rfl) (fun _ _ _ h => h) (Or.inl ⟨by rfl, ?_⟩) HS.out ?_
          · intro u hu; have : u.cell? ⟨g5, 0, none⟩ = some (.int .i64 (M : Int)) := (H5.out.below hu).blk.cell 0; have : u.cell? ⟨g5, 1, none⟩ = some (.slice b5 l5 c5) := (H5.out.below hu).blk.cell 1; go_simp
          go_simp
          refine wpAnyH_take (i := 2) (v := .agg #[.int .i64 (M : Int), .slice b7 l7 c7]) rfl (by kernel_rfl) (by kernel_rfl) (by kernel_rfl) (fun _ _ _ h => h) (Or.inl ⟨by rfl, ?_⟩) HS.out ?_
          · intro u hu; have : u.cell? ⟨g7, 0, none⟩ = some (.int .i64 (M : Int)) := (H7.out.below hu).blk.cell 0; have : u.cell? ⟨g7, 1, none⟩ = some (.slice b7 l7 c7) := (H7.out.below hu).blk.cell 1; go_simp
          go_simp
          refine wpAnyH_take (i := 5) (v := .agg #[.int .i64 (M : Int), .slice a0 len0 cap0]) rfl (by kernel_rfl) (by kernel_rfl) (by kernel_rfl) (fun _ _ _ h => h) (Or.inl ⟨by rfl, ?_⟩) HS.out ?_
          · intro u hu; have : u.cell? ⟨g2, 0, none⟩ = some (.int .i64 (M : Int)) := (HX.out.below hu).blk.cell 0; have : u.cell? ⟨g2, 1, none⟩ = some (.slice a0 len0 cap0) := (HX.out.below hu).blk.cell 1; go_simp
          go_simp
          refine wpAnyH_take (i := 7) (v := .agg #[.int .i64 (M : Int), .slice a1 len1 cap1]) rfl (by kernel_rfl) (by kernel_rfl) (by kernel_rfl) (fun _ _ _ h => h) (Or.inl ⟨by rfl, ?_⟩) HS.out ?_
          · intro u hu; have : u.cell? ⟨g3, 0, none⟩ = some (.int .i64 (M : Int)) := (HY.out.below hu).blk.cell 0; have : u.cell? ⟨g3, 1, none⟩ = some (.slice a1 len1 cap1) := (HY.out.below hu).blk.cell 1; go_simp
          go_simp
          refine wpAnyH_ready (rs := [1]) (by kernel_rfl) (by simp) ?_
          refine AllReadyH.cons rfl (fun K hK => ?_) AllReadyH.nil
          go_simp
          refine (C5.out _ (H5.out.below HS.out).rd (HO.out.below HS.out (Nat.le_refl _))).mono ?_
          rintro e u14 ⟨rfl, hb⟩
          have HS2 : Hid (Below W25.heap.size W25 u14) := Lib.hid (HS.out.trans (hb.mono HS.out.size))
          clear HS hb
          have HS := HS2
          clear HS2
          refine hK.out _ _ HS.out (fun _ => ?_)
          clear hK K
          refine wpAnyH_ready (rs := [3]) (by kernel_rfl) (by simp) ?_
          refine AllReadyH.cons rfl (fun K hK => ?_) AllReadyH.nil
          go_simp
          refine (C7.out _ (H7.out.below HS.out).rd (HO.out.below HS.out (Nat.le_refl _))).mono ?_
          rintro e u15 ⟨rfl, hb⟩
          have HS2 : Hid (Below W25.heap.size W25 u15) := Lib.hid (HS.out.trans (hb.mono HS.out.size))
          clear HS hb
          have HS := HS2
          clear HS2
          refine hK.out _ _ HS.out (fun _ => ?_)
          clear hK K
          refine wpAnyH_take (i := 4) (v := .int .i64 S) rfl (by kernel_rfl) (by kernel_rfl) (by kernel_rfl) (fun _ _ _ h => h) (Or.inl ⟨by rfl, ?_⟩) HS.out ?_
          · intro u hu; go_simp
          go_simp
          refine wpAnyH_ready (rs := [6]) (by kernel_rfl) (by simp) ?_
          refine AllReadyH.cons rfl (fun K hK => ?_) AllReadyH.nil
          go_simp
          refine (Ca.out _ (HX.out.below HS.out).rd (HO.out.below HS.out (Nat.le_refl _))).mono ?_
          rintro e u16 ⟨rfl, hb⟩
          have HS2 : Hid (Below W25.heap.size W25 u16) := Lib.hid (HS.out.trans (hb.mono HS.out.size))
          clear HS hb
          have HS := HS2
          clear HS2
          refine hK.out _ _ HS.out (fun _ => ?_)
          clear hK K
          refine wpAnyH_ready (rs := [8]) (by kernel_rfl) (by simp) ?_
          refine AllReadyH.cons rfl (fun K hK => ?_) AllReadyH.nil
          go_simp
          refine (Cb.out _ (HY.out.below HS.out).rd (HO.out.below HS.out (Nat.le_refl _))).mono ?_
          rintro e u17 ⟨rfl, hb⟩
          have HS2 : Hid (Below W25.heap.size W25 u17) := Lib.hid (HS.out.trans (hb.mono HS.out.size))
          clear HS hb
          have HS := HS2
          clear HS2
          refine hK.out _ _ HS.out (fun _ => ?_)
          clear hK K
          refine wpAnyH_take (i := 9) (v := .int .i64 S) rfl (by kernel_rfl) (by kernel_rfl) (by kernel_rfl) (fun _ _ _ h => h) (Or.inl ⟨by rfl, ?_⟩) HS.out ?_
          · intro u hu; go_simp
          go_simp
          refine wpAnyH_take (i := 10) (v := .bool false) rfl (by kernel_rfl) (by kernel_rfl) (by kernel_rfl) (fun _ _ _ h => h) (Or.inl ⟨by rfl, ?_⟩) HS.out ?_
          · intro u hu; go_simp
          go_simp
          refine wpAnyH_take (i := 11) (v := .bool false) rfl (by kernel_rfl) (by kernel_rfl) (by kernel_rfl) (fun _ _ _ h => h) (Or.inl ⟨by rfl, ?_⟩) HS.out ?_
          · intro u hu; go_simp
          go_simp
          refine wpAnyH_take (i := 12) (v := .agg #[.int .i64 (M : Int), .slice a0 len0 cap0]) rfl (by kernel_rfl) (by kernel_rfl) (by kernel_rfl) (fun _ _ _ h => h) (Or.inl ⟨by rfl, ?_⟩) HS.out ?_
          · intro u hu; have : u.cell? ⟨g2, 0, none⟩ = some (.int .i64 (M : Int)) := (HX.out.below hu).blk.cell 0; have : u.cell? ⟨g2, 1, none⟩ = some (.slice a0 len0 cap0) := (HX.out.below hu).blk.cell 1; go_simp
          go_simp
          refine wpAnyH_take (i := 14) (v := .agg #[.int .i64 (M : Int), .slice b11 l11 c11]) rfl (by kernel_rfl) (by kernel_rfl) (by kernel_rfl) (fun _ _ _ h => h) (Or.inl ⟨by rfl, ?_⟩) HS.out ?_
          · intro u hu; have : u.cell? ⟨g11, 0, none⟩ = some (.int .i64 (M : Int)) := (H11.out.below hu).blk.cell 0; have : u.cell? ⟨g11, 1, none⟩ = some (.slice b11 l11 c11) := (H11.out.below hu).blk.cell 1; go_simp
          go_simp
          refine wpAnyH_take (i := 17) (v := .pointer (some ⟨g2, 0, none⟩)) rfl (by kernel_rfl) (by kernel_rfl) (by kernel_rfl) (fun _ _ _ h => h) (Or.inl ⟨by rfl, ?_⟩) HS.out ?_
          · intro u hu; go_simp
          go_simp
          refine wpAnyH_take (i := 18) (v := .int .i64 (M : Int)) rfl (by kernel_rfl) (by kernel_rfl) (by kernel_rfl) (fun _ _ _ h => h) (Or.inl ⟨by rfl, ?_⟩) HS.out ?_
          · intro u hu; have : u.cell? ⟨g2, 0, none⟩ = some (.int .i64 (M : Int)) := (HX.out.below hu).blk.cell 0; go_simp
          go_simp
          refine wpAnyH_ready (rs := [13]) (by kernel_rfl) (by simp) ?_
          refine AllReadyH.cons rfl (fun K hK => ?_) AllReadyH.nil
          go_simp
          refine (Ca.out _ (HX.out.below HS.out).rd (HO.out.below HS.out (Nat.le_refl _))).mono ?_
          rintro e u18 ⟨rfl, hb⟩
          have HS2 : Hid (Below W25.heap.size W25 u18) := Lib.hid (HS.out.trans (hb.mono HS.out.size))
          clear HS hb
          have HS := HS2
          clear HS2
          refine hK.out _ _ HS.out (fun _ => ?_)
          clear hK K
          refine wpAnyH_ready (rs := [15]) (by kernel_rfl) (by simp) ?_
          refine AllReadyH.cons rfl (fun K hK => ?_) AllReadyH.nil
          go_simp
          refine (C11.out _ (H11.out.below HS.out).rd (HO.out.below HS.out (Nat.le_refl _))).mono ?_
          rintro e u19 ⟨rfl, hb⟩
          have HS2 : Hid (Below W25.heap.size W25 u19) := Lib.hid (HS.out.trans (hb.mono HS.out.size))
          clear HS hb
          have HS := HS2
          clear HS2
          refine hK.out _ _ HS.out (fun _ => ?_)
          clear hK K
          refine wpAnyH_take (i := 16) (v := .int .i64 (M : Int)) rfl (by kernel_rfl) (by kernel_rfl) (by kernel_rfl) (fun _ _ _ h => h) (Or.inl ⟨by rfl, ?_⟩) HS.out ?_
          · intro u hu; go_simp
          go_simp
          refine wpAnyH_take (i := 19) (v := .bool false) rfl (by kernel_rfl) (by kernel_rfl) (by kernel_rfl) (fun _ _ _ h => h) (Or.inl ⟨by rfl, ?_⟩) HS.out ?_
          · intro u hu; go_simp
          go_simp
          refine wpAnyH_take (i := 20) (v := .bool false) rfl (by kernel_rfl) (by kernel_rfl) (by kernel_rfl) (fun _ _ _ h => h) (Or.inl ⟨by rfl, ?_⟩) HS.out ?_
          · intro u hu; go_simp
          go_simp
          refine wpAnyH_done (by kernel_rfl) ?_ _
          have hS := HS.out
          clear HS
          have HX' := Lib.hid (HX.out.below hS)
          have HY' := Lib.hid (HY.out.below hS)
          have HO' := Lib.hid (HO.out.below hS (Nat.le_refl _))
          have H5' := Lib.hid (H5.out.below hS)
          have H7' := Lib.hid (H7.out.below hS)
          have H9' := Lib.hid (H9.out.below hS)
          have H11' := Lib.hid (H11.out.below hS)
          have H13' := Lib.hid (H13.out.below hS)
          have H15' := Lib.hid (H15.out.below hS)
          have H17' := Lib.hid (H17.out.below hS)
          have H19' := Lib.hid (H19.out.below hS)
          have H21' := Lib.hid (H21.out.below hS)
          have H23' := Lib.hid (H23.out.below hS)
          have H25' := Lib.hid (H25.out.below hS)
          have Hb' := Lib.hid (Hb.out.trans (hS.mono Hb.out.size))
          clear hS  Hb HX HY HO H5 H7 H9 H11 H13 H15 H17 H19 H21 H23 H25
          have HX := HX'
          have HY := HY'
          have HO := HO'
          have H5 := H5'
          have H7 := H7'
          have H9 := H9'
          have H11 := H11'
          have H13 := H13'
          have H15 := H15'
          have H17 := H17'
          have H19 := H19'
          have H21 := H21'
          have H23 := H23'
          have H25 := H25'
          have Hb := Hb'
          clear HX' HY' HO' H5' H7' H9' H11' H13' H15' H17' H19' H21' H23' H25' Hb'
          clear hS hS2 hS3 hT hT3 C5 C7 Ca Cb C11
          go_wp2_with fail
          refine (sane_any u19 HO.out).mono ?_
          rintro e u20 ⟨rfl, hb⟩
          have HX' := Lib.hid (HX.out.below hb)
          have HY' := Lib.hid (HY.out.below hb)
          have HO' := Lib.hid (HO.out.below hb (Nat.le_refl _))
          have H5' := Lib.hid (H5.out.below hb)
          have H7' := Lib.hid (H7.out.below hb)
          have H9' := Lib.hid (H9.out.below hb)
          have H11' := Lib.hid (H11.out.below hb)
          have H13' := Lib.hid (H13.out.below hb)
          have H15' := Lib.hid (H15.out.below hb)
          have H17' := Lib.hid (H17.out.below hb)
          have H19' := Lib.hid (H19.out.below hb)
          have H21' := Lib.hid (H21.out.below hb)
          have H23' := Lib.hid (H23.out.below hb)
          have H25' := Lib.hid (H25.out.below hb)
          have Hb' := Lib.hid (Hb.out.trans (hb.mono Hb.out.size))
          clear hb  Hb HX HY HO H5 H7 H9 H11 H13 H15 H17 H19 H21 H23 H25
          have HX := HX'
          have HY := HY'
          have HO := HO'
          have H5 := H5'
          have H7 := H7'
          have H9 := H9'
          have H11 := H11'
          have H13 := H13'
          have H15 := H15'
          have H17 := H17'
          have H19 := H19'
          have H21 := H21'
          have H23 := H23'
          have H25 := H25'
          have Hb := Hb'
          clear HX' HY' HO' H5' H7' H9' H11' H13' H15' H17' H19' H21' H23' H25' Hb'
          have q0 : u20.cell? ⟨g9, 0, none⟩ = some (.int .i64 (M : Int)) := H9.out.blk.cell 0
          have q1 : u20.cell? ⟨g9, 1, none⟩ = some (.slice b9 l9 c9) := H9.out.blk.cell 1
          have q2 : u20.cell? ⟨g15, 0, none⟩ = some (.int .i64 (M : Int)) := H15.out.blk.cell 0
          have q3 : u20.cell? ⟨g15, 1, none⟩ = some (.slice b15 l15 c15) := H15.out.blk.cell 1
          go_wp2_with fail
          refine (same_is (M : Int) b9 l9 c9 b15 l15 c15 X9 u20 H9.out.rd (by rw [Zp.out]; exact H15.out.rd)).mono ?_
          rintro e u21 ⟨rfl, hb⟩
          have HX' := Lib.hid (HX.out.below hb)
          have HY' := Lib.hid (HY.out.below hb)
          have HO' := Lib.hid (HO.out.below hb (Nat.le_refl _))
          have H5' := Lib.hid (H5.out.below hb)
          have H7' := Lib.hid (H7.out.below hb)
          have H9' := Lib.hid (H9.out.below hb)
          have H11' := Lib.hid (H11.out.below hb)
          have H13' := Lib.hid (H13.out.below hb)
          have H15' := Lib.hid (H15.out.below hb)
          have H17' := Lib.hid (H17.out.below hb)
          have H19' := Lib.hid (H19.out.below hb)
          have H21' := Lib.hid (H21.out.below hb)
          have H23' := Lib.hid (H23.out.below hb)
          have H25' := Lib.hid (H25.out.below hb)
          have Hb' := Lib.hid (Hb.out.trans (hb.mono Hb.out.size))
          clear hb q0 q1 q2 q3 Hb HX HY HO H5 H7 H9 H11 H13 H15 H17 H19 H21 H23 H25
          have HX := HX'
          have HY := HY'
          have HO := HO'
          have H5 := H5'
          have H7 := H7'
          have H9 := H9'
          have H11 := H11'
          have H13 := H13'
          have H15 := H15'
          have H17 := H17'
          have H19 := H19'
          have H21 := H21'
          have H23 := H23'
          have H25 := H25'
          have Hb := Hb'
          clear HX' HY' HO' H5' H7' H9' H11' H13' H15' H17' H19' H21' H23' H25' Hb'
          have q0 : u21.cell? ⟨g17, 0, none⟩ = some (.int .i64 (M : Int)) := H17.out.blk.cell 0
          have q1 : u21.cell? ⟨g17, 1, none⟩ = some (.slice b17 l17 c17) := H17.out.blk.cell 1
          have q2 : u21.cell? ⟨g19, 0, none⟩ = some (.int .i64 (M : Int)) := H19.out.blk.cell 0
          have q3 : u21.cell? ⟨g19, 1, none⟩ = some (.slice b19 l19 c19) := H19.out.blk.cell 1
          go_wp2_with fail
          refine (same_is (M : Int) b17 l17 c17 b19 l19 c19 X17 u21 H17.out.rd (by rw [Qr.out]; exact H19.out.rd)).mono ?_
          rintro e u22 ⟨rfl, hb⟩
          have HX' := Lib.hid (HX.out.below hb)
          have HY' := Lib.hid (HY.out.below hb)
          have HO' := Lib.hid (HO.out.below hb (Nat.le_refl _))
          have H5' := Lib.hid (H5.out.below hb)
          have H7' := Lib.hid (H7.out.below hb)
          have H9' := Lib.hid (H9.out.below hb)
          have H11' := Lib.hid (H11.out.below hb)
          have H13' := Lib.hid (H13.out.below hb)
          have H15' := Lib.hid (H15.out.below hb)
          have H17' := Lib.hid (H17.out.below hb)
          have H19' := Lib.hid (H19.out.below hb)
          have H21' := Lib.hid (H21.out.below hb)
          have H23' := Lib.hid (H23.out.below hb)
          have H25' := Lib.hid (H25.out.below hb)
          have Hb' := Lib.hid (Hb.out.trans (hb.mono Hb.out.size))
          clear hb q0 q1 q2 q3 Hb HX HY HO H5 H7 H9 H11 H13 H15 H17 H19 H21 H23 H25
          have HX := HX'
          have HY := HY'
          have HO := HO'
          have H5 := H5'
          have H7 := H7'
          have H9 := H9'
          have H11 := H11'
          have H13 := H13'
          have H15 := H15'
          have H17 := H17'
          have H19 := H19'
          have H21 := H21'
          have H23 := H23'
          have H25 := H25'
          have Hb := Hb'
          clear HX' HY' HO' H5' H7' H9' H11' H13' H15' H17' H19' H21' H23' H25' Hb'
          have q0 : u22.cell? ⟨g21, 0, none⟩ = some (.int .i64 (M : Int)) := H21.out.blk.cell 0
          have q1 : u22.cell? ⟨g21, 1, none⟩ = some (.slice b21 l21 c21) := H21.out.blk.cell 1
          have q2 : u22.cell? ⟨g2, 0, none⟩ = some (.int .i64 (M : Int)) := HX.out.blk.cell 0
          have q3 : u22.cell? ⟨g2, 1, none⟩ = some (.slice a0 len0 cap0) := HX.out.blk.cell 1
          go_wp2_with fail
          refine (same_is (M : Int) b21 l21 c21 a0 len0 cap0 X21 u22 H21.out.rd (by rw [Sa.out]; exact HX.out.rd)).mono ?_
          rintro e u23 ⟨rfl, hb⟩
          have HX' := Lib.hid (HX.out.below hb)
          have HY' := Lib.hid (HY.out.below hb)
          have HO' := Lib.hid (HO.out.below hb (Nat.le_refl _))
          have H5' := Lib.hid (H5.out.below hb)
          have H7' := Lib.hid (H7.out.below hb)
          have H9' := Lib.hid (H9.out.below hb)
          have H11' := Lib.hid (H11.out.below hb)
          have H13' := Lib.hid (H13.out.below hb)
          have H15' := Lib.hid (H15.out.below hb)
          have H17' := Lib.hid (H17.out.below hb)
          have H19' := Lib.hid (H19.out.below hb)
          have H21' := Lib.hid (H21.out.below hb)
          have H23' := Lib.hid (H23.out.below hb)
          have H25' := Lib.hid (H25.out.below hb)
          have Hb' := Lib.hid (Hb.out.trans (hb.mono Hb.out.size))
          clear hb q0 q1 q2 q3 Hb HX HY HO H5 H7 H9 H11 H13 H15 H17 H19 H21 H23 H25
          have HX := HX'
          have HY := HY'
          have HO := HO'
          have H5 := H5'
          have H7 := H7'
          have H9 := H9'
          have H11 := H11'
          have H13 := H13'
          have H15 := H15'
          have H17 := H17'
          have H19 := H19'
          have H21 := H21'
          have H23 := H23'
          have H25 := H25'
          have Hb := Hb'
          clear HX' HY' HO' H5' H7' H9' H11' H13' H15' H17' H19' H21' H23' H25' Hb'
          have q0 : u23.cell? ⟨g23, 0, none⟩ = some (.int .i64 (M : Int)) := H23.out.blk.cell 0
          have q1 : u23.cell? ⟨g23, 1, none⟩ = some (.slice b23 l23 c23) := H23.out.blk.cell 1
          have q2 : u23.cell? ⟨g5, 0, none⟩ = some (.int .i64 (M : Int)) := H5.out.blk.cell 0
          have q3 : u23.cell? ⟨g5, 1, none⟩ = some (.slice b5 l5 c5) := H5.out.blk.cell 1
          go_wp2_with fail
          refine (same_is (M : Int) b23 l23 c23 b5 l5 c5 X23 u23 H23.out.rd (by rw [Ux.out]; exact H5.out.rd)).mono ?_
          rintro e u24 ⟨rfl, hb⟩
          have HX' := Lib.hid (HX.out.below hb)
          have HY' := Lib.hid (HY.out.below hb)
          have HO' := Lib.hid (HO.out.below hb (Nat.le_refl _))
          have H5' := Lib.hid (H5.out.below hb)
          have H7' := Lib.hid (H7.out.below hb)
          have H9' := Lib.hid (H9.out.below hb)
          have H11' := Lib.hid (H11.out.below hb)
          have H13' := Lib.hid (H13.out.below hb)
          have H15' := Lib.hid (H15.out.below hb)
          have H17' := Lib.hid (H17.out.below hb)
          have H19' := Lib.hid (H19.out.below hb)
          have H21' := Lib.hid (H21.out.below hb)
          have H23' := Lib.hid (H23.out.below hb)
          have H25' := Lib.hid (H25.out.below hb)
          have Hb' := Lib.hid (Hb.out.trans (hb.mono Hb.out.size))
          clear hb q0 q1 q2 q3 Hb HX HY HO H5 H7 H9 H11 H13 H15 H17 H19 H21 H23 H25
          have HX := HX'
          have HY := HY'
          have HO := HO'
          have H5 := H5'
          have H7 := H7'
          have H9 := H9'
          have H11 := H11'
          have H13 := H13'
          have H15 := H15'
          have H17 := H17'
          have H19 := H19'
          have H21 := H21'
          have H23 := H23'
          have H25 := H25'
          have Hb := Hb'
          clear HX' HY' HO' H5' H7' H9' H11' H13' H15' H17' H19' H21' H23' H25' Hb'
          have q0 : u24.cell? ⟨g25, 0, none⟩ = some (.int .i64 (M : Int)) := H25.out.blk.cell 0
          have q1 : u24.cell? ⟨g25, 1, none⟩ = some (.slice b25 l25 c25) := H25.out.blk.cell 1
          have q2 : u24.cell? ⟨g7, 0, none⟩ = some (.int .i64 (M : Int)) := H7.out.blk.cell 0
          have q3 : u24.cell? ⟨g7, 1, none⟩ = some (.slice b7 l7 c7) := H7.out.blk.cell 1
          go_wp2_with fail
          refine (same_is (M : Int) b25 l25 c25 b7 l7 c7 X25 u24 H25.out.rd (by rw [Vy.out]; exact H7.out.rd)).mono ?_
          rintro e u25 ⟨rfl, hb⟩
          have HX' := Lib.hid (HX.out.below hb)
          have HY' := Lib.hid (HY.out.below hb)
          have HO' := Lib.hid (HO.out.below hb (Nat.le_refl _))
          have H5' := Lib.hid (H5.out.below hb)
          have H7' := Lib.hid (H7.out.below hb)
          have H9' := Lib.hid (H9.out.below hb)
          have H11' := Lib.hid (H11.out.below hb)
          have H13' := Lib.hid (H13.out.below hb)
          have H15' := Lib.hid (H15.out.below hb)
          have H17' := Lib.hid (H17.out.below hb)
          have H19' := Lib.hid (H19.out.below hb)
          have H21' := Lib.hid (H21.out.below hb)
          have H23' := Lib.hid (H23.out.below hb)
          have H25' := Lib.hid (H25.out.below hb)
          have Hb' := Lib.hid (Hb.out.trans (hb.mono Hb.out.size))
          clear hb q0 q1 q2 q3 Hb HX HY HO H5 H7 H9 H11 H13 H15 H17 H19 H21 H23 H25
          have HX := HX'
          have HY := HY'
          have HO := HO'
          have H5 := H5'
          have H7 := H7'
          have H9 := H9'
          have H11 := H11'
          have H13 := H13'
          have H15 := H15'
          have H17 := H17'
          have H19 := H19'
          have H21 := H21'
          have H23 := H23'
          have H25 := H25'
          have Hb := Hb'
          clear HX' HY' HO' H5' H7' H9' H11' H13' H15' H17' H19' H21' H23' H25' Hb'
          go_wp2_with fail
          go_ret
          exact ⟨rfl, Hb.out⟩
        · have hne2 : (N0 == N1) = false := by simpa using hne
          go_enter Tryd.func7, Tryd.ntmps7
          go_upto_region 1 with fail
          rw [HEV.out, HE3.out, HE2.out]
          clear HEV HE3 HE2
          have q0 : V.cell? ⟨g2, 0, none⟩ = some (.int .i64 N0) := HX.out.blk.cell 0
          have q1 : V.cell? ⟨g2, 1, none⟩ = some (.slice a0 len0 cap0) := HX.out.blk.cell 1
          have q2 : V.cell? ⟨g3, 0, none⟩ = some (.int .i64 N1) := HY.out.blk.cell 0
          have q3 : V.cell? ⟨g3, 1, none⟩ = some (.slice a1 len1 cap1) := HY.out.blk.cell 1
          go_wp2_with fail
          obtain ⟨WS, hWS⟩ : ∃ WS, WS = V.alloc (.cells #[.int .i64 N0, .slice a0 len0 cap0, .int .i64 N1, .slice a1 len1 cap1] 24) := ⟨_, rfl⟩
          have hbS : Below V.heap.size V WS := by rw [hWS]; exact (Below.refl _ V).alloc (Nat.le_refl _) _
          have hBS : Blk WS V.heap.size 24 #[.int .i64 N0, .slice a0 len0 cap0, .int .i64 N1, .slice a1 len1 cap1] := by rw [hWS]; exact heap_new V _
          rw [← hWS]
          refine (few2_any _ N0 a0 len0 cap0 N1 a1 len1 cap1 WS hBS).mono ?_
          rintro e u0 ⟨rfl, rfl⟩
          rw [← HF.out]
          clear hBS hWS
          have HX' := Lib.hid (HX.out.below hbS)
          have HY' := Lib.hid (HY.out.below hbS)
          have HO' := Lib.hid (HO.out.below hbS (Nat.le_refl _))
          have Hb' := Lib.hid (Hb.out.trans (hbS.mono Hb.out.size))
          clear hbS q0 q1 q2 q3 Hb HX HY HO
          have HX := HX'
          have HY := HY'
          have HO := HO'
          have Hb := Hb'
          clear HX' HY' HO' Hb'
          have q0 : WS.cell? ⟨g2, 0, none⟩ = some (.int .i64 N0) := HX.out.blk.cell 0
          have q1 : WS.cell? ⟨g2, 1, none⟩ = some (.slice a0 len0 cap0) := HX.out.blk.cell 1
          have q2 : WS.cell? ⟨g3, 0, none⟩ = some (.int .i64 N1) := HY.out.blk.cell 0
          have q3 : WS.cell? ⟨g3, 1, none⟩ = some (.slice a1 len1 cap1) := HY.out.blk.cell 1
          go_wp2_with fail
          refine (right_any N0 a0 len0 cap0 xs0 WS HX.out.rd (by omega) (by omega) (by omega)).mono ?_
          rintro e u1 ⟨rfl, hb⟩
          have HX' := Lib.hid (HX.out.below hb)
          have HY' := Lib.hid (HY.out.below hb)
          have HO' := Lib.hid (HO.out.below hb (Nat.le_refl _))
          have Hb' := Lib.hid (Hb.out.trans (hb.mono Hb.out.size))
          clear hb q0 q1 q2 q3 Hb HX HY HO
          have HX := HX'
          have HY := HY'
          have HO := HO'
          have Hb := Hb'
          clear HX' HY' HO' Hb'
          rw [← HV0.out]
          have q0 : u1.cell? ⟨g2, 0, none⟩ = some (.int .i64 N0) := HX.out.blk.cell 0
          have q1 : u1.cell? ⟨g2, 1, none⟩ = some (.slice a0 len0 cap0) := HX.out.blk.cell 1
          have q2 : u1.cell? ⟨g3, 0, none⟩ = some (.int .i64 N1) := HY.out.blk.cell 0
          have q3 : u1.cell? ⟨g3, 1, none⟩ = some (.slice a1 len1 cap1) := HY.out.blk.cell 1
          go_wp2_with fail
          refine (right_any N1 a1 len1 cap1 xs1 u1 HY.out.rd (by omega) (by omega) (by omega)).mono ?_
          rintro e u2 ⟨rfl, hb⟩
          have HX' := Lib.hid (HX.out.below hb)
          have HY' := Lib.hid (HY.out.below hb)
          have HO' := Lib.hid (HO.out.below hb (Nat.le_refl _))
          have Hb' := Lib.hid (Hb.out.trans (hb.mono Hb.out.size))
          clear hb q0 q1 q2 q3 Hb HX HY HO
          have HX := HX'
          have HY := HY'
          have HO := HO'
          have Hb := Hb'
          clear HX' HY' HO' Hb'
          rw [← HV1.out]
          have q0 : u2.cell? ⟨g2, 0, none⟩ = some (.int .i64 N0) := HX.out.blk.cell 0
          have q1 : u2.cell? ⟨g2, 1, none⟩ = some (.slice a0 len0 cap0) := HX.out.blk.cell 1
          have q2 : u2.cell? ⟨g3, 0, none⟩ = some (.int .i64 N1) := HY.out.blk.cell 0
          have q3 : u2.cell? ⟨g3, 1, none⟩ = some (.slice a1 len1 cap1) := HY.out.blk.cell 1
          go_wp2_with fail
          refine (sane_any u2 HO.out).mono ?_
          rintro e u3 ⟨rfl, hb⟩
          have HX' := Lib.hid (HX.out.below hb)
          have HY' := Lib.hid (HY.out.below hb)
          have HO' := Lib.hid (HO.out.below hb (Nat.le_refl _))
          have Hb' := Lib.hid (Hb.out.trans (hb.mono Hb.out.size))
          clear hb q0 q1 q2 q3 Hb HX HY HO
          have HX := HX'
          have HY := HY'
          have HO := HO'
          have Hb := Hb'
          clear HX' HY' HO' Hb'
          go_wp2_with fail
          go_ret
          exact ⟨rfl, Hb.out⟩
end Go.Proofs.YthognmkjoekilaaDoor.bitsSets

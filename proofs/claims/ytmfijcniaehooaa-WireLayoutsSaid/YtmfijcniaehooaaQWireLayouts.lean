/- What the statement WireLayouts calls answers true, for every input that its walk is handed. -/
import Derived.Test.YtmfijcniaehooaaRows
import Derived.WalkKit
import Derived.ProofKit
import Derived.OpenShut
import Derived.ShutString
import Derived.ChangeOld
import Derived.Below
import Derived.SizedLaws
import Derived.Test.YtmfijcniaehooaaLopen
import Derived.Test.YtmfijcniaehooaaLfew
import Derived.Test.YtmfijcniaehooaaLmc
import Derived.Test.YtmfijcniaehooaaLma
import Derived.Test.YtmfijcniaehooaaLmb
import Derived.Test.YtmfijcniaehooaaWsanity
import Derived.Deep.DeepCutAuto
import Derived.Deep.RegionHeld3
import Derived.BigQuiet
namespace Go.Proofs.Ytmfijcniaehooaa.wireLayouts
open Go.ChangeShapes Go.WideShapes Go.ChangeAt Go.RowKit
open Go.ChangeMaps (open_string shut_string)
set_option linter.unusedVariables false

theorem okBelow {w w' : World} {B : Nat} {x : Itm} (h : x.Ok w) (hb : Below B w w') (hB : w.heap.size ≤ B) : x.Ok w' := ⟨h.n1, h.n2, h.r.below hb hB⟩
theorem below_drewN {B : Nat} {a w : World} (h : Below B a w) (n : Nat) : Below B a (w.drewN n) := ⟨h.os, h.tape, h.output, h.size, h.block⟩
/-- A row of cells made and filled. -/
theorem made (w : World) (cs : Array Value) (t : TypeId) : ∃ W, w.alloc (.cells cs t) = W ∧ (∀ j, W.cell? ⟨w.heap.size, j, none⟩ = cs[j]?) ∧ Below w.heap.size w W ∧ W.heap.size = w.heap.size + 1 ∧ W.heap[w.heap.size]? = some (.cells cs t (0, 0)) :=
  ⟨_, rfl, fun j => World.cell?_alloc_mark w _ _ (0, 0) j, (Below.refl _ w).alloc (Nat.le_refl _) _, by simp, heap_alloc_last w _⟩
/-- A row filled anew, cell by cell. -/
theorem filled {w : World} {g : Nat} {old : Array Value} {t : TypeId} (h : w.heap[g]? = some (.cells old t (0, 0))) (cs : Array Value) : ∃ W, w.setRow g cs = W ∧ (∀ j, W.cell? ⟨g, j, none⟩ = cs[j]?) ∧ Below g w W ∧ W.heap.size = w.heap.size ∧ (∀ k, k ≠ g → W.heap[k]? = w.heap[k]?) :=
  ⟨_, rfl, fun j => cell_setRow_same w g j _ cs t (0, 0) h, below_setRow' _ _ _ _ (Nat.le_refl _), by simp, fun k hk => setRow_other w g k cs hk⟩
theorem cells2 {w : World} {g : Nat} {a b : Value} {t : TypeId} (h : w.heap[g]? = some (.cells #[a, b] t (0, 0))) (x y : Value) : (w.setCell ⟨g, 0, none⟩ x).setCell ⟨g, 1, none⟩ y = w.setRow g #[x, y] := by
  rw [setCell_eq_setRow w g 0 _ t (0, 0) x h, setCell_eq_setRow (w.setRow g (#[a, b].setIfInBounds 0 x)) g 1 _ t (0, 0) y (setRow_heap w g _ _ t (0, 0) h), setRow_setRow]
  rfl
theorem cells3 {w : World} {g : Nat} {a b c : Value} {t : TypeId} (h : w.heap[g]? = some (.cells #[a, b, c] t (0, 0))) (x y z : Value) : ((w.setCell ⟨g, 0, none⟩ x).setCell ⟨g, 1, none⟩ y).setCell ⟨g, 2, none⟩ z = w.setRow g #[x, y, z] := by
  rw [setCell_eq_setRow w g 0 _ t (0, 0) x h, setCell_eq_setRow (w.setRow g (#[a, b, c].setIfInBounds 0 x)) g 1 _ t (0, 0) y (setRow_heap w g _ _ t (0, 0) h), setRow_setRow,
    setCell_eq_setRow (w.setRow g ((#[a, b, c].setIfInBounds 0 x).setIfInBounds 1 y)) g 2 _ t (0, 0) z (setRow_heap w g _ _ t (0, 0) h), setRow_setRow]
  rfl
theorem cell_kept {w W : World} {B g j : Nat} {v : Value} (hb : Below B w W) (h : w.cell? ⟨g, j, none⟩ = some v) (hg : g < B) : W.cell? ⟨g, j, none⟩ = some v := (hb.cell (p := ⟨g, j, none⟩) hg).trans h
theorem rd_filled {w W : World} {a a1 : Option Addr} {l c l1 c1 g : Nat} {z e : Int} {xs : List Int} {t : TypeId} (h : Rd w a l c xs) (hk : ∀ k, k ≠ g → W.heap[k]? = w.heap[k]?) (hr : w.heap[g]? = some (.cells #[.slice a1 l1 c1, .int .i64 z, .int .i64 e] t (0, 0))) : Rd W a l c xs := by
  refine ⟨h.hl, h.hc, h.hm, h.hb, h.hn, fun h0 => ?_⟩
  obtain ⟨b, off, ha, hc⟩ := h.hr h0
  refine ⟨b, off, ha, fun i hi => ?_⟩
  have hcell := hc i hi
  by_cases hb : b = g
  · subst hb
    exfalso
    rw [cell_of_row _ _ _ _ _ _ hr] at hcell
    generalize off + i = j at hcell
    match j with
    | 0 => simp at hcell
    | 1 => simp at hcell
    | 2 => simp at hcell
    | n + 3 => simp at hcell
  · rw [← hcell]
    unfold World.cell?
    rw [hk b hb]
theorem cell_drew {w : World} {a : Addr} {v : Value} (h : w.cell? a = some v) : w.drew.cell? a = some v := h
set_option maxRecDepth 100000 in
set_option maxHeartbeats 8000000 in
theorem walk (a0 : Option Addr) (len0 cap0 : Nat) (xs0 : List Fld) (a1 : Option Addr) (len1 cap1 : Nat) (xs1 : List Itm) (a2 : Option Addr) (len2 cap2 : Nat) (xs2 : List Int) (a3 : Int) (x4 : Itm) (w : World) (w0 : RdF w a0 len0 cap0 xs0) (w1 : RdI w a1 len1 cap1 xs1 ∧ ∀ x ∈ xs1, x.cap ≤ 140737488351232) (w2 : Rd w a2 len2 cap2 xs2 ∧ cap2 ≤ 140737488351232) (w3 : (Lit.int .i64 a3).wf = true) (w4 : (x4.Ok w ∧ x4.cap ≤ 140737488351232)) :
    Calls Try.prog 5 #[.slice a0 len0 cap0, .slice a1 len1 cap1, .slice a2 len2 cap2, .int .i64 a3, .agg #[.int .i64 x4.n, .slice x4.a x4.len x4.cap]] w fun e w' => e = .returned (.bool true) ∧ Below w.heap.size w w' := by
  obtain ⟨w1, hcap1⟩ := w1
  obtain ⟨w2, hcap2⟩ := w2
  obtain ⟨w4, hcap4⟩ := w4
  obtain ⟨i1, i2⟩ := wf_i64 w3
  have m1 := w1.hm
  have c1 := w1.hc
  have m0 := w0.hm
  have c0 := w0.hc
  have m2 := w2.hm
  have c2 := w2.hc
  have m4 := w4.r.hm
  have c4 := w4.r.hc
  unfold maxLen at m0 m1 m2 m4
  obtain ⟨W0, hW0⟩ : ∃ W0, W0 = w.alloc (.cells #[.int .i64 x4.n, .slice x4.a x4.len x4.cap] 52) := ⟨_, rfl⟩
  have hb0 : Below w.heap.size w W0 := by rw [hW0]; exact (Below.refl _ w).alloc (Nat.le_refl _) _
  have hg0 : ∀ j, W0.cell? ⟨w.heap.size, j, none⟩ = #[Value.int .i64 x4.n, .slice x4.a x4.len x4.cap][j]? := fun j => by rw [hW0]; exact World.cell?_alloc_mark w _ _ (0, 0) j
  have hs0 : W0.heap.size = w.heap.size + 1 := by rw [hW0]; simp
  have d0 : W0.cell? ⟨w.heap.size, 0, none⟩ = some (.int .i64 x4.n) := hg0 0
  have d1 : W0.cell? ⟨w.heap.size, 1, none⟩ = some (.slice x4.a x4.len x4.cap) := hg0 1
  have H0 := Lib.hid (w0.below hb0 (Nat.le_refl _))
  have H1 := Lib.hid (w1.below hb0 (Nat.le_refl _))
  have H2 := Lib.hid (w2.below hb0 (Nat.le_refl _))
  have HX := Lib.hid (okBelow w4 hb0 (Nat.le_refl _))
  have HW0 := Lib.hid hW0
  have Hb0 := Lib.hid hb0
  have Hs0 := Lib.hid hs0
  have Hcap := Lib.hid hcap1
  have hlt0 : w.heap.size < W0.heap.size := by omega
  clear w0 w1 w2 w3 w4 hW0 hb0 hg0 hs0 hcap1
  rcases hF : fewV len0 len1 len2 xs1 with _ | _
  · have HF := Lib.hid hF
    clear hF
    go_enter Try.func5, Try.ntmps5
    go_wp2_with fail
    rw [← HW0.out]
    refine (few_any a0 len0 cap0 a1 len1 cap1 xs1 a2 len2 cap2 W0 H1.out Hcap.out (by omega) (by omega)).mono ?_
    rintro e u1 ⟨rfl, rfl⟩
    rw [HF.out]
    clear HF HW0
    go_wp2_with fail
    refine (sanity_any _).mono ?_
    rintro e u9 ⟨rfl, hb9⟩
    have Hb9 := Lib.hid (Hb0.out.trans (hb9.mono Hb0.out.size))
    clear hb9
    go_wp2_with fail
    go_ret
    exact ⟨rfl, Hb9.out⟩
  have hfl : len2 ≤ 70000 := by
    simp [fewV] at hF
    omega
  have HF := Lib.hid hF
  clear hF
  by_cases hbx : (70000 : Int) < (x4.len : Int)
  · skip
    go_enter Try.func5, Try.ntmps5
    go_wp2_with fail
    rw [← HW0.out]
    refine (few_any a0 len0 cap0 a1 len1 cap1 xs1 a2 len2 cap2 W0 H1.out Hcap.out (by omega) (by omega)).mono ?_
    rintro e u1 ⟨rfl, rfl⟩
    rw [HF.out]
    clear HF HW0
    go_wp2_with fail
    refine (sanity_any _).mono ?_
    rintro e u9 ⟨rfl, hb9⟩
    have Hb9 := Lib.hid (Hb0.out.trans (hb9.mono Hb0.out.size))
    clear hb9
    go_wp2_with fail
    go_ret
    exact ⟨rfl, Hb9.out⟩
  have hx4 : x4.len ≤ 140737488355328 := by omega
  obtain ⟨er, her⟩ : ∃ s, s = errV xs0 xs2 := ⟨_, rfl⟩
  obtain ⟨pk, hpk⟩ : ∃ s, s = packV xs0 xs1 := ⟨_, rfl⟩
  obtain ⟨pe, PB⟩ := pk
  obtain ⟨us, hus⟩ : ∃ s, s = usedV xs0 xs2 := ⟨_, rfl⟩
  obtain ⟨ks, hks⟩ : ∃ s, s = keysV xs0 xs2 := ⟨_, rfl⟩
  obtain ⟨sp, hsp⟩ : ∃ s, s = spanV xs0 xs2 a3 := ⟨_, rfl⟩
  obtain ⟨s0, s1, s2⟩ := sp
  obtain ⟨pp, hpp⟩ : ∃ s, s = patchR xs0 xs2 a3 x4 := ⟨_, rfl⟩
  obtain ⟨qe, QB⟩ := pp
  obtain ⟨sz, hsz⟩ : ∃ s, s = sizeV xs0 := ⟨_, rfl⟩
  obtain ⟨lo, hi, cc⟩ := sz
  have hcc : cc = checkV xs0 := by
    rcases checkV_01 xs0 with h | h
    · rw [h]
      have : sizeV xs0 = (loL xs0, hiL xs0, 0) := by unfold sizeV; rw [if_neg (by simp [h])]
      rw [this] at hsz
      exact (Prod.mk.inj (Prod.mk.inj hsz).2).2
    · rw [h]
      have : sizeV xs0 = (0, 0, 1) := by unfold sizeV; rw [if_pos (by simp [h]), h]
      rw [this] at hsz
      exact (Prod.mk.inj (Prod.mk.inj hsz).2).2
  have hus0 : er ≠ 0 → us = 0 := fun h => by rw [hus]; unfold usedV; rw [if_neg (by rw [← her]; exact h)]
  have hbd : errV xs0 xs2 = 0 → ∀ k, k < len0 → -9223372036854775808 ≤ (atV xs0 xs2 k).2.1 ∧ (atV xs0 xs2 k).2.1 ≤ 9223372036854775807 := fun hE k hk => by
    obtain ⟨hch, hok⟩ := errV_ok hE
    obtain ⟨hpos, hq⟩ := unpack_oneway H2.out.hb hch hok
    have := H0.out.hl
    exact ⟨(hq k (by omega)).2.2.1, (hq k (by omega)).2.2.2.1⟩
  have her0 : er = 0 → checkV xs0 = 0 := fun h => (errV_ok (by rw [← her]; exact h)).1
  have HE := Lib.hid her
  have HP := Lib.hid hpk
  have HU := Lib.hid hus
  have HK := Lib.hid hks
  have HSP := Lib.hid hsp
  have HPP := Lib.hid hpp
  have HZ := Lib.hid hsz
  have HCC := Lib.hid hcc
  have HBD := Lib.hid hbd
  clear her hpk hus hks hsp hpp hsz hbd
  by_cases hc : checkV xs0 = 0
  · have HCH := Lib.hid hc
    have hz : (loL xs0, hiL xs0, (0 : Int)) = (lo, hi, cc) := by rw [HZ.out]; unfold sizeV; rw [if_neg (by simp [hc])]
    have HLO : Hid (lo = loL xs0) := Lib.hid (Prod.mk.inj hz).1.symm
    have HHI : Hid (hi = hiL xs0) := Lib.hid (Prod.mk.inj (Prod.mk.inj hz).2).1.symm
    rw [hc] at hcc
    subst hcc
    clear hz hc her0
    by_cases he0 : er = 0
    · subst he0
      clear hus0
      go_enter Try.func5, Try.ntmps5
      go_wp2_with fail
      rw [← HW0.out]
      refine (few_any a0 len0 cap0 a1 len1 cap1 xs1 a2 len2 cap2 W0 H1.out Hcap.out (by omega) (by omega)).mono ?_
      rintro e u1 ⟨rfl, rfl⟩
      rw [HF.out]
      clear HF HW0
      go_wp2_with fail
      refine (refCheck_any a0 len0 cap0 xs0 W0 H0.out).mono ?_
      rintro e u1 ⟨rfl, b1⟩
      rw [← HCC.out]
      have HV := Lib.hid b1
      clear b1
      go_wp2_with fail
      refine (size_any a0 len0 cap0 xs0 u1 (H0.out.below HV.out (Nat.le_refl _))).mono ?_
      rintro e u2 ⟨rfl, b2⟩
      rw [← HZ.out]
      have HV' := Lib.hid (HV.out.trans (b2.mono HV.out.size))
      clear HV
      have HV := HV'
      clear HV'
      clear b2
      go_wp2_with fail
      refine (check_any a0 len0 cap0 xs0 u2 (H0.out.below HV.out (Nat.le_refl _))).mono ?_
      rintro e u3 ⟨rfl, b3⟩
      rw [← HCC.out]
      have HV' := Lib.hid (HV.out.trans (b3.mono HV.out.size))
      clear HV
      have HV := HV'
      clear HV'
      clear b3
      have hl3 := HV.out.size
      obtain ⟨V1, hV1, cV1, bV1, sV1, rV1⟩ := made u3 #[.int .i64 0, .int .i64 0] 57
      obtain ⟨A1, hA1⟩ : ∃ A, u3.heap.size = A := ⟨_, rfl⟩
      rw [hA1] at cV1 bV1 sV1 rV1
      have hA1ge : W0.heap.size ≤ A1 := by omega
      have HV' := Lib.hid (HV.out.trans (bV1.mono (by omega)))
      clear HV
      have HV := HV'
      clear HV' bV1
      have HM1 := Lib.hid hV1
      have HA1 := Lib.hid hA1
      have Hr1 := Lib.hid rV1
      have Hc1 := Lib.hid cV1
      clear hV1 hA1 rV1 cV1
      go_wp2_with fail
      rw [HM1.out, HA1.out]
      clear HM1 HA1
      refine (refSize_ok a0 len0 cap0 xs0 V1 (H0.out.below HV.out (Nat.le_refl _)) HCH.out).mono ?_
      rintro e u4 ⟨rfl, b4⟩
      rw [← HLO.out, ← HHI.out]
      have hr4 : u4.heap[A1]? = some (.cells #[.int .i64 0, .int .i64 0] 57 (0, 0)) := (b4.block _ (by omega)).trans Hr1.out
      have hs4 := b4.size
      have HV' := Lib.hid (HV.out.trans (b4.mono HV.out.size))
      clear HV
      have HV := HV'
      clear HV'
      clear b4
      have f40 := frozen_of_row _ _ 0 _ _ hr4
      have f41 := frozen_of_row _ _ 1 _ _ hr4
      have k40 : u4.cell? ⟨A1, 0, none⟩ = some (.int .i64 0) := by rw [cell_of_row _ _ _ _ _ _ hr4]; rfl
      have k41 : u4.cell? ⟨A1, 1, none⟩ = some (.int .i64 0) := by rw [cell_of_row _ _ _ _ _ _ hr4]; rfl
      obtain ⟨V2, hV2, cV2, bV2, sV2, -⟩ := filled hr4 #[.int .i64 lo, .int .i64 hi]
      rw [← cells2 hr4] at hV2
      have HV' := Lib.hid (HV.out.trans (bV2.mono (by omega)))
      clear HV
      have HV := HV'
      clear HV' bV2
      have HM2 := Lib.hid hV2
      have hA1lt : A1 < V2.heap.size := by omega
      have x0 : V2.cell? ⟨A1, 0, none⟩ = some (.int .i64 lo) := cV2 0
      have x1 : V2.cell? ⟨A1, 1, none⟩ = some (.int .i64 hi) := cV2 1
      clear hV2 cV2 sV2 sV1 hs4 Hr1 hr4 hl3 Hc1
      go_wp2_with fail
      rw [HM2.out]
      clear HM2 f40 f41 k40 k41
      refine (packAll_any a0 len0 cap0 xs0 V2 (H0.out.below HV.out (Nat.le_refl _)) a1 len1 cap1 xs1 (H1.out.below HV.out (Nat.le_refl _))).mono ?_
      rintro e u5 ⟨v5, rfl, o5, b5⟩
      rw [← HP.out] at o5 ⊢
      obtain ⟨a5, c5, rfl, r5⟩ := o5.rd
      have HR5 := Lib.hid r5
      have HV2 := Lib.hid b5
      have HV' := Lib.hid (HV.out.trans (b5.mono HV.out.size))
      clear HV
      have HV := HV'
      clear HV'
      clear o5 r5 b5
      go_wp2_with fail
      refine (refPack_any a0 len0 cap0 xs0 u5 (H0.out.below HV.out (Nat.le_refl _)) a1 len1 cap1 xs1 (H1.out.below HV.out (Nat.le_refl _)) Hcap.out).mono ?_
      rintro e u6 ⟨v6, rfl, o6, b6⟩
      rw [← HP.out] at o6 ⊢
      obtain ⟨a6, c6, rfl, r6⟩ := o6.rd
      have HR6 := Lib.hid r6
      have HR5' := Lib.hid (HR5.out.below b6 (Nat.le_refl _))
      clear HR5
      have HV' := Lib.hid (HV.out.trans (b6.mono HV.out.size))
      clear HV
      have HV := HV'
      clear HV'
      have HV2' := Lib.hid (HV2.out.trans (b6.mono HV2.out.size))
      clear HV2
      have HV2 := HV2'
      clear HV2'
      clear o6 r6 b6
      obtain ⟨V3, hV3, cV3, bV3, sV3, rV3⟩ := made u6 #[.slice a6 PB.length c6, .int .i64 PB.length, .int .i64 pe] 28
      obtain ⟨A2, hA2⟩ : ∃ A, u6.heap.size = A := ⟨_, rfl⟩
      have HR5 := Lib.hid (HR5'.out.below bV3 (Nat.le_refl _))
      have HR6' := Lib.hid (HR6.out.below bV3 (Nat.le_refl _))
      clear HR5' HR6
      have HV' := Lib.hid (HV.out.trans (bV3.mono HV.out.size))
      clear HV
      have HV := HV'
      clear HV'
      have HV2' := Lib.hid (HV2.out.trans (bV3.mono HV2.out.size))
      clear HV2
      have HV2 := HV2'
      clear HV2'
      rw [hA2] at cV3 sV3 rV3
      have hs2 := HV2.out.size
      have y0 : V3.cell? ⟨A2, 0, none⟩ = some (.slice a6 PB.length c6) := cV3 0
      have y2 : V3.cell? ⟨A2, 2, none⟩ = some (.int .i64 pe) := cV3 2
      have hA2lt : A2 < V3.heap.size := by omega
      have hA2ge : W0.heap.size ≤ A2 := by have := HV.out.size; rw [← hA2]; omega
      have HM3 := Lib.hid hV3
      have HN2 := Lib.hid hA2
      have Hr3 := Lib.hid rV3
      clear hV3 cV3 bV3 sV3 rV3 hA2 hs2
      go_wp2_with fail
      rw [HM3.out, HN2.out]
      clear HM3 HN2
      refine (unpack_any a0 len0 cap0 xs0 V3 (H0.out.below HV.out (Nat.le_refl _)) a2 len2 cap2 xs2 (H2.out.below HV.out (Nat.le_refl _)) (by omega)).mono ?_
      rintro e u7 ⟨a7, l7, c7, it7, rfl, r7, k7, b7⟩
      rw [← HU.out, ← HE.out]
      have HR7 := Lib.hid r7
      have HK7 := Lib.hid k7
      have HV3 := Lib.hid b7
      clear r7 k7
      have HV' := Lib.hid (HV.out.trans (b7.mono HV.out.size))
      clear HV
      have HV := HV'
      clear HV'
      have HV2' := Lib.hid (HV2.out.trans (b7.mono HV2.out.size))
      clear HV2
      have HV2 := HV2'
      clear HV2'
      clear b7
      go_wp2_with fail
      refine (refUnpack_any a0 len0 cap0 xs0 u7 (H0.out.below HV.out (Nat.le_refl _)) a2 len2 cap2 xs2 (H2.out.below HV.out (Nat.le_refl _)) (by omega)).mono ?_
      intro e u8 hu8
      obtain ⟨a8, l8, c8, a9, l9, c9, it8, rfl, b8, r8, k8, hat⟩ := hu8.rd H0.out.hl HBD.out
      rw [← HE.out] at hat ⊢
      have HR8 := Lib.hid r8
      have HK8 := Lib.hid k8
      have HR7' := Lib.hid (HR7.out.below b8 (Nat.le_refl _))
      clear r8 k8 HR7 hu8
      have HV' := Lib.hid (HV.out.trans (b8.mono HV.out.size))
      clear HV
      have HV := HV'
      clear HV'
      have HV2' := Lib.hid (HV2.out.trans (b8.mono HV2.out.size))
      clear HV2
      have HV2 := HV2'
      clear HV2'
      have HV3' := Lib.hid (HV3.out.trans (b8.mono HV3.out.size))
      clear HV3
      have HV3 := HV3'
      clear HV3'
      clear b8
      obtain ⟨g8, rfl, rfl, hg8⟩ := hat rfl
      rw [← HU.out] at hg8
      have hg8lt := block_lt_of_cell hg8
      simp only at hg8lt
      obtain ⟨V4, hV4, cV4, bV4, sV4, rV4⟩ := made u8 #[.slice a8 l8 c8, (.slice (some ⟨g8, 0, none⟩) (len0 + 1) c9), .int .i64 0] 65
      obtain ⟨A3, hA3⟩ : ∃ A, u8.heap.size = A := ⟨_, rfl⟩
      have HR8' := Lib.hid (HR8.out.below bV4 (Nat.le_refl _))
      have HR7 := Lib.hid (HR7'.out.below bV4 (Nat.le_refl _))
      clear HR7' HR8
      have HV' := Lib.hid (HV.out.trans (bV4.mono HV.out.size))
      clear HV
      have HV := HV'
      clear HV'
      have HV2' := Lib.hid (HV2.out.trans (bV4.mono HV2.out.size))
      clear HV2
      have HV2 := HV2'
      clear HV2'
      have HV3' := Lib.hid (HV3.out.trans (bV4.mono HV3.out.size))
      clear HV3
      have HV3 := HV3'
      clear HV3'
      have hz := cell_kept bV4 hg8 hg8lt
      have hg8V : g8 < V4.heap.size := by omega
      rw [hA3] at cV4 sV4 rV4
      have hs2 := HV2.out.size
      have hs3 := HV3.out.size
      have z0 : V4.cell? ⟨A3, 0, none⟩ = some (.slice a8 l8 c8) := cV4 0
      have z1 : V4.cell? ⟨A3, 1, none⟩ = some (.slice (some ⟨g8, 0, none⟩) (len0 + 1) c9) := cV4 1
      have z2 : V4.cell? ⟨A3, 2, none⟩ = some (.int .i64 0) := cV4 2
      have hA3lt : A3 < V4.heap.size := by omega
      have hA3ge : W0.heap.size ≤ A3 := by have := HV.out.size; omega
      have HM4 := Lib.hid hV4
      have HN3 := Lib.hid hA3
      have HR5y := Lib.hid (HR5.out.below HV3.out (Nat.le_refl _))
      have HR6y := Lib.hid (HR6'.out.below HV3.out (Nat.le_refl _))
      have X0 := cell_kept HV2.out x0 hA1lt
      have X1 := cell_kept HV2.out x1 hA1lt
      have Y0 := cell_kept HV3.out y0 hA2lt
      have Y2 := cell_kept HV3.out y2 hA2lt
      have HA1 : Hid (A1 < V4.heap.size) := Lib.hid (by omega)
      have HA2 : Hid (A2 < V4.heap.size) := Lib.hid (by omega)
      have HA3 := Lib.hid hA3lt
      have Hr4 : Hid (V4.heap[A2]? = some (.cells #[.slice a6 PB.length c6, .int .i64 PB.length, .int .i64 pe] 28 (0, 0))) := Lib.hid ((HV3.out.block _ hA2lt).trans Hr3.out)
      clear hV4 cV4 bV4 sV4 rV4 hA3 hs2 hs3 x0 x1 y0 y2 hA1lt hA2lt hA3lt Hr3 HV2 HV3 HR5 HR6' hg8 hg8lt
      go_upto_region 14 with fail
      rw [HM4.out, HN3.out]
      clear HM4 HN3
      go_wp2_with fail
      refine (sameBytes_any _ _ _ PB _ _ _ PB _ HR5y.out HR6y.out).mono ?_
      rintro e u ⟨rfl, rfl⟩
      rw [decide_eq_true (rfl : PB = PB)]
      go_wp2_with fail
      refine (sameItems_any _ _ _ it7 _ _ _ it8 _ HR7.out HR8'.out).mono ?_
      rintro e ul ⟨rfl, nd, hul⟩
      rw [decide_eq_true (HK7.out.trans HK8.out.symm)]
      have HS : Hid (Below V4.heap.size V4 ul) := Lib.hid (by rw [hul]; exact below_drewN (Below.refl _ _) nd)
      have zz1 := cell_kept HS.out z1 HA3.out
      clear hul z0 z1 z2 X0 X1 Y0 Y2
      have zzg := cell_kept HS.out hz hg8V
      have HV' := Lib.hid (HV.out.trans (HS.out.mono HV.out.size))
      clear HV
      have HV := HV'
      clear HV'
      have hr5 := (HS.out.block _ HA2.out).trans Hr4.out
      have hA2l : A2 < ul.heap.size := Nat.lt_of_lt_of_le HA2.out HS.out.size
      have HR5x := Lib.hid hr5
      clear hr5 HR5y HR6y HR7 HR8' HK7 HK8 HA1 HA2 HA3 Hr4 HS hz hg8V
      have hle0 : ((len0 : Int) < (len0 : Int) + 1) := by omega
      go_wp2_with fail
      refine (where_any a0 len0 cap0 xs0 ul (H0.out.below HV.out (Nat.le_refl _)) a2 len2 cap2 xs2 (H2.out.below HV.out (Nat.le_refl _)) (by omega) a3).mono ?_
      rintro e u9 ⟨rfl, b9⟩
      rw [← HSP.out]
      have HR6x := Lib.hid ((b9.block _ hA2l).trans HR5x.out)
      have hA29 : A2 < u9.heap.size := Nat.lt_of_lt_of_le hA2l b9.size
      clear HR5x hA2l
      have HV' := Lib.hid (HV.out.trans (b9.mono HV.out.size))
      clear HV
      have HV := HV'
      clear HV'
      clear b9 zz1 zzg
      go_wp2_with fail
      refine (refWhere_any a0 len0 cap0 xs0 u9 (H0.out.below HV.out (Nat.le_refl _)) a2 len2 cap2 xs2 (H2.out.below HV.out (Nat.le_refl _)) (by omega) a3 i1 i2).mono ?_
      rintro e uA ⟨rfl, bA⟩
      rw [← HSP.out]
      have HR7x := Lib.hid ((bA.block _ hA29).trans HR6x.out)
      have hA2A : A2 < uA.heap.size := Nat.lt_of_lt_of_le hA29 bA.size
      clear HR6x hA29
      have HV' := Lib.hid (HV.out.trans (bA.mono HV.out.size))
      clear HV
      have HV := HV'
      clear HV'
      clear bA
      obtain ⟨V5, hV5, cV5, bV5, sV5, -⟩ := made uA #[.int .i64 s0, .int .i64 s1, .int .i64 s2] 70
      obtain ⟨A4, hA4⟩ : ∃ A, uA.heap.size = A := ⟨_, rfl⟩
      have HR8x := Lib.hid ((bV5.block _ hA2A).trans HR7x.out)
      have hA2B : A2 < V5.heap.size := by omega
      clear HR7x hA2A
      have HV' := Lib.hid (HV.out.trans (bV5.mono HV.out.size))
      clear HV
      have HV := HV'
      clear HV'
      rw [hA4] at cV5 sV5
      have q0 : V5.cell? ⟨A4, 0, none⟩ = some (.int .i64 s0) := cV5 0
      have q1 : V5.cell? ⟨A4, 1, none⟩ = some (.int .i64 s1) := cV5 1
      have q2 : V5.cell? ⟨A4, 2, none⟩ = some (.int .i64 s2) := cV5 2
      have d2 := cell_kept HV.out d0 hlt0
      have d3 := cell_kept HV.out d1 hlt0
      have HM5 := Lib.hid hV5
      have HN4 := Lib.hid hA4
      clear hV5 cV5 bV5 sV5 hA4 d0 d1
      go_upto_region 20 with fail
      rw [HM5.out, HN4.out]
      clear HM5 HN4
      go_wp2_with fail
      refine (patch_any a0 len0 cap0 xs0 V5 (H0.out.below HV.out (Nat.le_refl _)) a2 len2 cap2 xs2 (H2.out.below HV.out (Nat.le_refl _)) (by omega) a3 x4 (okBelow HX.out HV.out (Nat.le_refl _))).mono ?_
      rintro e uB ⟨vB, rfl, oB, bB⟩
      rw [← HPP.out] at oB ⊢
      obtain ⟨aB, cB, rfl, rB⟩ := oB.rd
      have HRB := Lib.hid rB
      have HR9x := Lib.hid ((bB.block _ hA2B).trans HR8x.out)
      have hA2C : A2 < uB.heap.size := Nat.lt_of_lt_of_le hA2B bB.size
      have dV : w.heap.size < V5.heap.size := Nat.lt_of_lt_of_le hlt0 HV.out.size
      have d4 := cell_kept bB d2 dV
      have d5 := cell_kept bB d3 dV
      clear HR8x hA2B rB oB dV q0 q1 q2 d2 d3
      have HV' := Lib.hid (HV.out.trans (bB.mono HV.out.size))
      clear HV
      have HV := HV'
      clear HV'
      clear bB
      go_wp2_with fail
      refine (refPatch_any a0 len0 cap0 xs0 uB (H0.out.below HV.out (Nat.le_refl _)) a2 len2 cap2 xs2 (H2.out.below HV.out (Nat.le_refl _)) (by omega) a3 i1 i2 x4 (okBelow HX.out HV.out (Nat.le_refl _)) hx4).mono ?_
      rintro e uC ⟨vC, rfl, oC, bC⟩
      rw [← HPP.out] at oC ⊢
      obtain ⟨aC, cC, rfl, rC⟩ := oC.rd
      have HRC := Lib.hid rC
      have HRB' := Lib.hid (HRB.out.below bC (Nat.le_refl _))
      have hrC := (bC.block _ hA2C).trans HR9x.out
      have hsC := bC.size
      have hBC := bC
      clear HRB HR9x rC oC d4 d5
      have HV' := Lib.hid (HV.out.trans (bC.mono HV.out.size))
      clear HV
      have HV := HV'
      clear HV'
      clear bC hBC
      have f60 := frozen_of_row _ _ 0 _ _ hrC
      have f61 := frozen_of_row _ _ 1 _ _ hrC
      have f62 := frozen_of_row _ _ 2 _ _ hrC
      have k60 : uC.cell? ⟨A2, 0, none⟩ = some (.slice a6 PB.length c6) := by rw [cell_of_row _ _ _ _ _ _ hrC]; rfl
      have k61 : uC.cell? ⟨A2, 1, none⟩ = some (.int .i64 PB.length) := by rw [cell_of_row _ _ _ _ _ _ hrC]; rfl
      have k62 : uC.cell? ⟨A2, 2, none⟩ = some (.int .i64 pe) := by rw [cell_of_row _ _ _ _ _ _ hrC]; rfl
      obtain ⟨V6, hV6, cV6, bV6, sV6, oV6⟩ := filled hrC #[.slice aC QB.length cC, .int .i64 QB.length, .int .i64 qe]
      rw [← cells3 hrC] at hV6
      have HRBk : Hid (Rd V6 aB QB.length cB QB) := Lib.hid (rd_filled HRB'.out (fun k hk => oV6 k hk) hrC)
      have HRCk : Hid (Rd V6 aC QB.length cC QB) := Lib.hid (rd_filled HRC.out (fun k hk => oV6 k hk) hrC)
      have r0 : V6.cell? ⟨A2, 0, none⟩ = some (.slice aC QB.length cC) := cV6 0
      have r2 : V6.cell? ⟨A2, 2, none⟩ = some (.int .i64 qe) := cV6 2
      have hA26 : A2 < V6.heap.size := by omega
      have HV' := Lib.hid (HV.out.trans (bV6.mono hA2ge))
      clear HV
      have HV := HV'
      clear HV' bV6
      have HM6 := Lib.hid hV6
      have R0 := Lib.hid r0
      have R2 := Lib.hid r2
      have HA6 := Lib.hid hA26
      clear hV6 cV6 oV6 HRB' HRC hrC hsC hA2C r0 r2 hA26 sV6
      go_upto_region 24 with fail
      rw [HM6.out]
      clear HM6 f60 f61 f62 k60 k61 k62
      go_wp2_with fail
      refine (sanity_any _).mono ?_
      rintro e u9 ⟨rfl, hb9⟩
      have r4 := cell_kept hb9 R0.out HA6.out
      have r5 := cell_kept hb9 R2.out HA6.out
      have RB9 := Lib.hid (HRBk.out.below hb9 (Nat.le_refl _))
      have RC9 := Lib.hid (HRCk.out.below hb9 (Nat.le_refl _))
      have HF := Lib.hid (Hb0.out.trans ((HV.out.trans (hb9.mono HV.out.size)).mono Hb0.out.size))
      clear hb9 HV R0 R2 HA6 HRBk HRCk
      go_wp2_with fail
      refine (sameBytes_any _ _ _ QB _ _ _ QB _ RB9.out RC9.out).mono ?_
      rintro e u ⟨rfl, rfl⟩
      rw [decide_eq_true (rfl : QB = QB)]
      go_wp2_with fail
      go_ret
      exact ⟨rfl, HF.out⟩
    · have hen := he0
      have hu0 := hus0 he0
      clear he0 hus0
      go_enter Try.func5, Try.ntmps5
      go_wp2_with fail
      rw [← HW0.out]
      refine (few_any a0 len0 cap0 a1 len1 cap1 xs1 a2 len2 cap2 W0 H1.out Hcap.out (by omega) (by omega)).mono ?_
      rintro e u1 ⟨rfl, rfl⟩
      rw [HF.out]
      clear HF HW0
      go_wp2_with fail
      refine (refCheck_any a0 len0 cap0 xs0 W0 H0.out).mono ?_
      rintro e u1 ⟨rfl, b1⟩
      rw [← HCC.out]
      have HV := Lib.hid b1
      clear b1
      go_wp2_with fail
      refine (size_any a0 len0 cap0 xs0 u1 (H0.out.below HV.out (Nat.le_refl _))).mono ?_
      rintro e u2 ⟨rfl, b2⟩
      rw [← HZ.out]
      have HV' := Lib.hid (HV.out.trans (b2.mono HV.out.size))
      clear HV
      have HV := HV'
      clear HV'
      clear b2
      go_wp2_with fail
      refine (check_any a0 len0 cap0 xs0 u2 (H0.out.below HV.out (Nat.le_refl _))).mono ?_
      rintro e u3 ⟨rfl, b3⟩
      rw [← HCC.out]
      have HV' := Lib.hid (HV.out.trans (b3.mono HV.out.size))
      clear HV
      have HV := HV'
      clear HV'
      clear b3
      have hl3 := HV.out.size
      obtain ⟨V1, hV1, cV1, bV1, sV1, rV1⟩ := made u3 #[.int .i64 0, .int .i64 0] 57
      obtain ⟨A1, hA1⟩ : ∃ A, u3.heap.size = A := ⟨_, rfl⟩
      rw [hA1] at cV1 bV1 sV1 rV1
      have hA1ge : W0.heap.size ≤ A1 := by omega
      have HV' := Lib.hid (HV.out.trans (bV1.mono (by omega)))
      clear HV
      have HV := HV'
      clear HV' bV1
      have HM1 := Lib.hid hV1
      have HA1 := Lib.hid hA1
      have Hr1 := Lib.hid rV1
      have Hc1 := Lib.hid cV1
      clear hV1 hA1 rV1 cV1
      go_wp2_with fail
      rw [HM1.out, HA1.out]
      clear HM1 HA1
      refine (refSize_ok a0 len0 cap0 xs0 V1 (H0.out.below HV.out (Nat.le_refl _)) HCH.out).mono ?_
      rintro e u4 ⟨rfl, b4⟩
      rw [← HLO.out, ← HHI.out]
      have hr4 : u4.heap[A1]? = some (.cells #[.int .i64 0, .int .i64 0] 57 (0, 0)) := (b4.block _ (by omega)).trans Hr1.out
      have hs4 := b4.size
      have HV' := Lib.hid (HV.out.trans (b4.mono HV.out.size))
      clear HV
      have HV := HV'
      clear HV'
      clear b4
      have f40 := frozen_of_row _ _ 0 _ _ hr4
      have f41 := frozen_of_row _ _ 1 _ _ hr4
      have k40 : u4.cell? ⟨A1, 0, none⟩ = some (.int .i64 0) := by rw [cell_of_row _ _ _ _ _ _ hr4]; rfl
      have k41 : u4.cell? ⟨A1, 1, none⟩ = some (.int .i64 0) := by rw [cell_of_row _ _ _ _ _ _ hr4]; rfl
      obtain ⟨V2, hV2, cV2, bV2, sV2, -⟩ := filled hr4 #[.int .i64 lo, .int .i64 hi]
      rw [← cells2 hr4] at hV2
      have HV' := Lib.hid (HV.out.trans (bV2.mono (by omega)))
      clear HV
      have HV := HV'
      clear HV' bV2
      have HM2 := Lib.hid hV2
      have hA1lt : A1 < V2.heap.size := by omega
      have x0 : V2.cell? ⟨A1, 0, none⟩ = some (.int .i64 lo) := cV2 0
      have x1 : V2.cell? ⟨A1, 1, none⟩ = some (.int .i64 hi) := cV2 1
      clear hV2 cV2 sV2 sV1 hs4 Hr1 hr4 hl3 Hc1
      go_wp2_with fail
      rw [HM2.out]
      clear HM2 f40 f41 k40 k41
      refine (packAll_any a0 len0 cap0 xs0 V2 (H0.out.below HV.out (Nat.le_refl _)) a1 len1 cap1 xs1 (H1.out.below HV.out (Nat.le_refl _))).mono ?_
      rintro e u5 ⟨v5, rfl, o5, b5⟩
      rw [← HP.out] at o5 ⊢
      obtain ⟨a5, c5, rfl, r5⟩ := o5.rd
      have HR5 := Lib.hid r5
      have HV2 := Lib.hid b5
      have HV' := Lib.hid (HV.out.trans (b5.mono HV.out.size))
      clear HV
      have HV := HV'
      clear HV'
      clear o5 r5 b5
      go_wp2_with fail
      refine (refPack_any a0 len0 cap0 xs0 u5 (H0.out.below HV.out (Nat.le_refl _)) a1 len1 cap1 xs1 (H1.out.below HV.out (Nat.le_refl _)) Hcap.out).mono ?_
      rintro e u6 ⟨v6, rfl, o6, b6⟩
      rw [← HP.out] at o6 ⊢
      obtain ⟨a6, c6, rfl, r6⟩ := o6.rd
      have HR6 := Lib.hid r6
      have HR5' := Lib.hid (HR5.out.below b6 (Nat.le_refl _))
      clear HR5
      have HV' := Lib.hid (HV.out.trans (b6.mono HV.out.size))
      clear HV
      have HV := HV'
      clear HV'
      have HV2' := Lib.hid (HV2.out.trans (b6.mono HV2.out.size))
      clear HV2
      have HV2 := HV2'
      clear HV2'
      clear o6 r6 b6
      obtain ⟨V3, hV3, cV3, bV3, sV3, rV3⟩ := made u6 #[.slice a6 PB.length c6, .int .i64 PB.length, .int .i64 pe] 28
      obtain ⟨A2, hA2⟩ : ∃ A, u6.heap.size = A := ⟨_, rfl⟩
      have HR5 := Lib.hid (HR5'.out.below bV3 (Nat.le_refl _))
      have HR6' := Lib.hid (HR6.out.below bV3 (Nat.le_refl _))
      clear HR5' HR6
      have HV' := Lib.hid (HV.out.trans (bV3.mono HV.out.size))
      clear HV
      have HV := HV'
      clear HV'
      have HV2' := Lib.hid (HV2.out.trans (bV3.mono HV2.out.size))
      clear HV2
      have HV2 := HV2'
      clear HV2'
      rw [hA2] at cV3 sV3 rV3
      have hs2 := HV2.out.size
      have y0 : V3.cell? ⟨A2, 0, none⟩ = some (.slice a6 PB.length c6) := cV3 0
      have y2 : V3.cell? ⟨A2, 2, none⟩ = some (.int .i64 pe) := cV3 2
      have hA2lt : A2 < V3.heap.size := by omega
      have hA2ge : W0.heap.size ≤ A2 := by have := HV.out.size; rw [← hA2]; omega
      have HM3 := Lib.hid hV3
      have HN2 := Lib.hid hA2
      have Hr3 := Lib.hid rV3
      clear hV3 cV3 bV3 sV3 rV3 hA2 hs2
      go_wp2_with fail
      rw [HM3.out, HN2.out]
      clear HM3 HN2
      refine (unpack_any a0 len0 cap0 xs0 V3 (H0.out.below HV.out (Nat.le_refl _)) a2 len2 cap2 xs2 (H2.out.below HV.out (Nat.le_refl _)) (by omega)).mono ?_
      rintro e u7 ⟨a7, l7, c7, it7, rfl, r7, k7, b7⟩
      rw [← HU.out, ← HE.out]
      have HR7 := Lib.hid r7
      have HK7 := Lib.hid k7
      have HV3 := Lib.hid b7
      clear r7 k7
      have HV' := Lib.hid (HV.out.trans (b7.mono HV.out.size))
      clear HV
      have HV := HV'
      clear HV'
      have HV2' := Lib.hid (HV2.out.trans (b7.mono HV2.out.size))
      clear HV2
      have HV2 := HV2'
      clear HV2'
      clear b7
      go_wp2_with fail
      refine (refUnpack_any a0 len0 cap0 xs0 u7 (H0.out.below HV.out (Nat.le_refl _)) a2 len2 cap2 xs2 (H2.out.below HV.out (Nat.le_refl _)) (by omega)).mono ?_
      intro e u8 hu8
      obtain ⟨a8, l8, c8, a9, l9, c9, it8, rfl, b8, r8, k8, hat⟩ := hu8.rd H0.out.hl HBD.out
      rw [← HE.out] at hat ⊢
      have HR8 := Lib.hid r8
      have HK8 := Lib.hid k8
      have HR7' := Lib.hid (HR7.out.below b8 (Nat.le_refl _))
      clear r8 k8 HR7 hu8
      have HV' := Lib.hid (HV.out.trans (b8.mono HV.out.size))
      clear HV
      have HV := HV'
      clear HV'
      have HV2' := Lib.hid (HV2.out.trans (b8.mono HV2.out.size))
      clear HV2
      have HV2 := HV2'
      clear HV2'
      have HV3' := Lib.hid (HV3.out.trans (b8.mono HV3.out.size))
      clear HV3
      have HV3 := HV3'
      clear HV3'
      clear b8
      clear hat
      obtain ⟨V4, hV4, cV4, bV4, sV4, rV4⟩ := made u8 #[.slice a8 l8 c8, (.slice a9 l9 c9), .int .i64 er] 65
      obtain ⟨A3, hA3⟩ : ∃ A, u8.heap.size = A := ⟨_, rfl⟩
      have HR8' := Lib.hid (HR8.out.below bV4 (Nat.le_refl _))
      have HR7 := Lib.hid (HR7'.out.below bV4 (Nat.le_refl _))
      clear HR7' HR8
      have HV' := Lib.hid (HV.out.trans (bV4.mono HV.out.size))
      clear HV
      have HV := HV'
      clear HV'
      have HV2' := Lib.hid (HV2.out.trans (bV4.mono HV2.out.size))
      clear HV2
      have HV2 := HV2'
      clear HV2'
      have HV3' := Lib.hid (HV3.out.trans (bV4.mono HV3.out.size))
      clear HV3
      have HV3 := HV3'
      clear HV3'
      rw [hA3] at cV4 sV4 rV4
      have hs2 := HV2.out.size
      have hs3 := HV3.out.size
      have z0 : V4.cell? ⟨A3, 0, none⟩ = some (.slice a8 l8 c8) := cV4 0
      have z1 : V4.cell? ⟨A3, 1, none⟩ = some (.slice a9 l9 c9) := cV4 1
      have z2 : V4.cell? ⟨A3, 2, none⟩ = some (.int .i64 er) := cV4 2
      have hA3lt : A3 < V4.heap.size := by omega
      have hA3ge : W0.heap.size ≤ A3 := by have := HV.out.size; omega
      have HM4 := Lib.hid hV4
      have HN3 := Lib.hid hA3
      have HR5y := Lib.hid (HR5.out.below HV3.out (Nat.le_refl _))
      have HR6y := Lib.hid (HR6'.out.below HV3.out (Nat.le_refl _))
      have X0 := cell_kept HV2.out x0 hA1lt
      have X1 := cell_kept HV2.out x1 hA1lt
      have Y0 := cell_kept HV3.out y0 hA2lt
      have Y2 := cell_kept HV3.out y2 hA2lt
      have HA1 : Hid (A1 < V4.heap.size) := Lib.hid (by omega)
      have HA2 : Hid (A2 < V4.heap.size) := Lib.hid (by omega)
      have HA3 := Lib.hid hA3lt
      have Hr4 : Hid (V4.heap[A2]? = some (.cells #[.slice a6 PB.length c6, .int .i64 PB.length, .int .i64 pe] 28 (0, 0))) := Lib.hid ((HV3.out.block _ hA2lt).trans Hr3.out)
      clear hV4 cV4 bV4 sV4 rV4 hA3 hs2 hs3 x0 x1 y0 y2 hA1lt hA2lt hA3lt Hr3 HV2 HV3 HR5 HR6'
      go_upto_region 14 with fail
      rw [HM4.out, HN3.out]
      clear HM4 HN3
      go_wp2_with fail
      refine (sameBytes_any _ _ _ PB _ _ _ PB _ HR5y.out HR6y.out).mono ?_
      rintro e u ⟨rfl, rfl⟩
      rw [decide_eq_true (rfl : PB = PB)]
      go_wp2_with fail
      refine (sameItems_any _ _ _ it7 _ _ _ it8 _ HR7.out HR8'.out).mono ?_
      rintro e ul ⟨rfl, nd, hul⟩
      rw [decide_eq_true (HK7.out.trans HK8.out.symm)]
      have HS : Hid (Below V4.heap.size V4 ul) := Lib.hid (by rw [hul]; exact below_drewN (Below.refl _ _) nd)
      have zz1 := cell_kept HS.out z1 HA3.out
      clear hul z0 z1 z2 X0 X1 Y0 Y2
      have HV' := Lib.hid (HV.out.trans (HS.out.mono HV.out.size))
      clear HV
      have HV := HV'
      clear HV'
      have hr5 := (HS.out.block _ HA2.out).trans Hr4.out
      have hA2l : A2 < ul.heap.size := Nat.lt_of_lt_of_le HA2.out HS.out.size
      have HR5x := Lib.hid hr5
      clear hr5 HR5y HR6y HR7 HR8' HK7 HK8 HA1 HA2 HA3 Hr4 HS
      have hne : (er == 0) = false := by simpa using hen
      have hne' : (er != 0) = true := by simpa using hen
      subst hu0
      go_wp2_with fail
      refine (where_any a0 len0 cap0 xs0 ul (H0.out.below HV.out (Nat.le_refl _)) a2 len2 cap2 xs2 (H2.out.below HV.out (Nat.le_refl _)) (by omega) a3).mono ?_
      rintro e u9 ⟨rfl, b9⟩
      rw [← HSP.out]
      have HR6x := Lib.hid ((b9.block _ hA2l).trans HR5x.out)
      have hA29 : A2 < u9.heap.size := Nat.lt_of_lt_of_le hA2l b9.size
      clear HR5x hA2l
      have HV' := Lib.hid (HV.out.trans (b9.mono HV.out.size))
      clear HV
      have HV := HV'
      clear HV'
      clear b9 zz1
      go_wp2_with fail
      refine (refWhere_any a0 len0 cap0 xs0 u9 (H0.out.below HV.out (Nat.le_refl _)) a2 len2 cap2 xs2 (H2.out.below HV.out (Nat.le_refl _)) (by omega) a3 i1 i2).mono ?_
      rintro e uA ⟨rfl, bA⟩
      rw [← HSP.out]
      have HR7x := Lib.hid ((bA.block _ hA29).trans HR6x.out)
      have hA2A : A2 < uA.heap.size := Nat.lt_of_lt_of_le hA29 bA.size
      clear HR6x hA29
      have HV' := Lib.hid (HV.out.trans (bA.mono HV.out.size))
      clear HV
      have HV := HV'
      clear HV'
      clear bA
      obtain ⟨V5, hV5, cV5, bV5, sV5, -⟩ := made uA #[.int .i64 s0, .int .i64 s1, .int .i64 s2] 70
      obtain ⟨A4, hA4⟩ : ∃ A, uA.heap.size = A := ⟨_, rfl⟩
      have HR8x := Lib.hid ((bV5.block _ hA2A).trans HR7x.out)
      have hA2B : A2 < V5.heap.size := by omega
      clear HR7x hA2A
      have HV' := Lib.hid (HV.out.trans (bV5.mono HV.out.size))
      clear HV
      have HV := HV'
      clear HV'
      rw [hA4] at cV5 sV5
      have q0 : V5.cell? ⟨A4, 0, none⟩ = some (.int .i64 s0) := cV5 0
      have q1 : V5.cell? ⟨A4, 1, none⟩ = some (.int .i64 s1) := cV5 1
      have q2 : V5.cell? ⟨A4, 2, none⟩ = some (.int .i64 s2) := cV5 2
      have d2 := cell_kept HV.out d0 hlt0
      have d3 := cell_kept HV.out d1 hlt0
      have HM5 := Lib.hid hV5
      have HN4 := Lib.hid hA4
      clear hV5 cV5 bV5 sV5 hA4 d0 d1
      go_upto_region 20 with fail
      rw [HM5.out, HN4.out]
      clear HM5 HN4
      go_wp2_with fail
      refine (patch_any a0 len0 cap0 xs0 V5 (H0.out.below HV.out (Nat.le_refl _)) a2 len2 cap2 xs2 (H2.out.below HV.out (Nat.le_refl _)) (by omega) a3 x4 (okBelow HX.out HV.out (Nat.le_refl _))).mono ?_
      rintro e uB ⟨vB, rfl, oB, bB⟩
      rw [← HPP.out] at oB ⊢
      obtain ⟨aB, cB, rfl, rB⟩ := oB.rd
      have HRB := Lib.hid rB
      have HR9x := Lib.hid ((bB.block _ hA2B).trans HR8x.out)
      have hA2C : A2 < uB.heap.size := Nat.lt_of_lt_of_le hA2B bB.size
      have dV : w.heap.size < V5.heap.size := Nat.lt_of_lt_of_le hlt0 HV.out.size
      have d4 := cell_kept bB d2 dV
      have d5 := cell_kept bB d3 dV
      clear HR8x hA2B rB oB dV q0 q1 q2 d2 d3
      have HV' := Lib.hid (HV.out.trans (bB.mono HV.out.size))
      clear HV
      have HV := HV'
      clear HV'
      clear bB
      go_wp2_with fail
      refine (refPatch_any a0 len0 cap0 xs0 uB (H0.out.below HV.out (Nat.le_refl _)) a2 len2 cap2 xs2 (H2.out.below HV.out (Nat.le_refl _)) (by omega) a3 i1 i2 x4 (okBelow HX.out HV.out (Nat.le_refl _)) hx4).mono ?_
      rintro e uC ⟨vC, rfl, oC, bC⟩
      rw [← HPP.out] at oC ⊢
      obtain ⟨aC, cC, rfl, rC⟩ := oC.rd
      have HRC := Lib.hid rC
      have HRB' := Lib.hid (HRB.out.below bC (Nat.le_refl _))
      have hrC := (bC.block _ hA2C).trans HR9x.out
      have hsC := bC.size
      have hBC := bC
      clear HRB HR9x rC oC d4 d5
      have HV' := Lib.hid (HV.out.trans (bC.mono HV.out.size))
      clear HV
      have HV := HV'
      clear HV'
      clear bC hBC
      have f60 := frozen_of_row _ _ 0 _ _ hrC
      have f61 := frozen_of_row _ _ 1 _ _ hrC
      have f62 := frozen_of_row _ _ 2 _ _ hrC
      have k60 : uC.cell? ⟨A2, 0, none⟩ = some (.slice a6 PB.length c6) := by rw [cell_of_row _ _ _ _ _ _ hrC]; rfl
      have k61 : uC.cell? ⟨A2, 1, none⟩ = some (.int .i64 PB.length) := by rw [cell_of_row _ _ _ _ _ _ hrC]; rfl
      have k62 : uC.cell? ⟨A2, 2, none⟩ = some (.int .i64 pe) := by rw [cell_of_row _ _ _ _ _ _ hrC]; rfl
      obtain ⟨V6, hV6, cV6, bV6, sV6, oV6⟩ := filled hrC #[.slice aC QB.length cC, .int .i64 QB.length, .int .i64 qe]
      rw [← cells3 hrC] at hV6
      have HRBk : Hid (Rd V6 aB QB.length cB QB) := Lib.hid (rd_filled HRB'.out (fun k hk => oV6 k hk) hrC)
      have HRCk : Hid (Rd V6 aC QB.length cC QB) := Lib.hid (rd_filled HRC.out (fun k hk => oV6 k hk) hrC)
      have r0 : V6.cell? ⟨A2, 0, none⟩ = some (.slice aC QB.length cC) := cV6 0
      have r2 : V6.cell? ⟨A2, 2, none⟩ = some (.int .i64 qe) := cV6 2
      have hA26 : A2 < V6.heap.size := by omega
      have HV' := Lib.hid (HV.out.trans (bV6.mono hA2ge))
      clear HV
      have HV := HV'
      clear HV' bV6
      have HM6 := Lib.hid hV6
      have R0 := Lib.hid r0
      have R2 := Lib.hid r2
      have HA6 := Lib.hid hA26
      clear hV6 cV6 oV6 HRB' HRC hrC hsC hA2C r0 r2 hA26 sV6
      go_upto_region 24 with fail
      rw [HM6.out]
      clear HM6 f60 f61 f62 k60 k61 k62
      go_wp2_with fail
      refine (sanity_any _).mono ?_
      rintro e u9 ⟨rfl, hb9⟩
      have r4 := cell_kept hb9 R0.out HA6.out
      have r5 := cell_kept hb9 R2.out HA6.out
      have RB9 := Lib.hid (HRBk.out.below hb9 (Nat.le_refl _))
      have RC9 := Lib.hid (HRCk.out.below hb9 (Nat.le_refl _))
      have HF := Lib.hid (Hb0.out.trans ((HV.out.trans (hb9.mono HV.out.size)).mono Hb0.out.size))
      clear hb9 HV R0 R2 HA6 HRBk HRCk
      go_wp2_with fail
      refine (sameBytes_any _ _ _ QB _ _ _ QB _ RB9.out RC9.out).mono ?_
      rintro e u ⟨rfl, rfl⟩
      rw [decide_eq_true (rfl : QB = QB)]
      go_wp2_with fail
      go_ret
      exact ⟨rfl, HF.out⟩
  · have hen : er ≠ 0 := fun h => hc (her0 h)
    have hu0 := hus0 hen
    have hc1 : checkV xs0 = 1 := by rcases checkV_01 xs0 with h | h; exact absurd h hc; exact h
    have hz : ((0 : Int), (0 : Int), (1 : Int)) = (lo, hi, cc) := by rw [HZ.out]; unfold sizeV; rw [if_pos (by simp [hc1]), hc1]
    have hlo : lo = 0 := (Prod.mk.inj hz).1.symm
    have hhi : hi = 0 := (Prod.mk.inj (Prod.mk.inj hz).2).1.symm
    rw [hc1] at hcc
    subst hcc
    clear hz hc her0 hus0 hc1
    go_enter Try.func5, Try.ntmps5
    go_wp2_with fail
    rw [← HW0.out]
    refine (few_any a0 len0 cap0 a1 len1 cap1 xs1 a2 len2 cap2 W0 H1.out Hcap.out (by omega) (by omega)).mono ?_
    rintro e u1 ⟨rfl, rfl⟩
    rw [HF.out]
    clear HF HW0
    go_wp2_with fail
    refine (refCheck_any a0 len0 cap0 xs0 W0 H0.out).mono ?_
    rintro e u1 ⟨rfl, b1⟩
    rw [← HCC.out]
    have HV := Lib.hid b1
    clear b1
    go_wp2_with fail
    refine (size_any a0 len0 cap0 xs0 u1 (H0.out.below HV.out (Nat.le_refl _))).mono ?_
    rintro e u2 ⟨rfl, b2⟩
    rw [← HZ.out]
    have HV' := Lib.hid (HV.out.trans (b2.mono HV.out.size))
    clear HV
    have HV := HV'
    clear HV'
    clear b2
    go_wp2_with fail
    refine (check_any a0 len0 cap0 xs0 u2 (H0.out.below HV.out (Nat.le_refl _))).mono ?_
    rintro e u3 ⟨rfl, b3⟩
    rw [← HCC.out]
    have HV' := Lib.hid (HV.out.trans (b3.mono HV.out.size))
    clear HV
    have HV := HV'
    clear HV'
    clear b3
    have hl3 := HV.out.size
    obtain ⟨V1, hV1, cV1, bV1, sV1, rV1⟩ := made u3 #[.int .i64 0, .int .i64 0] 57
    obtain ⟨A1, hA1⟩ : ∃ A, u3.heap.size = A := ⟨_, rfl⟩
    rw [hA1] at cV1 bV1 sV1 rV1
    have hA1ge : W0.heap.size ≤ A1 := by omega
    have HV' := Lib.hid (HV.out.trans (bV1.mono (by omega)))
    clear HV
    have HV := HV'
    clear HV' bV1
    have HM1 := Lib.hid hV1
    have HA1 := Lib.hid hA1
    have Hr1 := Lib.hid rV1
    have Hc1 := Lib.hid cV1
    clear hV1 hA1 rV1 cV1
    obtain ⟨V2, hV2⟩ : ∃ V, V = V1 := ⟨_, rfl⟩
    rw [← hV2] at HV sV1 Hr1 Hc1 HM1
    have hA1lt : A1 < V2.heap.size := by omega
    have x0 : V2.cell? ⟨A1, 0, none⟩ = some (.int .i64 lo) := by rw [hlo]; exact Hc1.out 0
    have x1 : V2.cell? ⟨A1, 1, none⟩ = some (.int .i64 hi) := by rw [hhi]; exact Hc1.out 1
    clear hV2 sV1 Hr1 hl3 Hc1
    go_wp2_with fail
    rw [HM1.out, HA1.out]
    clear HM1 HA1
    refine (packAll_any a0 len0 cap0 xs0 V2 (H0.out.below HV.out (Nat.le_refl _)) a1 len1 cap1 xs1 (H1.out.below HV.out (Nat.le_refl _))).mono ?_
    rintro e u5 ⟨v5, rfl, o5, b5⟩
    rw [← HP.out] at o5 ⊢
    obtain ⟨a5, c5, rfl, r5⟩ := o5.rd
    have HR5 := Lib.hid r5
    have HV2 := Lib.hid b5
    have HV' := Lib.hid (HV.out.trans (b5.mono HV.out.size))
    clear HV
    have HV := HV'
    clear HV'
    clear o5 r5 b5
    go_wp2_with fail
    refine (refPack_any a0 len0 cap0 xs0 u5 (H0.out.below HV.out (Nat.le_refl _)) a1 len1 cap1 xs1 (H1.out.below HV.out (Nat.le_refl _)) Hcap.out).mono ?_
    rintro e u6 ⟨v6, rfl, o6, b6⟩
    rw [← HP.out] at o6 ⊢
    obtain ⟨a6, c6, rfl, r6⟩ := o6.rd
    have HR6 := Lib.hid r6
    have HR5' := Lib.hid (HR5.out.below b6 (Nat.le_refl _))
    clear HR5
    have HV' := Lib.hid (HV.out.trans (b6.mono HV.out.size))
    clear HV
    have HV := HV'
    clear HV'
    have HV2' := Lib.hid (HV2.out.trans (b6.mono HV2.out.size))
    clear HV2
    have HV2 := HV2'
    clear HV2'
    clear o6 r6 b6
    obtain ⟨V3, hV3, cV3, bV3, sV3, rV3⟩ := made u6 #[.slice a6 PB.length c6, .int .i64 PB.length, .int .i64 pe] 28
    obtain ⟨A2, hA2⟩ : ∃ A, u6.heap.size = A := ⟨_, rfl⟩
    have HR5 := Lib.hid (HR5'.out.below bV3 (Nat.le_refl _))
    have HR6' := Lib.hid (HR6.out.below bV3 (Nat.le_refl _))
    clear HR5' HR6
    have HV' := Lib.hid (HV.out.trans (bV3.mono HV.out.size))
    clear HV
    have HV := HV'
    clear HV'
    have HV2' := Lib.hid (HV2.out.trans (bV3.mono HV2.out.size))
    clear HV2
    have HV2 := HV2'
    clear HV2'
    rw [hA2] at cV3 sV3 rV3
    have hs2 := HV2.out.size
    have y0 : V3.cell? ⟨A2, 0, none⟩ = some (.slice a6 PB.length c6) := cV3 0
    have y2 : V3.cell? ⟨A2, 2, none⟩ = some (.int .i64 pe) := cV3 2
    have hA2lt : A2 < V3.heap.size := by omega
    have hA2ge : W0.heap.size ≤ A2 := by have := HV.out.size; rw [← hA2]; omega
    have HM3 := Lib.hid hV3
    have HN2 := Lib.hid hA2
    have Hr3 := Lib.hid rV3
    clear hV3 cV3 bV3 sV3 rV3 hA2 hs2
    go_wp2_with fail
    rw [HM3.out, HN2.out]
    clear HM3 HN2
    refine (unpack_any a0 len0 cap0 xs0 V3 (H0.out.below HV.out (Nat.le_refl _)) a2 len2 cap2 xs2 (H2.out.below HV.out (Nat.le_refl _)) (by omega)).mono ?_
    rintro e u7 ⟨a7, l7, c7, it7, rfl, r7, k7, b7⟩
    rw [← HU.out, ← HE.out]
    have HR7 := Lib.hid r7
    have HK7 := Lib.hid k7
    have HV3 := Lib.hid b7
    clear r7 k7
    have HV' := Lib.hid (HV.out.trans (b7.mono HV.out.size))
    clear HV
    have HV := HV'
    clear HV'
    have HV2' := Lib.hid (HV2.out.trans (b7.mono HV2.out.size))
    clear HV2
    have HV2 := HV2'
    clear HV2'
    clear b7
    go_wp2_with fail
    refine (refUnpack_any a0 len0 cap0 xs0 u7 (H0.out.below HV.out (Nat.le_refl _)) a2 len2 cap2 xs2 (H2.out.below HV.out (Nat.le_refl _)) (by omega)).mono ?_
    intro e u8 hu8
    obtain ⟨a8, l8, c8, a9, l9, c9, it8, rfl, b8, r8, k8, hat⟩ := hu8.rd H0.out.hl HBD.out
    rw [← HE.out] at hat ⊢
    have HR8 := Lib.hid r8
    have HK8 := Lib.hid k8
    have HR7' := Lib.hid (HR7.out.below b8 (Nat.le_refl _))
    clear r8 k8 HR7 hu8
    have HV' := Lib.hid (HV.out.trans (b8.mono HV.out.size))
    clear HV
    have HV := HV'
    clear HV'
    have HV2' := Lib.hid (HV2.out.trans (b8.mono HV2.out.size))
    clear HV2
    have HV2 := HV2'
    clear HV2'
    have HV3' := Lib.hid (HV3.out.trans (b8.mono HV3.out.size))
    clear HV3
    have HV3 := HV3'
    clear HV3'
    clear b8
    clear hat
    obtain ⟨V4, hV4, cV4, bV4, sV4, rV4⟩ := made u8 #[.slice a8 l8 c8, (.slice a9 l9 c9), .int .i64 er] 65
    obtain ⟨A3, hA3⟩ : ∃ A, u8.heap.size = A := ⟨_, rfl⟩
    have HR8' := Lib.hid (HR8.out.below bV4 (Nat.le_refl _))
    have HR7 := Lib.hid (HR7'.out.below bV4 (Nat.le_refl _))
    clear HR7' HR8
    have HV' := Lib.hid (HV.out.trans (bV4.mono HV.out.size))
    clear HV
    have HV := HV'
    clear HV'
    have HV2' := Lib.hid (HV2.out.trans (bV4.mono HV2.out.size))
    clear HV2
    have HV2 := HV2'
    clear HV2'
    have HV3' := Lib.hid (HV3.out.trans (bV4.mono HV3.out.size))
    clear HV3
    have HV3 := HV3'
    clear HV3'
    rw [hA3] at cV4 sV4 rV4
    have hs2 := HV2.out.size
    have hs3 := HV3.out.size
    have z0 : V4.cell? ⟨A3, 0, none⟩ = some (.slice a8 l8 c8) := cV4 0
    have z1 : V4.cell? ⟨A3, 1, none⟩ = some (.slice a9 l9 c9) := cV4 1
    have z2 : V4.cell? ⟨A3, 2, none⟩ = some (.int .i64 er) := cV4 2
    have hA3lt : A3 < V4.heap.size := by omega
    have hA3ge : W0.heap.size ≤ A3 := by have := HV.out.size; omega
    have HM4 := Lib.hid hV4
    have HN3 := Lib.hid hA3
    have HR5y := Lib.hid (HR5.out.below HV3.out (Nat.le_refl _))
    have HR6y := Lib.hid (HR6'.out.below HV3.out (Nat.le_refl _))
    have X0 := cell_kept HV2.out x0 hA1lt
    have X1 := cell_kept HV2.out x1 hA1lt
    have Y0 := cell_kept HV3.out y0 hA2lt
    have Y2 := cell_kept HV3.out y2 hA2lt
    have HA1 : Hid (A1 < V4.heap.size) := Lib.hid (by omega)
    have HA2 : Hid (A2 < V4.heap.size) := Lib.hid (by omega)
    have HA3 := Lib.hid hA3lt
    have Hr4 : Hid (V4.heap[A2]? = some (.cells #[.slice a6 PB.length c6, .int .i64 PB.length, .int .i64 pe] 28 (0, 0))) := Lib.hid ((HV3.out.block _ hA2lt).trans Hr3.out)
    clear hV4 cV4 bV4 sV4 rV4 hA3 hs2 hs3 x0 x1 y0 y2 hA1lt hA2lt hA3lt Hr3 HV2 HV3 HR5 HR6'
    go_upto_region 14 with fail
    rw [HM4.out, HN3.out]
    clear HM4 HN3
    go_wp2_with fail
    refine (sameBytes_any _ _ _ PB _ _ _ PB _ HR5y.out HR6y.out).mono ?_
    rintro e u ⟨rfl, rfl⟩
    rw [decide_eq_true (rfl : PB = PB)]
    go_wp2_with fail
    refine (sameItems_any _ _ _ it7 _ _ _ it8 _ HR7.out HR8'.out).mono ?_
    rintro e ul ⟨rfl, nd, hul⟩
    rw [decide_eq_true (HK7.out.trans HK8.out.symm)]
    have HS : Hid (Below V4.heap.size V4 ul) := Lib.hid (by rw [hul]; exact below_drewN (Below.refl _ _) nd)
    have zz1 := cell_kept HS.out z1 HA3.out
    clear hul z0 z1 z2 X0 X1 Y0 Y2
    have HV' := Lib.hid (HV.out.trans (HS.out.mono HV.out.size))
    clear HV
    have HV := HV'
    clear HV'
    have hr5 := (HS.out.block _ HA2.out).trans Hr4.out
    have hA2l : A2 < ul.heap.size := Nat.lt_of_lt_of_le HA2.out HS.out.size
    have HR5x := Lib.hid hr5
    clear hr5 HR5y HR6y HR7 HR8' HK7 HK8 HA1 HA2 HA3 Hr4 HS
    have hne : (er == 0) = false := by simpa using hen
    have hne' : (er != 0) = true := by simpa using hen
    subst hu0
    go_wp2_with fail
    refine (where_any a0 len0 cap0 xs0 ul (H0.out.below HV.out (Nat.le_refl _)) a2 len2 cap2 xs2 (H2.out.below HV.out (Nat.le_refl _)) (by omega) a3).mono ?_
    rintro e u9 ⟨rfl, b9⟩
    rw [← HSP.out]
    have HR6x := Lib.hid ((b9.block _ hA2l).trans HR5x.out)
    have hA29 : A2 < u9.heap.size := Nat.lt_of_lt_of_le hA2l b9.size
    clear HR5x hA2l
    have HV' := Lib.hid (HV.out.trans (b9.mono HV.out.size))
    clear HV
    have HV := HV'
    clear HV'
    clear b9 zz1
    go_wp2_with fail
    refine (refWhere_any a0 len0 cap0 xs0 u9 (H0.out.below HV.out (Nat.le_refl _)) a2 len2 cap2 xs2 (H2.out.below HV.out (Nat.le_refl _)) (by omega) a3 i1 i2).mono ?_
    rintro e uA ⟨rfl, bA⟩
    rw [← HSP.out]
    have HR7x := Lib.hid ((bA.block _ hA29).trans HR6x.out)
    have hA2A : A2 < uA.heap.size := Nat.lt_of_lt_of_le hA29 bA.size
    clear HR6x hA29
    have HV' := Lib.hid (HV.out.trans (bA.mono HV.out.size))
    clear HV
    have HV := HV'
    clear HV'
    clear bA
    obtain ⟨V5, hV5, cV5, bV5, sV5, -⟩ := made uA #[.int .i64 s0, .int .i64 s1, .int .i64 s2] 70
    obtain ⟨A4, hA4⟩ : ∃ A, uA.heap.size = A := ⟨_, rfl⟩
    have HR8x := Lib.hid ((bV5.block _ hA2A).trans HR7x.out)
    have hA2B : A2 < V5.heap.size := by omega
    clear HR7x hA2A
    have HV' := Lib.hid (HV.out.trans (bV5.mono HV.out.size))
    clear HV
    have HV := HV'
    clear HV'
    rw [hA4] at cV5 sV5
    have q0 : V5.cell? ⟨A4, 0, none⟩ = some (.int .i64 s0) := cV5 0
    have q1 : V5.cell? ⟨A4, 1, none⟩ = some (.int .i64 s1) := cV5 1
    have q2 : V5.cell? ⟨A4, 2, none⟩ = some (.int .i64 s2) := cV5 2
    have d2 := cell_kept HV.out d0 hlt0
    have d3 := cell_kept HV.out d1 hlt0
    have HM5 := Lib.hid hV5
    have HN4 := Lib.hid hA4
    clear hV5 cV5 bV5 sV5 hA4 d0 d1
    go_upto_region 20 with fail
    rw [HM5.out, HN4.out]
    clear HM5 HN4
    go_wp2_with fail
    refine (patch_any a0 len0 cap0 xs0 V5 (H0.out.below HV.out (Nat.le_refl _)) a2 len2 cap2 xs2 (H2.out.below HV.out (Nat.le_refl _)) (by omega) a3 x4 (okBelow HX.out HV.out (Nat.le_refl _))).mono ?_
    rintro e uB ⟨vB, rfl, oB, bB⟩
    rw [← HPP.out] at oB ⊢
    obtain ⟨aB, cB, rfl, rB⟩ := oB.rd
    have HRB := Lib.hid rB
    have HR9x := Lib.hid ((bB.block _ hA2B).trans HR8x.out)
    have hA2C : A2 < uB.heap.size := Nat.lt_of_lt_of_le hA2B bB.size
    have dV : w.heap.size < V5.heap.size := Nat.lt_of_lt_of_le hlt0 HV.out.size
    have d4 := cell_kept bB d2 dV
    have d5 := cell_kept bB d3 dV
    clear HR8x hA2B rB oB dV q0 q1 q2 d2 d3
    have HV' := Lib.hid (HV.out.trans (bB.mono HV.out.size))
    clear HV
    have HV := HV'
    clear HV'
    clear bB
    go_wp2_with fail
    refine (refPatch_any a0 len0 cap0 xs0 uB (H0.out.below HV.out (Nat.le_refl _)) a2 len2 cap2 xs2 (H2.out.below HV.out (Nat.le_refl _)) (by omega) a3 i1 i2 x4 (okBelow HX.out HV.out (Nat.le_refl _)) hx4).mono ?_
    rintro e uC ⟨vC, rfl, oC, bC⟩
    rw [← HPP.out] at oC ⊢
    obtain ⟨aC, cC, rfl, rC⟩ := oC.rd
    have HRC := Lib.hid rC
    have HRB' := Lib.hid (HRB.out.below bC (Nat.le_refl _))
    have hrC := (bC.block _ hA2C).trans HR9x.out
    have hsC := bC.size
    have hBC := bC
    clear HRB HR9x rC oC d4 d5
    have HV' := Lib.hid (HV.out.trans (bC.mono HV.out.size))
    clear HV
    have HV := HV'
    clear HV'
    clear bC hBC
    have f60 := frozen_of_row _ _ 0 _ _ hrC
    have f61 := frozen_of_row _ _ 1 _ _ hrC
    have f62 := frozen_of_row _ _ 2 _ _ hrC
    have k60 : uC.cell? ⟨A2, 0, none⟩ = some (.slice a6 PB.length c6) := by rw [cell_of_row _ _ _ _ _ _ hrC]; rfl
    have k61 : uC.cell? ⟨A2, 1, none⟩ = some (.int .i64 PB.length) := by rw [cell_of_row _ _ _ _ _ _ hrC]; rfl
    have k62 : uC.cell? ⟨A2, 2, none⟩ = some (.int .i64 pe) := by rw [cell_of_row _ _ _ _ _ _ hrC]; rfl
    obtain ⟨V6, hV6, cV6, bV6, sV6, oV6⟩ := filled hrC #[.slice aC QB.length cC, .int .i64 QB.length, .int .i64 qe]
    rw [← cells3 hrC] at hV6
    have HRBk : Hid (Rd V6 aB QB.length cB QB) := Lib.hid (rd_filled HRB'.out (fun k hk => oV6 k hk) hrC)
    have HRCk : Hid (Rd V6 aC QB.length cC QB) := Lib.hid (rd_filled HRC.out (fun k hk => oV6 k hk) hrC)
    have r0 : V6.cell? ⟨A2, 0, none⟩ = some (.slice aC QB.length cC) := cV6 0
    have r2 : V6.cell? ⟨A2, 2, none⟩ = some (.int .i64 qe) := cV6 2
    have hA26 : A2 < V6.heap.size := by omega
    have HV' := Lib.hid (HV.out.trans (bV6.mono hA2ge))
    clear HV
    have HV := HV'
    clear HV' bV6
    have HM6 := Lib.hid hV6
    have R0 := Lib.hid r0
    have R2 := Lib.hid r2
    have HA6 := Lib.hid hA26
    clear hV6 cV6 oV6 HRB' HRC hrC hsC hA2C r0 r2 hA26 sV6
    go_upto_region 24 with fail
    rw [HM6.out]
    clear HM6 f60 f61 f62 k60 k61 k62
    go_wp2_with fail
    refine (sanity_any _).mono ?_
    rintro e u9 ⟨rfl, hb9⟩
    have r4 := cell_kept hb9 R0.out HA6.out
    have r5 := cell_kept hb9 R2.out HA6.out
    have RB9 := Lib.hid (HRBk.out.below hb9 (Nat.le_refl _))
    have RC9 := Lib.hid (HRCk.out.below hb9 (Nat.le_refl _))
    have HF := Lib.hid (Hb0.out.trans ((HV.out.trans (hb9.mono HV.out.size)).mono Hb0.out.size))
    clear hb9 HV R0 R2 HA6 HRBk HRCk
    go_wp2_with fail
    refine (sameBytes_any _ _ _ QB _ _ _ QB _ RB9.out RC9.out).mono ?_
    rintro e u ⟨rfl, rfl⟩
    rw [decide_eq_true (rfl : QB = QB)]
    go_wp2_with fail
    go_ret
    exact ⟨rfl, HF.out⟩
end Go.Proofs.Ytmfijcniaehooaa.wireLayouts

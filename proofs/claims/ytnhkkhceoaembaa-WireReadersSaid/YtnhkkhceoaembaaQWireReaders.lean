/- What the statement WireReaders calls answers true, for every input that its walk is handed. -/
import Derived.Test.YtnhkkhceoaembaaRows
import Derived.WalkKit
import Derived.ProofKit
import Derived.OpenShut
import Derived.ShutString
import Derived.ChangeOld
import Derived.Below
import Derived.SizedLaws
import Derived.Test.YtnhkkhceoaembaaLacts
import Derived.Test.YtnhkkhceoaembaaWact
import Derived.Test.YtnhkkhceoaembaaWnil
import Derived.Test.YtnhkkhceoaembaaWsanity
import Derived.Test.YtnhkkhceoaembaaRvar
import Derived.Deep.DeepCutAuto
import Derived.Deep.RegionHeld3
namespace Go.Proofs.Ytnhkkhceoaembaa.wireReaders
open Go.ChangeShapes Go.WideShapes Go.ChangeAt Go.RowKit
open Go.ChangeMaps (open_string shut_string)
set_option linter.unusedVariables false

theorem IsR.other {w w2 : World} {R p len cap R2 q l2 c2 : Nat} {a a2 : Option Addr} {xs ys : List Int} (h : IsR w R p a len cap xs) (k : Moved w w2 R2 q a2 l2 c2 ys) (hne : R ≠ R2) : IsR w2 R p a len cap xs :=
  ⟨(k.grown.block R h.lt (by intro e; exact hne (by simpa using e))).trans h.blk, k.keeps _ _ _ _ h.rd, h.hp⟩
theorem below_moved {B : Nat} {w w2 : World} {R q len cap p : Nat} {a : Option Addr} {xs : List Int} (h : IsR w R p a len cap xs) (k : Moved w w2 R q a len cap xs) (hB : B ≤ R) : Below B w w2 :=
  ⟨k.grown.os, k.grown.tape, k.grown.output, k.grown.size, fun i hi => k.grown.block i (Nat.lt_trans (Nat.lt_of_lt_of_le hi hB) h.lt) (by intro e; have e' : i = R := (by simpa using e); omega)⟩
theorem freshT (w1 : World) (cs : Array Value) : ∃ W3, w1.alloc (.cells #[.int .i64 0, .slice none 0 0, .int .i64 0] 83) = W3 ∧ W3.heap[w1.heap.size]? = some (.cells #[.int .i64 0, .slice none 0 0, .int .i64 0] 83 (0, 0)) ∧
    ∃ g W, w1.heap.size = g ∧ W3.setRow w1.heap.size cs = W ∧ W.heap[g]? = some (.cells cs 83 (0, 0)) ∧ Below g w1 W ∧ g < W.heap.size := by
  refine ⟨_, rfl, heap_alloc_last w1 _, _, _, rfl, rfl, ?_, ?_, ?_⟩
  · rw [World.setRow_alloc_new]; exact heap_alloc_last w1 _
  · rw [World.setRow_alloc_new]; exact (Below.refl _ w1).alloc (Nat.le_refl _) _
  · rw [World.setRow_alloc_new]; simp
theorem blk_below {w w2 : World} {B g : Nat} {o : Obj} (h : w.heap[g]? = some o) (hb : Below B w w2) (hg : g < B) : w2.heap[g]? = some o := (hb.block g hg).trans h
theorem IsM.other {w w2 : World} {M p len cap R2 q l2 c2 : Nat} {a a2 : Option Addr} {xs ys : List Int} (h : IsM w M p a len cap xs) (k : Moved w w2 R2 q a2 l2 c2 ys) (hne : M ≠ R2) : IsM w2 M p a len cap xs :=
  ⟨(k.grown.block M h.lt (by intro e; exact hne (by simpa using e))).trans h.blk, k.keeps _ _ _ _ h.rd, h.hp⟩
theorem IsR.otherM {w w2 : World} {R p len cap M q l2 c2 : Nat} {a a2 : Option Addr} {xs ys : List Int} (h : IsR w R p a len cap xs) (k : MovedM w w2 M q a2 l2 c2 ys) (hne : R ≠ M) : IsR w2 R p a len cap xs :=
  ⟨(k.grown.block R h.lt (by intro e; exact hne (by simpa using e))).trans h.blk, k.keeps _ _ _ _ h.rd, h.hp⟩
theorem below_movedM {B : Nat} {w w2 : World} {M q len cap p : Nat} {a : Option Addr} {xs : List Int} (h : IsM w M p a len cap xs) (k : MovedM w w2 M q a len cap xs) (hB : B ≤ M) : Below B w w2 :=
  ⟨k.grown.os, k.grown.tape, k.grown.output, k.grown.size, fun i hi => k.grown.block i (Nat.lt_trans (Nat.lt_of_lt_of_le hi hB) h.lt) (by intro e; have e' : i = M := (by simpa using e); omega)⟩
theorem neRM {w : World} {R p len cap M q l2 c2 : Nat} {a a2 : Option Addr} {xs ys : List Int} (h : IsR w R p a len cap xs) (k : IsM w M q a2 l2 c2 ys) : R ≠ M := by
  rintro rfl
  have := h.blk.symm.trans k.blk
  simp at this
attribute [local irreducible] DidPost ToldM
set_option maxRecDepth 100000 in
set_option maxHeartbeats 8000000 in
theorem walk (a0 : Option Addr) (len0 cap0 : Nat) (xs0 : List Int) (a1 : Option Addr) (len1 cap1 : Nat) (xs1 : List (Int × Int)) (w : World) (w0 : Rd w a0 len0 cap0 xs0 ∧ cap0 ≤ 140737488351232) (w1 : RdA w a1 len1 cap1 xs1) :
    Calls Try.prog 6 #[.slice a0 len0 cap0, .slice a1 len1 cap1] w fun e w' => e = .returned (.bool true) ∧ Below w.heap.size w w' := by
  obtain ⟨hr0, hcap0⟩ := w0
  have m1 := w1.hm
  have c1 := w1.hc
  have m0 := hr0.hm
  have c0 := hr0.hc
  unfold maxLen at m0 m1
  have H0 := Lib.hid hr0
  have H1 := Lib.hid w1
  clear hr0 w1 hcap0
  by_cases q0 : (5000 : Int) < (len0 : Int)
  · go_enter Try.func6, Try.ntmps6
    go_wp2_with fail
    refine (sanity_any _).mono ?_
    rintro e ux ⟨rfl, hb⟩
    have Hbx := Lib.hid hb
    clear hb
    go_wp2_with fail
    go_ret
    exact ⟨rfl, Hbx.out⟩
  by_cases q1 : (60 : Int) < (len1 : Int)
  · go_enter Try.func6, Try.ntmps6
    go_wp2_with fail
    refine (sanity_any _).mono ?_
    rintro e ux ⟨rfl, hb⟩
    have Hbx := Lib.hid hb
    clear hb
    go_wp2_with fail
    go_ret
    exact ⟨rfl, Hbx.out⟩
  go_enter Try.func6, Try.ntmps6
  go_wp2_with fail
  refine (newReader_any a0 len0 cap0 xs0 w H0.out (by omega)).mono ?_
  rintro e u1 ⟨R0, ar0, cr0, rfl, hR0, hI0, hb⟩
  obtain ⟨u2, hu2⟩ : ∃ u2, u2 = u1.alloc (.cells #[.slice a0 len0 cap0, .int .i64 0] 80) := ⟨_, rfl⟩
  have hM0 : u2.heap[u1.heap.size]? = some (.cells #[.slice a0 len0 cap0, .int .i64 0] 80 (0, 0)) := by rw [hu2]; exact heap_alloc_last u1 _
  have hb2 : Below u1.heap.size u1 u2 := by rw [hu2]; exact (Below.refl _ u1).alloc (Nat.le_refl _) _
  have IM0 : Hid (IsM u2 u1.heap.size 0 a0 len0 cap0 xs0) := Lib.hid ⟨hM0, (H0.out.below hb (Nat.le_refl _)).below hb2 (Nat.le_refl _), Nat.zero_le _⟩
  have IR0 := Lib.hid (hI0.below hb2 (Nat.le_refl _))
  have B2 : Hid (Below w.heap.size w u2) := Lib.hid (hb.trans (hb2.mono hb.size))
  have hMge : w.heap.size ≤ u1.heap.size := hb.size
  have HU2 := Lib.hid hu2
  clear hu2 hM0 hb2 hI0 hb
  go_upto_region 5 with fail
  rw [← HU2.out]
  clear HU2
  obtain ⟨M0, hM0e⟩ : ∃ m, m = u1.heap.size := ⟨_, rfl⟩
  rw [← hM0e] at IM0 hMge ⊢
  clear hM0e
  go_wp2_with fail
  refine (at_any IR0.out).mono ?_
  rintro e u3 ⟨rfl, rfl⟩
  go_wp2_with fail
  refine (left_any IR0.out).mono ?_
  rintro e u3 ⟨rfl, hd3⟩
  have hb3 : Below u2.heap.size u2 u3 := by obtain ⟨m, rfl⟩ := hd3; exact ⟨rfl, rfl, rfl, Nat.le_refl _, fun _ _ => rfl⟩
  have IR3 := Lib.hid (IR0.out.below hb3 (Nat.le_refl _))
  have IM3 := Lib.hid (IM0.out.below hb3 (Nat.le_refl _))
  have B3 : Hid (Below w.heap.size w u3) := Lib.hid (B2.out.trans (hb3.mono B2.out.size))
  have hlf : (((len0 : Int) - ((0 : Nat) : Int)) != (len0 : Int)) = false := by simp
  have hlf2 : ((len0 : Int) - 0 != (len0 : Int)) = false := by simp
  clear hd3 hb3 IR0 IM0 B2
  go_wp2_with fail
  go_loopw [5, 6, 7] (fun r m i wr => ∃ k : Nat, k ≤ len1 ∧ i = .int .i64 k ∧ ∃ (R M p len : Nat) (ar : Option Addr) (cr : Nat) (am : Option Addr) (cm : Nat) (xs : List Int), r = .pointer (some ⟨R, 0, none⟩) ∧ m = .pointer (some ⟨M, 0, none⟩) ∧ IsR wr R p ar len cr xs ∧ IsM wr M p am len cm xs ∧ len ≤ 5000 ∧ w.heap.size ≤ R ∧ w.heap.size ≤ M ∧ Below w.heap.size w wr) (fun _ _ i _ => len1 - (intOf i).toNat)
  case atStart => exact ⟨0, Nat.zero_le _, rfl, R0, M0, 0, len0, ar0, cr0, a0, cap0, xs0, rfl, rfl, IR3.out, IM3.out, by omega, hR0, hMge, B3.out⟩
  case round =>
    obtain ⟨k, hk, rfl, R, M, p, len, ar, cr, am, cm, xs, rfl, rfl, hIR, hIM, hlen, hRge, hMge', hbw⟩ := hrel
    have IR := Lib.hid hIR
    have IM := Lib.hid hIM
    have BW := Lib.hid hbw
    clear hIR hIM hbw IR3 IM3 B3
    by_cases hlt : k < len1
    · obtain ⟨b1, o1, rfl, hc1⟩ := H1.out.hr (by omega)
      have hck := hc1 k hlt
      have hmem : xs1.getD k (0, 0) ∈ xs1 := by
        have hl := H1.out.hl
        have : xs1.getD k (0, 0) = xs1[k]'(by omega) := by simp [List.getD, show k < xs1.length by omega]
        rw [this]; exact List.getElem_mem _
      have hbd := H1.out.hb _ hmem
      obtain ⟨⟨kd, wd⟩, hact⟩ : ∃ t, t = xs1.getD k (0, 0) := ⟨_, rfl⟩
      rw [← hact] at hck hbd
      simp only at hck hbd
      clear hact hmem hc1
      obtain ⟨n, bs, er, q, hbl, hn0, hD, hM⟩ := both_act kd wd hbd.2.1 hbd.2.2 xs p len IR.out.rd.hl IR.out.hp (by omega)
      have HD := Lib.hid hD
      have HM := Lib.hid hM
      have HC1 := Lib.hid hck
      have HBL := Lib.hid (And.intro hbl hn0)
      have ca := BW.out.cell (p := ⟨b1, o1 + k * 2, none⟩) (World.block_lt_of_cell? w _ hck.1)
      have cb := BW.out.cell (p := ⟨b1, o1 + k * 2 + 1, none⟩) (World.block_lt_of_cell? w _ hck.2)
      rw [hck.1] at ca
      rw [hck.2] at cb
      obtain ⟨hk1, hk2⟩ := hbd
      clear hD hM hck hbl hn0
      go_wp2_with fail
      refine (HD.out wr R ar cr IR.out).mono ?_
      intro e w1 hp
      unfold DidPost at hp
      obtain ⟨v, pr, rfl, hcase⟩ := hp
      have hRM := neRM IR.out IM.out
      clear ca cb HD
      rcases hcase with ⟨h6, h0, R2, ar2, cr2, rfl, hR2, hI2, a9, l9, c9, rfl, ho9, hm9⟩ | ⟨hnot, rfl, a9, l9, c9, rfl, ho9, hm9⟩
      · have hR2ge : w.heap.size ≤ R2 := Nat.le_trans BW.out.size hR2
        have hn := HBL.out.2 h6
        have HBL2 := Lib.hid (HBL.out.1 h0 h6)
        clear HBL
        subst h6
        subst h0
        subst hn
        obtain ⟨a9', c9', e9, hrd9⟩ := ho9.rd
        simp only [Value.slice.injEq] at e9
        obtain ⟨rfl, rfl, rfl⟩ := e9
        obtain ⟨m9, hm9e⟩ : ∃ m, m = ([] : List Int).length := ⟨_, rfl⟩
        rw [← hm9e] at hrd9 ⊢
        obtain ⟨Wz, e1, hz, g8, W8, e2, e3, hg8, b8, hgl8⟩ := freshT w1 #[.int .i64 0, .slice a9 m9 c9, .int .i64 0]
        have hs1 : wr.heap.size ≤ w1.heap.size := hm9.grown.size
        have IR8 := Lib.hid (hm9.isR.below b8 (by omega))
        have IM8 := Lib.hid ((IsM.other IM.out hm9 hRM.symm).below b8 (by omega))
        have BW8 : Hid (Below w.heap.size w W8) := Lib.hid ((BW.out.trans (below_moved IR.out hm9 hRge)).trans (b8.mono (by have := BW.out.size; omega)))
        have D9 := Lib.hid (hrd9.below b8 (by omega))
        have hg8w : wr.heap.size ≤ g8 := by omega
        have I28 := Lib.hid (hI2.below b8 (by omega))
        have He1 := Lib.hid e1
        have He2 := Lib.hid e2
        have He3 := Lib.hid e3
        have Hz := Lib.hid hz
        have G8 := Lib.hid hg8
        clear e1 e2 e3 hz hg8 b8 ho9 hm9 hrd9 hm9e IR IM BW hI2
        go_upto_region 11 with (rw [He1.out]; refine wpList_store_row rfl 83 (.tmp 8) (.tmp 56) rfl w1.heap.size #[.int .i64 0, .slice a9 m9 c9, .int .i64 0] rfl rfl 83 #[.int .i64 0, .slice none 0 0, .int .i64 0] Hz.out (Try.sizeTold _ _ _) rfl (oneTold _ _ _ _ _) ?_)
        rw [He3.out, He2.out]
        clear He1 He2 He3 Hz
        have ca := BW8.out.cell (p := ⟨b1, o1 + k * 2, none⟩) (World.block_lt_of_cell? w _ HC1.out.1)
        have cb := BW8.out.cell (p := ⟨b1, o1 + k * 2 + 1, none⟩) (World.block_lt_of_cell? w _ HC1.out.2)
        rw [HC1.out.1] at ca
        rw [HC1.out.2] at cb
        go_wp2_with fail
        refine (HM.out W8 M am cm IM8.out).mono ?_
        intro e w2 hp
        unfold ToldM at hp
        obtain ⟨aX, lX, cX, rfl, hoX, hmX⟩ := hp
        obtain ⟨aX', cX', eX, hrdX⟩ := hoX.rd
        simp only [Value.slice.injEq] at eX
        obtain ⟨rfl, rfl, rfl⟩ := eX
        obtain ⟨mX, hmXe⟩ : ∃ m, m = bs.length := ⟨_, rfl⟩
        rw [← hmXe] at hrdX ⊢
        obtain ⟨Wz, e1, hz, g10, WA, e2, e3, hg10, bA, hglA⟩ := freshT w2 #[.int .i64 0, .slice aX mX cX, .int .i64 0]
        have hs2 : W8.heap.size ≤ w2.heap.size := hmX.grown.size
        have hM8 := IM8.out.lt
        have IRA := Lib.hid ((IsR.otherM IR8.out hmX hRM).below bA (by omega))
        have IMA := Lib.hid (hmX.isM.below bA (by omega))
        have BWA : Hid (Below w.heap.size w WA) := Lib.hid ((BW8.out.trans (below_movedM IM8.out hmX hMge')).trans (bA.mono (by have := BW8.out.size; omega)))
        have D9A := Lib.hid ((hmX.keeps _ _ _ _ D9.out).below bA (by omega))
        have DXA := Lib.hid (hrdX.below bA (by omega))
        have hg8M : g8 ≠ M := by rintro rfl; have := IM8.out.blk.symm.trans G8.out; simp at this
        have G8A := Lib.hid (blk_below (grown_blk' hmX.grown G8.out hg8M) bA (by omega))
        have hR2M : R2 ≠ M := neRM I28.out IM8.out
        have I2A := Lib.hid ((IsR.otherM I28.out hmX hR2M).below bA (by omega))
        have He1 := Lib.hid e1
        have He2 := Lib.hid e2
        have He3 := Lib.hid e3
        have Hz := Lib.hid hz
        have G10 := Lib.hid hg10
        have hne810 : g8 ≠ g10 := by omega
        have hg8A : g8 < WA.heap.size := by have := bA.size; omega
        have hg10w : w.heap.size ≤ g10 := by have := BW8.out.size; omega
        have HX := Lib.hid hmXe
        clear e1 e2 e3 hz hg10 bA hoX hmX hrdX hmXe IR8 IM8 BW8 D9 G8 ca cb HM I28
        go_upto_region 12 with (rw [He1.out]; refine wpList_store_row rfl 83 (.tmp 10) (.tmp 63) rfl w2.heap.size #[.int .i64 0, .slice aX mX cX, .int .i64 0] rfl rfl 83 #[.int .i64 0, .slice none 0 0, .int .i64 0] Hz.out (Try.sizeTold _ _ _) rfl (oneTold _ _ _ _ _) ?_)
        rw [He3.out, He2.out]
        clear He1 He2 He3 Hz
        have ca := BWA.out.cell (p := ⟨b1, o1 + k * 2, none⟩) (World.block_lt_of_cell? w _ HC1.out.1)
        rw [HC1.out.1] at ca
        have x2 : WA.cell? ⟨g8, 2, none⟩ = some (.int .i64 0) := by rw [cell_of_row _ _ _ _ _ _ G8A.out]; rfl
        have y2 : WA.cell? ⟨g10, 2, none⟩ = some (.int .i64 0) := by rw [cell_of_row _ _ _ _ _ _ G10.out]; rfl
        have y1 : WA.cell? ⟨g10, 1, none⟩ = some (.slice aX mX cX) := by rw [cell_of_row _ _ _ _ _ _ G10.out]; rfl
        have hX := HX.out
        have hbl := HBL2.out
        have hml : mX ≤ len := by omega
        clear hbl HBL2
        obtain ⟨WM, hWM⟩ : ∃ WM, WM = WA.alloc (.cells #[.slice aX mX cX, .int .i64 0] 80) := ⟨_, rfl⟩
        have hMM : WM.heap[WA.heap.size]? = some (.cells #[.slice aX mX cX, .int .i64 0] 80 (0, 0)) := by rw [hWM]; exact heap_alloc_last WA _
        have hbM : Below WA.heap.size WA WM := by rw [hWM]; exact (Below.refl _ WA).alloc (Nat.le_refl _) _
        have G10M : WM.heap[g10]? = some (.cells #[.int .i64 0, .slice aX mX cX, .int .i64 0] 83 (0, 0)) := blk_below G10.out hbM hglA
        have G8M : WM.heap[g8]? = some (.cells #[.int .i64 0, .slice a9 m9 c9, .int .i64 0] 83 (0, 0)) := blk_below G8A.out hbM hg8A
        obtain ⟨WB, hWB⟩ : ∃ WB, WB = WM.setCell ⟨g10, 1, none⟩ (.slice none 0 0) := ⟨_, rfl⟩
        have hkB : ∀ j, j ≠ g10 → WB.heap[j]? = WM.heap[j]? := fun j hj => by rw [hWB]; exact heap_setCell_other WM ⟨g10, 1, none⟩ j _ hj
        have hnoB := told_no 0 0 (.slice aX mX cX) (by simp)
        have hgM : WA.heap.size ≠ g10 := by omega
        have hgR : R2 ≠ g10 := by rintro rfl; have := I2A.out.blk.symm.trans G10.out; simp at this
        have hMB : WB.heap[WA.heap.size]? = some (.cells #[.slice aX mX cX, .int .i64 0] 80 (0, 0)) := (hkB _ hgM).trans hMM
        have IMB : Hid (IsM WB WA.heap.size 0 aX mX cX bs) := Lib.hid ⟨hMB, (DXA.out.below hbM (Nat.le_refl _)).apart G10M hnoB hkB, Nat.zero_le _⟩
        have IRB : Hid (IsR WB R2 0 ar2 bs.length cr2 bs) := Lib.hid ((I2A.out.below hbM (Nat.le_refl _)).apart G10M hnoB hgR hkB)
        have G8B : Hid (WB.heap[g8]? = some (.cells #[.int .i64 0, .slice a9 m9 c9, .int .i64 0] 83 (0, 0))) := Lib.hid ((hkB _ hne810).trans G8M)
        have G10B : Hid (WB.heap[g10]? = some (.cells #[.int .i64 0, .slice none 0 0, .int .i64 0] 83 (0, 0))) := Lib.hid (by rw [hWB]; exact heap_setCell_same _ _ _ _ _ _ G10M)
        have D9B : Hid (Rd WB a9 m9 c9 []) := Lib.hid ((D9A.out.below hbM (Nat.le_refl _)).apart G10M hnoB hkB)
        have BWB : Hid (Below w.heap.size w WB) := Lib.hid (by rw [hWB]; exact (BWA.out.trans (hbM.mono BWA.out.size)).setCell (p := ⟨g10, 1, none⟩) (by show w.heap.size ≤ g10; exact hg10w) _)
        have cM1 : WM.cell? ⟨g10, 1, none⟩ = some (.slice aX mX cX) := by rw [cell_of_row _ _ _ _ _ _ G10M]; rfl
        have fM1 := frozen_of_row WM g10 1 _ _ G10M
        have hMge2 : w.heap.size ≤ WA.heap.size := BWA.out.size
        have HWM := Lib.hid hWM
        have HWB := Lib.hid hWB
        rw [← hX] at IRB
        clear hWM hWB hMM hbM G10M G8M hkB hnoB hMB D9A DXA G8A G10 I2A IRA IMA BWA HX hX
        go_upto_region 17 with fail
        rw [← HWM.out]
        obtain ⟨M2, hM2⟩ : ∃ m, m = WA.heap.size := ⟨_, rfl⟩
        rw [← hM2] at IMB hMge2 ⊢
        clear hM2 HWM x2 y2 y1 ca
        go_upto_region 18 with fail
        rw [← HWB.out]
        clear HWB cM1 fM1
        have x0 : WB.cell? ⟨g8, 0, none⟩ = some (.int .i64 0) := by rw [cell_of_row _ _ _ _ _ _ G8B.out]; rfl
        have x1 : WB.cell? ⟨g8, 1, none⟩ = some (.slice a9 m9 c9) := by rw [cell_of_row _ _ _ _ _ _ G8B.out]; rfl
        have x2 : WB.cell? ⟨g8, 2, none⟩ = some (.int .i64 0) := by rw [cell_of_row _ _ _ _ _ _ G8B.out]; rfl
        have y0 : WB.cell? ⟨g10, 0, none⟩ = some (.int .i64 0) := by rw [cell_of_row _ _ _ _ _ _ G10B.out]; rfl
        have y1 : WB.cell? ⟨g10, 1, none⟩ = some (.slice none 0 0) := by rw [cell_of_row _ _ _ _ _ _ G10B.out]; rfl
        have y2 : WB.cell? ⟨g10, 2, none⟩ = some (.int .i64 0) := by rw [cell_of_row _ _ _ _ _ _ G10B.out]; rfl
        have z0 := IMB.out.c0
        have z1 := IMB.out.c1
        have DN : Hid (Rd WB none 0 0 []) := Lib.hid ⟨rfl, Nat.le_refl _, Nat.zero_le _, by simp, fun _ => rfl, by simp⟩
        have KC : Hid (∀ u, Below WB.heap.size WB u → ∀ x v, WB.cell? x = some v → u.cell? x = some v) := Lib.hid (fun u hu x v h => (hu.cell (p := x) (World.block_lt_of_cell? WB _ h)).trans h)
        have hleft : ((mX : Int) - (0 : Int) != (mX : Int) - (0 : Int)) = false := by simp
        have hpp : ((0 : Int) != (0 : Int)) = false := by simp
        have hwr : IntKind.i64.wrap ((mX : Int) - (0 : Int)) = (mX : Int) - (0 : Int) := IntWalk.i64_in _ (by omega)
        have hwr2 : IntKind.i64.wrap (mX : Int) = (mX : Int) := IntWalk.i64_in _ (by omega)
        refine wp_region_held_drew (S := Below WB.heap.size WB) (by kernel_rfl) (Below.refl _ _).drew (fun _ => ?_)
        have HS0 : Hid (Below WB.heap.size WB WB.drew) := Lib.hid (Below.refl _ _).drew
        refine wpAnyH_take (i := 0) (v := .pointer (some ⟨g8, 0, none⟩)) rfl (by kernel_rfl) (by kernel_rfl) (by kernel_rfl) (fun _ _ _ h => h) (Or.inl ⟨by rfl, ?_⟩) HS0.out ?_
        · intro u hu; go_simp
        go_simp
        refine wpAnyH_take (i := 1) (v := .int .i64 0) rfl (by kernel_rfl) (by kernel_rfl) (by kernel_rfl) (fun _ _ _ h => h) (Or.inl ⟨by rfl, ?_⟩) HS0.out ?_
        · intro u hu; have := KC.out u hu _ _ x0; go_simp
        go_simp
        refine wpAnyH_take (i := 2) (v := .pointer (some ⟨g10, 0, none⟩)) rfl (by kernel_rfl) (by kernel_rfl) (by kernel_rfl) (fun _ _ _ h => h) (Or.inl ⟨by rfl, ?_⟩) HS0.out ?_
        · intro u hu; go_simp
        go_simp
        refine wpAnyH_take (i := 3) (v := .int .i64 0) rfl (by kernel_rfl) (by kernel_rfl) (by kernel_rfl) (fun _ _ _ h => h) (Or.inl ⟨by rfl, ?_⟩) HS0.out ?_
        · intro u hu; have := KC.out u hu _ _ y0; go_simp
        go_simp
        refine wpAnyH_take (i := 4) (v := .bool false) rfl (by kernel_rfl) (by kernel_rfl) (by kernel_rfl) (fun _ _ _ h => h) (Or.inl ⟨by rfl, ?_⟩) HS0.out ?_
        · intro u hu; go_simp
        go_simp
        refine wpAnyH_take (i := 5) (v := .bool false) rfl (by kernel_rfl) (by kernel_rfl) (by kernel_rfl) (fun _ _ _ h => h) (Or.inl ⟨by rfl, ?_⟩) HS0.out ?_
        · intro u hu; go_simp
        go_simp
        refine wpAnyH_take (i := 6) (v := .pointer (some ⟨g8, 2, none⟩)) rfl (by kernel_rfl) (by kernel_rfl) (by kernel_rfl) (fun _ _ _ h => h) (Or.inl ⟨by rfl, ?_⟩) HS0.out ?_
        · intro u hu; go_simp
        go_simp
        refine wpAnyH_take (i := 7) (v := .int .i64 0) rfl (by kernel_rfl) (by kernel_rfl) (by kernel_rfl) (fun _ _ _ h => h) (Or.inl ⟨by rfl, ?_⟩) HS0.out ?_
        · intro u hu; have := KC.out u hu _ _ x2; go_simp
        go_simp
        refine wpAnyH_take (i := 8) (v := .pointer (some ⟨g10, 2, none⟩)) rfl (by kernel_rfl) (by kernel_rfl) (by kernel_rfl) (fun _ _ _ h => h) (Or.inl ⟨by rfl, ?_⟩) HS0.out ?_
        · intro u hu; go_simp
        go_simp
        refine wpAnyH_take (i := 9) (v := .int .i64 0) rfl (by kernel_rfl) (by kernel_rfl) (by kernel_rfl) (fun _ _ _ h => h) (Or.inl ⟨by rfl, ?_⟩) HS0.out ?_
        · intro u hu; have := KC.out u hu _ _ y2; go_simp
        go_simp
        refine wpAnyH_take (i := 10) (v := .bool false) rfl (by kernel_rfl) (by kernel_rfl) (by kernel_rfl) (fun _ _ _ h => h) (Or.inl ⟨by rfl, ?_⟩) HS0.out ?_
        · intro u hu; go_simp
        go_simp
        refine wpAnyH_take (i := 11) (v := .bool false) rfl (by kernel_rfl) (by kernel_rfl) (by kernel_rfl) (fun _ _ _ h => h) (Or.inl ⟨by rfl, ?_⟩) HS0.out ?_
        · intro u hu; go_simp
        go_simp
        refine wpAnyH_take (i := 12) (v := .bool false) rfl (by kernel_rfl) (by kernel_rfl) (by kernel_rfl) (fun _ _ _ h => h) (Or.inl ⟨by rfl, ?_⟩) HS0.out ?_
        · intro u hu; go_simp
        go_simp
        refine wpAnyH_take (i := 13) (v := .pointer (some ⟨g8, 1, none⟩)) rfl (by kernel_rfl) (by kernel_rfl) (by kernel_rfl) (fun _ _ _ h => h) (Or.inl ⟨by rfl, ?_⟩) HS0.out ?_
        · intro u hu; go_simp
        go_simp
        refine wpAnyH_take (i := 14) (v := .slice a9 m9 c9) rfl (by kernel_rfl) (by kernel_rfl) (by kernel_rfl) (fun _ _ _ h => h) (Or.inl ⟨by rfl, ?_⟩) HS0.out ?_
        · intro u hu; have := KC.out u hu _ _ x1; go_simp
        go_simp
        refine wpAnyH_take (i := 15) (v := .pointer (some ⟨g10, 1, none⟩)) rfl (by kernel_rfl) (by kernel_rfl) (by kernel_rfl) (fun _ _ _ h => h) (Or.inl ⟨by rfl, ?_⟩) HS0.out ?_
        · intro u hu; go_simp
        go_simp
        refine wpAnyH_take (i := 16) (v := .slice none 0 0) rfl (by kernel_rfl) (by kernel_rfl) (by kernel_rfl) (fun _ _ _ h => h) (Or.inl ⟨by rfl, ?_⟩) HS0.out ?_
        · intro u hu; have := KC.out u hu _ _ y1; go_simp
        go_simp
        refine wpAnyH_ready (rs := [17]) (by kernel_rfl) (by simp) ?_
        refine AllReadyH.cons rfl (fun K hK => ?_) AllReadyH.nil
        go_simp
        refine (sameBytes_any _ _ _ [] _ _ _ [] _ (D9B.out.below HS0.out (Nat.le_refl _)) (DN.out.below HS0.out (Nat.le_refl _))).mono ?_
        rintro e u ⟨rfl, rfl⟩
        rw [decide_eq_true (rfl : ([] : List Int) = [])]
        refine hK.out _ _ HS0.out (fun _ => ?_)
        clear hK K
        refine wpAnyH_take (i := 18) (v := .bool false) rfl (by kernel_rfl) (by kernel_rfl) (by kernel_rfl) (fun _ _ _ h => h) (Or.inl ⟨by rfl, ?_⟩) HS0.out ?_
        · intro u hu; go_simp
        go_simp
        refine wpAnyH_take (i := 19) (v := .bool false) rfl (by kernel_rfl) (by kernel_rfl) (by kernel_rfl) (fun _ _ _ h => h) (Or.inl ⟨by rfl, ?_⟩) HS0.out ?_
        · intro u hu; go_simp
        go_simp
        refine wpAnyH_take (i := 20) (v := .bool false) rfl (by kernel_rfl) (by kernel_rfl) (by kernel_rfl) (fun _ _ _ h => h) (Or.inl ⟨by rfl, ?_⟩) HS0.out ?_
        · intro u hu; go_simp
        go_simp
        refine wpAnyH_take (i := 21) (v := .pointer (some ⟨R2, 0, none⟩)) rfl (by kernel_rfl) (by kernel_rfl) (by kernel_rfl) (fun _ _ _ h => h) (Or.inl ⟨by rfl, ?_⟩) HS0.out ?_
        · intro u hu; go_simp
        go_simp
        refine wpAnyH_take (i := 23) (v := .pointer (some ⟨M2, 0, none⟩)) rfl (by kernel_rfl) (by kernel_rfl) (by kernel_rfl) (fun _ _ _ h => h) (Or.inl ⟨by rfl, ?_⟩) HS0.out ?_
        · intro u hu; go_simp
        go_simp
        refine wpAnyH_take (i := 24) (v := .pointer (some ⟨M2, 0, none⟩)) rfl (by kernel_rfl) (by kernel_rfl) (by kernel_rfl) (fun _ _ _ h => h) (Or.inl ⟨by rfl, ?_⟩) HS0.out ?_
        · intro u hu; go_simp
        go_simp
        refine wpAnyH_take (i := 25) (v := .pointer (some ⟨M2, 1, none⟩)) rfl (by kernel_rfl) (by kernel_rfl) (by kernel_rfl) (fun _ _ _ h => h) (Or.inl ⟨by rfl, ?_⟩) HS0.out ?_
        · intro u hu; go_simp
        go_simp
        refine wpAnyH_take (i := 26) (v := .int .i64 0) rfl (by kernel_rfl) (by kernel_rfl) (by kernel_rfl) (fun _ _ _ h => h) (Or.inl ⟨by rfl, ?_⟩) HS0.out ?_
        · intro u hu; have := KC.out u hu _ _ z1; go_simp
        go_simp
        refine wpAnyH_ready (rs := [22]) (by kernel_rfl) (by simp) ?_
        refine AllReadyH.cons rfl (fun K hK => ?_) AllReadyH.nil
        go_simp
        refine (at_any (IRB.out.below HS0.out (Nat.le_refl _))).mono ?_
        rintro e u ⟨rfl, rfl⟩
        refine hK.out _ _ HS0.out (fun _ => ?_)
        clear hK K
        refine wpAnyH_take (i := 27) (v := .bool false) rfl (by kernel_rfl) (by kernel_rfl) (by kernel_rfl) (fun _ _ _ h => h) (Or.inl ⟨by rfl, ?_⟩) HS0.out ?_
        · intro u hu; go_simp
        go_simp
        refine wpAnyH_take (i := 28) (v := .bool false) rfl (by kernel_rfl) (by kernel_rfl) (by kernel_rfl) (fun _ _ _ h => h) (Or.inl ⟨by rfl, ?_⟩) HS0.out ?_
        · intro u hu; go_simp
        go_simp
        refine wpAnyH_take (i := 29) (v := .bool false) rfl (by kernel_rfl) (by kernel_rfl) (by kernel_rfl) (fun _ _ _ h => h) (Or.inl ⟨by rfl, ?_⟩) HS0.out ?_
        · intro u hu; go_simp
        go_simp
        refine wpAnyH_take (i := 30) (v := .pointer (some ⟨R2, 0, none⟩)) rfl (by kernel_rfl) (by kernel_rfl) (by kernel_rfl) (fun _ _ _ h => h) (Or.inl ⟨by rfl, ?_⟩) HS0.out ?_
        · intro u hu; go_simp
        go_simp
        refine wpAnyH_take (i := 32) (v := .pointer (some ⟨M2, 0, none⟩)) rfl (by kernel_rfl) (by kernel_rfl) (by kernel_rfl) (fun _ _ _ h => h) (Or.inl ⟨by rfl, ?_⟩) HS0.out ?_
        · intro u hu; go_simp
        go_simp
        refine wpAnyH_take (i := 33) (v := .pointer (some ⟨M2, 0, none⟩)) rfl (by kernel_rfl) (by kernel_rfl) (by kernel_rfl) (fun _ _ _ h => h) (Or.inl ⟨by rfl, ?_⟩) HS0.out ?_
        · intro u hu; go_simp
        go_simp
        refine wpAnyH_take (i := 34) (v := .pointer (some ⟨M2, 0, none⟩)) rfl (by kernel_rfl) (by kernel_rfl) (by kernel_rfl) (fun _ _ _ h => h) (Or.inl ⟨by rfl, ?_⟩) HS0.out ?_
        · intro u hu; go_simp
        go_simp
        refine wpAnyH_take (i := 35) (v := .slice aX mX cX) rfl (by kernel_rfl) (by kernel_rfl) (by kernel_rfl) (fun _ _ _ h => h) (Or.inl ⟨by rfl, ?_⟩) HS0.out ?_
        · intro u hu; have := KC.out u hu _ _ z0; go_simp
        go_simp
        refine wpAnyH_take (i := 36) (v := .int .i64 mX) rfl (by kernel_rfl) (by kernel_rfl) (by kernel_rfl) (fun _ _ _ h => h) (Or.inl ⟨by rfl, ?_⟩) HS0.out ?_
        · intro u hu; go_simp
        go_simp
        refine wpAnyH_take (i := 37) (v := .pointer (some ⟨M2, 0, none⟩)) rfl (by kernel_rfl) (by kernel_rfl) (by kernel_rfl) (fun _ _ _ h => h) (Or.inl ⟨by rfl, ?_⟩) HS0.out ?_
        · intro u hu; go_simp
        go_simp
        refine wpAnyH_take (i := 38) (v := .pointer (some ⟨M2, 0, none⟩)) rfl (by kernel_rfl) (by kernel_rfl) (by kernel_rfl) (fun _ _ _ h => h) (Or.inl ⟨by rfl, ?_⟩) HS0.out ?_
        · intro u hu; go_simp
        go_simp
        refine wpAnyH_take (i := 39) (v := .pointer (some ⟨M2, 1, none⟩)) rfl (by kernel_rfl) (by kernel_rfl) (by kernel_rfl) (fun _ _ _ h => h) (Or.inl ⟨by rfl, ?_⟩) HS0.out ?_
        · intro u hu; go_simp
        go_simp
        refine wpAnyH_take (i := 40) (v := .int .i64 0) rfl (by kernel_rfl) (by kernel_rfl) (by kernel_rfl) (fun _ _ _ h => h) (Or.inl ⟨by rfl, ?_⟩) HS0.out ?_
        · intro u hu; have := KC.out u hu _ _ z1; go_simp
        go_simp
        refine wpAnyH_take (i := 41) (v := .int .i64 ((mX : Int) - (0 : Int))) rfl (by kernel_rfl) (by kernel_rfl) (by kernel_rfl) (fun _ _ _ h => h) (Or.inl ⟨by rfl, ?_⟩) HS0.out ?_
        · intro u hu; go_simp
        go_simp
        refine wpAnyH_ready (rs := [31]) (by kernel_rfl) (by simp) ?_
        refine AllReadyH.cons rfl (fun K hK => ?_) AllReadyH.nil
        go_simp
        refine (left_any (IRB.out.below HS0.out (Nat.le_refl _))).mono ?_
        rintro e ul ⟨rfl, hul⟩
        have HS2 : Hid (Below WB.heap.size WB ul) := Lib.hid (by obtain ⟨m, rfl⟩ := hul; exact HS0.out.trans ⟨rfl, rfl, rfl, Nat.le_refl _, fun _ _ => rfl⟩)
        clear HS0 hul
        have HS0 := HS2
        clear HS2
        refine hK.out _ _ HS0.out (fun _ => ?_)
        clear hK K
        refine wpAnyH_take (i := 42) (v := .bool false) rfl (by kernel_rfl) (by kernel_rfl) (by kernel_rfl) (fun _ _ _ h => h) (Or.inl ⟨by rfl, ?_⟩) HS0.out ?_
        · intro u hu; go_simp
        go_simp
        refine wpAnyH_ready (rs := [43]) (by kernel_rfl) (by simp) ?_
        refine AllReadyH.cons rfl (fun K hK => ?_) AllReadyH.nil
        go_simp
        refine hK.out _ _ HS0.out (fun _ => ?_)
        clear hK K
        refine wpAnyH_done (by kernel_rfl) ?_ _
        have IRE := Lib.hid (IRB.out.below HS0.out (Nat.le_refl _))
        have IME := Lib.hid (IMB.out.below HS0.out (Nat.le_refl _))
        have BWE : Hid (Below w.heap.size w ul) := Lib.hid (BWB.out.trans (HS0.out.mono BWB.out.size))
        clear x0 x1 x2 y0 y1 y2 z0 z1 KC HS0 IRB IMB BWB
        go_wp2_with fail
        go_roundw
        case rel => exact ⟨k + 1, by omega, by go_num, R2, M2, 0, mX, ar2, cr2, aX, cX, bs, rfl, rfl, IRE.out, IME.out, (by omega), hR2ge, hMge2, BWE.out⟩
        case measure => simp [intOf]; omega
      · obtain ⟨a9', c9', e9, hrd9⟩ := ho9.rd
        simp only [Value.slice.injEq] at e9
        obtain ⟨rfl, rfl, rfl⟩ := e9
        obtain ⟨m9, hm9e⟩ : ∃ m, m = (bs : List Int).length := ⟨_, rfl⟩
        rw [← hm9e] at hrd9 ⊢
        obtain ⟨Wz, e1, hz, g8, W8, e2, e3, hg8, b8, hgl8⟩ := freshT w1 #[.int .i64 n, .slice a9 m9 c9, .int .i64 er]
        have hs1 : wr.heap.size ≤ w1.heap.size := hm9.grown.size
        have IR8 := Lib.hid (hm9.isR.below b8 (by omega))
        have IM8 := Lib.hid ((IsM.other IM.out hm9 hRM.symm).below b8 (by omega))
        have BW8 : Hid (Below w.heap.size w W8) := Lib.hid ((BW.out.trans (below_moved IR.out hm9 hRge)).trans (b8.mono (by have := BW.out.size; omega)))
        have D9 := Lib.hid (hrd9.below b8 (by omega))
        have hg8w : wr.heap.size ≤ g8 := by omega
        have He1 := Lib.hid e1
        have He2 := Lib.hid e2
        have He3 := Lib.hid e3
        have Hz := Lib.hid hz
        have G8 := Lib.hid hg8
        clear e1 e2 e3 hz hg8 b8 ho9 hm9 hrd9 hm9e IR IM BW
        go_upto_region 11 with (rw [He1.out]; refine wpList_store_row rfl 83 (.tmp 8) (.tmp 56) rfl w1.heap.size #[.int .i64 n, .slice a9 m9 c9, .int .i64 er] rfl rfl 83 #[.int .i64 0, .slice none 0 0, .int .i64 0] Hz.out (Try.sizeTold _ _ _) rfl (oneTold _ _ _ _ _) ?_)
        rw [He3.out, He2.out]
        clear He1 He2 He3 Hz
        have ca := BW8.out.cell (p := ⟨b1, o1 + k * 2, none⟩) (World.block_lt_of_cell? w _ HC1.out.1)
        have cb := BW8.out.cell (p := ⟨b1, o1 + k * 2 + 1, none⟩) (World.block_lt_of_cell? w _ HC1.out.2)
        rw [HC1.out.1] at ca
        rw [HC1.out.2] at cb
        go_wp2_with fail
        refine (HM.out W8 M am cm IM8.out).mono ?_
        intro e w2 hp
        unfold ToldM at hp
        obtain ⟨aX, lX, cX, rfl, hoX, hmX⟩ := hp
        obtain ⟨aX', cX', eX, hrdX⟩ := hoX.rd
        simp only [Value.slice.injEq] at eX
        obtain ⟨rfl, rfl, rfl⟩ := eX
        obtain ⟨mX, hmXe⟩ : ∃ m, m = bs.length := ⟨_, rfl⟩
        rw [← hmXe] at hrdX ⊢
        obtain ⟨Wz, e1, hz, g10, WA, e2, e3, hg10, bA, hglA⟩ := freshT w2 #[.int .i64 n, .slice aX mX cX, .int .i64 er]
        have hs2 : W8.heap.size ≤ w2.heap.size := hmX.grown.size
        have hM8 := IM8.out.lt
        have IRA := Lib.hid ((IsR.otherM IR8.out hmX hRM).below bA (by omega))
        have IMA := Lib.hid (hmX.isM.below bA (by omega))
        have BWA : Hid (Below w.heap.size w WA) := Lib.hid ((BW8.out.trans (below_movedM IM8.out hmX hMge')).trans (bA.mono (by have := BW8.out.size; omega)))
        have D9A := Lib.hid ((hmX.keeps _ _ _ _ D9.out).below bA (by omega))
        have DXA := Lib.hid (hrdX.below bA (by omega))
        have hg8M : g8 ≠ M := by rintro rfl; have := IM8.out.blk.symm.trans G8.out; simp at this
        have G8A := Lib.hid (blk_below (grown_blk' hmX.grown G8.out hg8M) bA (by omega))
        have He1 := Lib.hid e1
        have He2 := Lib.hid e2
        have He3 := Lib.hid e3
        have Hz := Lib.hid hz
        have G10 := Lib.hid hg10
        have hne810 : g8 ≠ g10 := by omega
        have hg8A : g8 < WA.heap.size := by have := bA.size; omega
        have hg10w : w.heap.size ≤ g10 := by have := BW8.out.size; omega
        have HX := Lib.hid hmXe
        clear e1 e2 e3 hz hg10 bA hoX hmX hrdX hmXe IR8 IM8 BW8 D9 G8 ca cb HM
        go_upto_region 12 with (rw [He1.out]; refine wpList_store_row rfl 83 (.tmp 10) (.tmp 63) rfl w2.heap.size #[.int .i64 n, .slice aX mX cX, .int .i64 er] rfl rfl 83 #[.int .i64 0, .slice none 0 0, .int .i64 0] Hz.out (Try.sizeTold _ _ _) rfl (oneTold _ _ _ _ _) ?_)
        rw [He3.out, He2.out]
        clear He1 He2 He3 Hz
        have ca := BWA.out.cell (p := ⟨b1, o1 + k * 2, none⟩) (World.block_lt_of_cell? w _ HC1.out.1)
        rw [HC1.out.1] at ca
        have x2 : WA.cell? ⟨g8, 2, none⟩ = some (.int .i64 er) := by rw [cell_of_row _ _ _ _ _ _ G8A.out]; rfl
        have y2 : WA.cell? ⟨g10, 2, none⟩ = some (.int .i64 er) := by rw [cell_of_row _ _ _ _ _ _ G10.out]; rfl
        have y1 : WA.cell? ⟨g10, 1, none⟩ = some (.slice aX mX cX) := by rw [cell_of_row _ _ _ _ _ _ G10.out]; rfl
        have x0 : WA.cell? ⟨g8, 0, none⟩ = some (.int .i64 n) := by rw [cell_of_row _ _ _ _ _ _ G8A.out]; rfl
        have x1 : WA.cell? ⟨g8, 1, none⟩ = some (.slice a9 m9 c9) := by rw [cell_of_row _ _ _ _ _ _ G8A.out]; rfl
        have y0 : WA.cell? ⟨g10, 0, none⟩ = some (.int .i64 n) := by rw [cell_of_row _ _ _ _ _ _ G10.out]; rfl
        have z0 := IMA.out.c0
        have z1 := IMA.out.c1
        have hnn : (n != n) = false := by simp
        have hee : (er != er) = false := by simp
        have hql := IMA.out.hp
        clear HX
        by_cases h6 : kd = 6
        · have h6b : (kd == 6) = true := by simp [h6]
          have hee0 : (er == 0) = false := by simp; intro h; exact hnot ⟨h6, h⟩
          have KC : Hid (∀ u, Below WA.heap.size WA u → ∀ x v, WA.cell? x = some v → u.cell? x = some v) := Lib.hid (fun u hu x v h => (hu.cell (p := x) (World.block_lt_of_cell? WA _ h)).trans h)
          have hleft : ((len : Int) - (q : Int) != (len : Int) - (q : Int)) = false := by simp
          have hpp : ((q : Int) != (q : Int)) = false := by simp
          have hwr : IntKind.i64.wrap ((len : Int) - (q : Int)) = (len : Int) - (q : Int) := IntWalk.i64_in _ (by omega)
          have hwr2 : IntKind.i64.wrap (len : Int) = (len : Int) := IntWalk.i64_in _ (by omega)
          go_upto_region 18 with fail
          refine wp_region_held_drew (S := Below WA.heap.size WA) (by kernel_rfl) (Below.refl _ _).drew (fun _ => ?_)
          have HS0 : Hid (Below WA.heap.size WA WA.drew) := Lib.hid (Below.refl _ _).drew
          refine wpAnyH_take (i := 0) (v := .pointer (some ⟨g8, 0, none⟩)) rfl (by kernel_rfl) (by kernel_rfl) (by kernel_rfl) (fun _ _ _ h => h) (Or.inl ⟨by rfl, ?_⟩) HS0.out ?_
          · intro u hu; go_simp
          go_simp
          refine wpAnyH_take (i := 1) (v := .int .i64 n) rfl (by kernel_rfl) (by kernel_rfl) (by kernel_rfl) (fun _ _ _ h => h) (Or.inl ⟨by rfl, ?_⟩) HS0.out ?_
          · intro u hu; have := KC.out u hu _ _ x0; go_simp
          go_simp
          refine wpAnyH_take (i := 2) (v := .pointer (some ⟨g10, 0, none⟩)) rfl (by kernel_rfl) (by kernel_rfl) (by kernel_rfl) (fun _ _ _ h => h) (Or.inl ⟨by rfl, ?_⟩) HS0.out ?_
          · intro u hu; go_simp
          go_simp
          refine wpAnyH_take (i := 3) (v := .int .i64 n) rfl (by kernel_rfl) (by kernel_rfl) (by kernel_rfl) (fun _ _ _ h => h) (Or.inl ⟨by rfl, ?_⟩) HS0.out ?_
          · intro u hu; have := KC.out u hu _ _ y0; go_simp
          go_simp
          refine wpAnyH_take (i := 4) (v := .bool false) rfl (by kernel_rfl) (by kernel_rfl) (by kernel_rfl) (fun _ _ _ h => h) (Or.inl ⟨by rfl, ?_⟩) HS0.out ?_
          · intro u hu; go_simp
          go_simp
          refine wpAnyH_take (i := 5) (v := .bool false) rfl (by kernel_rfl) (by kernel_rfl) (by kernel_rfl) (fun _ _ _ h => h) (Or.inl ⟨by rfl, ?_⟩) HS0.out ?_
          · intro u hu; go_simp
          go_simp
          refine wpAnyH_take (i := 6) (v := .pointer (some ⟨g8, 2, none⟩)) rfl (by kernel_rfl) (by kernel_rfl) (by kernel_rfl) (fun _ _ _ h => h) (Or.inl ⟨by rfl, ?_⟩) HS0.out ?_
          · intro u hu; go_simp
          go_simp
          refine wpAnyH_take (i := 7) (v := .int .i64 er) rfl (by kernel_rfl) (by kernel_rfl) (by kernel_rfl) (fun _ _ _ h => h) (Or.inl ⟨by rfl, ?_⟩) HS0.out ?_
          · intro u hu; have := KC.out u hu _ _ x2; go_simp
          go_simp
          refine wpAnyH_take (i := 8) (v := .pointer (some ⟨g10, 2, none⟩)) rfl (by kernel_rfl) (by kernel_rfl) (by kernel_rfl) (fun _ _ _ h => h) (Or.inl ⟨by rfl, ?_⟩) HS0.out ?_
          · intro u hu; go_simp
          go_simp
          refine wpAnyH_take (i := 9) (v := .int .i64 er) rfl (by kernel_rfl) (by kernel_rfl) (by kernel_rfl) (fun _ _ _ h => h) (Or.inl ⟨by rfl, ?_⟩) HS0.out ?_
          · intro u hu; have := KC.out u hu _ _ y2; go_simp
          go_simp
          refine wpAnyH_take (i := 10) (v := .bool false) rfl (by kernel_rfl) (by kernel_rfl) (by kernel_rfl) (fun _ _ _ h => h) (Or.inl ⟨by rfl, ?_⟩) HS0.out ?_
          · intro u hu; go_simp
          go_simp
          refine wpAnyH_take (i := 11) (v := .bool false) rfl (by kernel_rfl) (by kernel_rfl) (by kernel_rfl) (fun _ _ _ h => h) (Or.inl ⟨by rfl, ?_⟩) HS0.out ?_
          · intro u hu; go_simp
          go_simp
          refine wpAnyH_take (i := 12) (v := .bool false) rfl (by kernel_rfl) (by kernel_rfl) (by kernel_rfl) (fun _ _ _ h => h) (Or.inl ⟨by rfl, ?_⟩) HS0.out ?_
          · intro u hu; go_simp
          go_simp
          refine wpAnyH_take (i := 13) (v := .pointer (some ⟨g8, 1, none⟩)) rfl (by kernel_rfl) (by kernel_rfl) (by kernel_rfl) (fun _ _ _ h => h) (Or.inl ⟨by rfl, ?_⟩) HS0.out ?_
          · intro u hu; go_simp
          go_simp
          refine wpAnyH_take (i := 14) (v := .slice a9 m9 c9) rfl (by kernel_rfl) (by kernel_rfl) (by kernel_rfl) (fun _ _ _ h => h) (Or.inl ⟨by rfl, ?_⟩) HS0.out ?_
          · intro u hu; have := KC.out u hu _ _ x1; go_simp
          go_simp
          refine wpAnyH_take (i := 15) (v := .pointer (some ⟨g10, 1, none⟩)) rfl (by kernel_rfl) (by kernel_rfl) (by kernel_rfl) (fun _ _ _ h => h) (Or.inl ⟨by rfl, ?_⟩) HS0.out ?_
          · intro u hu; go_simp
          go_simp
          refine wpAnyH_take (i := 16) (v := .slice aX mX cX) rfl (by kernel_rfl) (by kernel_rfl) (by kernel_rfl) (fun _ _ _ h => h) (Or.inl ⟨by rfl, ?_⟩) HS0.out ?_
          · intro u hu; have := KC.out u hu _ _ y1; go_simp
          go_simp
          refine wpAnyH_ready (rs := [17]) (by kernel_rfl) (by simp) ?_
          refine AllReadyH.cons rfl (fun K hK => ?_) AllReadyH.nil
          go_simp
          refine (sameBytes_any _ _ _ bs _ _ _ bs _ (D9A.out.below HS0.out (Nat.le_refl _)) (DXA.out.below HS0.out (Nat.le_refl _))).mono ?_
          rintro e u ⟨rfl, rfl⟩
          rw [decide_eq_true (rfl : (bs : List Int) = bs)]
          refine hK.out _ _ HS0.out (fun _ => ?_)
          clear hK K
          refine wpAnyH_take (i := 18) (v := .bool false) rfl (by kernel_rfl) (by kernel_rfl) (by kernel_rfl) (fun _ _ _ h => h) (Or.inl ⟨by rfl, ?_⟩) HS0.out ?_
          · intro u hu; go_simp
          go_simp
          refine wpAnyH_take (i := 19) (v := .bool false) rfl (by kernel_rfl) (by kernel_rfl) (by kernel_rfl) (fun _ _ _ h => h) (Or.inl ⟨by rfl, ?_⟩) HS0.out ?_
          · intro u hu; go_simp
          go_simp
          refine wpAnyH_take (i := 20) (v := .bool false) rfl (by kernel_rfl) (by kernel_rfl) (by kernel_rfl) (fun _ _ _ h => h) (Or.inl ⟨by rfl, ?_⟩) HS0.out ?_
          · intro u hu; go_simp
          go_simp
          refine wpAnyH_take (i := 21) (v := .pointer (some ⟨R, 0, none⟩)) rfl (by kernel_rfl) (by kernel_rfl) (by kernel_rfl) (fun _ _ _ h => h) (Or.inl ⟨by rfl, ?_⟩) HS0.out ?_
          · intro u hu; go_simp
          go_simp
          refine wpAnyH_take (i := 23) (v := .pointer (some ⟨M, 0, none⟩)) rfl (by kernel_rfl) (by kernel_rfl) (by kernel_rfl) (fun _ _ _ h => h) (Or.inl ⟨by rfl, ?_⟩) HS0.out ?_
          · intro u hu; go_simp
          go_simp
          refine wpAnyH_take (i := 24) (v := .pointer (some ⟨M, 0, none⟩)) rfl (by kernel_rfl) (by kernel_rfl) (by kernel_rfl) (fun _ _ _ h => h) (Or.inl ⟨by rfl, ?_⟩) HS0.out ?_
          · intro u hu; go_simp
          go_simp
          refine wpAnyH_take (i := 25) (v := .pointer (some ⟨M, 1, none⟩)) rfl (by kernel_rfl) (by kernel_rfl) (by kernel_rfl) (fun _ _ _ h => h) (Or.inl ⟨by rfl, ?_⟩) HS0.out ?_
          · intro u hu; go_simp
          go_simp
          refine wpAnyH_take (i := 26) (v := .int .i64 q) rfl (by kernel_rfl) (by kernel_rfl) (by kernel_rfl) (fun _ _ _ h => h) (Or.inl ⟨by rfl, ?_⟩) HS0.out ?_
          · intro u hu; have := KC.out u hu _ _ z1; go_simp
          go_simp
          refine wpAnyH_ready (rs := [22]) (by kernel_rfl) (by simp) ?_
          refine AllReadyH.cons rfl (fun K hK => ?_) AllReadyH.nil
          go_simp
          refine (at_any (IRA.out.below HS0.out (Nat.le_refl _))).mono ?_
          rintro e u ⟨rfl, rfl⟩
          refine hK.out _ _ HS0.out (fun _ => ?_)
          clear hK K
          refine wpAnyH_take (i := 27) (v := .bool false) rfl (by kernel_rfl) (by kernel_rfl) (by kernel_rfl) (fun _ _ _ h => h) (Or.inl ⟨by rfl, ?_⟩) HS0.out ?_
          · intro u hu; go_simp
          go_simp
          refine wpAnyH_take (i := 28) (v := .bool false) rfl (by kernel_rfl) (by kernel_rfl) (by kernel_rfl) (fun _ _ _ h => h) (Or.inl ⟨by rfl, ?_⟩) HS0.out ?_
          · intro u hu; go_simp
          go_simp
          refine wpAnyH_take (i := 29) (v := .bool false) rfl (by kernel_rfl) (by kernel_rfl) (by kernel_rfl) (fun _ _ _ h => h) (Or.inl ⟨by rfl, ?_⟩) HS0.out ?_
          · intro u hu; go_simp
          go_simp
          refine wpAnyH_take (i := 30) (v := .pointer (some ⟨R, 0, none⟩)) rfl (by kernel_rfl) (by kernel_rfl) (by kernel_rfl) (fun _ _ _ h => h) (Or.inl ⟨by rfl, ?_⟩) HS0.out ?_
          · intro u hu; go_simp
          go_simp
          refine wpAnyH_take (i := 32) (v := .pointer (some ⟨M, 0, none⟩)) rfl (by kernel_rfl) (by kernel_rfl) (by kernel_rfl) (fun _ _ _ h => h) (Or.inl ⟨by rfl, ?_⟩) HS0.out ?_
          · intro u hu; go_simp
          go_simp
          refine wpAnyH_take (i := 33) (v := .pointer (some ⟨M, 0, none⟩)) rfl (by kernel_rfl) (by kernel_rfl) (by kernel_rfl) (fun _ _ _ h => h) (Or.inl ⟨by rfl, ?_⟩) HS0.out ?_
          · intro u hu; go_simp
          go_simp
          refine wpAnyH_take (i := 34) (v := .pointer (some ⟨M, 0, none⟩)) rfl (by kernel_rfl) (by kernel_rfl) (by kernel_rfl) (fun _ _ _ h => h) (Or.inl ⟨by rfl, ?_⟩) HS0.out ?_
          · intro u hu; go_simp
          go_simp
          refine wpAnyH_take (i := 35) (v := .slice am len cm) rfl (by kernel_rfl) (by kernel_rfl) (by kernel_rfl) (fun _ _ _ h => h) (Or.inl ⟨by rfl, ?_⟩) HS0.out ?_
          · intro u hu; have := KC.out u hu _ _ z0; go_simp
          go_simp
          refine wpAnyH_take (i := 36) (v := .int .i64 len) rfl (by kernel_rfl) (by kernel_rfl) (by kernel_rfl) (fun _ _ _ h => h) (Or.inl ⟨by rfl, ?_⟩) HS0.out ?_
          · intro u hu; go_simp
          go_simp
          refine wpAnyH_take (i := 37) (v := .pointer (some ⟨M, 0, none⟩)) rfl (by kernel_rfl) (by kernel_rfl) (by kernel_rfl) (fun _ _ _ h => h) (Or.inl ⟨by rfl, ?_⟩) HS0.out ?_
          · intro u hu; go_simp
          go_simp
          refine wpAnyH_take (i := 38) (v := .pointer (some ⟨M, 0, none⟩)) rfl (by kernel_rfl) (by kernel_rfl) (by kernel_rfl) (fun _ _ _ h => h) (Or.inl ⟨by rfl, ?_⟩) HS0.out ?_
          · intro u hu; go_simp
          go_simp
          refine wpAnyH_take (i := 39) (v := .pointer (some ⟨M, 1, none⟩)) rfl (by kernel_rfl) (by kernel_rfl) (by kernel_rfl) (fun _ _ _ h => h) (Or.inl ⟨by rfl, ?_⟩) HS0.out ?_
          · intro u hu; go_simp
          go_simp
          refine wpAnyH_take (i := 40) (v := .int .i64 q) rfl (by kernel_rfl) (by kernel_rfl) (by kernel_rfl) (fun _ _ _ h => h) (Or.inl ⟨by rfl, ?_⟩) HS0.out ?_
          · intro u hu; have := KC.out u hu _ _ z1; go_simp
          go_simp
          refine wpAnyH_take (i := 41) (v := .int .i64 ((len : Int) - (q : Int))) rfl (by kernel_rfl) (by kernel_rfl) (by kernel_rfl) (fun _ _ _ h => h) (Or.inl ⟨by rfl, ?_⟩) HS0.out ?_
          · intro u hu; go_simp
          go_simp
          refine wpAnyH_ready (rs := [31]) (by kernel_rfl) (by simp) ?_
          refine AllReadyH.cons rfl (fun K hK => ?_) AllReadyH.nil
          go_simp
          refine (left_any (IRA.out.below HS0.out (Nat.le_refl _))).mono ?_
          rintro e ul ⟨rfl, hul⟩
          have HS2 : Hid (Below WA.heap.size WA ul) := Lib.hid (by obtain ⟨m, rfl⟩ := hul; exact HS0.out.trans ⟨rfl, rfl, rfl, Nat.le_refl _, fun _ _ => rfl⟩)
          clear HS0 hul
          have HS0 := HS2
          clear HS2
          refine hK.out _ _ HS0.out (fun _ => ?_)
          clear hK K
          refine wpAnyH_take (i := 42) (v := .bool false) rfl (by kernel_rfl) (by kernel_rfl) (by kernel_rfl) (fun _ _ _ h => h) (Or.inl ⟨by rfl, ?_⟩) HS0.out ?_
          · intro u hu; go_simp
          go_simp
          refine wpAnyH_ready (rs := [43]) (by kernel_rfl) (by simp) ?_
          refine AllReadyH.cons rfl (fun K hK => ?_) AllReadyH.nil
          go_simp
          refine hK.out _ _ HS0.out (fun _ => ?_)
          clear hK K
          refine wpAnyH_done (by kernel_rfl) ?_ _
          have IRE := Lib.hid (IRA.out.below HS0.out (Nat.le_refl _))
          have IME := Lib.hid (IMA.out.below HS0.out (Nat.le_refl _))
          have BWE : Hid (Below w.heap.size w ul) := Lib.hid (BWA.out.trans (HS0.out.mono BWA.out.size))
          clear x0 x1 x2 y0 y1 y2 z0 z1 KC HS0 IRA IMA BWA
          go_wp2_with fail
          go_roundw
          case rel => exact ⟨k + 1, by omega, by go_num, R, M, q, len, ar, cr, am, cm, xs, rfl, rfl, IRE.out, IME.out, hlen, hRge, hMge', BWE.out⟩
          case measure => simp [intOf]; omega
        · have h6b : (kd == 6) = false := by simp [h6]
          have KC : Hid (∀ u, Below WA.heap.size WA u → ∀ x v, WA.cell? x = some v → u.cell? x = some v) := Lib.hid (fun u hu x v h => (hu.cell (p := x) (World.block_lt_of_cell? WA _ h)).trans h)
          have hleft : ((len : Int) - (q : Int) != (len : Int) - (q : Int)) = false := by simp
          have hpp : ((q : Int) != (q : Int)) = false := by simp
          have hwr : IntKind.i64.wrap ((len : Int) - (q : Int)) = (len : Int) - (q : Int) := IntWalk.i64_in _ (by omega)
          have hwr2 : IntKind.i64.wrap (len : Int) = (len : Int) := IntWalk.i64_in _ (by omega)
          go_upto_region 18 with fail
          refine wp_region_held_drew (S := Below WA.heap.size WA) (by kernel_rfl) (Below.refl _ _).drew (fun _ => ?_)
          have HS0 : Hid (Below WA.heap.size WA WA.drew) := Lib.hid (Below.refl _ _).drew
          refine wpAnyH_take (i := 0) (v := .pointer (some ⟨g8, 0, none⟩)) rfl (by kernel_rfl) (by kernel_rfl) (by kernel_rfl) (fun _ _ _ h => h) (Or.inl ⟨by rfl, ?_⟩) HS0.out ?_
          · intro u hu; go_simp
          go_simp
          refine wpAnyH_take (i := 1) (v := .int .i64 n) rfl (by kernel_rfl) (by kernel_rfl) (by kernel_rfl) (fun _ _ _ h => h) (Or.inl ⟨by rfl, ?_⟩) HS0.out ?_
          · intro u hu; have := KC.out u hu _ _ x0; go_simp
          go_simp
          refine wpAnyH_take (i := 2) (v := .pointer (some ⟨g10, 0, none⟩)) rfl (by kernel_rfl) (by kernel_rfl) (by kernel_rfl) (fun _ _ _ h => h) (Or.inl ⟨by rfl, ?_⟩) HS0.out ?_
          · intro u hu; go_simp
          go_simp
          refine wpAnyH_take (i := 3) (v := .int .i64 n) rfl (by kernel_rfl) (by kernel_rfl) (by kernel_rfl) (fun _ _ _ h => h) (Or.inl ⟨by rfl, ?_⟩) HS0.out ?_
          · intro u hu; have := KC.out u hu _ _ y0; go_simp
          go_simp
          refine wpAnyH_take (i := 4) (v := .bool false) rfl (by kernel_rfl) (by kernel_rfl) (by kernel_rfl) (fun _ _ _ h => h) (Or.inl ⟨by rfl, ?_⟩) HS0.out ?_
          · intro u hu; go_simp
          go_simp
          refine wpAnyH_take (i := 5) (v := .bool false) rfl (by kernel_rfl) (by kernel_rfl) (by kernel_rfl) (fun _ _ _ h => h) (Or.inl ⟨by rfl, ?_⟩) HS0.out ?_
          · intro u hu; go_simp
          go_simp
          refine wpAnyH_take (i := 6) (v := .pointer (some ⟨g8, 2, none⟩)) rfl (by kernel_rfl) (by kernel_rfl) (by kernel_rfl) (fun _ _ _ h => h) (Or.inl ⟨by rfl, ?_⟩) HS0.out ?_
          · intro u hu; go_simp
          go_simp
          refine wpAnyH_take (i := 7) (v := .int .i64 er) rfl (by kernel_rfl) (by kernel_rfl) (by kernel_rfl) (fun _ _ _ h => h) (Or.inl ⟨by rfl, ?_⟩) HS0.out ?_
          · intro u hu; have := KC.out u hu _ _ x2; go_simp
          go_simp
          refine wpAnyH_take (i := 8) (v := .pointer (some ⟨g10, 2, none⟩)) rfl (by kernel_rfl) (by kernel_rfl) (by kernel_rfl) (fun _ _ _ h => h) (Or.inl ⟨by rfl, ?_⟩) HS0.out ?_
          · intro u hu; go_simp
          go_simp
          refine wpAnyH_take (i := 9) (v := .int .i64 er) rfl (by kernel_rfl) (by kernel_rfl) (by kernel_rfl) (fun _ _ _ h => h) (Or.inl ⟨by rfl, ?_⟩) HS0.out ?_
          · intro u hu; have := KC.out u hu _ _ y2; go_simp
          go_simp
          refine wpAnyH_take (i := 10) (v := .bool false) rfl (by kernel_rfl) (by kernel_rfl) (by kernel_rfl) (fun _ _ _ h => h) (Or.inl ⟨by rfl, ?_⟩) HS0.out ?_
          · intro u hu; go_simp
          go_simp
          refine wpAnyH_take (i := 11) (v := .bool false) rfl (by kernel_rfl) (by kernel_rfl) (by kernel_rfl) (fun _ _ _ h => h) (Or.inl ⟨by rfl, ?_⟩) HS0.out ?_
          · intro u hu; go_simp
          go_simp
          refine wpAnyH_take (i := 12) (v := .bool false) rfl (by kernel_rfl) (by kernel_rfl) (by kernel_rfl) (fun _ _ _ h => h) (Or.inl ⟨by rfl, ?_⟩) HS0.out ?_
          · intro u hu; go_simp
          go_simp
          refine wpAnyH_take (i := 13) (v := .pointer (some ⟨g8, 1, none⟩)) rfl (by kernel_rfl) (by kernel_rfl) (by kernel_rfl) (fun _ _ _ h => h) (Or.inl ⟨by rfl, ?_⟩) HS0.out ?_
          · intro u hu; go_simp
          go_simp
          refine wpAnyH_take (i := 14) (v := .slice a9 m9 c9) rfl (by kernel_rfl) (by kernel_rfl) (by kernel_rfl) (fun _ _ _ h => h) (Or.inl ⟨by rfl, ?_⟩) HS0.out ?_
          · intro u hu; have := KC.out u hu _ _ x1; go_simp
          go_simp
          refine wpAnyH_take (i := 15) (v := .pointer (some ⟨g10, 1, none⟩)) rfl (by kernel_rfl) (by kernel_rfl) (by kernel_rfl) (fun _ _ _ h => h) (Or.inl ⟨by rfl, ?_⟩) HS0.out ?_
          · intro u hu; go_simp
          go_simp
          refine wpAnyH_take (i := 16) (v := .slice aX mX cX) rfl (by kernel_rfl) (by kernel_rfl) (by kernel_rfl) (fun _ _ _ h => h) (Or.inl ⟨by rfl, ?_⟩) HS0.out ?_
          · intro u hu; have := KC.out u hu _ _ y1; go_simp
          go_simp
          refine wpAnyH_ready (rs := [17]) (by kernel_rfl) (by simp) ?_
          refine AllReadyH.cons rfl (fun K hK => ?_) AllReadyH.nil
          go_simp
          refine (sameBytes_any _ _ _ bs _ _ _ bs _ (D9A.out.below HS0.out (Nat.le_refl _)) (DXA.out.below HS0.out (Nat.le_refl _))).mono ?_
          rintro e u ⟨rfl, rfl⟩
          rw [decide_eq_true (rfl : (bs : List Int) = bs)]
          refine hK.out _ _ HS0.out (fun _ => ?_)
          clear hK K
          refine wpAnyH_take (i := 18) (v := .bool false) rfl (by kernel_rfl) (by kernel_rfl) (by kernel_rfl) (fun _ _ _ h => h) (Or.inl ⟨by rfl, ?_⟩) HS0.out ?_
          · intro u hu; go_simp
          go_simp
          refine wpAnyH_take (i := 19) (v := .bool false) rfl (by kernel_rfl) (by kernel_rfl) (by kernel_rfl) (fun _ _ _ h => h) (Or.inl ⟨by rfl, ?_⟩) HS0.out ?_
          · intro u hu; go_simp
          go_simp
          refine wpAnyH_take (i := 20) (v := .bool false) rfl (by kernel_rfl) (by kernel_rfl) (by kernel_rfl) (fun _ _ _ h => h) (Or.inl ⟨by rfl, ?_⟩) HS0.out ?_
          · intro u hu; go_simp
          go_simp
          refine wpAnyH_take (i := 21) (v := .pointer (some ⟨R, 0, none⟩)) rfl (by kernel_rfl) (by kernel_rfl) (by kernel_rfl) (fun _ _ _ h => h) (Or.inl ⟨by rfl, ?_⟩) HS0.out ?_
          · intro u hu; go_simp
          go_simp
          refine wpAnyH_take (i := 23) (v := .pointer (some ⟨M, 0, none⟩)) rfl (by kernel_rfl) (by kernel_rfl) (by kernel_rfl) (fun _ _ _ h => h) (Or.inl ⟨by rfl, ?_⟩) HS0.out ?_
          · intro u hu; go_simp
          go_simp
          refine wpAnyH_take (i := 24) (v := .pointer (some ⟨M, 0, none⟩)) rfl (by kernel_rfl) (by kernel_rfl) (by kernel_rfl) (fun _ _ _ h => h) (Or.inl ⟨by rfl, ?_⟩) HS0.out ?_
          · intro u hu; go_simp
          go_simp
          refine wpAnyH_take (i := 25) (v := .pointer (some ⟨M, 1, none⟩)) rfl (by kernel_rfl) (by kernel_rfl) (by kernel_rfl) (fun _ _ _ h => h) (Or.inl ⟨by rfl, ?_⟩) HS0.out ?_
          · intro u hu; go_simp
          go_simp
          refine wpAnyH_take (i := 26) (v := .int .i64 q) rfl (by kernel_rfl) (by kernel_rfl) (by kernel_rfl) (fun _ _ _ h => h) (Or.inl ⟨by rfl, ?_⟩) HS0.out ?_
          · intro u hu; have := KC.out u hu _ _ z1; go_simp
          go_simp
          refine wpAnyH_ready (rs := [22]) (by kernel_rfl) (by simp) ?_
          refine AllReadyH.cons rfl (fun K hK => ?_) AllReadyH.nil
          go_simp
          refine (at_any (IRA.out.below HS0.out (Nat.le_refl _))).mono ?_
          rintro e u ⟨rfl, rfl⟩
          refine hK.out _ _ HS0.out (fun _ => ?_)
          clear hK K
          refine wpAnyH_take (i := 27) (v := .bool false) rfl (by kernel_rfl) (by kernel_rfl) (by kernel_rfl) (fun _ _ _ h => h) (Or.inl ⟨by rfl, ?_⟩) HS0.out ?_
          · intro u hu; go_simp
          go_simp
          refine wpAnyH_take (i := 28) (v := .bool false) rfl (by kernel_rfl) (by kernel_rfl) (by kernel_rfl) (fun _ _ _ h => h) (Or.inl ⟨by rfl, ?_⟩) HS0.out ?_
          · intro u hu; go_simp
          go_simp
          refine wpAnyH_take (i := 29) (v := .bool false) rfl (by kernel_rfl) (by kernel_rfl) (by kernel_rfl) (fun _ _ _ h => h) (Or.inl ⟨by rfl, ?_⟩) HS0.out ?_
          · intro u hu; go_simp
          go_simp
          refine wpAnyH_take (i := 30) (v := .pointer (some ⟨R, 0, none⟩)) rfl (by kernel_rfl) (by kernel_rfl) (by kernel_rfl) (fun _ _ _ h => h) (Or.inl ⟨by rfl, ?_⟩) HS0.out ?_
          · intro u hu; go_simp
          go_simp
          refine wpAnyH_take (i := 32) (v := .pointer (some ⟨M, 0, none⟩)) rfl (by kernel_rfl) (by kernel_rfl) (by kernel_rfl) (fun _ _ _ h => h) (Or.inl ⟨by rfl, ?_⟩) HS0.out ?_
          · intro u hu; go_simp
          go_simp
          refine wpAnyH_take (i := 33) (v := .pointer (some ⟨M, 0, none⟩)) rfl (by kernel_rfl) (by kernel_rfl) (by kernel_rfl) (fun _ _ _ h => h) (Or.inl ⟨by rfl, ?_⟩) HS0.out ?_
          · intro u hu; go_simp
          go_simp
          refine wpAnyH_take (i := 34) (v := .pointer (some ⟨M, 0, none⟩)) rfl (by kernel_rfl) (by kernel_rfl) (by kernel_rfl) (fun _ _ _ h => h) (Or.inl ⟨by rfl, ?_⟩) HS0.out ?_
          · intro u hu; go_simp
          go_simp
          refine wpAnyH_take (i := 35) (v := .slice am len cm) rfl (by kernel_rfl) (by kernel_rfl) (by kernel_rfl) (fun _ _ _ h => h) (Or.inl ⟨by rfl, ?_⟩) HS0.out ?_
          · intro u hu; have := KC.out u hu _ _ z0; go_simp
          go_simp
          refine wpAnyH_take (i := 36) (v := .int .i64 len) rfl (by kernel_rfl) (by kernel_rfl) (by kernel_rfl) (fun _ _ _ h => h) (Or.inl ⟨by rfl, ?_⟩) HS0.out ?_
          · intro u hu; go_simp
          go_simp
          refine wpAnyH_take (i := 37) (v := .pointer (some ⟨M, 0, none⟩)) rfl (by kernel_rfl) (by kernel_rfl) (by kernel_rfl) (fun _ _ _ h => h) (Or.inl ⟨by rfl, ?_⟩) HS0.out ?_
          · intro u hu; go_simp
          go_simp
          refine wpAnyH_take (i := 38) (v := .pointer (some ⟨M, 0, none⟩)) rfl (by kernel_rfl) (by kernel_rfl) (by kernel_rfl) (fun _ _ _ h => h) (Or.inl ⟨by rfl, ?_⟩) HS0.out ?_
          · intro u hu; go_simp
          go_simp
          refine wpAnyH_take (i := 39) (v := .pointer (some ⟨M, 1, none⟩)) rfl (by kernel_rfl) (by kernel_rfl) (by kernel_rfl) (fun _ _ _ h => h) (Or.inl ⟨by rfl, ?_⟩) HS0.out ?_
          · intro u hu; go_simp
          go_simp
          refine wpAnyH_take (i := 40) (v := .int .i64 q) rfl (by kernel_rfl) (by kernel_rfl) (by kernel_rfl) (fun _ _ _ h => h) (Or.inl ⟨by rfl, ?_⟩) HS0.out ?_
          · intro u hu; have := KC.out u hu _ _ z1; go_simp
          go_simp
          refine wpAnyH_take (i := 41) (v := .int .i64 ((len : Int) - (q : Int))) rfl (by kernel_rfl) (by kernel_rfl) (by kernel_rfl) (fun _ _ _ h => h) (Or.inl ⟨by rfl, ?_⟩) HS0.out ?_
          · intro u hu; go_simp
          go_simp
          refine wpAnyH_ready (rs := [31]) (by kernel_rfl) (by simp) ?_
          refine AllReadyH.cons rfl (fun K hK => ?_) AllReadyH.nil
          go_simp
          refine (left_any (IRA.out.below HS0.out (Nat.le_refl _))).mono ?_
          rintro e ul ⟨rfl, hul⟩
          have HS2 : Hid (Below WA.heap.size WA ul) := Lib.hid (by obtain ⟨m, rfl⟩ := hul; exact HS0.out.trans ⟨rfl, rfl, rfl, Nat.le_refl _, fun _ _ => rfl⟩)
          clear HS0 hul
          have HS0 := HS2
          clear HS2
          refine hK.out _ _ HS0.out (fun _ => ?_)
          clear hK K
          refine wpAnyH_take (i := 42) (v := .bool false) rfl (by kernel_rfl) (by kernel_rfl) (by kernel_rfl) (fun _ _ _ h => h) (Or.inl ⟨by rfl, ?_⟩) HS0.out ?_
          · intro u hu; go_simp
          go_simp
          refine wpAnyH_ready (rs := [43]) (by kernel_rfl) (by simp) ?_
          refine AllReadyH.cons rfl (fun K hK => ?_) AllReadyH.nil
          go_simp
          refine hK.out _ _ HS0.out (fun _ => ?_)
          clear hK K
          refine wpAnyH_done (by kernel_rfl) ?_ _
          have IRE := Lib.hid (IRA.out.below HS0.out (Nat.le_refl _))
          have IME := Lib.hid (IMA.out.below HS0.out (Nat.le_refl _))
          have BWE : Hid (Below w.heap.size w ul) := Lib.hid (BWA.out.trans (HS0.out.mono BWA.out.size))
          clear x0 x1 x2 y0 y1 y2 z0 z1 KC HS0 IRA IMA BWA
          go_wp2_with fail
          go_roundw
          case rel => exact ⟨k + 1, by omega, by go_num, R, M, q, len, ar, cr, am, cm, xs, rfl, rfl, IRE.out, IME.out, hlen, hRge, hMge', BWE.out⟩
          case measure => simp [intOf]; omega
    · obtain rfl : k = len1 := by omega
      have B0 := Lib.hid BW.out
      clear IR IM BW
      go_wp2_with fail
      go_loopw [12] (fun i wx => ∃ j : Nat, j ≤ 7 ∧ i = .int .i64 j ∧ Below w.heap.size w wx) (fun i _ => 7 - (intOf i).toNat)
      case atStart => exact ⟨0, by omega, rfl, B0.out⟩
      case round =>
        obtain ⟨j, hj, rfl, hbx⟩ := hrel
        have BX := Lib.hid hbx
        clear hbx B0
        by_cases hj7 : j < 7
        · go_wp2_with fail
          refine (did_nil j hj7 _).mono ?_
          rintro e w1 ⟨rfl, hb⟩
          obtain ⟨Wz, e1, hz, g13, W2, e2, e3, hg13, b2, hgl⟩ := freshT w1 #[.int .i64 0, .slice none 0 0, .int .i64 23]
          have B2 : Hid (Below w.heap.size w W2) := Lib.hid ((BX.out.trans (hb.mono BX.out.size)).trans (b2.mono (by have := BX.out.size; have := hb.size; omega)))
          have He1 := Lib.hid e1
          have He2 := Lib.hid e2
          have He3 := Lib.hid e3
          have Hz := Lib.hid hz
          have d2 : W2.cell? ⟨g13, 2, none⟩ = some (.int .i64 23) := by rw [cell_of_row _ _ _ _ _ _ hg13]; rfl
          clear e1 e2 e3 hz b2 hb BX hg13
          go_upto_region 25 with (rw [He1.out]; refine wpList_store_row rfl 83 (.tmp 13) (.tmp 141) rfl w1.heap.size #[.int .i64 0, .slice none 0 0, .int .i64 23] rfl rfl 83 #[.int .i64 0, .slice none 0 0, .int .i64 0] Hz.out (Try.sizeTold _ _ _) rfl (oneTold _ _ _ _ _) ?_)
          rw [He3.out, He2.out]
          clear He1 He2 He3 Hz
          go_wp2_with fail
          go_roundw
          case rel => exact ⟨j + 1, by omega, by go_num, B2.out⟩
          case measure => simp [intOf]; omega
        · obtain rfl : j = 7 := by omega
          go_wp2_with fail
          refine (sanity_any _).mono ?_
          rintro e w3 ⟨rfl, hb⟩
          have B3 : Hid (Below w.heap.size w w3) := Lib.hid (BX.out.trans (hb.mono BX.out.size))
          clear hb BX
          go_wp2_with fail
          refine (at_nil _).mono ?_
          rintro e w4 ⟨rfl, rfl⟩
          go_wp2_with fail
          refine (left_nil _).mono ?_
          rintro e w4 ⟨rfl, rfl⟩
          go_wp2_with fail
          go_ret
          exact ⟨rfl, B3.out⟩
end Go.Proofs.Ytnhkkhceoaembaa.wireReaders

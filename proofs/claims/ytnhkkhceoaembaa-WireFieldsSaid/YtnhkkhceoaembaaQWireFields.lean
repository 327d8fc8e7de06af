/- What the statement WireFields calls answers true, for every input that its walk is handed. -/
import Derived.Test.YtnhkkhceoaembaaRows
import Derived.WalkKit
import Derived.ProofKit
import Derived.OpenShut
import Derived.ShutString
import Derived.ChangeOld
import Derived.Below
import Derived.SizedLaws
import Derived.Test.YtnhkkhceoaembaaLopen
import Derived.Test.YtnhkkhceoaembaaLfew
import Derived.Test.YtnhkkhceoaembaaWrefuse
import Derived.Test.YtnhkkhceoaembaaWunpack
import Derived.Test.YtnhkkhceoaembaaWwhere
import Derived.Test.YtnhkkhceoaembaaWfieldp
import Derived.Test.YtnhkkhceoaembaaWsanity
import Derived.Test.YtnhkkhceoaembaaRvar
import Derived.Deep.DeepCutAuto
import Derived.Deep.RegionHeld3
namespace Go.Proofs.Ytnhkkhceoaembaa.wireFields
open Go.ChangeShapes Go.WideShapes Go.ChangeAt Go.RowKit
open Go.ChangeMaps (open_string shut_string)
set_option linter.unusedVariables false

theorem RdI.nil (w : World) : RdI w none 0 0 [] := ⟨rfl, Nat.le_refl _, Nat.zero_le _, by simp, fun _ => rfl, by simp⟩
theorem IsR.other {w w2 : World} {R p len cap R2 q l2 c2 : Nat} {a a2 : Option Addr} {xs ys : List Int} (h : IsR w R p a len cap xs) (k : Moved w w2 R2 q a2 l2 c2 ys) (hne : R ≠ R2) : IsR w2 R p a len cap xs :=
  ⟨(k.grown.block R h.lt (by intro e; exact hne (by simpa using e))).trans h.blk, k.keeps _ _ _ _ h.rd, h.hp⟩
theorem below_moved {B : Nat} {w w2 : World} {R q len cap p : Nat} {a : Option Addr} {xs : List Int} (h : IsR w R p a len cap xs) (k : Moved w w2 R q a len cap xs) (hB : B ≤ R) : Below B w w2 :=
  ⟨k.grown.os, k.grown.tape, k.grown.output, k.grown.size, fun i hi => k.grown.block i (Nat.lt_trans (Nat.lt_of_lt_of_le hi hB) h.lt) (by intro e; have e' : i = R := (by simpa using e); omega)⟩
theorem freshT (w1 : World) (cs : Array Value) : ∃ W3, w1.alloc (.cells #[.int .i64 0, .slice none 0 0, .int .i64 0] 83) = W3 ∧ W3.heap[w1.heap.size]? = some (.cells #[.int .i64 0, .slice none 0 0, .int .i64 0] 83 (0, 0)) ∧
    ∃ g W, w1.heap.size = g ∧ W3.setRow w1.heap.size cs = W ∧ W.heap[g]? = some (.cells cs 83 (0, 0)) ∧ Below g w1 W ∧ g < W.heap.size := by
  refine ⟨_, rfl, heap_alloc_last w1 _, _, _, rfl, rfl, ?_, ?_, ?_⟩
  · rw [World.setRow_alloc_new]; exact heap_alloc_last w1 _
  · rw [World.setRow_alloc_new]; exact (Below.refl _ w1).alloc (Nat.le_refl _) _
  · rw [World.setRow_alloc_new]; simp
theorem blk_below {w w2 : World} {B g : Nat} {o : Obj} (h : w.heap[g]? = some o) (hb : Below B w w2) (hg : g < B) : w2.heap[g]? = some o := (hb.block g hg).trans h
theorem sub_ok {w : World} {R p len cap : Nat} {a : Option Addr} {xs : List Int} (h : IsR w R p a len cap xs) (st : Nat) (hst : p + st ≤ len) (hbig : len ≤ 140737488355328) :
    Calls Try.prog 58 #[.pointer (some ⟨R, 0, none⟩), .int .i64 st] w fun e w' => ∃ R2 a2 c2, e = .returned (.tuple #[.pointer (some ⟨R2, 0, none⟩), .int .i64 0]) ∧ w.heap.size ≤ R2 ∧ IsR w' R2 0 a2 st c2 ((xs.drop p).take st) ∧ Moved w w' R (p + st) a len cap xs := by
  have hl := h.rd.hl
  have hE : aheadE ((xs.length : Int) - p) st = 0 := by unfold aheadE; rw [if_neg (by omega), if_neg (by omega)]
  have hB : aheadB xs p st = (xs.drop p).take st := by unfold aheadB; rw [if_pos hE, Int.toNat_natCast]
  refine (sub_any h st (by omega) hbig).mono ?_
  intro e w' hp
  rcases hp with ⟨_, R2, a2, c2, rfl, h1, h2, h3⟩ | ⟨h1, _⟩
  · rw [hB, Int.toNat_natCast] at h2
    rw [Int.toNat_natCast] at h3
    exact ⟨R2, a2, c2, rfl, h1, h2, h3⟩
  · exact absurd hE h1
theorem items_at {items : List Itm} {len : Nat} {fs : List Fld} {B : List Int} (hy : items.map (fun x => (x.n, x.xs)) = (List.range len).map (fun k => ((atV fs B k).2.1, (atV fs B k).2.2.1))) (k : Nat) (hk : k < len) :
    (items.getD k default).n = (atV fs B k).2.1 ∧ (items.getD k default).xs = (atV fs B k).2.2.1 ∧ items.getD k default ∈ items := by
  have hyl : items.length = len := by have := congrArg List.length hy; simpa using this
  have := congrArg (fun l => l[k]?) hy
  simp only [List.getElem?_map] at this
  rw [List.getElem?_eq_getElem (by omega), List.getElem?_range (by omega)] at this
  simp only [Option.map_some, Option.some.injEq, Prod.mk.injEq] at this
  have hg : items.getD k default = items[k]'(by omega) := by simp [List.getD, show k < items.length by omega]
  rw [hg]
  exact ⟨this.1, this.2, List.getElem_mem _⟩
attribute [local irreducible] readV
set_option maxRecDepth 100000 in
set_option maxHeartbeats 8000000 in
theorem walk (a0 : Option Addr) (len0 cap0 : Nat) (xs0 : List Fld) (a1 : Option Addr) (len1 cap1 : Nat) (xs1 : List Int) (a2 : Int) (w : World) (w0 : RdF w a0 len0 cap0 xs0) (w1 : Rd w a1 len1 cap1 xs1 ∧ cap1 ≤ 140737488351232) (w2 : (Lit.int .i64 a2).wf = true) :
    Calls Try.prog 13 #[.slice a0 len0 cap0, .slice a1 len1 cap1, .int .i64 a2] w fun e w' => e = .returned (.bool true) ∧ Below w.heap.size w w' := by
  obtain ⟨w1, hcap1⟩ := w1
  have m1 := w1.hm
  have c1 := w1.hc
  have m0 := w0.hm
  have c0 := w0.hc
  unfold maxLen at m0 m1
  have H0 := Lib.hid w0
  have H1 := Lib.hid w1
  clear w0 w1
  rcases hF : fewV len0 0 len1 [] with _ | _
  · have HF := Lib.hid hF
    clear hF
    go_enter Try.func13, Try.ntmps13
    go_wp2_with fail
    refine (few_any a0 len0 cap0 none 0 0 [] a1 len1 cap1 w (RdI.nil w) (by simp) (by omega) (by omega)).mono ?_
    rintro e u1 ⟨rfl, rfl⟩
    rw [HF.out]
    go_wp2_with fail
    refine (sanity_any _).mono ?_
    rintro e ux ⟨rfl, hb⟩
    have Hbx := Lib.hid hb
    clear hb
    go_wp2_with fail
    go_ret
    exact ⟨rfl, Hbx.out⟩
  have HF := Lib.hid hF
  clear hF
  by_cases hbig : (5000 : Int) < (len1 : Int)
  · go_enter Try.func13, Try.ntmps13
    go_wp2_with fail
    refine (few_any a0 len0 cap0 none 0 0 [] a1 len1 cap1 w (RdI.nil w) (by simp) (by omega) (by omega)).mono ?_
    rintro e u1 ⟨rfl, rfl⟩
    rw [HF.out]
    go_wp2_with fail
    refine (sanity_any _).mono ?_
    rintro e ux ⟨rfl, hb⟩
    have Hbx := Lib.hid hb
    clear hb
    go_wp2_with fail
    go_ret
    exact ⟨rfl, Hbx.out⟩
  have hbB := H1.out.hb
  have hl0 := H0.out.hl
  have hl1 := H1.out.hl
  by_cases hE : errV xs0 xs1 ≠ 0
  · have hne : (errV xs0 xs1 != 0) = true := by simpa using hE
    have HE := Lib.hid hE
    clear hE hbB hl0 hl1
    go_enter Try.func13, Try.ntmps13
    go_wp2_with fail
    refine (few_any a0 len0 cap0 none 0 0 [] a1 len1 cap1 w (RdI.nil w) (by simp) (by omega) (by omega)).mono ?_
    rintro e u1 ⟨rfl, rfl⟩
    rw [HF.out]
    clear HF
    go_wp2_with fail
    refine (unpack_err a0 len0 cap0 xs0 w H0.out a1 len1 cap1 xs1 H1.out (by omega) HE.out).mono ?_
    rintro e u1 ⟨rfl, hb⟩
    have Hb := Lib.hid hb
    clear hb
    go_wp2_with fail
    refine (sanity_any _).mono ?_
    rintro e ux ⟨rfl, hb⟩
    have Hbx := Lib.hid hb
    clear hb
    go_wp2_with fail
    go_ret
    exact ⟨rfl, Hb.out.trans (Hbx.out.mono Hb.out.size)⟩
  have hE0 : errV xs0 xs1 = 0 := by omega
  obtain ⟨hch, hok⟩ := errV_ok hE0
  have hff := fun k (hk : k < len0) => field_facts hbB hch hok k (by omega)
  have hok' : ∀ k, k < len0 → (atV xs0 xs1 k).1 = 0 := fun k hk => hok k (by omega)
  have hbd' : ∀ k, k < len0 → -9223372036854775808 ≤ (atV xs0 xs1 k).2.1 ∧ (atV xs0 xs1 k).2.1 ≤ 9223372036854775807 := fun k hk => by
    obtain ⟨n, bs, st, h1, h2, h3, h4, h5, -⟩ := hff k hk
    rw [h1]; exact ⟨h4, h5⟩
  have h64 : len0 ≤ 64 := by have := (checkV_ok hch).1; omega
  have hlp := (unpack_oneway hbB hch hok).1 len0 (by omega)
  have HFF := Lib.hid hff
  have Hok := Lib.hid hok'
  have Hbd := Lib.hid hbd'
  have Hch := Lib.hid hch
  have Hp0 : Hid (posV xs0 xs1 0 = 0) := Lib.hid (by unfold posV; rfl)
  obtain ⟨P, hP⟩ : ∃ P, P = posV xs0 xs1 len0 := ⟨_, rfl⟩
  have hPl : P ≤ len1 := by omega
  have HP := Lib.hid hP
  clear hff hok hok' hbd' hch hE hE0 hbB hlp hl0 hP
  go_enter Try.func13, Try.ntmps13
  go_wp2_with fail
  refine (few_any a0 len0 cap0 none 0 0 [] a1 len1 cap1 w (RdI.nil w) (by simp) (by omega) (by omega)).mono ?_
  rintro e u1 ⟨rfl, rfl⟩
  rw [HF.out]
  clear HF
  go_wp2_with fail
  refine (unpack_ok a0 len0 cap0 xs0 w H0.out a1 len1 cap1 xs1 H1.out (by omega) Hch.out Hok.out Hbd.out).mono ?_
  rintro e u1 ⟨a5, c5, items, rfl, r5, hmap, b5⟩
  rw [← HP.out]
  have Hmap := Lib.hid (items_at hmap)
  have Hr5 := Lib.hid r5
  have Hb5 := Lib.hid b5
  have H15 := Lib.hid (H1.out.below b5 (Nat.le_refl _))
  have H05 := Lib.hid (H0.out.below b5 (Nat.le_refl _))
  clear hmap r5 b5 Hbd
  go_wp2_with fail
  refine (newReader_any a1 len1 cap1 xs1 u1 H15.out (by omega)).mono ?_
  rintro e u2 ⟨R, a6, c6, rfl, hR, hI, hb2⟩
  have HI := Lib.hid hI
  have Hb2 := Lib.hid hb2
  clear hI hb2
  go_wp2_with fail
  go_loopw [11] (fun i wr => ∃ k : Nat, k ≤ len0 ∧ i = .int .i64 k ∧ IsR wr R (posV xs0 xs1 k) a6 len1 c6 xs1 ∧ Below u1.heap.size u1 wr) (fun i _ => len0 - (intOf i).toNat)
  case atStart => exact ⟨0, Nat.zero_le _, rfl, by rw [Hp0.out]; exact HI.out, Hb2.out⟩
  case round =>
    obtain ⟨k, hk, rfl, hI, hb⟩ := hrel
    have Ik := Lib.hid hI
    have Bk := Lib.hid hb
    clear hI hb HI Hb2
    by_cases hlt : k < len0
    · obtain ⟨n, bs, st, hat, hpos, hle, hn1, hn2, hr1, hr2, k1, k5, wd0, wd4⟩ := HFF.out k hlt
      obtain ⟨hi1, hi2, him⟩ := Hmap.out k hlt
      rw [hat] at hi1 hi2
      simp only at hi1 hi2
      have hl1 := H1.out.hl
      obtain ⟨it, hit⟩ : ∃ it, it = items.getD k default := ⟨_, rfl⟩
      rw [← hit] at hi1 hi2 him
      obtain ⟨f, hf⟩ : ∃ f, f = xs0.getD k default := ⟨_, rfl⟩
      rw [← hf] at hr1 hr2 k1 k5 wd0 wd4
      obtain ⟨b0, o0, rfl, hc0⟩ := H05.out.hr (by omega)
      obtain ⟨b5, o5, rfl, hc5⟩ := Hr5.out.hr (by omega)
      have hcf := hc0 k hlt
      have hci := hc5 k hlt
      rw [← hf] at hcf
      rw [← hit] at hci
      obtain ⟨nm, kd, wd⟩ := f
      obtain ⟨nx, ia, il, ic, ix⟩ := it
      simp only at hi1 hi2 hcf hci hr1 hr2 k1 k5 wd0 wd4
      subst hi1
      subst hi2
      have hix := (Hr5.out.hb _ him).r
      simp only at hix
      obtain ⟨p, hp⟩ : ∃ p, p = posV xs0 xs1 k := ⟨_, rfl⟩
      obtain ⟨q, hq⟩ : ∃ p, p = posV xs0 xs1 (k + 1) := ⟨_, rfl⟩
      rw [← hp] at hpos hle hr1 hr2 Ik
      rw [← hq] at hpos
      have hqs : (q : Int) - (p : Int) = (st : Int) := by omega
      have hpl : p ≤ len1 := by omega
      have hql : p + st ≤ len1 := by omega
      have Hp := Lib.hid hp
      have Hq := Lib.hid hq
      have Hr1 := Lib.hid hr1
      have Hr2 := Lib.hid hr2
      have Hcf := Lib.hid hcf
      have Hci := Lib.hid hci
      have Hix := Lib.hid hix
      have Hpos := Lib.hid hpos
      clear hr1 hr2 hcf hci hix hc0 hc5 hat hf hit him hp hq hl1 hpos HFF Hmap
      go_wp2_with fail
      refine (where_ok (some ⟨b0, o0, none⟩) len0 cap0 xs0 wr (H05.out.below Bk.out (Nat.le_refl _)) a1 len1 cap1 xs1 (H15.out.below Bk.out (Nat.le_refl _)) (by omega) Hch.out Hok.out k hlt).mono ?_
      rintro e w3 ⟨rfl, b3⟩
      rw [← Hp.out, ← Hq.out]
      have B3 := Lib.hid b3
      have I3 := Lib.hid (Ik.out.below b3 (Nat.le_refl _))
      have X3 := Lib.hid (H15.out.below (Bk.out.trans (b3.mono Bk.out.size)) (Nat.le_refl _))
      clear b3
      go_wp2_with fail
      refine (at_any I3.out).mono ?_
      rintro e w4 ⟨rfl, rfl⟩
      have hpp : ((p : Int) != (p : Int)) = false := by simp
      go_wp2_with fail
      refine (newReader_any a1 len1 cap1 xs1 w3 X3.out (by omega)).mono ?_
      rintro e w4 ⟨R2, a7, c7, rfl, hR2, hI2, b4⟩
      have B4 : Hid (Below wr.heap.size wr w4) := Lib.hid (B3.out.trans (b4.mono B3.out.size))
      have I2 := Lib.hid hI2
      have hR2' : wr.heap.size ≤ R2 := Nat.le_trans B3.out.size hR2
      clear b4 hI2 I3 X3 B3
      go_wp2_with fail
      refine (seek_ok I2.out p hpl).mono ?_
      rintro e w5 ⟨rfl, hm⟩
      have B5 : Hid (Below wr.heap.size wr w5) := Lib.hid (B4.out.trans (below_moved I2.out hm hR2'))
      have I25 := Lib.hid hm.isR
      clear hm I2 B4
      go_wp2_with fail
      refine (sub_ok I25.out st hql (by omega)).mono ?_
      rintro e w6 ⟨R3, a8, c8, rfl, hR3, hI3, hm⟩
      have B6 : Hid (Below wr.heap.size wr w6) := Lib.hid (B5.out.trans (below_moved I25.out hm hR2'))
      have hR3' : wr.heap.size ≤ R3 := Nat.le_trans B5.out.size hR3
      have I3 := Lib.hid hI3
      have I26 := hm.isR
      rw [← Hpos.out] at I26
      have I26 := Lib.hid I26
      clear hm I25 B5 hI3
      go_wp2_with fail
      refine (at_any I26.out).mono ?_
      rintro e w7 ⟨rfl, rfl⟩
      have hqq : ((q : Int) != (q : Int)) = false := by simp
      have IR6 := Lib.hid (Ik.out.below B6.out (Nat.le_refl _))
      have C6 : Hid (Below u1.heap.size u1 w6) := Lib.hid (Bk.out.trans (B6.out.mono Bk.out.size))
      have hRne : R3 ≠ R := by have := Ik.out.lt; omega
      have f0 := (H05.out.below C6.out (Nat.le_refl _))
      have cf1 := C6.out.cell (p := ⟨b0, o0 + k * 3, none⟩) (World.block_lt_of_cell? u1 _ Hcf.out.1)
      have cf2 := C6.out.cell (p := ⟨b0, o0 + k * 3 + 1, none⟩) (World.block_lt_of_cell? u1 _ Hcf.out.2.1)
      have cf3 := C6.out.cell (p := ⟨b0, o0 + k * 3 + 2, none⟩) (World.block_lt_of_cell? u1 _ Hcf.out.2.2)
      rw [Hcf.out.1] at cf1
      rw [Hcf.out.2.1] at cf2
      rw [Hcf.out.2.2] at cf3
      clear I26 B6 f0 Ik
      go_wp2_with fail
      refine (lread_any IR6.out nm kd wd k1 k5 (by omega) (by omega) (by omega)).mono ?_
      rintro e w7 ⟨v, rfl, a9, l9, c9, rfl, ho, hm⟩
      rw [Hr1.out] at ho hm ⊢
      simp only at ho hm ⊢
      obtain ⟨a9', c9', e9, hrd9⟩ := ho.rd
      simp only [Value.slice.injEq] at e9
      obtain ⟨rfl, rfl, rfl⟩ := e9
      obtain ⟨m9, hm9⟩ : ∃ m, m = ix.length := ⟨_, rfl⟩
      rw [← hm9] at hrd9 ⊢
      obtain ⟨Wz, e1, hz, g18, W8, e2, e3, hg18, b8, hg8⟩ := freshT w7 #[.int .i64 nx, .slice a9 m9 c9, .int .i64 0]
      have I8 := Lib.hid (hm.isR.below b8 (by omega))
      have S8 := Lib.hid ((IsR.other I3.out hm hRne).below b8 (by omega))
      have C8 : Hid (Below u1.heap.size u1 W8) := Lib.hid ((C6.out.trans (below_moved IR6.out hm hR)).trans (b8.mono (by have := C6.out.size; have := hm.grown.size; omega)))
      have D9 := Lib.hid (hrd9.below b8 (by omega))
      have He1 := Lib.hid e1
      have He2 := Lib.hid e2
      have He3 := Lib.hid e3
      have Hz := Lib.hid hz
      have G18 := Lib.hid hg18
      have hs18 : g18 < W8.heap.size := hg8
      have hgR : R3 < W8.heap.size := S8.out.lt
      clear e1 e2 e3 hz hg18 b8 ho hm hrd9 hm9 IR6 I3 C6 hg8 cf1 cf2 cf3 Hr1
      go_upto_region 21 with (rw [He1.out]; refine wpList_store_row rfl 83 (.tmp 18) (.tmp 104) rfl w7.heap.size #[.int .i64 nx, .slice a9 m9 c9, .int .i64 0] rfl rfl 83 #[.int .i64 0, .slice none 0 0, .int .i64 0] Hz.out (Try.sizeTold _ _ _) rfl (oneTold _ _ _ _ _) ?_)
      rw [He3.out, He2.out]
      clear He1 He2 He3 Hz
      have cf1 := C8.out.cell (p := ⟨b0, o0 + k * 3, none⟩) (World.block_lt_of_cell? u1 _ Hcf.out.1)
      have cf2 := C8.out.cell (p := ⟨b0, o0 + k * 3 + 1, none⟩) (World.block_lt_of_cell? u1 _ Hcf.out.2.1)
      have cf3 := C8.out.cell (p := ⟨b0, o0 + k * 3 + 2, none⟩) (World.block_lt_of_cell? u1 _ Hcf.out.2.2)
      rw [Hcf.out.1] at cf1
      rw [Hcf.out.2.1] at cf2
      rw [Hcf.out.2.2] at cf3
      go_wp2_with fail
      refine (lread_any S8.out nm kd wd k1 k5 (by omega) (by omega) (by omega)).mono ?_
      rintro e w9 ⟨v, rfl, aA, lA, cA, rfl, ho, hm⟩
      rw [Hr2.out] at ho hm ⊢
      simp only at ho hm ⊢
      obtain ⟨aA', cA', e9, hrdA⟩ := ho.rd
      simp only [Value.slice.injEq] at e9
      obtain ⟨rfl, rfl, rfl⟩ := e9
      obtain ⟨mA, hmA⟩ : ∃ m, m = ix.length := ⟨_, rfl⟩
      rw [← hmA] at hrdA ⊢
      obtain ⟨Wz, e1, hz, g19, WA, e2, e3, hg19, bA, hg9⟩ := freshT w9 #[.int .i64 nx, .slice aA mA cA, .int .i64 0]
      have BA : Hid (Below wr.heap.size W8 WA) := Lib.hid ((below_moved S8.out hm hR3').trans (bA.mono (by have := hm.grown.size; have := S8.out.lt; omega)))
      have IA := Lib.hid ((IsR.other I8.out hm hRne.symm).below bA (by omega))
      have SA := Lib.hid (hm.isR.below bA (by omega))
      have CA : Hid (Below u1.heap.size u1 WA) := Lib.hid (C8.out.trans (BA.out.mono Bk.out.size))
      have DA := Lib.hid (hrdA.below bA (by omega))
      have D9A := Lib.hid ((hm.keeps _ _ _ _ D9.out).below bA (by omega))
      have G18A := Lib.hid (blk_below (hm.grown.block g18 hs18 (fun e => absurd (S8.out.blk.symm.trans ((congrArg (fun i => W8.heap[i]?) (show R3 = g18 from (by simpa using e : g18 = R3).symm)).trans G18.out)) (by simp)) |>.trans G18.out) bA (by have := hm.grown.size; omega))
      have He1 := Lib.hid e1
      have He2 := Lib.hid e2
      have He3 := Lib.hid e3
      have Hz := Lib.hid hz
      have G19 := Lib.hid hg19
      clear e1 e2 e3 hz hg19 bA ho hm hrdA hmA S8 I8 C8 D9 cf1 cf2 cf3 Hr2 BA G18
      go_upto_region 22 with (rw [He1.out]; refine wpList_store_row rfl 83 (.tmp 19) (.tmp 110) rfl w9.heap.size #[.int .i64 nx, .slice aA mA cA, .int .i64 0] rfl rfl 83 #[.int .i64 0, .slice none 0 0, .int .i64 0] Hz.out (Try.sizeTold _ _ _) rfl (oneTold _ _ _ _ _) ?_)
      rw [He3.out, He2.out]
      clear He1 He2 He3 Hz
      have ci1 := CA.out.cell (p := ⟨b5, o5 + k * 2, none⟩) (World.block_lt_of_cell? u1 _ Hci.out.1)
      have ci2 := CA.out.cell (p := ⟨b5, o5 + k * 2 + 1, none⟩) (World.block_lt_of_cell? u1 _ Hci.out.2)
      rw [Hci.out.1] at ci1
      rw [Hci.out.2] at ci2
      have IX := Lib.hid (Hix.out.below CA.out (Nat.le_refl _))
      have x0 : WA.cell? ⟨g18, 0, none⟩ = some (.int .i64 nx) := by rw [cell_of_row _ _ _ _ _ _ G18A.out]; rfl
      have x1 : WA.cell? ⟨g18, 1, none⟩ = some (.slice a9 m9 c9) := by rw [cell_of_row _ _ _ _ _ _ G18A.out]; rfl
      have x2 : WA.cell? ⟨g18, 2, none⟩ = some (.int .i64 0) := by rw [cell_of_row _ _ _ _ _ _ G18A.out]; rfl
      have y0 : WA.cell? ⟨g19, 0, none⟩ = some (.int .i64 nx) := by rw [cell_of_row _ _ _ _ _ _ G19.out]; rfl
      have y1 : WA.cell? ⟨g19, 1, none⟩ = some (.slice aA mA cA) := by rw [cell_of_row _ _ _ _ _ _ G19.out]; rfl
      have y2 : WA.cell? ⟨g19, 2, none⟩ = some (.int .i64 0) := by rw [cell_of_row _ _ _ _ _ _ G19.out]; rfl
      have KC : Hid (∀ u, Below WA.heap.size WA u → ∀ x v, WA.cell? x = some v → u.cell? x = some v) := Lib.hid (fun u hu x v h => (hu.cell (p := x) (World.block_lt_of_cell? WA _ h)).trans h)
      obtain ⟨S, hS⟩ : ∃ S, S = strOfNums ix := ⟨_, rfl⟩
      have HS := Lib.hid hS
      have hSS : (S.toList != S.toList) = false := by simp
      clear hS G18A G19 hs18
      refine wp_region_held_drew (S := Below WA.heap.size WA) (by kernel_rfl) (Below.refl _ _).drew (fun _ => ?_)
      have HS0 : Hid (Below WA.heap.size WA WA.drew) := Lib.hid (Below.refl _ _).drew
      refine wpAnyH_take (i := 0) (v := .pointer (some ⟨g18, 2, none⟩)) rfl (by kernel_rfl) (by kernel_rfl) (by kernel_rfl) (fun _ _ _ h => h) (Or.inl ⟨by rfl, ?_⟩) HS0.out ?_
      · intro u hu; go_simp
      go_simp
      refine wpAnyH_take (i := 1) (v := .int .i64 0) rfl (by kernel_rfl) (by kernel_rfl) (by kernel_rfl) (fun _ _ _ h => h) (Or.inl ⟨by rfl, ?_⟩) HS0.out ?_
      · intro u hu; have := KC.out u hu _ _ x2; go_simp
      go_simp
      refine wpAnyH_take (i := 2) (v := .bool false) rfl (by kernel_rfl) (by kernel_rfl) (by kernel_rfl) (fun _ _ _ h => h) (Or.inl ⟨by rfl, ?_⟩) HS0.out ?_
      · intro u hu; go_simp
      go_simp
      refine wpAnyH_take (i := 3) (v := .bool false) rfl (by kernel_rfl) (by kernel_rfl) (by kernel_rfl) (fun _ _ _ h => h) (Or.inl ⟨by rfl, ?_⟩) HS0.out ?_
      · intro u hu; go_simp
      go_simp
      refine wpAnyH_take (i := 4) (v := .pointer (some ⟨g19, 2, none⟩)) rfl (by kernel_rfl) (by kernel_rfl) (by kernel_rfl) (fun _ _ _ h => h) (Or.inl ⟨by rfl, ?_⟩) HS0.out ?_
      · intro u hu; go_simp
      go_simp
      refine wpAnyH_take (i := 5) (v := .int .i64 0) rfl (by kernel_rfl) (by kernel_rfl) (by kernel_rfl) (fun _ _ _ h => h) (Or.inl ⟨by rfl, ?_⟩) HS0.out ?_
      · intro u hu; have := KC.out u hu _ _ y2; go_simp
      go_simp
      refine wpAnyH_take (i := 6) (v := .bool false) rfl (by kernel_rfl) (by kernel_rfl) (by kernel_rfl) (fun _ _ _ h => h) (Or.inl ⟨by rfl, ?_⟩) HS0.out ?_
      · intro u hu; go_simp
      go_simp
      refine wpAnyH_take (i := 7) (v := .bool false) rfl (by kernel_rfl) (by kernel_rfl) (by kernel_rfl) (fun _ _ _ h => h) (Or.inl ⟨by rfl, ?_⟩) HS0.out ?_
      · intro u hu; go_simp
      go_simp
      refine wpAnyH_take (i := 8) (v := .bool false) rfl (by kernel_rfl) (by kernel_rfl) (by kernel_rfl) (fun _ _ _ h => h) (Or.inl ⟨by rfl, ?_⟩) HS0.out ?_
      · intro u hu; go_simp
      go_simp
      refine wpAnyH_take (i := 9) (v := .pointer (some ⟨g18, 0, none⟩)) rfl (by kernel_rfl) (by kernel_rfl) (by kernel_rfl) (fun _ _ _ h => h) (Or.inl ⟨by rfl, ?_⟩) HS0.out ?_
      · intro u hu; go_simp
      go_simp
      refine wpAnyH_take (i := 10) (v := .int .i64 nx) rfl (by kernel_rfl) (by kernel_rfl) (by kernel_rfl) (fun _ _ _ h => h) (Or.inl ⟨by rfl, ?_⟩) HS0.out ?_
      · intro u hu; have := KC.out u hu _ _ x0; go_simp
      go_simp
      refine wpAnyH_take (i := 11) (v := .slice (some ⟨b5, o5, none⟩) len0 c5) rfl (by kernel_rfl) (by kernel_rfl) (by kernel_rfl) (fun _ _ _ h => h) (Or.inl ⟨by rfl, ?_⟩) HS0.out ?_
      · intro u hu; go_simp
      go_simp
      refine wpAnyH_take (i := 12) (v := .int .i64 k) rfl (by kernel_rfl) (by kernel_rfl) (by kernel_rfl) (fun _ _ _ h => h) (Or.inl ⟨by rfl, ?_⟩) HS0.out ?_
      · intro u hu; go_simp
      go_simp
      refine wpAnyH_take (i := 13) (v := .pointer (some ⟨b5, o5 + k * 2, none⟩)) rfl (by kernel_rfl) (by kernel_rfl) (by kernel_rfl) (fun _ _ _ h => h) (Or.inl ⟨by rfl, ?_⟩) HS0.out ?_
      · intro u hu; go_simp
      go_simp
      refine wpAnyH_take (i := 14) (v := .pointer (some ⟨b5, o5 + k * 2, none⟩)) rfl (by kernel_rfl) (by kernel_rfl) (by kernel_rfl) (fun _ _ _ h => h) (Or.inl ⟨by rfl, ?_⟩) HS0.out ?_
      · intro u hu; go_simp
      go_simp
      refine wpAnyH_take (i := 15) (v := .int .i64 nx) rfl (by kernel_rfl) (by kernel_rfl) (by kernel_rfl) (fun _ _ _ h => h) (Or.inl ⟨by rfl, ?_⟩) HS0.out ?_
      · intro u hu; have := KC.out u hu _ _ ci1; go_simp
      go_simp
      refine wpAnyH_take (i := 16) (v := .bool false) rfl (by kernel_rfl) (by kernel_rfl) (by kernel_rfl) (fun _ _ _ h => h) (Or.inl ⟨by rfl, ?_⟩) HS0.out ?_
      · intro u hu; go_simp
      go_simp
      refine wpAnyH_take (i := 17) (v := .bool false) rfl (by kernel_rfl) (by kernel_rfl) (by kernel_rfl) (fun _ _ _ h => h) (Or.inl ⟨by rfl, ?_⟩) HS0.out ?_
      · intro u hu; go_simp
      go_simp
      refine wpAnyH_take (i := 18) (v := .bool false) rfl (by kernel_rfl) (by kernel_rfl) (by kernel_rfl) (fun _ _ _ h => h) (Or.inl ⟨by rfl, ?_⟩) HS0.out ?_
      · intro u hu; go_simp
      go_simp
      refine wpAnyH_take (i := 19) (v := .pointer (some ⟨g18, 1, none⟩)) rfl (by kernel_rfl) (by kernel_rfl) (by kernel_rfl) (fun _ _ _ h => h) (Or.inl ⟨by rfl, ?_⟩) HS0.out ?_
      · intro u hu; go_simp
      go_simp
      refine wpAnyH_take (i := 20) (v := .slice a9 m9 c9) rfl (by kernel_rfl) (by kernel_rfl) (by kernel_rfl) (fun _ _ _ h => h) (Or.inl ⟨by rfl, ?_⟩) HS0.out ?_
      · intro u hu; have := KC.out u hu _ _ x1; go_simp
      go_simp
      refine wpAnyH_take (i := 21) (v := .string S) rfl (by kernel_rfl) (by kernel_rfl) (by kernel_rfl) (fun _ _ _ h => h) (Or.inl ⟨by rfl, ?_⟩) HS0.out ?_
      · intro u hu; have := (D9A.out.below hu (Nat.le_refl _)).convAny; rw [← HS.out] at this; go_simp
      go_simp
      refine wpAnyH_take (i := 22) (v := .slice (some ⟨b5, o5, none⟩) len0 c5) rfl (by kernel_rfl) (by kernel_rfl) (by kernel_rfl) (fun _ _ _ h => h) (Or.inl ⟨by rfl, ?_⟩) HS0.out ?_
      · intro u hu; go_simp
      go_simp
      refine wpAnyH_take (i := 23) (v := .int .i64 k) rfl (by kernel_rfl) (by kernel_rfl) (by kernel_rfl) (fun _ _ _ h => h) (Or.inl ⟨by rfl, ?_⟩) HS0.out ?_
      · intro u hu; go_simp
      go_simp
      refine wpAnyH_take (i := 24) (v := .pointer (some ⟨b5, o5 + k * 2, none⟩)) rfl (by kernel_rfl) (by kernel_rfl) (by kernel_rfl) (fun _ _ _ h => h) (Or.inl ⟨by rfl, ?_⟩) HS0.out ?_
      · intro u hu; go_simp
      go_simp
      refine wpAnyH_take (i := 25) (v := .pointer (some ⟨b5, o5 + k * 2 + 1, none⟩)) rfl (by kernel_rfl) (by kernel_rfl) (by kernel_rfl) (fun _ _ _ h => h) (Or.inl ⟨by rfl, ?_⟩) HS0.out ?_
      · intro u hu; go_simp
      go_simp
      refine wpAnyH_take (i := 26) (v := .slice ia il ic) rfl (by kernel_rfl) (by kernel_rfl) (by kernel_rfl) (fun _ _ _ h => h) (Or.inl ⟨by rfl, ?_⟩) HS0.out ?_
      · intro u hu; have := KC.out u hu _ _ ci2; go_simp
      go_simp
      refine wpAnyH_take (i := 27) (v := .string S) rfl (by kernel_rfl) (by kernel_rfl) (by kernel_rfl) (fun _ _ _ h => h) (Or.inl ⟨by rfl, ?_⟩) HS0.out ?_
      · intro u hu; have := (IX.out.below hu (Nat.le_refl _)).convAny; rw [← HS.out] at this; go_simp
      go_simp
      refine wpAnyH_take (i := 28) (v := .bool false) rfl (by kernel_rfl) (by kernel_rfl) (by kernel_rfl) (fun _ _ _ h => h) (Or.inl ⟨by rfl, ?_⟩) HS0.out ?_
      · intro u hu; go_simp
      go_simp
      refine wpAnyH_take (i := 29) (v := .bool false) rfl (by kernel_rfl) (by kernel_rfl) (by kernel_rfl) (fun _ _ _ h => h) (Or.inl ⟨by rfl, ?_⟩) HS0.out ?_
      · intro u hu; go_simp
      go_simp
      refine wpAnyH_take (i := 30) (v := .bool false) rfl (by kernel_rfl) (by kernel_rfl) (by kernel_rfl) (fun _ _ _ h => h) (Or.inl ⟨by rfl, ?_⟩) HS0.out ?_
      · intro u hu; go_simp
      go_simp
      refine wpAnyH_take (i := 31) (v := .pointer (some ⟨g19, 0, none⟩)) rfl (by kernel_rfl) (by kernel_rfl) (by kernel_rfl) (fun _ _ _ h => h) (Or.inl ⟨by rfl, ?_⟩) HS0.out ?_
      · intro u hu; go_simp
      go_simp
      refine wpAnyH_take (i := 32) (v := .int .i64 nx) rfl (by kernel_rfl) (by kernel_rfl) (by kernel_rfl) (fun _ _ _ h => h) (Or.inl ⟨by rfl, ?_⟩) HS0.out ?_
      · intro u hu; have := KC.out u hu _ _ y0; go_simp
      go_simp
      refine wpAnyH_take (i := 33) (v := .pointer (some ⟨g18, 0, none⟩)) rfl (by kernel_rfl) (by kernel_rfl) (by kernel_rfl) (fun _ _ _ h => h) (Or.inl ⟨by rfl, ?_⟩) HS0.out ?_
      · intro u hu; go_simp
      go_simp
      refine wpAnyH_take (i := 34) (v := .int .i64 nx) rfl (by kernel_rfl) (by kernel_rfl) (by kernel_rfl) (fun _ _ _ h => h) (Or.inl ⟨by rfl, ?_⟩) HS0.out ?_
      · intro u hu; have := KC.out u hu _ _ x0; go_simp
      go_simp
      refine wpAnyH_take (i := 35) (v := .bool false) rfl (by kernel_rfl) (by kernel_rfl) (by kernel_rfl) (fun _ _ _ h => h) (Or.inl ⟨by rfl, ?_⟩) HS0.out ?_
      · intro u hu; go_simp
      go_simp
      refine wpAnyH_take (i := 36) (v := .bool false) rfl (by kernel_rfl) (by kernel_rfl) (by kernel_rfl) (fun _ _ _ h => h) (Or.inl ⟨by rfl, ?_⟩) HS0.out ?_
      · intro u hu; go_simp
      go_simp
      refine wpAnyH_take (i := 37) (v := .bool false) rfl (by kernel_rfl) (by kernel_rfl) (by kernel_rfl) (fun _ _ _ h => h) (Or.inl ⟨by rfl, ?_⟩) HS0.out ?_
      · intro u hu; go_simp
      go_simp
      refine wpAnyH_take (i := 38) (v := .pointer (some ⟨g19, 1, none⟩)) rfl (by kernel_rfl) (by kernel_rfl) (by kernel_rfl) (fun _ _ _ h => h) (Or.inl ⟨by rfl, ?_⟩) HS0.out ?_
      · intro u hu; go_simp
      go_simp
      refine wpAnyH_take (i := 39) (v := .slice aA mA cA) rfl (by kernel_rfl) (by kernel_rfl) (by kernel_rfl) (fun _ _ _ h => h) (Or.inl ⟨by rfl, ?_⟩) HS0.out ?_
      · intro u hu; have := KC.out u hu _ _ y1; go_simp
      go_simp
      refine wpAnyH_take (i := 40) (v := .string S) rfl (by kernel_rfl) (by kernel_rfl) (by kernel_rfl) (fun _ _ _ h => h) (Or.inl ⟨by rfl, ?_⟩) HS0.out ?_
      · intro u hu; have := (DA.out.below hu (Nat.le_refl _)).convAny; rw [← HS.out] at this; go_simp
      go_simp
      refine wpAnyH_take (i := 41) (v := .pointer (some ⟨g18, 1, none⟩)) rfl (by kernel_rfl) (by kernel_rfl) (by kernel_rfl) (fun _ _ _ h => h) (Or.inl ⟨by rfl, ?_⟩) HS0.out ?_
      · intro u hu; go_simp
      go_simp
      refine wpAnyH_take (i := 42) (v := .slice a9 m9 c9) rfl (by kernel_rfl) (by kernel_rfl) (by kernel_rfl) (fun _ _ _ h => h) (Or.inl ⟨by rfl, ?_⟩) HS0.out ?_
      · intro u hu; have := KC.out u hu _ _ x1; go_simp
      go_simp
      refine wpAnyH_take (i := 43) (v := .string S) rfl (by kernel_rfl) (by kernel_rfl) (by kernel_rfl) (fun _ _ _ h => h) (Or.inl ⟨by rfl, ?_⟩) HS0.out ?_
      · intro u hu; have := (D9A.out.below hu (Nat.le_refl _)).convAny; rw [← HS.out] at this; go_simp
      go_simp
      refine wpAnyH_take (i := 44) (v := .bool false) rfl (by kernel_rfl) (by kernel_rfl) (by kernel_rfl) (fun _ _ _ h => h) (Or.inl ⟨by rfl, ?_⟩) HS0.out ?_
      · intro u hu; go_simp
      go_simp
      refine wpAnyH_take (i := 45) (v := .bool false) rfl (by kernel_rfl) (by kernel_rfl) (by kernel_rfl) (fun _ _ _ h => h) (Or.inl ⟨by rfl, ?_⟩) HS0.out ?_
      · intro u hu; go_simp
      go_simp
      refine wpAnyH_take (i := 46) (v := .bool false) rfl (by kernel_rfl) (by kernel_rfl) (by kernel_rfl) (fun _ _ _ h => h) (Or.inl ⟨by rfl, ?_⟩) HS0.out ?_
      · intro u hu; go_simp
      go_simp
      refine wpAnyH_take (i := 47) (v := .pointer (some ⟨R3, 0, none⟩)) rfl (by kernel_rfl) (by kernel_rfl) (by kernel_rfl) (fun _ _ _ h => h) (Or.inl ⟨by rfl, ?_⟩) HS0.out ?_
      · intro u hu; go_simp
      go_simp
      refine wpAnyH_ready (rs := [48]) (by kernel_rfl) (by simp) ?_
      refine AllReadyH.cons rfl (fun K hK => ?_) AllReadyH.nil
      go_simp
      refine (left_any (SA.out.below HS0.out (Nat.le_refl _))).mono ?_
      rintro e ul ⟨rfl, hul⟩
      have HS2 : Hid (Below WA.heap.size WA ul) := Lib.hid (by obtain ⟨m, rfl⟩ := hul; exact HS0.out.trans ⟨rfl, rfl, rfl, Nat.le_refl _, fun _ _ => rfl⟩)
      clear HS0 hul
      have HS0 := HS2
      clear HS2
      have hstst : (st : Int) - (st : Int) = 0 := by omega
      refine hK.out _ _ HS0.out (fun _ => ?_)
      clear hK K
      refine wpAnyH_take (i := 49) (v := .bool false) rfl (by kernel_rfl) (by kernel_rfl) (by kernel_rfl) (fun _ _ _ h => h) (Or.inl ⟨by rfl, ?_⟩) HS0.out ?_
      · intro u hu; go_simp
      go_simp
      refine wpAnyH_ready (rs := [50]) (by kernel_rfl) (by simp) ?_
      refine AllReadyH.cons rfl (fun K hK => ?_) AllReadyH.nil
      go_simp
      refine hK.out _ _ HS0.out (fun _ => ?_)
      clear hK K
      refine wpAnyH_done (by kernel_rfl) ?_ _
      have IE := IA.out.below HS0.out (Nat.le_refl _)
      rw [← Hpos.out, Hq.out] at IE
      have HIE := Lib.hid IE
      have CE : Hid (Below u1.heap.size u1 ul) := Lib.hid (CA.out.trans (HS0.out.mono CA.out.size))
      clear IE IA SA CA DA D9A IX x0 x1 x2 y0 y1 y2 ci1 ci2 KC HS0
      go_wp2_with fail
      go_roundw
      case rel => exact ⟨k + 1, by omega, by go_num, HIE.out, CE.out⟩
      case measure => simp [intOf]; omega
    · obtain rfl : k = len0 := by omega
      rw [← HP.out] at Ik
      have Bw : Hid (Below w.heap.size w wr) := Lib.hid (Hb5.out.trans (Bk.out.mono Hb5.out.size))
      have hPP : ((P : Int) != (P : Int)) = false := by simp
      have hPP2 : ((P : Int) == (P : Int)) = true := by simp
      by_cases g1 : a2 < 0
      · go_wp2_with fail
        refine (at_any Ik.out).mono ?_
        rintro e w4 ⟨rfl, rfl⟩
        go_wp2_with fail
        refine (sanity_any _).mono ?_
        rintro e w5 ⟨rfl, hb⟩
        have I5 := Lib.hid (Ik.out.below hb (Nat.le_refl _))
        have B5 : Hid (Below w.heap.size w w5) := Lib.hid (Bw.out.trans (hb.mono Bw.out.size))
        clear hb
        go_wp2_with fail
        refine (at_any I5.out).mono ?_
        rintro e w6 ⟨rfl, rfl⟩
        go_wp2_with fail
        go_ret
        exact ⟨rfl, B5.out⟩
      by_cases g2 : (len1 : Int) < a2
      · go_wp2_with fail
        refine (at_any Ik.out).mono ?_
        rintro e w4 ⟨rfl, rfl⟩
        go_wp2_with fail
        refine (sanity_any _).mono ?_
        rintro e w5 ⟨rfl, hb⟩
        have I5 := Lib.hid (Ik.out.below hb (Nat.le_refl _))
        have B5 : Hid (Below w.heap.size w w5) := Lib.hid (Bw.out.trans (hb.mono Bw.out.size))
        clear hb
        go_wp2_with fail
        refine (at_any I5.out).mono ?_
        rintro e w6 ⟨rfl, rfl⟩
        go_wp2_with fail
        go_ret
        exact ⟨rfl, B5.out⟩
      obtain ⟨t, rfl⟩ : ∃ n : Nat, a2 = n := ⟨a2.toNat, by omega⟩
      have htl : t ≤ len1 := by omega
      go_wp2_with fail
      refine (at_any Ik.out).mono ?_
      rintro e w4 ⟨rfl, rfl⟩
      go_wp2_with fail
      refine (seek_ok Ik.out t htl).mono ?_
      rintro e w4 ⟨rfl, hm⟩
      have I4 := Lib.hid hm.isR
      have C4 : Hid (Below u1.heap.size u1 w4) := Lib.hid (Bk.out.trans (below_moved Ik.out hm hR))
      have Y4 := Lib.hid (H15.out.below C4.out (Nat.le_refl _))
      have hcc : t ≤ cap1 := by omega
      clear hm Bw
      by_cases hct : cap1 = t
      · have h0 : len1 - t = 0 := by omega
        have X4 : Hid (Rd w4 a1 (len1 - t) (cap1 - t) ((xs1.drop t).take (len1 - t))) := Lib.hid (by rw [h0, List.take_zero, show cap1 - t = 0 by omega]; exact Y4.out.cut0)
        have hck : (cap1 = t) = True := eq_true hct
        have hl1 := H1.out.hl
        clear hct h0 Y4
        go_wp2_with fail
        refine (newReader_any _ _ _ _ w4 X4.out (by omega)).mono ?_
        rintro e w5 ⟨R4, a7, c7, rfl, hR4, hI4, hb⟩
        have hdr : (xs1.drop t).take (len1 - t) = xs1.drop t := List.take_of_length_le (by rw [List.length_drop]; have := H1.out.hl; omega)
        rw [hdr] at hI4
        have I5 := Lib.hid (I4.out.below hb (Nat.le_refl _))
        have J5 := Lib.hid hI4
        have C5 : Hid (Below u1.heap.size u1 w5) := Lib.hid (C4.out.trans (hb.mono C4.out.size))
        have hne4 : R4 ≠ R := by have := I4.out.lt; omega
        have hR4' : u1.heap.size ≤ R4 := by have := I4.out.lt; omega
        clear hb hI4 hdr I4 C4 X4
        go_wp2_with fail
        refine (rvar_any I5.out).mono ?_
        rintro e w6 ⟨rfl, hm⟩
        have J6 := Lib.hid (IsR.other J5.out hm hne4)
        have C6 : Hid (Below u1.heap.size u1 w6) := Lib.hid (C5.out.trans (below_moved I5.out hm hR))
        have I6 := Lib.hid hm.isR
        clear hm I5 J5 C5
        go_wp2_with fail
        refine (rvar_any J6.out).mono ?_
        rintro e w7 ⟨rfl, hm⟩
        rw [List.drop_zero, Nat.zero_add] at *
        have I7 := Lib.hid (IsR.other I6.out hm hne4.symm)
        have C7 : Hid (Below u1.heap.size u1 w7) := Lib.hid (C6.out.trans (below_moved J6.out hm hR4'))
        have J7 := Lib.hid hm.isR
        clear hm I6 J6 C6
        obtain ⟨vn, hvn⟩ : ∃ v, v = (toVarV (xs1.drop t)).1 := ⟨_, rfl⟩
        obtain ⟨ve, hve⟩ : ∃ v, v = (toVarV (xs1.drop t)).2.2 := ⟨_, rfl⟩
        obtain ⟨vu, hvu⟩ : ∃ v, v = (toVarV (xs1.drop t)).2.1.toNat := ⟨_, rfl⟩
        rw [← hvu] at I7 J7
        rw [← hvn, ← hve]
        clear hvn hve hvu
        go_wp2_with fail
        refine (sanity_any w7).mono ?_
        rintro e w8 ⟨rfl, hb⟩
        have I8 := Lib.hid (I7.out.below hb (Nat.le_refl _))
        have J8 := Lib.hid (J7.out.below hb (Nat.le_refl _))
        have C8 : Hid (Below u1.heap.size u1 w8) := Lib.hid (C7.out.trans (hb.mono C7.out.size))
        clear hb I7 J7 C7
        go_wp2_with fail
        refine (left_any I8.out).mono ?_
        rintro e w9 ⟨rfl, h9⟩
        have B9 : Hid (Below w8.heap.size w8 w9) := Lib.hid (by obtain ⟨m, rfl⟩ := h9; exact ⟨rfl, rfl, rfl, Nat.le_refl _, fun _ _ => rfl⟩)
        have J9 := Lib.hid (J8.out.below B9.out (Nat.le_refl _))
        clear h9
        go_wp2_with fail
        refine (left_any J9.out).mono ?_
        rintro e wX ⟨rfl, hX⟩
        have BX : Hid (Below w9.heap.size w9 wX) := Lib.hid (by obtain ⟨m, rfl⟩ := hX; exact ⟨rfl, rfl, rfl, Nat.le_refl _, fun _ _ => rfl⟩)
        have hve' : (((len1 : Int) - ((t : Int) + (vu : Int))) == (((len1 - t : Nat) : Int) - (vu : Int))) = true := by simp; omega
        clear hX
        go_wp2_with fail
        go_ret
        exact ⟨rfl, Hb5.out.trans ((C8.out.trans ((B9.out.trans (BX.out.mono B9.out.size)).mono C8.out.size)).mono Hb5.out.size)⟩
      · have X4 := Lib.hid (Y4.out.cut2 t (len1 - t) (by omega))
        have hck : (cap1 = t) = False := eq_false hct
        have hl1 := H1.out.hl
        clear hct Y4
        go_wp2_with fail
        refine (newReader_any _ _ _ _ w4 X4.out (by omega)).mono ?_
        rintro e w5 ⟨R4, a7, c7, rfl, hR4, hI4, hb⟩
        have hdr : (xs1.drop t).take (len1 - t) = xs1.drop t := List.take_of_length_le (by rw [List.length_drop]; have := H1.out.hl; omega)
        rw [hdr] at hI4
        have I5 := Lib.hid (I4.out.below hb (Nat.le_refl _))
        have J5 := Lib.hid hI4
        have C5 : Hid (Below u1.heap.size u1 w5) := Lib.hid (C4.out.trans (hb.mono C4.out.size))
        have hne4 : R4 ≠ R := by have := I4.out.lt; omega
        have hR4' : u1.heap.size ≤ R4 := by have := I4.out.lt; omega
        clear hb hI4 hdr I4 C4 X4
        go_wp2_with fail
        refine (rvar_any I5.out).mono ?_
        rintro e w6 ⟨rfl, hm⟩
        have J6 := Lib.hid (IsR.other J5.out hm hne4)
        have C6 : Hid (Below u1.heap.size u1 w6) := Lib.hid (C5.out.trans (below_moved I5.out hm hR))
        have I6 := Lib.hid hm.isR
        clear hm I5 J5 C5
        go_wp2_with fail
        refine (rvar_any J6.out).mono ?_
        rintro e w7 ⟨rfl, hm⟩
        rw [List.drop_zero, Nat.zero_add] at *
        have I7 := Lib.hid (IsR.other I6.out hm hne4.symm)
        have C7 : Hid (Below u1.heap.size u1 w7) := Lib.hid (C6.out.trans (below_moved J6.out hm hR4'))
        have J7 := Lib.hid hm.isR
        clear hm I6 J6 C6
        obtain ⟨vn, hvn⟩ : ∃ v, v = (toVarV (xs1.drop t)).1 := ⟨_, rfl⟩
        obtain ⟨ve, hve⟩ : ∃ v, v = (toVarV (xs1.drop t)).2.2 := ⟨_, rfl⟩
        obtain ⟨vu, hvu⟩ : ∃ v, v = (toVarV (xs1.drop t)).2.1.toNat := ⟨_, rfl⟩
        rw [← hvu] at I7 J7
        rw [← hvn, ← hve]
        clear hvn hve hvu
        go_wp2_with fail
        refine (sanity_any w7).mono ?_
        rintro e w8 ⟨rfl, hb⟩
        have I8 := Lib.hid (I7.out.below hb (Nat.le_refl _))
        have J8 := Lib.hid (J7.out.below hb (Nat.le_refl _))
        have C8 : Hid (Below u1.heap.size u1 w8) := Lib.hid (C7.out.trans (hb.mono C7.out.size))
        clear hb I7 J7 C7
        go_wp2_with fail
        refine (left_any I8.out).mono ?_
        rintro e w9 ⟨rfl, h9⟩
        have B9 : Hid (Below w8.heap.size w8 w9) := Lib.hid (by obtain ⟨m, rfl⟩ := h9; exact ⟨rfl, rfl, rfl, Nat.le_refl _, fun _ _ => rfl⟩)
        have J9 := Lib.hid (J8.out.below B9.out (Nat.le_refl _))
        clear h9
        go_wp2_with fail
        refine (left_any J9.out).mono ?_
        rintro e wX ⟨rfl, hX⟩
        have BX : Hid (Below w9.heap.size w9 wX) := Lib.hid (by obtain ⟨m, rfl⟩ := hX; exact ⟨rfl, rfl, rfl, Nat.le_refl _, fun _ _ => rfl⟩)
        have hve' : (((len1 : Int) - ((t : Int) + (vu : Int))) == (((len1 - t : Nat) : Int) - (vu : Int))) = true := by simp; omega
        clear hX
        go_wp2_with fail
        go_ret
        exact ⟨rfl, Hb5.out.trans ((C8.out.trans ((B9.out.trans (BX.out.mono B9.out.size)).mono C8.out.size)).mono Hb5.out.size)⟩
end Go.Proofs.Ytnhkkhceoaembaa.wireFields

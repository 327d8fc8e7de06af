/- What the statement WirePatches calls answers true, for every input that its walk is handed. -/
import Derived.Test.YtlmknpljncpjiaaRows
import Derived.WalkKit
import Derived.ProofKit
import Derived.OpenShut
import Derived.ShutString
import Derived.ChangeOld
import Derived.Below
import Derived.SizedLaws
import Derived.Test.YtlmknpljncpjiaaLopen
import Derived.Test.YtlmknpljncpjiaaLfew
import Derived.Test.YtlmknpljncpjiaaWpatch
import Derived.Test.YtlmknpljncpjiaaWpatched
import Derived.Test.YtlmknpljncpjiaaWsanity
import Derived.Deep.DeepCutAuto
import Derived.BigQuiet
namespace Go.Proofs.Ytlmknpljncpjiaa.wirePatches
open Go.ChangeShapes Go.WideShapes Go.ChangeAt Go.RowKit
open Go.ChangeMaps (open_string shut_string)
set_option linter.unusedVariables false

theorem RdI.nil (w : World) : RdI w none 0 0 [] := ⟨rfl, Nat.le_refl _, Nat.zero_le _, by simp, fun _ => rfl, by simp⟩
theorem items_get {items : List Itm} {len : Nat} {g : Nat → Int × List Int} (h : items.map (fun x => (x.n, x.xs)) = (List.range len).map g) : items.length = len ∧ ∀ k, k < len → ((items.getD k default).n, (items.getD k default).xs) = g k := by
  have hl : items.length = len := by have := congrArg List.length h; simpa using this
  refine ⟨hl, fun k hk => ?_⟩
  have := congrArg (fun l => l[k]?) h
  simp only [List.getElem?_map] at this
  rw [List.getElem?_eq_getElem (by omega), List.getElem?_range (by omega)] at this
  simp only [Option.map_some, Option.some.injEq] at this
  have hg : items.getD k default = items[k]'(by omega) := by simp [List.getD, show k < items.length by omega]
  rw [hg]; exact this
theorem below_drewN {B : Nat} {a w : World} (h : Below B a w) (n : Nat) : Below B a (w.drewN n) := ⟨h.os, h.tape, h.output, h.size, h.block⟩
theorem okBelow {w w' : World} {B : Nat} {x : Itm} (h : x.Ok w) (hb : Below B w w') (hB : w.heap.size ≤ B) : x.Ok w' := ⟨h.n1, h.n2, h.r.below hb hB⟩
theorem rdItem {w : World} {a : Option Addr} {len cap : Nat} {xs : List Itm} (h : RdI w a len cap xs) {k : Nat} (hk : k < len) : (xs.getD k default).Ok w := by
  have hl := h.hl
  have : xs.getD k default = xs[k]'(by omega) := by simp [List.getD, show k < xs.length by omega]
  rw [this]; exact h.hb _ (List.getElem_mem _)
set_option maxRecDepth 100000 in
set_option maxHeartbeats 8000000 in
theorem walk (a0 : Option Addr) (len0 cap0 : Nat) (xs0 : List Fld) (a1 : Option Addr) (len1 cap1 : Nat) (xs1 : List Int) (a2 : Int) (x3 : Itm) (w : World) (w0 : RdF w a0 len0 cap0 xs0) (w1 : Rd w a1 len1 cap1 xs1 ∧ cap1 ≤ 140737488351232) (w2 : (Lit.int .i64 a2).wf = true) (w3 : (x3.Ok w ∧ x3.cap ≤ 140737488351232)) :
    Calls Try.prog 12 #[.slice a0 len0 cap0, .slice a1 len1 cap1, .int .i64 a2, .agg #[.int .i64 x3.n, .slice x3.a x3.len x3.cap]] w fun e w' => e = .returned (.bool true) ∧ Below w.heap.size w w' := by
  obtain ⟨w1, hcap1⟩ := w1
  obtain ⟨w3, hcap3⟩ := w3
  obtain ⟨i1, i2⟩ := wf_i64 w2
  have m1 := w1.hm
  have c1 := w1.hc
  have m0 := w0.hm
  have c0 := w0.hc
  have m3 := w3.r.hm
  have c3 := w3.r.hc
  unfold maxLen at m0 m1 m3
  obtain ⟨W0, hW0⟩ : ∃ W0, W0 = w.alloc (.cells #[.int .i64 x3.n, .slice x3.a x3.len x3.cap] 52) := ⟨_, rfl⟩
  have hb0 : Below w.heap.size w W0 := by rw [hW0]; exact (Below.refl _ w).alloc (Nat.le_refl _) _
  have hg0 : ∀ j, W0.cell? ⟨w.heap.size, j, none⟩ = #[Value.int .i64 x3.n, .slice x3.a x3.len x3.cap][j]? := fun j => by rw [hW0]; exact World.cell?_alloc_mark w _ _ (0, 0) j
  have hs0 : W0.heap.size = w.heap.size + 1 := by rw [hW0]; simp
  have d0 : W0.cell? ⟨w.heap.size, 0, none⟩ = some (.int .i64 x3.n) := hg0 0
  have d1 : W0.cell? ⟨w.heap.size, 1, none⟩ = some (.slice x3.a x3.len x3.cap) := hg0 1
  have H0 := Lib.hid (w0.below hb0 (Nat.le_refl _))
  have H1 := Lib.hid (w1.below hb0 (Nat.le_refl _))
  have HX := Lib.hid (okBelow w3 hb0 (Nat.le_refl _))
  have HW0 := Lib.hid hW0
  have Hb0 := Lib.hid hb0
  have Hs0 := Lib.hid hs0
  have hlt0 : w.heap.size < W0.heap.size := by omega
  clear w0 w1 w2 w3 hW0 hb0 hg0 hs0
  rcases hF : fewV len0 0 len1 [] with _ | _
  · have HF := Lib.hid hF
    clear hF
    go_enter Try.func12, Try.ntmps12
    go_wp2_with fail
    rw [← HW0.out]
    refine (few_any a0 len0 cap0 none 0 0 [] a1 len1 cap1 W0 (RdI.nil W0) (by simp) (by omega) (by omega)).mono ?_
    rintro e u1 ⟨rfl, rfl⟩
    rw [HF.out]
    clear HF HW0
    go_wp2_with fail
    refine (sanity_any _).mono ?_
    rintro e u9 ⟨rfl, hb9⟩
    have Hb9 := Lib.hid (Hb0.out.trans (hb9.mono Hb0.out.size))
    clear hb9
    go_wp2_with fail
    go_ret
    exact ⟨rfl, Hb9.out⟩
  · have hfl : len1 ≤ 70000 := by
      simp [fewV, sumL] at hF
      omega
    have HF := Lib.hid hF
    clear hF
    by_cases hbx : (5000 : Int) < (x3.len : Int)
    · go_enter Try.func12, Try.ntmps12
      go_wp2_with fail
      rw [← HW0.out]
      refine (few_any a0 len0 cap0 none 0 0 [] a1 len1 cap1 W0 (RdI.nil W0) (by simp) (by omega) (by omega)).mono ?_
      rintro e u1 ⟨rfl, rfl⟩
      rw [HF.out]
      clear HF HW0
      go_wp2_with fail
      refine (sanity_any _).mono ?_
      rintro e u9 ⟨rfl, hb9⟩
      have Hb9 := Lib.hid (Hb0.out.trans (hb9.mono Hb0.out.size))
      clear hb9
      go_wp2_with fail
      go_ret
      exact ⟨rfl, Hb9.out⟩
    · go_enter Try.func12, Try.ntmps12
      go_wp2_with fail
      rw [← HW0.out]
      refine (few_any a0 len0 cap0 none 0 0 [] a1 len1 cap1 W0 (RdI.nil W0) (by simp) (by omega) (by omega)).mono ?_
      rintro e u1 ⟨rfl, rfl⟩
      rw [HF.out]
      clear HF HW0
      go_wp2_with fail
      have hbB := H1.out.hb
      have hl0 := H0.out.hl
      have hl1 := H1.out.hl
      by_cases hE : errV xs0 xs1 = 0
      · obtain ⟨hch, hok⟩ := errV_ok hE
        obtain ⟨hpos, hq⟩ := unpack_oneway hbB hch hok
        have hok' : ∀ k, k < len0 → (atV xs0 xs1 k).1 = 0 := fun k hk => hok k (by omega)
        have hbd' : ∀ k, k < len0 → -9223372036854775808 ≤ (atV xs0 xs1 k).2.1 ∧ (atV xs0 xs1 k).2.1 ≤ 9223372036854775807 := fun k hk => ⟨(hq k (by omega)).2.2.1, (hq k (by omega)).2.2.2.1⟩
        refine (unpack_ok a0 len0 cap0 xs0 W0 H0.out a1 len1 cap1 xs1 H1.out (by omega) hch hok' hbd').mono ?_
        rintro e u1 ⟨a5, c5, old, rfl, r5, hmap, b5⟩
        obtain ⟨hol, hog⟩ := items_get hmap
        have Hb5 := Lib.hid (Hb0.out.trans (b5.mono Hb0.out.size))
        have H0a := Lib.hid (H0.out.below b5 (Nat.le_refl _))
        have H1a := Lib.hid (H1.out.below b5 (Nat.le_refl _))
        have HXa := Lib.hid (okBelow HX.out b5 (Nat.le_refl _))
        have hsz1 := b5.size
        have d2 : u1.cell? ⟨w.heap.size, 0, none⟩ = some (.int .i64 x3.n) := (b5.cell (p := ⟨w.heap.size, 0, none⟩) hlt0).trans d0
        have d3 : u1.cell? ⟨w.heap.size, 1, none⟩ = some (.slice x3.a x3.len x3.cap) := (b5.cell (p := ⟨w.heap.size, 1, none⟩) hlt0).trans d1
        have Hr5 := Lib.hid r5
        have Hog := Lib.hid hog
        have Hch := Lib.hid hch
        have Hok := Lib.hid hok
        have Hok' := Lib.hid hok'
        have Hpos := Lib.hid hpos
        have m5 := r5.hm
        have e5 := r5.hc
        unfold maxLen at m5
        obtain ⟨p5, hp5⟩ : ∃ p, p = posV xs0 xs1 len0 := ⟨_, rfl⟩
        rw [← hp5]
        clear r5 hmap b5 hog hch hok hok' hbd' hpos hq hE hbB hl0 hl1 d0 d1 hp5 H0 H1 HX Hb0
        go_wp2_with fail
        by_cases hi : 0 ≤ a2 ∧ a2 < len0
        · obtain ⟨i, rfl⟩ := Int.eq_ofNat_of_zero_le hi.1
          have hil : i < len0 := by omega
          clear hi
          have hmono := posV_mono xs0 xs1 1 i
          have hple := Hpos.out (i + 1) (by have := H0a.out.hl; omega)
          have hl1 := H1a.out.hl
          have C := Lib.hid (patch_at_any i a0 len0 cap0 xs0 u1 H0a.out a1 len1 cap1 xs1 H1a.out (by omega) Hch.out Hok'.out ⟨hmono, by omega⟩ hil x3 HXa.out)
          clear hmono hple hl1
          refine C.out.mono ?_
          clear C
          rintro e u2 ⟨v2, rfl, ho2, b6⟩
          have Hb6 := Lib.hid (Hb5.out.trans (b6.mono Hb5.out.size))
          have H0b := Lib.hid (H0a.out.below b6 (Nat.le_refl _))
          have H1b := Lib.hid (H1a.out.below b6 (Nat.le_refl _))
          have Hr5b := Lib.hid (Hr5.out.below b6 (Nat.le_refl _))
          have HXb := Lib.hid (okBelow HXa.out b6 (Nat.le_refl _))
          have hsz2 := b6.size
          have d4 : u2.cell? ⟨w.heap.size, 0, none⟩ = some (.int .i64 x3.n) := (b6.cell (p := ⟨w.heap.size, 0, none⟩) (by simp; omega)).trans d2
          have d5 : u2.cell? ⟨w.heap.size, 1, none⟩ = some (.slice x3.a x3.len x3.cap) := (b6.cell (p := ⟨w.heap.size, 1, none⟩) (by simp; omega)).trans d3
          by_cases hpk : packE (xs0.getD i default).kind x3.n (xs0.getD i default).width x3.xs = 0
          · have ho2 := ho2 hpk
            change Own u2 u1.heap.size v2 (patchB xs0 xs1 i (packB (xs0.getD i default).kind x3.n (xs0.getD i default).width x3.xs)) at ho2
            rw [hpk]
            have hl0 := H0a.out.hl
            have hx0 : i < xs0.length := by omega
            have hat := fun k (hk : k < xs0.length) => patch_at H1a.out.hb Hch.out Hok.out hx0 hpk HXa.out.n1 HXa.out.n2 k hk
            have hback := patch_back H1a.out.hb Hch.out Hok.out hx0 hpk HXa.out.n1 HXa.out.n2
            have hlC : (patchB xs0 xs1 i (packB (xs0.getD i default).kind x3.n (xs0.getD i default).width x3.xs)).length ≤ 150000 := by
              have hfm : xs0.getD i default ∈ xs0 := by
                have : xs0.getD i default = xs0[i] := by simp [List.getD, hx0]
                rw [this]; exact List.getElem_mem _
              have := packB_len ((checkV_ok Hch.out).2 _ hfm) x3.n x3.xs
              have := H1a.out.hl
              unfold patchB
              rw [List.length_append, List.length_append, List.length_take, List.length_drop]
              omega
            obtain ⟨C, hC⟩ : ∃ C, C = patchB xs0 xs1 i (packB (xs0.getD i default).kind x3.n (xs0.getD i default).width x3.xs) := ⟨_, rfl⟩
            rw [← hC] at ho2 hat hback hlC
            clear hC
            obtain ⟨lc, hlc⟩ : ∃ l, l = C.length := ⟨_, rfl⟩
            rw [← hlc] at hlC
            obtain ⟨a6, c6, rfl, r6⟩ := ho2.rdz hlc.symm
            have hokC : ∀ k, k < xs0.length → (atV xs0 C k).1 = 0 := fun k hk => (hat k hk).1
            obtain ⟨hposC, hqC⟩ := unpack_oneway r6.hb Hch.out hokC
            have hbdC : ∀ k, k < len0 → -9223372036854775808 ≤ (atV xs0 C k).2.1 ∧ (atV xs0 C k).2.1 ≤ 9223372036854775807 := fun k hk => ⟨(hqC k (by omega)).2.2.1, (hqC k (by omega)).2.2.2.1⟩
            have HU := Lib.hid (fun W (hW : Rd W a6 lc c6 C) (hF : RdF W a0 len0 cap0 xs0) => unpack_ok a0 len0 cap0 xs0 W hF a6 lc c6 C hW (by omega) Hch.out (fun k hk => hokC k (by omega)) hbdC)
            have HK := Lib.hid (fun W (hW : Rd W a6 lc c6 C) (hF : RdF W a0 len0 cap0 xs0) (x : Itm) (hx : x.Ok W) => patch_at_any i a0 len0 cap0 xs0 W hF a6 lc c6 C hW (by omega) Hch.out (fun k hk => hokC k (by omega)) ⟨posV_mono xs0 C 1 i, by have := hposC (i + 1) (by omega); omega⟩ hil x hx)
            have Hat : Hid (∀ k, k < len0 → ((atV xs0 C k).2.1, (atV xs0 C k).2.2.1) = if k = i then (x3.n, x3.xs) else ((atV xs0 xs1 k).2.1, (atV xs0 xs1 k).2.2.1)) := Lib.hid (fun k hk => (hat k (by omega)).2)
            have Hback := Lib.hid hback
            have Hr6 := Lib.hid r6
            have gi0 : ¬ ((i : Int) < 0) := by omega
            have gi1 : ¬ ((i : Int) ≥ (len0 : Int)) := by omega
            have gi2 : (i : Int) < (len0 : Int) := by omega
            have gi3 : (0 : Int) ≤ (i : Int) := by omega
            clear hat hback r6 ho2 hokC hposC hqC hbdC hlc hpk hl0 hx0 Hok Hok' Hpos Hch b6 H0a H1a HXa Hr5 d2 d3
            go_wp2_with fail
            refine (HU.out u2 Hr6.out H0b.out).mono ?_
            rintro e u3 ⟨a7, c7, now, rfl, r7, hmap7, b7⟩
            obtain ⟨hnl, hng⟩ := items_get hmap7
            have Hb7 := Lib.hid (Hb6.out.trans (b7.mono Hb6.out.size))
            have H0c := Lib.hid (H0b.out.below b7 (Nat.le_refl _))
            have H1c := Lib.hid (H1b.out.below b7 (Nat.le_refl _))
            have Hr6c := Lib.hid (Hr6.out.below b7 (Nat.le_refl _))
            have HXc := Lib.hid (okBelow HXb.out b7 (Nat.le_refl _))
            have Hr5c := Lib.hid (Hr5b.out.below b7 (Nat.le_refl _))
            have Hr7 := Lib.hid r7
            have Hng := Lib.hid hng
            have hsz3 := b7.size
            have m7 := r7.hm
            have e7 := r7.hc
            unfold maxLen at m7
            have d6 : u3.cell? ⟨w.heap.size, 0, none⟩ = some (.int .i64 x3.n) := (b7.cell (p := ⟨w.heap.size, 0, none⟩) (by simp; omega)).trans d4
            have d7 : u3.cell? ⟨w.heap.size, 1, none⟩ = some (.slice x3.a x3.len x3.cap) := (b7.cell (p := ⟨w.heap.size, 1, none⟩) (by simp; omega)).trans d5
            obtain ⟨bo, oo, rfl, hco⟩ := Hr5c.out.hr (by omega)
            obtain ⟨bn, on, rfl, hcn⟩ := Hr7.out.hr (by omega)
            obtain ⟨e0, e1⟩ := hco i hil
            have hlo : bo < u3.heap.size := World.block_lt_of_cell? u3 _ e0
            have hln : bn < u3.heap.size := World.block_lt_of_cell? u3 _ (hcn i hil).1
            have HO := Lib.hid hco
            have HN := Lib.hid hcn
            have hpi : packE (xs0.getD i default).kind (old.getD i default).n (xs0.getD i default).width (old.getD i default).xs = 0 ∧ patchB xs0 C i (packB (xs0.getD i default).kind (old.getD i default).n (xs0.getD i default).width (old.getD i default).xs) = xs1 := by
              have := Hog.out i hil
              rw [Prod.mk.injEq] at this
              rw [this.1, this.2]
              exact Hback.out
            have hyo := rdItem Hr5c.out hil
            obtain ⟨y, hy⟩ : ∃ y, y = old.getD i default := ⟨_, rfl⟩
            rw [← hy] at hpi hyo e0 e1
            have C2 := Lib.hid (HK.out u3 Hr6c.out H0c.out y hyo)
            have Hpi := Lib.hid hpi
            clear hy hyo hpi hcn hco b7 r7 hmap7 hng Hback HK HU H0b H1b Hr6 HXb Hr5b d4 d5 hnl
            go_wp2_with fail
            refine C2.out.mono ?_
            clear C2
            rintro e u4 ⟨v4, rfl, ho4, b8⟩
            have ho4 := ho4 Hpi.out.1
            change Own u4 u3.heap.size v4 (patchB xs0 C i (packB (xs0.getD i default).kind y.n (xs0.getD i default).width y.xs)) at ho4
            rw [Hpi.out.2] at ho4
            rw [Hpi.out.1]
            obtain ⟨a8, c8, rfl, r8⟩ := ho4.rdz H1c.out.hl
            have k1 := r8.convAny
            have k2 := (H1c.out.below b8 (Nat.le_refl _)).convAny
            have he' : ((strOfNums xs1).toList != (strOfNums xs1).toList) = false := by simp
            obtain ⟨S, hS⟩ : ∃ S, S = strOfNums xs1 := ⟨_, rfl⟩
            rw [← hS] at k1 k2 he'
            have Hb8 := Lib.hid b8
            have Hbe := Lib.hid (Hb7.out.trans (b8.mono Hb7.out.size))
            have hsz4 := b8.size
            clear hS ho4 r8 b8 Hpi e0 e1
            go_wp2_with fail
            go_loopw [17, 18] (fun j s wr => ∃ k : Nat, k ≤ len0 ∧ j = .int .i64 k ∧ Below u4.heap.size u4 wr) (fun j _ _ => len0 - (intOf j).toNat)
            case atStart => exact ⟨0, Nat.zero_le _, rfl, Below.refl _ _⟩
            case round =>
              obtain ⟨k, hk, rfl, hb⟩ := hrel
              have hbu := Hb8.out.trans (hb.mono Hb8.out.size)
              have Hbr := Lib.hid hb
              by_cases hlt : k < len0
              · have q0 : wr.cell? ⟨bo, oo + k * 2, none⟩ = some (.int .i64 (old.getD k default).n) := (hbu.cell (p := ⟨bo, oo + k * 2, none⟩) hlo).trans (HO.out k hlt).1
                have q1 : wr.cell? ⟨bo, oo + k * 2 + 1, none⟩ = some (.slice (old.getD k default).a (old.getD k default).len (old.getD k default).cap) := (hbu.cell (p := ⟨bo, oo + k * 2 + 1, none⟩) hlo).trans (HO.out k hlt).2
                have q2 : wr.cell? ⟨bn, on + k * 2, none⟩ = some (.int .i64 (now.getD k default).n) := (hbu.cell (p := ⟨bn, on + k * 2, none⟩) hln).trans (HN.out k hlt).1
                have q3 : wr.cell? ⟨bn, on + k * 2 + 1, none⟩ = some (.slice (now.getD k default).a (now.getD k default).len (now.getD k default).cap) := (hbu.cell (p := ⟨bn, on + k * 2 + 1, none⟩) hln).trans (HN.out k hlt).2
                have q4 : wr.cell? ⟨w.heap.size, 0, none⟩ = some (.int .i64 x3.n) := (hbu.cell (p := ⟨w.heap.size, 0, none⟩) (by simp; omega)).trans d6
                have q5 : wr.cell? ⟨w.heap.size, 1, none⟩ = some (.slice x3.a x3.len x3.cap) := (hbu.cell (p := ⟨w.heap.size, 1, none⟩) (by simp; omega)).trans d7
                have ho := (rdItem Hr5c.out hlt).r.below hbu (Nat.le_refl _)
                have hn := (rdItem Hr7.out hlt).r.below hbu (Nat.le_refl _)
                have hx := HXc.out.r.below hbu (Nat.le_refl _)
                have hz : ((now.getD k default).n, (now.getD k default).xs) = if k = i then (x3.n, x3.xs) else ((old.getD k default).n, (old.getD k default).xs) := by
                  rw [Hng.out k hlt, Hog.out k hlt, Hat.out k hlt]
                obtain ⟨yo, hyo⟩ : ∃ y, y = old.getD k default := ⟨_, rfl⟩
                obtain ⟨yn, hyn⟩ : ∃ y, y = now.getD k default := ⟨_, rfl⟩
                rw [← hyo] at q0 q1 ho hz
                rw [← hyn] at q2 q3 hn hz
                have Ho := Lib.hid ho
                have Hn := Lib.hid hn
                have Hx := Lib.hid hx
                have hsz5 := hbu.size
                have r0 : bo < wr.heap.size := by omega
                have r1 : bn < wr.heap.size := by omega
                have r2 : w.heap.size < wr.heap.size := by omega
                have hk0 : (0 : Int) ≤ (k : Int) := by omega
                have hk1 : (k : Int) < (len0 : Int) := by omega
                clear hyo hyn ho hn hx hbu hb
                by_cases hki : k = i
                · rw [if_pos hki, Prod.mk.injEq] at hz
                  subst hki
                  have hn' : (yn.n != x3.n) = false := by simp [hz.1]
                  have hg := heap_alloc_last wr (.cells #[.int .i64 yo.n, .slice yo.a yo.len yo.cap] 52)
                  obtain ⟨W, hW⟩ : ∃ W, W = (wr.alloc (.cells #[.int .i64 yo.n, .slice yo.a yo.len yo.cap] 52)).setRow wr.heap.size #[.int .i64 x3.n, .slice x3.a x3.len x3.cap] := ⟨_, rfl⟩
                  have hbW : Below wr.heap.size wr W := by rw [hW]; exact ((Below.refl _ wr).alloc (Nat.le_refl _) _).trans (below_setRow' _ _ _ _ (Nat.le_refl _))
                  have hs : W.heap[wr.heap.size]? = some (.cells #[.int .i64 x3.n, .slice x3.a x3.len x3.cap] 52 (0, 0)) := by rw [hW]; exact setRow_heap _ _ _ _ _ _ hg
                  have t0 : W.cell? ⟨wr.heap.size, 0, none⟩ = some (.int .i64 x3.n) := cell_of_row W _ 0 _ _ _ hs
                  have t1 : W.cell? ⟨wr.heap.size, 1, none⟩ = some (.slice x3.a x3.len x3.cap) := cell_of_row W _ 1 _ _ _ hs
                  have t2 := (hbW.cell (p := ⟨bn, on + k * 2, none⟩) r1).trans q2
                  have t3 := (hbW.cell (p := ⟨bn, on + k * 2 + 1, none⟩) r1).trans q3
                  have k3 := fun n => ((Hn.out.below hbW (Nat.le_refl _)).drewN n).convAny
                  have k4 := fun n => ((Hx.out.below hbW (Nat.le_refl _)).drewN n).convAny
                  rw [hz.2] at k3
                  obtain ⟨S2, hS2⟩ : ∃ S, S = strOfNums x3.xs := ⟨_, rfl⟩
                  rw [← hS2] at k3 k4
                  have he2 : (S2.toList != S2.toList) = false := by simp
                  have HB := Lib.hid (Hbr.out.trans (hbW.mono Hbr.out.size))
                  clear hz hs hS2 hbW
                  go_wp2_with (refine wpList_store_row rfl 52 (.tmp 18) (.tmp 115) rfl wr.heap.size #[.int .i64 x3.n, .slice x3.a x3.len x3.cap] rfl rfl 52 #[.int .i64 yo.n, .slice yo.a yo.len yo.cap] hg (Try.sizeDatum _ _) rfl (oneDatum _ _ _ _) ?_; rw [← hW]; clear hW hg)
                  go_quiet (fail)
                  go_wp2_with fail
                  go_roundw
                  case rel => exact ⟨k + 1, by omega, by go_num, below_drewN HB.out _⟩
                  case measure => simp [intOf]; omega
                · rw [if_neg hki, Prod.mk.injEq] at hz
                  have hkk : ((k : Int) == (i : Int)) = false := by simp; omega
                  have hn' : (yn.n != yo.n) = false := by simp [hz.1]
                  obtain ⟨W, hW⟩ : ∃ W, W = wr.alloc (.cells #[.int .i64 yo.n, .slice yo.a yo.len yo.cap] 52) := ⟨_, rfl⟩
                  have hbW : Below wr.heap.size wr W := by rw [hW]; exact (Below.refl _ wr).alloc (Nat.le_refl _) _
                  have hs : W.heap[wr.heap.size]? = some (.cells #[.int .i64 yo.n, .slice yo.a yo.len yo.cap] 52 (0, 0)) := by rw [hW]; exact heap_alloc_last wr _
                  have t0 : W.cell? ⟨wr.heap.size, 0, none⟩ = some (.int .i64 yo.n) := cell_of_row W _ 0 _ _ _ hs
                  have t1 : W.cell? ⟨wr.heap.size, 1, none⟩ = some (.slice yo.a yo.len yo.cap) := cell_of_row W _ 1 _ _ _ hs
                  have t2 := (hbW.cell (p := ⟨bn, on + k * 2, none⟩) r1).trans q2
                  have t3 := (hbW.cell (p := ⟨bn, on + k * 2 + 1, none⟩) r1).trans q3
                  have k3 := fun n => ((Hn.out.below hbW (Nat.le_refl _)).drewN n).convAny
                  have k4 := fun n => ((Ho.out.below hbW (Nat.le_refl _)).drewN n).convAny
                  rw [hz.2] at k3
                  obtain ⟨S2, hS2⟩ : ∃ S, S = strOfNums yo.xs := ⟨_, rfl⟩
                  rw [← hS2] at k3 k4
                  have he2 : (S2.toList != S2.toList) = false := by simp
                  have HB := Lib.hid (Hbr.out.trans (hbW.mono Hbr.out.size))
                  clear hz hs hS2 hbW
                  go_wp2_with fail
                  rw [← hW]
                  clear hW
                  go_quiet (fail)
                  go_wp2_with fail
                  go_roundw
                  case rel => exact ⟨k + 1, by omega, by go_num, below_drewN HB.out _⟩
                  case measure => simp [intOf]; omega
              · obtain rfl : k = len0 := by omega
                clear hbu hb
                go_wp2_with fail
                refine (sanity_any _).mono ?_
                rintro e u9 ⟨rfl, hb9⟩
                have Hb9 := Lib.hid (Hbe.out.trans ((Hbr.out.trans (hb9.mono Hbr.out.size)).mono Hbe.out.size))
                clear hb9
                go_wp2_with fail
                go_ret
                exact ⟨rfl, Hb9.out⟩
          · have hpk' : (packE (xs0.getD i default).kind x3.n (xs0.getD i default).width x3.xs != 0) = true := by simpa using hpk
            obtain ⟨er, her⟩ : ∃ er, er = packE (xs0.getD i default).kind x3.n (xs0.getD i default).width x3.xs := ⟨_, rfl⟩
            rw [← her] at hpk' ⊢
            clear hpk ho2 her b6
            go_wp2_with fail
            refine (sanity_any _).mono ?_
            rintro e u9 ⟨rfl, hb9⟩
            have Hb9 := Lib.hid (Hb6.out.trans (hb9.mono Hb6.out.size))
            clear hb9
            go_wp2_with fail
            go_ret
            exact ⟨rfl, Hb9.out⟩
        · have C := Lib.hid (patch_no a0 len0 cap0 u1 a1 len1 cap1 a2 x3.n x3.a x3.len x3.cap 1 (by decide) (fun W hW => where_out a0 len0 cap0 xs0 W (H0a.out.below hW (Nat.le_refl _)) a1 len1 cap1 xs1 (H1a.out.below hW (Nat.le_refl _)) (by omega) Hch.out Hok'.out a2 (by omega)))
          refine C.out.mono ?_
          clear C
          rintro e u2 ⟨rfl, b6⟩
          have Hb6 := Lib.hid (Hb5.out.trans (b6.mono Hb5.out.size))
          clear b6 hi
          go_wp2_with fail
          refine (sanity_any _).mono ?_
          rintro e u9 ⟨rfl, hb9⟩
          have Hb9 := Lib.hid (Hb6.out.trans (hb9.mono Hb6.out.size))
          clear hb9
          go_wp2_with fail
          go_ret
          exact ⟨rfl, Hb9.out⟩
      · have C := Lib.hid (unpack_err a0 len0 cap0 xs0 W0 H0.out a1 len1 cap1 xs1 H1.out (by omega) hE)
        have HE : Hid (errV xs0 xs1 ≠ 0) := Lib.hid hE
        obtain ⟨er, her⟩ : ∃ er, er = errV xs0 xs1 := ⟨_, rfl⟩
        have Her := Lib.hid her
        rw [← her] at C HE
        have hne : (er != 0) = true := by simpa using HE.out
        clear her hE hbB hl0 hl1
        refine C.out.mono ?_
        clear C
        rintro e u1 ⟨rfl, b5⟩
        have Hb5 := Lib.hid (Hb0.out.trans (b5.mono Hb0.out.size))
        have H0a := Lib.hid (H0.out.below b5 (Nat.le_refl _))
        have H1a := Lib.hid (H1.out.below b5 (Nat.le_refl _))
        have d2 : u1.cell? ⟨w.heap.size, 0, none⟩ = some (.int .i64 x3.n) := (b5.cell (p := ⟨w.heap.size, 0, none⟩) hlt0).trans d0
        have d3 : u1.cell? ⟨w.heap.size, 1, none⟩ = some (.slice x3.a x3.len x3.cap) := (b5.cell (p := ⟨w.heap.size, 1, none⟩) hlt0).trans d1
        clear b5 d0 d1 H0 H1 HX Hb0
        go_wp2_with fail
        have C := Lib.hid (patch_no a0 len0 cap0 u1 a1 len1 cap1 a2 x3.n x3.a x3.len x3.cap er HE.out (fun W hW => by
          have := where_err a0 len0 cap0 xs0 W (H0a.out.below hW (Nat.le_refl _)) a1 len1 cap1 xs1 (H1a.out.below hW (Nat.le_refl _)) (by omega) (by rw [← Her.out]; exact HE.out) a2
          rw [← Her.out] at this
          exact this))
        refine C.out.mono ?_
        clear C
        rintro e u2 ⟨rfl, b6⟩
        have Hb6 := Lib.hid (Hb5.out.trans (b6.mono Hb5.out.size))
        clear b6
        go_wp2_with fail
        refine (sanity_any _).mono ?_
        rintro e u9 ⟨rfl, hb9⟩
        have Hb9 := Lib.hid (Hb6.out.trans (hb9.mono Hb6.out.size))
        clear hb9
        go_wp2_with fail
        go_ret
        exact ⟨rfl, Hb9.out⟩
end Go.Proofs.Ytlmknpljncpjiaa.wirePatches

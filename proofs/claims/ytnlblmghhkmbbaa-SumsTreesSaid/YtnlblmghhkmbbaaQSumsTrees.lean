/- What the statement SumsTrees calls answers true, for every input that its walk is handed. -/
import Derived.Test.YtnlblmghhkmbbaaRows
import Derived.WalkKit
import Derived.ProofKit
import Derived.OpenShut
import Derived.ShutString
import Derived.ChangeOld
import Derived.Below
import Derived.SizedLaws
import Derived.Test.YtnlblmghhkmbbaaSmtree
import Derived.Test.YtnlblmghhkmbbaaSsamed
import Derived.Test.YtnlblmghhkmbbaaSstr
import Derived.Test.YtnlblmghhkmbbaaSsane
import Derived.Test.YtnlblmghhkmbbaaSopen
import Derived.Test.YtnlblmghhkmbbaaShand
namespace Go.Proofs.Ytnlblmghhkmbbaa.sumsTrees
open Go.ChangeShapes Go.WideShapes Go.ChangeAt Go.RowKit
open Go.ChangeMaps (open_string shut_string)
set_option linter.unusedVariables false

open Go.Shelf
/-- What Prove answers. -/
def PrPost (P : List (List Int)) (np : Nat) (E : Int) (u : World) (e : Ending) (w' : World) : Prop := ∃ a cap, e = .returned (.tuple #[.slice a np cap, .int .i64 E]) ∧ RdG w' a np cap P ∧ Below u.heap.size u w'
theorem bothProve (a : Option Addr) (len cap : Nat) (i : Int) (ps : List Pc) (w : World) (h : RdP w a len cap ps) (hs : ∀ p ∈ ps, p.len ≤ 140737488354000) :
    ∃ (P : List (List Int)) (np : Nat) (E : Int), np ≤ 4096 ∧
      (∀ u, Below w.heap.size w u → Calls Try.prog 45 #[.slice a len cap, .int .i64 i] u (PrPost P np E u)) ∧
      (∀ u, Below w.heap.size w u → Calls Try.prog 46 #[.slice a len cap, .int .i64 i] u (PrPost P np E u)) := by
  by_cases hE : provesE len i = 0
  · have hn : len ≤ 4096 ∧ 0 ≤ i ∧ i < len := by unfold provesE at hE; split at hE <;> first | omega | (split at hE <;> omega)
    obtain ⟨j, rfl⟩ := Int.eq_ofNat_of_zero_le hn.2.1
    have hl : (lvs ps).length = len := by unfold lvs; rw [List.length_map, h.hl]
    have hw := wayV_len (lvs ps) j
    refine ⟨(proveV (lvs ps) j).reverse, (proveV (lvs ps) j).reverse.length, 0, by omega, fun u hu => ?_, fun u hu => ?_⟩
    · refine (prove_ok a len cap j ps u (h.below hu (Nat.le_refl _)) hs (by omega) (by omega)).mono ?_
      rintro e w' ⟨v, rfl, hr, hb⟩
      rw [← List.length_reverse] at hr
      obtain ⟨x, c, rfl, hg⟩ := own_rdg hr (wayV_dig _ _) rfl
      exact ⟨x, c, rfl, hg, hb⟩
    · refine (rprove_ok a len cap j ps u (h.below hu (Nat.le_refl _)) hs (by omega) (by omega)).mono ?_
      rintro e w' ⟨v, rfl, hr, hb⟩
      obtain ⟨x, c, rfl, hg⟩ := own_rdg hr (wayV_dig _ _) rfl
      exact ⟨x, c, rfl, hg, hb⟩
  · refine ⟨[], 0, provesE len i, by omega, fun u hu => ?_, fun u hu => ?_⟩
    · refine (prove_err a len cap i u hE).mono ?_
      rintro e w' ⟨rfl, hb⟩
      exact ⟨none, 0, rfl, ⟨rfl, Nat.le_refl _, Nat.zero_le _, by simp, by simp⟩, hb⟩
    · refine (rprove_err a len cap i u hE).mono ?_
      rintro e w' ⟨rfl, hb⟩
      exact ⟨none, 0, rfl, ⟨rfl, Nat.le_refl _, Nat.zero_le _, by simp, by simp⟩, hb⟩
attribute [local irreducible] digestV rootV rootR rootE aboveD aboveE checkE proveV lvs PrPost
set_option maxRecDepth 100000 in
set_option maxHeartbeats 8000000 in
theorem walk (a0 : Option Addr) (len0 cap0 : Nat) (xs0 : List Pc) (a1 : Int) (a2 : Int) (a3 : Option Addr) (len3 cap3 : Nat) (xs3 : List Int) (a4 : Option Addr) (len4 cap4 : Nat) (xs4 : List (List Int)) (x5 : List Int) (w : World) (w0 : RdP w a0 len0 cap0 xs0 ∧ ∀ x ∈ xs0, x.cap ≤ 140737488351232) (w1 : (Lit.int .i64 a1).wf = true) (w2 : (Lit.int .i64 a2).wf = true) (w3 : Rd w a3 len3 cap3 xs3 ∧ cap3 ≤ 140737488351232) (w4 : RdG w a4 len4 cap4 xs4) (w5 : x5.length = 16 ∧ ∀ n ∈ x5, 0 ≤ n ∧ n ≤ 255) :
    Calls Try.prog 6 #[.slice a0 len0 cap0, .int .i64 a1, .int .i64 a2, .slice a3 len3 cap3, .slice a4 len4 cap4, .agg (digC x5)] w fun e w' => e = .returned (.bool true) ∧ Below w.heap.size w w' := by
  obtain ⟨hr0, hcap0⟩ := w0
  obtain ⟨hr3, hcap3⟩ := w3
  have hl0 := hr0.hl
  have hcc := hr0.hc
  have hm0 := hr0.hm
  have hcc3 := hr3.hc
  have hcc4 := w4.hc
  have hm4 := w4.hm
  unfold maxLen at hm0 hm4
  have hxl := w5.1
  obtain ⟨W0, hW0⟩ : ∃ W0, W0 = w.alloc (.cells (digC x5) 47) := ⟨_, rfl⟩
  have hg0 : Blk W0 w.heap.size 47 (digC x5) := by rw [hW0]; exact heap_new w _
  have hb0 : Below w.heap.size w W0 := by rw [hW0]; exact (Below.refl _ w).alloc (Nat.le_refl _) _
  have hs0 : W0.heap.size = w.heap.size + 1 := by rw [hW0]; simp
  have Hsm := Lib.hid (small_any a0 len0 cap0 xs0 W0 (hr0.below hb0 (Nat.le_refl _)) hcap0)
  have hs : ∀ p ∈ xs0, p.len ≤ 140737488354000 := fun p hp => by have h1 := hcap0 p hp; have h2 := (hr0.hb p hp).hc; omega
  obtain ⟨RT, hRT⟩ : ∃ r, r = rootR (lvs xs0) := ⟨_, rfl⟩
  obtain ⟨RE, hRE⟩ : ∃ r, r = rootE (lvs xs0) := ⟨_, rfl⟩
  have hRTl : RT.length = 16 := by rw [hRT]; exact rootR_len _
  have C1 : Hid (∀ u, Below w.heap.size w u → Calls Try.prog 43 #[.slice a0 len0 cap0] u fun e w' => e = .returned (.tuple #[.agg (digC RT), .int .i64 RE]) ∧ Below u.heap.size u w') := Lib.hid (fun u hu => by
    rw [hRT, hRE]; exact rootE_any a0 len0 cap0 xs0 u (hr0.below hu (Nat.le_refl _)) hs)
  have C2 : Hid (∀ u, Below w.heap.size w u → Calls Try.prog 44 #[.slice a0 len0 cap0] u fun e w' => e = .returned (.tuple #[.agg (digC RT), .int .i64 RE]) ∧ Below u.heap.size u w') := Lib.hid (fun u hu => by
    rw [hRT, hRE]; exact rroot_any a0 len0 cap0 xs0 u (hr0.below hu (Nat.le_refl _)) hs)
  obtain ⟨P, np, PE, hnp, hC3, hC4⟩ := bothProve a0 len0 cap0 a1 xs0 w hr0 hs
  obtain ⟨AD, hAD⟩ : ∃ r, r = aboveD a2 a1 xs3 xs4 := ⟨_, rfl⟩
  obtain ⟨AE, hAE⟩ : ∃ r, r = aboveE a2 a1 xs3 xs4 := ⟨_, rfl⟩
  have hADl : AD.length = 16 := by rw [hAD]; exact aboveD_len _ _ _ _
  have C5 : Hid (len3 ≤ 1000 → ∀ u, Below w.heap.size w u → Calls Try.prog 48 #[.int .i64 a2, .int .i64 a1, .slice a3 len3 cap3, .slice a4 len4 cap4] u fun e w' => e = .returned (.tuple #[.agg (digC AD), .int .i64 AE]) ∧ Below u.heap.size u w') := Lib.hid (fun h3 u hu => by
    rw [hAD, hAE]; exact above_any a2 a1 a3 len3 cap3 xs3 a4 len4 cap4 xs4 u (hr3.below hu (Nat.le_refl _)) (by omega) (w4.below hu (Nat.le_refl _)))
  have C6 : Hid (len3 ≤ 1000 → len4 ≤ 50 → ∀ u, Below w.heap.size w u → Calls Try.prog 49 #[.int .i64 a2, .int .i64 a1, .slice a3 len3 cap3, .slice a4 len4 cap4] u fun e w' => e = .returned (.tuple #[.agg (digC AD), .int .i64 AE]) ∧ Below u.heap.size u w') := Lib.hid (fun h3 h4 u hu => by
    rw [hAD, hAE]; exact rabove_any a2 a1 a3 len3 cap3 xs3 a4 len4 cap4 xs4 u (hr3.below hu (Nat.le_refl _)) h3 (w4.below hu (Nat.le_refl _)) h4)
  have C7 : Hid (len3 ≤ 1000 → ∀ (x : List Int), x.length = 16 → ∀ u, Below w.heap.size w u → Calls Try.prog 50 #[.agg (digC x), .int .i64 a2, .int .i64 a1, .slice a3 len3 cap3, .slice a4 len4 cap4] u fun e w' => e = .returned (.int .i64 (checkE x AD AE)) ∧ Below u.heap.size u w') := Lib.hid (fun h3 x hx u hu => by
    rw [hAD, hAE]; exact check_any x hx a2 a1 a3 len3 cap3 xs3 a4 len4 cap4 xs4 u (hr3.below hu (Nat.le_refl _)) (by omega) (w4.below hu (Nat.le_refl _)))
  have C8 : Hid (len3 ≤ 1000 → len4 ≤ 50 → ∀ (x : List Int), x.length = 16 → ∀ u, Below w.heap.size w u → Calls Try.prog 51 #[.agg (digC x), .int .i64 a2, .int .i64 a1, .slice a3 len3 cap3, .slice a4 len4 cap4] u fun e w' => e = .returned (.int .i64 (checkE x AD AE)) ∧ Below u.heap.size u w') := Lib.hid (fun h3 h4 x hx u hu => by
    rw [hAD, hAE]; exact rcheck_any x hx a2 a1 a3 len3 cap3 xs3 a4 len4 cap4 xs4 u (hr3.below hu (Nat.le_refl _)) h3 (w4.below hu (Nat.le_refl _)) h4)
  have hself : checkE AD AD AE = AE := by unfold checkE; rw [if_pos rfl]; split <;> simp_all
  have C3 := Lib.hid hC3
  have C4 := Lib.hid hC4
  have HW0 := Lib.hid hW0
  have Hg0 := Lib.hid hg0
  have Hb0 := Lib.hid hb0
  have Hself := Lib.hid hself
  have HRTl := Lib.hid hRTl
  have HADl := Lib.hid hADl
  have Hxl := Lib.hid hxl
  clear hW0 hg0 hb0 hC3 hC4 hself hr0 hr3 hcap0 hcap3 hs hRT hRE hAD hAE w4 w5 hl0 hRTl hADl hxl
  go_enter Try.func6, Try.ntmps6
  go_upto_region 1 with fail
  rw [← HW0.out]
  clear HW0
  go_wp2_with fail
  refine Hsm.out.mono ?_
  rintro e u ⟨b, rfl, hB, rfl⟩
  clear Hsm hB
  cases b with
  | false =>
    go_wp2_with fail
    refine (sane_any _).mono ?_
    rintro e w' ⟨rfl, hb⟩
    go_wp2_with fail
    go_ret
    exact ⟨rfl, Hb0.out.trans (hb.mono Hb0.out.size)⟩
  | true =>
  by_cases h1 : (1000 : Int) < (len3 : Int)
  · go_wp2_with fail
    refine (sane_any _).mono ?_
    rintro e w' ⟨rfl, hb⟩
    go_wp2_with fail
    go_ret
    exact ⟨rfl, Hb0.out.trans (hb.mono Hb0.out.size)⟩
  by_cases h2 : (50 : Int) < (len4 : Int)
  · go_wp2_with fail
    refine (sane_any _).mono ?_
    rintro e w' ⟨rfl, hb⟩
    go_wp2_with fail
    go_ret
    exact ⟨rfl, Hb0.out.trans (hb.mono Hb0.out.size)⟩
  have i3 : len3 ≤ 1000 := by omega
  have i4 : len4 ≤ 50 := by omega
  have hs1 := Hb0.out.size
  go_wp2_with fail
  refine (C1.out W0 Hb0.out).mono ?_
  rintro e y1 ⟨rfl, hb⟩
  obtain ⟨z1, e1, hz, g1, W1, e2, e3, hg, hbW, hq, -⟩ := freshD hb RT HRTl.out
  have Hg0' := Lib.hid (Hg0.out.below hbW Hg0.out.lt)
  have B1 : Hid (Below w.heap.size w W1) := Lib.hid (Hb0.out.trans (hbW.mono Hb0.out.size))
  have K1 := Lib.hid hg
  have He1 := Lib.hid e1
  have He2 := Lib.hid e2
  have He3 := Lib.hid e3
  have Hz := Lib.hid hz
  have z1 := Try.sizeDig RT HRTl.out
  have z2 := zsize RT HRTl.out
  have z3 := digC_one RT
  clear hb e1 hz e2 e3 hg hbW hq Hb0 Hg0
  go_upto_region 4 with (rw [He1.out]; refine wpList_store_row rfl 47 (.tmp 13) (.tmp 40) rfl y1.heap.size (digC RT) rfl rfl 47 (digC (List.replicate 16 0)) Hz.out z1 z2 z3 ?_)
  rw [He3.out, He2.out]
  clear He1 He2 He3 Hz z1 z2 z3
  go_wp2_with fail
  refine (C2.out W1 B1.out).mono ?_
  rintro e y2 ⟨rfl, hb⟩
  obtain ⟨z2, e1, hz, g2, W2, e2, e3, hg, hbW, hq, -⟩ := freshD hb RT HRTl.out
  have Hg0'' := Lib.hid (Hg0'.out.below hbW Hg0'.out.lt)
  have K1' := Lib.hid (K1.out.below hbW K1.out.lt)
  have B2 : Hid (Below w.heap.size w W2) := Lib.hid (B1.out.trans (hbW.mono B1.out.size))
  have K2 := Lib.hid hg
  have He1 := Lib.hid e1
  have He2 := Lib.hid e2
  have He3 := Lib.hid e3
  have Hz := Lib.hid hz
  have z1 := Try.sizeDig RT HRTl.out
  have z2 := zsize RT HRTl.out
  have z3 := digC_one RT
  clear hb e1 hz e2 e3 hg hbW hq B1 Hg0' K1
  go_upto_region 5 with (rw [He1.out]; refine wpList_store_row rfl 47 (.tmp 15) (.tmp 45) rfl y2.heap.size (digC RT) rfl rfl 47 (digC (List.replicate 16 0)) Hz.out z1 z2 z3 ?_)
  rw [He3.out, He2.out]
  clear He1 He2 He3 Hz z1 z2 z3
  clear C1 C2
  go_wp2_with fail
  refine (C3.out W2 B2.out).mono ?_
  intro e y3 hp
  unfold PrPost at hp
  obtain ⟨pa, pc, rfl, hP3, hb⟩ := hp
  have Hg0''' := Lib.hid (Hg0''.out.below hb Hg0''.out.lt)
  have K1'' := Lib.hid (K1'.out.below hb K1'.out.lt)
  have K2' := Lib.hid (K2.out.below hb K2.out.lt)
  have B3 : Hid (Below w.heap.size w y3) := Lib.hid (B2.out.trans (hb.mono B2.out.size))
  have P3 := Lib.hid hP3
  clear hb hP3 B2 C3 Hg0'' K1' K2
  go_wp2_with fail
  refine (C4.out y3 B3.out).mono ?_
  intro e y4 hp
  unfold PrPost at hp
  obtain ⟨qa, qc, rfl, hP4, hb⟩ := hp
  have Hg0'''' := Lib.hid (Hg0'''.out.below hb Hg0'''.out.lt)
  have K1''' := Lib.hid (K1''.out.below hb K1''.out.lt)
  have K2'' := Lib.hid (K2'.out.below hb K2'.out.lt)
  have P3' := Lib.hid (P3.out.below hb (Nat.le_refl _))
  have B4 : Hid (Below w.heap.size w y4) := Lib.hid (B3.out.trans (hb.mono B3.out.size))
  have P4 := Lib.hid hP4
  clear hb hP4 B3 C4 P3 Hg0''' K1'' K2'
  have HN : ∀ w, (binOp .neq 47 (.agg (digC RT)) (.agg (digC RT))).run Try.prog w = .ok (.bool false) w := fun w => by rw [run_neq_dig w RT RT HRTl.out HRTl.out]; simp
  have LD := Lib.hid (Try.sizeDig RT HRTl.out)
  have l1 := K1'''.out.lt
  have l2 := K2''.out.lt
  have hRE : (RE == RE) = true := by simp
  have hPE : (PE == PE) = true := by simp
  go_wp2_with (first
    | (refine list_load rfl 47 (.tmp 13) rfl g1 rfl 47 (digC RT) (0, 0) _ K1'''.out Try.underlying47 rfl LD.out ?_)
    | (refine list_load rfl 47 (.tmp 15) rfl g2 rfl 47 (digC RT) (0, 0) _ K2''.out Try.underlying47 rfl LD.out ?_))
  refine (sameD_any pa np pc P qa np qc P y4 P3'.out P4.out (by omega)).mono ?_
  rintro e y5 ⟨rfl, hb⟩
  rw [decide_eq_true (rfl : P = P)]
  have Hg0''''' := Lib.hid (Hg0''''.out.below hb Hg0''''.out.lt)
  have B5 : Hid (Below w.heap.size w y5) := Lib.hid (B4.out.trans (hb.mono B4.out.size))
  clear hb B4 Hg0'''' K1''' K2'' P3' P4 LD l1 l2 hRE hPE HN
  go_wp2_with fail
  refine (C5.out i3 y5 B5.out).mono ?_
  rintro e y6 ⟨rfl, hb⟩
  obtain ⟨z6, e1, hz, g6, W6, e2, e3, hg, hbW, hq, -⟩ := freshD hb AD HADl.out
  have Hg0'''''' := Lib.hid (Hg0'''''.out.below hbW Hg0'''''.out.lt)
  have B6 : Hid (Below w.heap.size w W6) := Lib.hid (B5.out.trans (hbW.mono B5.out.size))
  have K6 := Lib.hid hg
  have He1 := Lib.hid e1
  have He2 := Lib.hid e2
  have He3 := Lib.hid e3
  have Hz := Lib.hid hz
  have z1 := Try.sizeDig AD HADl.out
  have z2 := zsize AD HADl.out
  have z3 := digC_one AD
  clear hb e1 hz e2 e3 hg hbW hq B5 Hg0'''''
  go_upto_region 10 with (rw [He1.out]; refine wpList_store_row rfl 47 (.tmp 21) (.tmp 84) rfl y6.heap.size (digC AD) rfl rfl 47 (digC (List.replicate 16 0)) Hz.out z1 z2 z3 ?_)
  rw [He3.out, He2.out]
  clear He1 He2 He3 Hz z1 z2 z3
  go_wp2_with fail
  refine (C6.out i3 i4 W6 B6.out).mono ?_
  rintro e y7 ⟨rfl, hb⟩
  obtain ⟨z7, e1, hz, g7, W7, e2, e3, hg, hbW, hq, -⟩ := freshD hb AD HADl.out
  have Hg0''''''' := Lib.hid (Hg0''''''.out.below hbW Hg0''''''.out.lt)
  have K6' := Lib.hid (K6.out.below hbW K6.out.lt)
  have B7 : Hid (Below w.heap.size w W7) := Lib.hid (B6.out.trans (hbW.mono B6.out.size))
  have K7 := Lib.hid hg
  have He1 := Lib.hid e1
  have He2 := Lib.hid e2
  have He3 := Lib.hid e3
  have Hz := Lib.hid hz
  have z1 := Try.sizeDig AD HADl.out
  have z2 := zsize AD HADl.out
  have z3 := digC_one AD
  clear hb e1 hz e2 e3 hg hbW hq B6 Hg0'''''' K6
  go_upto_region 11 with (rw [He1.out]; refine wpList_store_row rfl 47 (.tmp 22) (.tmp 92) rfl y7.heap.size (digC AD) rfl rfl 47 (digC (List.replicate 16 0)) Hz.out z1 z2 z3 ?_)
  rw [He3.out, He2.out]
  clear He1 He2 He3 Hz z1 z2 z3
  clear C5 C6
  have LA := Lib.hid (Try.sizeDig AD HADl.out)
  have LX := Lib.hid (Try.sizeDig x5 Hxl.out)
  have l0 := Hg0'''''''.out.lt
  have l6 := K6'.out.lt
  have l7 := K7.out.lt
  have hAE : (AE == AE) = true := by simp
  refine wp_region_held_drew (S := Below W7.heap.size W7) (by kernel_rfl) (Below.refl _ _).drew (fun _ => ?_)
  have HS : Hid (Below W7.heap.size W7 W7.drew) := Lib.hid (Below.refl _ _).drew
  refine wpAnyH_ready (rs := [0]) (by kernel_rfl) (by simp) ?_
  refine AllReadyH.cons rfl (fun K hK => ?_) AllReadyH.nil
  go_simp
  refine (sane_any _).mono ?_
  rintro e u0 ⟨rfl, hb⟩
  have HS' : Hid (Below W7.heap.size W7 u0) := Lib.hid (HS.out.trans (hb.mono HS.out.size))
  clear HS hb
  have HS := HS'
  clear HS'
  refine hK.out _ _ HS.out (fun _ => ?_)
  clear hK K
  refine wpAnyH_take (i := 1) (v := .bool true) rfl (by kernel_rfl) (by kernel_rfl) (by kernel_rfl) (fun _ _ _ h => h) (Or.inl ⟨by rfl, ?_⟩) HS.out ?_
  · intro u hu; go_simp
  go_simp
  refine wpAnyH_take (i := 2) (v := .agg (digC AD)) rfl (by kernel_rfl) (by kernel_rfl) (by kernel_rfl) (fun _ _ _ h => h) (load_yields (by rfl) 47 (.tmp 21) rfl g6 rfl 47 (digC AD) (0, 0) _ (fun u hu => K6'.out.below hu l6) Try.underlying47 rfl LA.out) HS.out ?_
  go_simp
  refine wpAnyH_take (i := 3) (v := .agg (digC AD)) rfl (by kernel_rfl) (by kernel_rfl) (by kernel_rfl) (fun _ _ _ h => h) (load_yields (by rfl) 47 (.tmp 22) rfl g7 rfl 47 (digC AD) (0, 0) _ (fun u hu => K7.out.below hu l7) Try.underlying47 rfl LA.out) HS.out ?_
  go_simp
  refine wpAnyH_take (i := 4) (v := .bool true) rfl (by kernel_rfl) (by kernel_rfl) (by kernel_rfl) (fun _ _ _ h => h) (Or.inl ⟨by rfl, ?_⟩) HS.out ?_
  · intro u hu; have hE := eqIn_dig u AD AD HADl.out HADl.out; rw [beq_self_eq_true] at hE; go_simp
  go_simp
  refine wpAnyH_take (i := 5) (v := .bool true) rfl (by kernel_rfl) (by kernel_rfl) (by kernel_rfl) (fun _ _ _ h => h) (Or.inl ⟨by rfl, ?_⟩) HS.out ?_
  · intro u hu; go_simp
  go_simp
  refine wpAnyH_take (i := 6) (v := .bool true) rfl (by kernel_rfl) (by kernel_rfl) (by kernel_rfl) (fun _ _ _ h => h) (Or.inl ⟨by rfl, ?_⟩) HS.out ?_
  · intro u hu; go_simp
  go_simp
  refine wpAnyH_take (i := 7) (v := .int .i64 AE) rfl (by kernel_rfl) (by kernel_rfl) (by kernel_rfl) (fun _ _ _ h => h) (Or.inl ⟨by rfl, ?_⟩) HS.out ?_
  · intro u hu; go_simp
  go_simp
  refine wpAnyH_take (i := 8) (v := .int .i64 AE) rfl (by kernel_rfl) (by kernel_rfl) (by kernel_rfl) (fun _ _ _ h => h) (Or.inl ⟨by rfl, ?_⟩) HS.out ?_
  · intro u hu; go_simp
  go_simp
  refine wpAnyH_take (i := 9) (v := .bool true) rfl (by kernel_rfl) (by kernel_rfl) (by kernel_rfl) (fun _ _ _ h => h) (Or.inl ⟨by rfl, ?_⟩) HS.out ?_
  · intro u hu; go_simp
  go_simp
  refine wpAnyH_take (i := 10) (v := .bool true) rfl (by kernel_rfl) (by kernel_rfl) (by kernel_rfl) (fun _ _ _ h => h) (Or.inl ⟨by rfl, ?_⟩) HS.out ?_
  · intro u hu; go_simp
  go_simp
  refine wpAnyH_take (i := 11) (v := .bool true) rfl (by kernel_rfl) (by kernel_rfl) (by kernel_rfl) (fun _ _ _ h => h) (Or.inl ⟨by rfl, ?_⟩) HS.out ?_
  · intro u hu; go_simp
  go_simp
  refine wpAnyH_take (i := 12) (v := .agg (digC x5)) rfl (by kernel_rfl) (by kernel_rfl) (by kernel_rfl) (fun _ _ _ h => h) (load_yields (by rfl) 47 (.tmp 11) rfl w.heap.size rfl 47 (digC x5) (0, 0) _ (fun u hu => Hg0'''''''.out.below hu l0) Try.underlying47 rfl LX.out) HS.out ?_
  go_simp
  refine wpAnyH_take (i := 13) (v := .int .i64 a2) rfl (by kernel_rfl) (by kernel_rfl) (by kernel_rfl) (fun _ _ _ h => h) (Or.inl ⟨by rfl, ?_⟩) HS.out ?_
  · intro u hu; go_simp
  go_simp
  refine wpAnyH_take (i := 14) (v := .int .i64 a1) rfl (by kernel_rfl) (by kernel_rfl) (by kernel_rfl) (fun _ _ _ h => h) (Or.inl ⟨by rfl, ?_⟩) HS.out ?_
  · intro u hu; go_simp
  go_simp
  refine wpAnyH_take (i := 15) (v := .slice a3 len3 cap3) rfl (by kernel_rfl) (by kernel_rfl) (by kernel_rfl) (fun _ _ _ h => h) (Or.inl ⟨by rfl, ?_⟩) HS.out ?_
  · intro u hu; go_simp
  go_simp
  refine wpAnyH_take (i := 16) (v := .slice a4 len4 cap4) rfl (by kernel_rfl) (by kernel_rfl) (by kernel_rfl) (fun _ _ _ h => h) (Or.inl ⟨by rfl, ?_⟩) HS.out ?_
  · intro u hu; go_simp
  go_simp
  refine wpAnyH_take (i := 18) (v := .agg (digC x5)) rfl (by kernel_rfl) (by kernel_rfl) (by kernel_rfl) (fun _ _ _ h => h) (load_yields (by rfl) 47 (.tmp 11) rfl w.heap.size rfl 47 (digC x5) (0, 0) _ (fun u hu => Hg0'''''''.out.below hu l0) Try.underlying47 rfl LX.out) HS.out ?_
  go_simp
  refine wpAnyH_take (i := 19) (v := .int .i64 a2) rfl (by kernel_rfl) (by kernel_rfl) (by kernel_rfl) (fun _ _ _ h => h) (Or.inl ⟨by rfl, ?_⟩) HS.out ?_
  · intro u hu; go_simp
  go_simp
  refine wpAnyH_take (i := 20) (v := .int .i64 a1) rfl (by kernel_rfl) (by kernel_rfl) (by kernel_rfl) (fun _ _ _ h => h) (Or.inl ⟨by rfl, ?_⟩) HS.out ?_
  · intro u hu; go_simp
  go_simp
  refine wpAnyH_take (i := 21) (v := .slice a3 len3 cap3) rfl (by kernel_rfl) (by kernel_rfl) (by kernel_rfl) (fun _ _ _ h => h) (Or.inl ⟨by rfl, ?_⟩) HS.out ?_
  · intro u hu; go_simp
  go_simp
  refine wpAnyH_take (i := 22) (v := .slice a4 len4 cap4) rfl (by kernel_rfl) (by kernel_rfl) (by kernel_rfl) (fun _ _ _ h => h) (Or.inl ⟨by rfl, ?_⟩) HS.out ?_
  · intro u hu; go_simp
  go_simp
  refine wpAnyH_ready (rs := [17]) (by kernel_rfl) (by simp) ?_
  refine AllReadyH.cons rfl (fun K hK => ?_) AllReadyH.nil
  go_simp
  refine (C7.out i3 x5 Hxl.out _ (B7.out.trans (HS.out.mono B7.out.size))).mono ?_
  rintro e u1 ⟨rfl, hb⟩
  have HS' : Hid (Below W7.heap.size W7 u1) := Lib.hid (HS.out.trans (hb.mono HS.out.size))
  clear HS hb
  have HS := HS'
  clear HS'
  refine hK.out _ _ HS.out (fun _ => ?_)
  clear hK K
  refine wpAnyH_ready (rs := [23]) (by kernel_rfl) (by simp) ?_
  refine AllReadyH.cons rfl (fun K hK => ?_) AllReadyH.nil
  go_simp
  refine (C8.out i3 i4 x5 Hxl.out _ (B7.out.trans (HS.out.mono B7.out.size))).mono ?_
  rintro e u2 ⟨rfl, hb⟩
  have HS' : Hid (Below W7.heap.size W7 u2) := Lib.hid (HS.out.trans (hb.mono HS.out.size))
  clear HS hb
  have HS := HS'
  clear HS'
  refine hK.out _ _ HS.out (fun _ => ?_)
  clear hK K
  obtain ⟨CE, hCE⟩ : ∃ c, c = checkE x5 AD AE := ⟨_, rfl⟩
  rw [← hCE]
  have hCC : (CE == CE) = true := by simp
  refine wpAnyH_take (i := 24) (v := .bool true) rfl (by kernel_rfl) (by kernel_rfl) (by kernel_rfl) (fun _ _ _ h => h) (Or.inl ⟨by rfl, ?_⟩) HS.out ?_
  · intro u hu; go_simp
  go_simp
  refine wpAnyH_take (i := 25) (v := .bool true) rfl (by kernel_rfl) (by kernel_rfl) (by kernel_rfl) (fun _ _ _ h => h) (Or.inl ⟨by rfl, ?_⟩) HS.out ?_
  · intro u hu; go_simp
  go_simp
  refine wpAnyH_take (i := 26) (v := .bool true) rfl (by kernel_rfl) (by kernel_rfl) (by kernel_rfl) (fun _ _ _ h => h) (Or.inl ⟨by rfl, ?_⟩) HS.out ?_
  · intro u hu; go_simp
  go_simp
  refine wpAnyH_take (i := 27) (v := .agg (digC AD)) rfl (by kernel_rfl) (by kernel_rfl) (by kernel_rfl) (fun _ _ _ h => h) (load_yields (by rfl) 47 (.tmp 22) rfl g7 rfl 47 (digC AD) (0, 0) _ (fun u hu => K7.out.below hu l7) Try.underlying47 rfl LA.out) HS.out ?_
  go_simp
  refine wpAnyH_take (i := 28) (v := .int .i64 a2) rfl (by kernel_rfl) (by kernel_rfl) (by kernel_rfl) (fun _ _ _ h => h) (Or.inl ⟨by rfl, ?_⟩) HS.out ?_
  · intro u hu; go_simp
  go_simp
  refine wpAnyH_take (i := 29) (v := .int .i64 a1) rfl (by kernel_rfl) (by kernel_rfl) (by kernel_rfl) (fun _ _ _ h => h) (Or.inl ⟨by rfl, ?_⟩) HS.out ?_
  · intro u hu; go_simp
  go_simp
  refine wpAnyH_take (i := 30) (v := .slice a3 len3 cap3) rfl (by kernel_rfl) (by kernel_rfl) (by kernel_rfl) (fun _ _ _ h => h) (Or.inl ⟨by rfl, ?_⟩) HS.out ?_
  · intro u hu; go_simp
  go_simp
  refine wpAnyH_take (i := 31) (v := .slice a4 len4 cap4) rfl (by kernel_rfl) (by kernel_rfl) (by kernel_rfl) (fun _ _ _ h => h) (Or.inl ⟨by rfl, ?_⟩) HS.out ?_
  · intro u hu; go_simp
  go_simp
  refine wpAnyH_take (i := 33) (v := .int .i64 AE) rfl (by kernel_rfl) (by kernel_rfl) (by kernel_rfl) (fun _ _ _ h => h) (Or.inl ⟨by rfl, ?_⟩) HS.out ?_
  · intro u hu; go_simp
  go_simp
  refine wpAnyH_ready (rs := [32]) (by kernel_rfl) (by simp) ?_
  refine AllReadyH.cons rfl (fun K hK => ?_) AllReadyH.nil
  go_simp
  refine (C7.out i3 AD HADl.out _ (B7.out.trans (HS.out.mono B7.out.size))).mono ?_
  rintro e u3 ⟨rfl, hb⟩
  rw [Hself.out]
  have HS' : Hid (Below W7.heap.size W7 u3) := Lib.hid (HS.out.trans (hb.mono HS.out.size))
  clear HS hb
  have HS := HS'
  clear HS'
  refine hK.out _ _ HS.out (fun _ => ?_)
  clear hK K
  refine wpAnyH_take (i := 34) (v := .bool true) rfl (by kernel_rfl) (by kernel_rfl) (by kernel_rfl) (fun _ _ _ h => h) (Or.inl ⟨by rfl, ?_⟩) HS.out ?_
  · intro u hu; go_simp
  go_simp
  refine wpAnyH_take (i := 35) (v := .bool true) rfl (by kernel_rfl) (by kernel_rfl) (by kernel_rfl) (fun _ _ _ h => h) (Or.inl ⟨by rfl, ?_⟩) HS.out ?_
  · intro u hu; go_simp
  go_simp
  refine wpAnyH_ready (rs := [36]) (by kernel_rfl) (by simp) ?_
  refine AllReadyH.cons rfl (fun K hK => ?_) AllReadyH.nil
  go_simp
  refine hK.out _ _ HS.out (fun _ => ?_)
  clear hK K
  refine wpAnyH_done (by kernel_rfl) ?_ _
  go_wp2_with fail
  go_ret
  exact ⟨rfl, B7.out.trans (HS.out.mono B7.out.size)⟩
end Go.Proofs.Ytnlblmghhkmbbaa.sumsTrees

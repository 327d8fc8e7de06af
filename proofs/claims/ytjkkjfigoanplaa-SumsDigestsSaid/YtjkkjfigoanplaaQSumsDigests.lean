/- What the statement SumsDigests calls answers true, for every input that its walk is handed. -/
import Derived.Test.YtjkkjfigoanplaaRows
import Derived.WalkKit
import Derived.ProofKit
import Derived.OpenShut
import Derived.ShutString
import Derived.ChangeOld
import Derived.Below
import Derived.SizedLaws
import Derived.Test.YtjkkjfigoanplaaSrdig
import Derived.Test.YtjkkjfigoanplaaSende
import Derived.Test.YtjkkjfigoanplaaSundo
namespace Go.Proofs.Ytjkkjfigoanplaa.sumsDigests
open Go.ChangeShapes Go.WideShapes Go.ChangeAt Go.RowKit
open Go.ChangeMaps (open_string shut_string)
set_option linter.unusedVariables false

open Go.Shelf
theorem Rd.nil' (w : World) : Rd w none 0 0 [] := Rd.nil w
/-- Absorb, of both. -/
theorem bothAbsorb (s : St) (ra : Option Addr) (rl rc : Nat) (rest : List Int) (ba : Option Addr) (bl bc : Nat) (bs : List Int) (w : World) (hr : Rd w ra rl rc rest) (hb : Rd w ba bl bc bs) (h1 : rl ≤ 3000) (h2 : bl ≤ 3000) :
    ∃ (σ : St) (m : Nat) (ys : List Int) (e : Int), (∀ u, Below w.heap.size w u → Calls Try.prog 29 #[.agg (spongeC s (.slice ra rl rc)), .slice ba bl bc] u fun r w' => ∃ va vc, r = .returned (.tuple #[.agg (spongeC σ (.slice va m vc)), .int .i64 e]) ∧ Rd w' va m vc ys ∧ Below u.heap.size u w') ∧
      (∀ u, Below w.heap.size w u → Calls Try.prog 30 #[.agg (spongeC s (.slice ra rl rc)), .slice ba bl bc] u fun r w' => ∃ va vc, r = .returned (.tuple #[.agg (spongeC σ (.slice va m vc)), .int .i64 e]) ∧ Rd w' va m vc ys ∧ Below u.heap.size u w') := by
  by_cases h16 : rl < 16
  · refine ⟨absS s (rest ++ bs), (absR (rest ++ bs)).length, absR (rest ++ bs), 0, fun u hu => ?_, fun u hu => ?_⟩
    · refine (absorbE_ok s ra rl rc rest ba bl bc bs u (hr.below hu (Nat.le_refl _)) (hb.below hu (Nat.le_refl _)) h16 (by omega)).mono ?_
      rintro e w' ⟨v, rfl, ho, hb'⟩
      obtain ⟨va, vc, rfl, hR⟩ := ho.rdz rfl
      exact ⟨va, vc, rfl, hR, hb'⟩
    · refine (rabsorb_ok s ra rl rc rest ba bl bc bs u (hr.below hu (Nat.le_refl _)) (hb.below hu (Nat.le_refl _)) h16 (by omega)).mono ?_
      rintro e w' ⟨v, rfl, ho, hb'⟩
      obtain ⟨va, vc, rfl, hR⟩ := ho.rdz rfl
      exact ⟨va, vc, rfl, hR, hb'⟩
  · refine ⟨fun _ => 0#32, 0, [], 1, fun u hu => ?_, fun u hu => ?_⟩
    · refine (absorbE_bad s ra rl rc _ u (by omega)).mono ?_
      rintro e w' ⟨rfl, hb'⟩
      exact ⟨none, 0, rfl, Rd.nil _, hb'⟩
    · refine (rabsorb_bad s ra rl rc _ u (by omega)).mono ?_
      rintro e w' ⟨rfl, hb'⟩
      exact ⟨none, 0, rfl, Rd.nil _, hb'⟩
/-- End, of both. -/
theorem bothEnd (s : St) (ra : Option Addr) (rl rc : Nat) (rest : List Int) (w : World) (hr : Rd w ra rl rc rest) :
    ∃ (D : List Int) (e : Int), D.length = 16 ∧ (∀ u, Below w.heap.size w u → Calls Try.prog 31 #[.agg (spongeC s (.slice ra rl rc))] u fun r w' => r = .returned (.tuple #[.agg (digC D), .int .i64 e]) ∧ Below u.heap.size u w') ∧
      (∀ u, Below w.heap.size w u → Calls Try.prog 32 #[.agg (spongeC s (.slice ra rl rc))] u fun r w' => r = .returned (.tuple #[.agg (digC D), .int .i64 e]) ∧ Below u.heap.size u w') := by
  by_cases h16 : rl < 16
  · exact ⟨endV s rest, 0, endV_len s rest, fun u hu => endE_ok s ra rl rc rest u (hr.below hu (Nat.le_refl _)) h16, fun u hu => rend_ok s ra rl rc rest u (hr.below hu (Nat.le_refl _)) h16⟩
  · exact ⟨List.replicate 16 0, 1, by simp, fun u _ => endE_bad s ra rl rc u (by omega), fun u _ => rend_bad s ra rl rc u (by omega)⟩
attribute [local irreducible] spongeC vals permV undos digestV startV
set_option maxRecDepth 100000 in
set_option maxHeartbeats 8000000 in
theorem walk (s0 : St) (s1 : St) (a1 : Option Addr) (len1 cap1 : Nat) (xs1 : List Int) (a2 : Option Addr) (len2 cap2 : Nat) (xs2 : List Int) (w : World) (w1 : Rd w a1 len1 cap1 xs1 ∧ cap1 ≤ 140737488351232) (w2 : Rd w a2 len2 cap2 xs2 ∧ cap2 ≤ 140737488351232) :
    Calls Try.prog 5 #[.agg (vals s0), .agg (spongeC s1 (.slice a1 len1 cap1)), .slice a2 len2 cap2] w fun e w' => e = .returned (.bool true) ∧ Below w.heap.size w w' := by
  obtain ⟨hr1, hc1⟩ := w1
  obtain ⟨hr2, hc2⟩ := w2
  have hcc1 := hr1.hc
  have hcc2 := hr2.hc
  obtain ⟨W0, hW0⟩ : ∃ W0, W0 = (w.alloc (.cells (vals s0) 41)).alloc (.cells (spongeC s1 (.slice a1 len1 cap1)) 43) := ⟨_, rfl⟩
  have hg3 : Blk W0 w.heap.size 41 (vals s0) := by rw [hW0]; exact (Below.heap_alloc _ _ _ (by simp)).trans (heap_new w _)
  have hg4 : Blk W0 (w.heap.size + 1) 43 (spongeC s1 (.slice a1 len1 cap1)) := by rw [hW0]; exact heap_alloc2_new w _ _
  have hb0 : Below w.heap.size w W0 := by rw [hW0]; exact ((Below.refl _ w).alloc (Nat.le_refl _) _).alloc (by simp) _
  have p8 : W0.cell? ⟨w.heap.size + 1, 8, none⟩ = some (.slice a1 len1 cap1) := by rw [hg4.cell 8, sp_cell8]
  have HW0 := Lib.hid hW0
  have Hg3 := Lib.hid hg3
  have Hg4 := Lib.hid hg4
  have Hb0 := Lib.hid hb0
  have Hr1 := Lib.hid hr1
  have Hr2 := Lib.hid hr2
  clear hW0 hg3 hg4 hb0 hr1 hr2
  by_cases h1 : (3000 : Int) < (len2 : Int)
  · go_enter Try.func5, Try.ntmps5
    go_upto_region 1 with fail
    rw [← HW0.out]
    go_wp2_with fail
    refine (sane_any W0).mono ?_
    rintro e w' ⟨rfl, hb⟩
    go_wp2_with fail
    go_ret
    exact ⟨rfl, Hb0.out.trans (hb.mono Hb0.out.size)⟩
  by_cases h2 : (3000 : Int) < (len1 : Int)
  · go_enter Try.func5, Try.ntmps5
    go_upto_region 1 with fail
    rw [← HW0.out]
    go_wp2_with fail
    refine (sane_any W0).mono ?_
    rintro e w' ⟨rfl, hb⟩
    go_wp2_with fail
    go_ret
    exact ⟨rfl, Hb0.out.trans (hb.mono Hb0.out.size)⟩
  obtain ⟨σ, m, ys, ea, hA1, hA2⟩ := bothAbsorb s1 a1 len1 cap1 xs1 a2 len2 cap2 xs2 w Hr1.out Hr2.out (by omega) (by omega)
  obtain ⟨D, ed, hDl, hE1, hE2⟩ := bothEnd s1 a1 len1 cap1 xs1 w Hr1.out
  have HA1 := Lib.hid hA1
  have HA2 := Lib.hid hA2
  have HE1 := Lib.hid hE1
  have HE2 := Lib.hid hE2
  have HDl := Lib.hid hDl
  obtain ⟨X, hX⟩ : ∃ X, X = digestV xs2 := ⟨_, rfl⟩
  have hXl : X.length = 16 := by rw [hX]; exact digestV_len xs2
  have HX := Lib.hid (And.intro hX hXl)
  clear hA1 hA2 hE1 hE2 hDl hX hXl
  go_enter Try.func5, Try.ntmps5
  go_upto_region 1 with fail
  rw [← HW0.out]
  clear HW0
  go_upto_region 3 with fail
  clear p8
  go_wp2_with (refine list_load rfl 43 (.tmp 4) rfl (w.heap.size + 1) rfl 43 (spongeC s1 (.slice a1 len1 cap1)) (0, 0) _ Hg4.out Try.underlying43 rfl (sizeSponge _ _) ?_)
  refine (HA1.out W0 Hb0.out).mono ?_
  rintro e w1 ⟨va, vc, rfl, hv1, hb1⟩
  have hbw1 : Below w.heap.size w w1 := Hb0.out.trans (hb1.mono Hb0.out.size)
  obtain ⟨w2, e1, hz2, g7, W3, e2, e3, hg7, hb3, hq3, -⟩ := freshZ hbw1 σ (.slice va m vc)
  have K3 := Lib.hid ((Hg3.out.below hb1 Hg3.out.lt).below hq3 (by have := hb1.size; have := Hg3.out.lt; omega))
  have K4 := Lib.hid ((Hg4.out.below hb1 Hg4.out.lt).below hq3 (by have := hb1.size; have := Hg4.out.lt; omega))
  have V3 := Lib.hid (hv1.below hq3 (by omega))
  have K7 := Lib.hid hg7
  have B3 := Lib.hid hb3
  have He1 := Lib.hid e1
  have He2 := Lib.hid e2
  have He3 := Lib.hid e3
  have Hz := Lib.hid hz2
  clear hv1 hb1 hbw1 e1 hz2 e2 e3 hg7 hb3 hq3 Hg3 Hg4 Hb0 HA1
  go_upto_region 4 with (rw [He1.out]; refine wpList_store_row rfl 43 (.tmp 7) (.tmp 29) rfl w1.heap.size (spongeC σ (.slice va m vc)) rfl rfl 43 #[.int .u32 0, .int .u32 0, .int .u32 0, .int .u32 0, .int .u32 0, .int .u32 0, .int .u32 0, .int .u32 0, .slice none 0 0] Hz.out (sizeSponge _ _) (sizeZE _ _) (oneSponge _ _ _ _) ?_)
  rw [He3.out, He2.out]
  clear He1 He2 He3 Hz
  go_wp2_with (refine list_load rfl 43 (.tmp 4) rfl (w.heap.size + 1) rfl 43 (spongeC s1 (.slice a1 len1 cap1)) (0, 0) _ K4.out Try.underlying43 rfl (sizeSponge _ _) ?_)
  refine (HA2.out W3 B3.out).mono ?_
  rintro e w4 ⟨ua, uc, rfl, hv4, hb4⟩
  have hbw4 : Below w.heap.size w w4 := B3.out.trans (hb4.mono B3.out.size)
  have hs4 := hb4.size
  obtain ⟨w5, e1, hz5, g9, W6, e2, e3, hg9, hb6, hq6, -⟩ := freshZ hbw4 σ (.slice ua m uc)
  have K36 := Lib.hid ((K3.out.below hb4 K3.out.lt).below hq6 (by have := K3.out.lt; omega))
  have K46 := Lib.hid ((K4.out.below hb4 K4.out.lt).below hq6 (by have := K4.out.lt; omega))
  have K76 := Lib.hid ((K7.out.below hb4 K7.out.lt).below hq6 (by have := K7.out.lt; omega))
  have V36 := Lib.hid ((V3.out.below hb4 (Nat.le_refl _)).below hq6 (by omega))
  have V46 := Lib.hid (hv4.below hq6 (by omega))
  have K9 := Lib.hid hg9
  have B6 := Lib.hid hb6
  have He1 := Lib.hid e1
  have He2 := Lib.hid e2
  have He3 := Lib.hid e3
  have Hz := Lib.hid hz5
  clear hv4 hb4 hs4 hbw4 e1 hz5 e2 e3 hg9 hb6 hq6 K3 K4 K7 V3 B3 HA2
  go_upto_region 5 with (rw [He1.out]; refine wpList_store_row rfl 43 (.tmp 9) (.tmp 35) rfl w4.heap.size (spongeC σ (.slice ua m uc)) rfl rfl 43 #[.int .u32 0, .int .u32 0, .int .u32 0, .int .u32 0, .int .u32 0, .int .u32 0, .int .u32 0, .int .u32 0, .slice none 0 0] Hz.out (sizeSponge _ _) (sizeZE _ _) (oneSponge _ _ _ _) ?_)
  rw [He3.out, He2.out]
  clear He1 He2 He3 Hz
  go_wp2_with (refine list_load rfl 43 (.tmp 4) rfl (w.heap.size + 1) rfl 43 (spongeC s1 (.slice a1 len1 cap1)) (0, 0) _ K46.out Try.underlying43 rfl (sizeSponge _ _) ?_)
  refine (HE1.out W6 B6.out).mono ?_
  rintro e w7 ⟨rfl, hb7⟩
  have hbw7 : Below w.heap.size w w7 := B6.out.trans (hb7.mono B6.out.size)
  have hs7 := hb7.size
  obtain ⟨w8, e1, hz8, g11, W9, e2, e3, hg11, hb9, hq9, -⟩ := freshD hbw7 D HDl.out
  have K39 := Lib.hid ((K36.out.below hb7 K36.out.lt).below hq9 (by have := K36.out.lt; omega))
  have K49 := Lib.hid ((K46.out.below hb7 K46.out.lt).below hq9 (by have := K46.out.lt; omega))
  have K79 := Lib.hid ((K76.out.below hb7 K76.out.lt).below hq9 (by have := K76.out.lt; omega))
  have K99 := Lib.hid ((K9.out.below hb7 K9.out.lt).below hq9 (by have := K9.out.lt; omega))
  have V39 := Lib.hid ((V36.out.below hb7 (Nat.le_refl _)).below hq9 (by omega))
  have V49 := Lib.hid ((V46.out.below hb7 (Nat.le_refl _)).below hq9 (by omega))
  have K11 := Lib.hid hg11
  have B9 := Lib.hid hb9
  have He1 := Lib.hid e1
  have He2 := Lib.hid e2
  have He3 := Lib.hid e3
  have Hz := Lib.hid hz8
  have z1 := Try.sizeDig D HDl.out
  have z2 := zsize D HDl.out
  have z3 := digC_one D
  clear hb7 hs7 hbw7 e1 hz8 e2 e3 hg11 hb9 hq9 K36 K46 K76 K9 V36 V46 B6 HE1
  go_upto_region 6 with (rw [He1.out]; refine wpList_store_row rfl 47 (.tmp 11) (.tmp 40) rfl w7.heap.size (digC D) rfl rfl 47 (digC (List.replicate 16 0)) Hz.out z1 z2 z3 ?_)
  rw [He3.out, He2.out]
  clear He1 He2 He3 Hz
  have Z1 := Lib.hid z1
  have Z2 := Lib.hid z2
  have Z3 := Lib.hid z3
  clear z1 z2 z3
  go_wp2_with (refine list_load rfl 43 (.tmp 4) rfl (w.heap.size + 1) rfl 43 (spongeC s1 (.slice a1 len1 cap1)) (0, 0) _ K49.out Try.underlying43 rfl (sizeSponge _ _) ?_)
  refine (HE2.out W9 B9.out).mono ?_
  rintro e w10 ⟨rfl, hb10⟩
  have hbw10 : Below w.heap.size w w10 := B9.out.trans (hb10.mono B9.out.size)
  have hs10 := hb10.size
  obtain ⟨w11, e1, hz11, g13, W12, e2, e3, hg13, hb12, hq12, -⟩ := freshD hbw10 D HDl.out
  have K3c := Lib.hid ((K39.out.below hb10 K39.out.lt).below hq12 (by have := K39.out.lt; omega))
  have K7c := Lib.hid ((K79.out.below hb10 K79.out.lt).below hq12 (by have := K79.out.lt; omega))
  have K9c := Lib.hid ((K99.out.below hb10 K99.out.lt).below hq12 (by have := K99.out.lt; omega))
  have K11c := Lib.hid ((K11.out.below hb10 K11.out.lt).below hq12 (by have := K11.out.lt; omega))
  have V3c := Lib.hid ((V39.out.below hb10 (Nat.le_refl _)).below hq12 (by omega))
  have V4c := Lib.hid ((V49.out.below hb10 (Nat.le_refl _)).below hq12 (by omega))
  have K13 := Lib.hid hg13
  have Bc := Lib.hid hb12
  have He1 := Lib.hid e1
  have He2 := Lib.hid e2
  have He3 := Lib.hid e3
  have Hz := Lib.hid hz11
  clear hb10 hs10 hbw10 e1 hz11 e2 e3 hg13 hb12 hq12 K39 K49 K79 K99 K11 V39 V49 B9 HE2
  go_upto_region 7 with (rw [He1.out]; refine wpList_store_row rfl 47 (.tmp 13) (.tmp 45) rfl w10.heap.size (digC D) rfl rfl 47 (digC (List.replicate 16 0)) Hz.out Z1.out Z2.out Z3.out ?_)
  rw [He3.out, He2.out]
  clear He1 He2 He3 Hz Z2 Z3
  go_wp2_with (first
    | (refine list_load rfl 43 (.tmp 7) rfl g7 rfl 43 (spongeC σ (.slice va m vc)) (0, 0) _ K7c.out Try.underlying43 rfl (sizeSponge _ _) ?_)
    | (refine list_load rfl 43 (.tmp 9) rfl g9 rfl 43 (spongeC σ (.slice ua m uc)) (0, 0) _ K9c.out Try.underlying43 rfl (sizeSponge _ _) ?_))
  refine (sameS_any σ va m vc ua m uc ys W12 V3c.out V4c.out).mono ?_
  rintro e w13 ⟨rfl, hb13⟩
  have K3d := Lib.hid (K3c.out.below hb13 K3c.out.lt)
  have K11d := Lib.hid (K11c.out.below hb13 K11c.out.lt)
  have K13d := Lib.hid (K13.out.below hb13 K13.out.lt)
  have Bd : Hid (Below w.heap.size w w13) := Lib.hid (Bc.out.trans (hb13.mono Bc.out.size))
  have hE := eqIn_dig w13 D D HDl.out HDl.out
  rw [beq_self_eq_true] at hE
  clear hb13 K3c K7c K9c K11c V3c V4c K13 Bc
  go_wp2_with (first
    | (refine list_load rfl 47 (.tmp 11) rfl g11 rfl 47 (digC D) (0, 0) _ K11d.out Try.underlying47 rfl Z1.out ?_)
    | (refine list_load rfl 47 (.tmp 13) rfl g13 rfl 47 (digC D) (0, 0) _ K13d.out Try.underlying47 rfl Z1.out ?_))
  refine (startS_any w13).mono ?_
  rintro e w14 ⟨rfl, hb14⟩
  have K3e := Lib.hid (K3d.out.below hb14 K3d.out.lt)
  have Be : Hid (Below w.heap.size w w14) := Lib.hid (Bd.out.trans (hb14.mono Bd.out.size))
  clear hb14 K3d Bd K11d K13d hE
  go_wp2_with fail
  refine (rstart_any w14).mono ?_
  rintro e w15 ⟨rfl, hb15⟩
  have K3f := Lib.hid (K3e.out.below hb15 K3e.out.lt)
  have Bf : Hid (Below w.heap.size w w15) := Lib.hid (Be.out.trans (hb15.mono Be.out.size))
  clear hb15 K3e Be
  go_wp2_with fail
  refine (sameS_any startV none 0 0 none 0 0 [] w15 (Rd.nil _) (Rd.nil _)).mono ?_
  rintro e w16 ⟨rfl, hb16⟩
  have K3g := Lib.hid (K3f.out.below hb16 K3f.out.lt)
  have Bg : Hid (Below w.heap.size w w16) := Lib.hid (Bf.out.trans (hb16.mono Bf.out.size))
  have lg := K3g.out.lt
  have Zs := Lib.hid (sizeSt s0)
  clear hb16 K3f Bf
  go_upto_region 9 with fail
  refine wp_region_held_drew (S := Below w16.heap.size w16) (by kernel_rfl) (Below.refl _ _).drew (fun _ => ?_)
  have HS : Hid (Below w16.heap.size w16 w16.drew) := Lib.hid (Below.refl _ _).drew
  refine wpAnyH_ready (rs := [0]) (by kernel_rfl) (by simp) ?_
  refine AllReadyH.cons rfl (fun K hK => ?_) AllReadyH.nil
  go_simp
  refine (sane_any _).mono ?_
  rintro e u0 ⟨rfl, hb⟩
  have HS' : Hid (Below w16.heap.size w16 u0) := Lib.hid (HS.out.trans (hb.mono HS.out.size))
  clear HS hb
  have HS := HS'
  clear HS'
  refine hK.out _ _ HS.out (fun _ => ?_)
  clear hK K
  refine wpAnyH_take (i := 1) (v := .bool true) rfl (by kernel_rfl) (by kernel_rfl) (by kernel_rfl) (fun _ _ _ h => h) (Or.inl ⟨by rfl, ?_⟩) HS.out ?_
  · intro u hu; go_simp
  go_simp
  refine wpAnyH_take (i := 2) (v := .agg (vals s0)) rfl (by kernel_rfl) (by kernel_rfl) (by kernel_rfl) (fun _ _ _ h => h) (load_yields (by rfl) 41 (.tmp 3) rfl w.heap.size rfl 41 (vals s0) (0, 0) _ (fun u hu => K3g.out.below hu lg) Try.underlying41 rfl Zs.out) HS.out ?_
  go_simp
  refine wpAnyH_take (i := 4) (v := .agg (vals s0)) rfl (by kernel_rfl) (by kernel_rfl) (by kernel_rfl) (fun _ _ _ h => h) (load_yields (by rfl) 41 (.tmp 3) rfl w.heap.size rfl 41 (vals s0) (0, 0) _ (fun u hu => K3g.out.below hu lg) Try.underlying41 rfl Zs.out) HS.out ?_
  go_simp
  refine wpAnyH_ready (rs := [3]) (by kernel_rfl) (by simp) ?_
  refine AllReadyH.cons rfl (fun K hK => ?_) AllReadyH.nil
  go_simp
  refine (permute_any s0 _).mono ?_
  rintro e u1 ⟨rfl, hb⟩
  have HS' : Hid (Below w16.heap.size w16 u1) := Lib.hid (HS.out.trans (hb.mono HS.out.size))
  clear HS hb
  have HS := HS'
  clear HS'
  refine hK.out _ _ HS.out (fun _ => ?_)
  clear hK K
  refine wpAnyH_ready (rs := [5]) (by kernel_rfl) (by simp) ?_
  refine AllReadyH.cons rfl (fun K hK => ?_) AllReadyH.nil
  go_simp
  refine (rpermute_any s0 _).mono ?_
  rintro e u2 ⟨rfl, hb⟩
  have HS' : Hid (Below w16.heap.size w16 u2) := Lib.hid (HS.out.trans (hb.mono HS.out.size))
  clear HS hb
  have HS := HS'
  clear HS'
  refine hK.out _ _ HS.out (fun _ => ?_)
  clear hK K
  refine wpAnyH_take (i := 6) (v := .bool true) rfl (by kernel_rfl) (by kernel_rfl) (by kernel_rfl) (fun _ _ _ h => h) (Or.inl ⟨by rfl, ?_⟩) HS.out ?_
  · intro u hu; have hE := eqIn_vals u (permV s0); go_simp
  go_simp
  refine wpAnyH_take (i := 7) (v := .bool true) rfl (by kernel_rfl) (by kernel_rfl) (by kernel_rfl) (fun _ _ _ h => h) (Or.inl ⟨by rfl, ?_⟩) HS.out ?_
  · intro u hu; go_simp
  go_simp
  refine wpAnyH_take (i := 8) (v := .bool true) rfl (by kernel_rfl) (by kernel_rfl) (by kernel_rfl) (fun _ _ _ h => h) (Or.inl ⟨by rfl, ?_⟩) HS.out ?_
  · intro u hu; go_simp
  go_simp
  refine wpAnyH_take (i := 9) (v := .agg (vals s0)) rfl (by kernel_rfl) (by kernel_rfl) (by kernel_rfl) (fun _ _ _ h => h) (load_yields (by rfl) 41 (.tmp 3) rfl w.heap.size rfl 41 (vals s0) (0, 0) _ (fun u hu => K3g.out.below hu lg) Try.underlying41 rfl Zs.out) HS.out ?_
  go_simp
  refine wpAnyH_take (i := 11) (v := .agg (vals s0)) rfl (by kernel_rfl) (by kernel_rfl) (by kernel_rfl) (fun _ _ _ h => h) (load_yields (by rfl) 41 (.tmp 3) rfl w.heap.size rfl 41 (vals s0) (0, 0) _ (fun u hu => K3g.out.below hu lg) Try.underlying41 rfl Zs.out) HS.out ?_
  go_simp
  refine wpAnyH_ready (rs := [10]) (by kernel_rfl) (by simp) ?_
  refine AllReadyH.cons rfl (fun K hK => ?_) AllReadyH.nil
  go_simp
  refine (undo_any s0 _).mono ?_
  rintro e u3 ⟨rfl, hb⟩
  have HS' : Hid (Below w16.heap.size w16 u3) := Lib.hid (HS.out.trans (hb.mono HS.out.size))
  clear HS hb
  have HS := HS'
  clear HS'
  refine hK.out _ _ HS.out (fun _ => ?_)
  clear hK K
  refine wpAnyH_ready (rs := [12]) (by kernel_rfl) (by simp) ?_
  refine AllReadyH.cons rfl (fun K hK => ?_) AllReadyH.nil
  go_simp
  refine (rundo_any s0 _).mono ?_
  rintro e u4 ⟨rfl, hb⟩
  have HS' : Hid (Below w16.heap.size w16 u4) := Lib.hid (HS.out.trans (hb.mono HS.out.size))
  clear HS hb
  have HS := HS'
  clear HS'
  refine hK.out _ _ HS.out (fun _ => ?_)
  clear hK K
  refine wpAnyH_take (i := 13) (v := .bool true) rfl (by kernel_rfl) (by kernel_rfl) (by kernel_rfl) (fun _ _ _ h => h) (Or.inl ⟨by rfl, ?_⟩) HS.out ?_
  · intro u hu; have hE := eqIn_vals u (undos 12 s0); go_simp
  go_simp
  refine wpAnyH_take (i := 14) (v := .bool true) rfl (by kernel_rfl) (by kernel_rfl) (by kernel_rfl) (fun _ _ _ h => h) (Or.inl ⟨by rfl, ?_⟩) HS.out ?_
  · intro u hu; go_simp
  go_simp
  refine wpAnyH_take (i := 15) (v := .bool true) rfl (by kernel_rfl) (by kernel_rfl) (by kernel_rfl) (fun _ _ _ h => h) (Or.inl ⟨by rfl, ?_⟩) HS.out ?_
  · intro u hu; go_simp
  go_simp
  refine wpAnyH_take (i := 16) (v := .slice a2 len2 cap2) rfl (by kernel_rfl) (by kernel_rfl) (by kernel_rfl) (fun _ _ _ h => h) (Or.inl ⟨by rfl, ?_⟩) HS.out ?_
  · intro u hu; go_simp
  go_simp
  refine wpAnyH_take (i := 18) (v := .slice a2 len2 cap2) rfl (by kernel_rfl) (by kernel_rfl) (by kernel_rfl) (fun _ _ _ h => h) (Or.inl ⟨by rfl, ?_⟩) HS.out ?_
  · intro u hu; go_simp
  go_simp
  refine wpAnyH_ready (rs := [17]) (by kernel_rfl) (by simp) ?_
  refine AllReadyH.cons rfl (fun K hK => ?_) AllReadyH.nil
  go_simp
  refine (digest_any a2 len2 cap2 xs2 _ (Hr2.out.below (Bg.out.trans (HS.out.mono Bg.out.size)) (Nat.le_refl _)) (by omega)).mono ?_
  rintro e u5 ⟨rfl, hb⟩
  rw [← HX.out.1]
  have HS' : Hid (Below w16.heap.size w16 u5) := Lib.hid (HS.out.trans (hb.mono HS.out.size))
  clear HS hb
  have HS := HS'
  clear HS'
  refine hK.out _ _ HS.out (fun _ => ?_)
  clear hK K
  refine wpAnyH_ready (rs := [19]) (by kernel_rfl) (by simp) ?_
  refine AllReadyH.cons rfl (fun K hK => ?_) AllReadyH.nil
  go_simp
  refine (rdigest_any a2 len2 cap2 xs2 _ (Hr2.out.below (Bg.out.trans (HS.out.mono Bg.out.size)) (Nat.le_refl _)) (by omega)).mono ?_
  rintro e u6 ⟨rfl, hb⟩
  rw [← HX.out.1]
  have HS' : Hid (Below w16.heap.size w16 u6) := Lib.hid (HS.out.trans (hb.mono HS.out.size))
  clear HS hb
  have HS := HS'
  clear HS'
  refine hK.out _ _ HS.out (fun _ => ?_)
  clear hK K
  refine wpAnyH_take (i := 20) (v := .bool true) rfl (by kernel_rfl) (by kernel_rfl) (by kernel_rfl) (fun _ _ _ h => h) (Or.inl ⟨by rfl, ?_⟩) HS.out ?_
  · intro u hu; have hE := eqIn_dig u X X HX.out.2 HX.out.2; rw [beq_self_eq_true] at hE; go_simp
  go_simp
  refine wpAnyH_take (i := 21) (v := .bool true) rfl (by kernel_rfl) (by kernel_rfl) (by kernel_rfl) (fun _ _ _ h => h) (Or.inl ⟨by rfl, ?_⟩) HS.out ?_
  · intro u hu; go_simp
  go_simp
  refine wpAnyH_ready (rs := [22]) (by kernel_rfl) (by simp) ?_
  refine AllReadyH.cons rfl (fun K hK => ?_) AllReadyH.nil
  go_simp
  refine hK.out _ _ HS.out (fun _ => ?_)
  clear hK K
  refine wpAnyH_done (by kernel_rfl) ?_ _
  go_wp2_with fail
  go_ret
  exact ⟨rfl, Bg.out.trans (HS.out.mono Bg.out.size)⟩
end Go.Proofs.Ytjkkjfigoanplaa.sumsDigests

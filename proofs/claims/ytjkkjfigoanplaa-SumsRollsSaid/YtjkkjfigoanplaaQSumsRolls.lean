/- What the statement SumsRolls calls answers true, for every input that its walk is handed. -/
import Derived.Test.YtjkkjfigoanplaaRows
import Derived.WalkKit
import Derived.ProofKit
import Derived.OpenShut
import Derived.ShutString
import Derived.ChangeOld
import Derived.Below
import Derived.SizedLaws
import Derived.Test.YtjkkjfigoanplaaSopen
import Derived.Test.YtjkkjfigoanplaaSsane
import Derived.Test.YtjkkjfigoanplaaSrwin
namespace Go.Proofs.Ytjkkjfigoanplaa.sumsRolls
open Go.ChangeShapes Go.WideShapes Go.ChangeAt Go.RowKit
open Go.ChangeMaps (open_string shut_string)
set_option linter.unusedVariables false

open Go.Shelf
/-- Slide, of both. -/
theorem bothSlide (A B N out in_ : Int) (a : (0 ≤ A ∧ A ≤ 4294967295)) (b : (0 ≤ B ∧ B ≤ 4294967295)) (o1 : 0 ≤ out) (o2 : out ≤ 255) (i1 : 0 ≤ in_) (i2 : in_ ≤ 255) :
    ∃ x y z e : Int, (∀ u, Calls Try.prog 20 #[.agg #[.int .u32 A, .int .u32 B, .int .i64 N], .int .u8 out, .int .u8 in_] u fun r w' => r = .returned (.tuple #[.agg #[.int .u32 x, .int .u32 y, .int .i64 z], .int .i64 e]) ∧ Below u.heap.size u w') ∧
      (∀ u, Calls Try.prog 21 #[.agg #[.int .u32 A, .int .u32 B, .int .i64 N], .int .u8 out, .int .u8 in_] u fun r w' => r = .returned (.tuple #[.agg #[.int .u32 x, .int .u32 y, .int .i64 z], .int .i64 e]) ∧ Below u.heap.size u w') := by
  cases h : rollOk A B N
  · exact ⟨_, _, _, _, fun u => slideE_bad A B N out in_ u a.1 a.2 b.1 b.2 h, fun u => rslide_bad A B N out in_ u a.1 a.2 b.1 b.2 h⟩
  · exact ⟨_, _, _, _, fun u => slideE_ok A B N out in_ u a.1 b.1 o1 o2 i1 i2 h, fun u => rslide_ok A B N out in_ u a.1 b.1 o1 o2 i1 i2 h⟩
/-- Windows, of both. -/
theorem bothWin (a : Option Addr) (len cap : Nat) (xs : List Int) (n : Int) (w : World) (h : Rd w a len cap xs) (hm : len ≤ 600) :
    ∃ (e : Int) (m : Nat) (ys : List Int), (∀ u, Below w.heap.size w u → Calls Try.prog 22 #[.slice a len cap, .int .i64 n] u fun r w' => ∃ va vc, r = .returned (.tuple #[.slice va m vc, .int .i64 e]) ∧ RdU w' va m vc ys ∧ Below u.heap.size u w') ∧
      (∀ u, Below w.heap.size w u → Calls Try.prog 23 #[.slice a len cap, .int .i64 n] u fun r w' => ∃ va vc, r = .returned (.tuple #[.slice va m vc, .int .i64 e]) ∧ RdU w' va m vc ys ∧ Below u.heap.size u w') := by
  have nilU : ∀ u : World, RdU u none 0 0 [] := fun u => ⟨rfl, Nat.le_refl _, Nat.zero_le _, by simp⟩
  by_cases h1 : n < 1
  · exact ⟨1, 0, [], fun u _ => (windows_less a len cap n u h1).mono (by rintro e w' ⟨rfl, rfl⟩; exact ⟨none, 0, rfl, nilU _, Below.refl _ _⟩), fun u _ => (rwindows_less a len cap n u h1).mono (by rintro e w' ⟨rfl, rfl⟩; exact ⟨none, 0, rfl, nilU _, Below.refl _ _⟩)⟩
  by_cases h2 : (len : Int) < n
  · exact ⟨0, 0, [], fun u _ => (windows_more a len cap n u (by omega) h2).mono (by rintro e w' ⟨rfl, rfl⟩; exact ⟨none, 0, rfl, nilU _, Below.refl _ _⟩), fun u _ => (rwindows_more a len cap n u (by omega) h2).mono (by rintro e w' ⟨rfl, rfl⟩; exact ⟨none, 0, rfl, nilU _, Below.refl _ _⟩)⟩
  obtain ⟨m, rfl⟩ : ∃ m : Nat, n = m := ⟨n.toNat, by omega⟩
  refine ⟨0, len - m + 1, winV xs m (len - m + 1), fun u hu => ?_, fun u hu => ?_⟩
  · refine (windows_ok a len cap m xs u (h.below hu (Nat.le_refl _)) (by omega) (by omega) (by omega)).mono ?_
    rintro e w' ⟨v, rfl, hr, hb⟩
    obtain ⟨va, vc, rfl, hU⟩ := row_words hr
    exact ⟨va, vc, rfl, hU, hb⟩
  · refine (rwindows_ok a len cap m xs u (h.below hu (Nat.le_refl _)) (by omega) (by omega) (by omega)).mono ?_
    rintro e w' ⟨v, rfl, hr, hb⟩
    obtain ⟨va, vc, rfl, hU⟩ := row_words hr
    exact ⟨va, vc, rfl, hU, hb⟩
attribute [local irreducible] slideA slideB valueV rollV
set_option maxRecDepth 100000 in
set_option maxHeartbeats 8000000 in
theorem walk (a0 : Option Addr) (len0 cap0 : Nat) (xs0 : List Int) (a1 : Int) (A2 B2 N2 : Int) (a3 : Int) (a4 : Int) (w : World) (w0 : Rd w a0 len0 cap0 xs0 ∧ cap0 ≤ 140737488351232) (w1 : (Lit.int .i64 a1).wf = true) (w2 : (0 ≤ A2 ∧ A2 ≤ 4294967295) ∧ (0 ≤ B2 ∧ B2 ≤ 4294967295) ∧ (-9223372036854775808 ≤ N2 ∧ N2 ≤ 9223372036854775807)) (w3 : (Lit.int .u8 a3).wf = true) (w4 : (Lit.int .u8 a4).wf = true) :
    Calls Try.prog 4 #[.slice a0 len0 cap0, .int .i64 a1, .agg #[.int .u32 A2, .int .u32 B2, .int .i64 N2], .int .u8 a3, .int .u8 a4] w fun e w' => e = .returned (.bool true) ∧ Below w.heap.size w w' := by
  obtain ⟨hr0, hc0⟩ := w0
  have ho := wf_u8 w3
  have hi := wf_u8 w4
  obtain ⟨x, y, z, er, hS1, hS2⟩ := bothSlide A2 B2 N2 a3 a4 w2.1 w2.2.1 ho.1 ho.2 hi.1 hi.2
  obtain ⟨W0, hW0⟩ : ∃ W0, W0 = w.alloc (.cells #[.int .u32 A2, .int .u32 B2, .int .i64 N2] 31) := ⟨_, rfl⟩
  have hg0 : Blk W0 w.heap.size 31 #[.int .u32 A2, .int .u32 B2, .int .i64 N2] := by rw [hW0]; exact heap_new w _
  have hb0 : Below w.heap.size w W0 := by rw [hW0]; exact (Below.refl _ w).alloc (Nat.le_refl _) _
  have HW0 := Lib.hid hW0
  have Hg0 := Lib.hid hg0
  have Hb0 := Lib.hid hb0
  clear hW0 hg0 hb0 w1
  by_cases h600 : (600 : Int) < (len0 : Int)
  · clear hS1 hS2
    go_enter Try.func4, Try.ntmps4
    go_wp2_with fail
    rw [← HW0.out]
    refine (sane_any W0).mono ?_
    rintro e w' ⟨rfl, hb⟩
    go_wp2_with fail
    go_ret
    exact ⟨rfl, Hb0.out.trans (hb.mono Hb0.out.size)⟩
  obtain ⟨we, m, ys, hW1, hW2⟩ := bothWin a0 len0 cap0 xs0 a1 w hr0 (by omega)
  have HS1 := Lib.hid hS1
  have HS2 := Lib.hid hS2
  have HV1 := Lib.hid hW1
  have HV2 := Lib.hid hW2
  have Hr0 := Lib.hid hr0
  have Hw2 := Lib.hid w2
  obtain ⟨RA, hRA⟩ : ∃ r, r = (rollV xs0).1 := ⟨_, rfl⟩
  obtain ⟨RB, hRB⟩ : ∃ r, r = (rollV xs0).2 := ⟨_, rfl⟩
  have HRA := Lib.hid (And.intro hRA hRB)
  obtain ⟨V, hV⟩ : ∃ V, V = valueV A2 B2 := ⟨_, rfl⟩
  have HV := Lib.hid hV
  clear hS1 hS2 hW1 hW2 hr0 hRA hRB hV w2
  go_enter Try.func4, Try.ntmps4
  go_upto_region 3 with fail
  rw [← HW0.out]
  clear HW0
  go_wp2_with (refine list_load rfl 31 (.tmp 7) rfl w.heap.size rfl 31 #[.int .u32 A2, .int .u32 B2, .int .i64 N2] (0, 0) _ Hg0.out Try.underlying31 rfl Try.sizeRoll' ?_)
  refine (HS1.out W0).mono ?_
  rintro e w1 ⟨rfl, hb1⟩
  have Hb1 : Hid (Below w.heap.size w w1) := Lib.hid (Hb0.out.trans (hb1.mono Hb0.out.size))
  have Hg1 := Lib.hid (Hg0.out.below hb1 Hg0.out.lt)
  clear hb1 Hb0 Hg0
  go_upto_region 4 with fail
  obtain ⟨g11, W2, e1, e2, hq2, hb2, hc2, -⟩ := fresh Hb1.out #[.int .u32 x, .int .u32 y, .int .i64 z] 31
  have hg2 := Hg1.out.below hc2 (by rw [← e1]; exact Hg1.out.lt)
  rw [e2, e1]
  have Hq2 := Lib.hid hq2
  have Hg2 := Lib.hid hg2
  have Hb2 := Lib.hid hb2
  clear e1 e2 hq2 hb2 hc2 hg2 Hb1 Hg1
  go_wp2_with (refine list_load rfl 31 (.tmp 7) rfl w.heap.size rfl 31 #[.int .u32 A2, .int .u32 B2, .int .i64 N2] (0, 0) _ Hg2.out Try.underlying31 rfl Try.sizeRoll' ?_)
  refine (HS2.out W2).mono ?_
  rintro e w3 ⟨rfl, hb3⟩
  have Hb3 : Hid (Below w.heap.size w w3) := Lib.hid (Hb2.out.trans (hb3.mono Hb2.out.size))
  have Hg3 := Lib.hid (Hg2.out.below hb3 Hg2.out.lt)
  have Hq3 := Lib.hid (Hq2.out.below hb3 Hq2.out.lt)
  clear hb3 Hb2 Hg2 Hq2
  go_upto_region 5 with fail
  obtain ⟨g13, W4, e1, e2, hp4, hb4, hc4, -⟩ := fresh Hb3.out #[.int .u32 x, .int .u32 y, .int .i64 z] 31
  have hg4 := Hg3.out.below hc4 (by rw [← e1]; exact Hg3.out.lt)
  have hq4 := Hq3.out.below hc4 (by rw [← e1]; exact Hq3.out.lt)
  rw [e2, e1]
  have Hp4 := Lib.hid hp4
  have Hq4 := Lib.hid hq4
  have Hg4 := Lib.hid hg4
  have Hb4 := Lib.hid hb4
  clear e1 e2 hp4 hq4 hb4 hc4 hg4 Hb3 Hg3 Hq3
  go_wp2_with fail
  refine (HV1.out W4 Hb4.out).mono ?_
  rintro e w5 ⟨va, vc, rfl, hU5, hb5⟩
  have HU5 := Lib.hid hU5
  have Hb5 : Hid (Below w.heap.size w w5) := Lib.hid (Hb4.out.trans (hb5.mono Hb4.out.size))
  have Hg5 := Lib.hid (Hg4.out.below hb5 Hg4.out.lt)
  have Hq5 := Lib.hid (Hq4.out.below hb5 Hq4.out.lt)
  have Hp5 := Lib.hid (Hp4.out.below hb5 Hp4.out.lt)
  clear hU5 hb5 Hb4 Hg4 Hq4 Hp4
  go_wp2_with fail
  refine (HV2.out w5 Hb5.out).mono ?_
  rintro e w6 ⟨ua, uc, rfl, hU6, hb6⟩
  have HU6 := Lib.hid hU6
  have HU56 := Lib.hid (HU5.out.below hb6 (Nat.le_refl _))
  have Hb6 : Hid (Below w.heap.size w w6) := Lib.hid (Hb5.out.trans (hb6.mono Hb5.out.size))
  have Hg6 := Lib.hid (Hg5.out.below hb6 Hg5.out.lt)
  have Hq6 := Lib.hid (Hq5.out.below hb6 Hq5.out.lt)
  have Hp6 := Lib.hid (Hp5.out.below hb6 Hp5.out.lt)
  have lg := Hg6.out.lt
  have lq := Hq6.out.lt
  have lp := Hp6.out.lt
  clear hU6 hb6 Hb5 Hg5 Hq5 Hp5 HU5 HV1 HV2 HS1 HS2
  go_upto_region 7 with fail
  refine wp_region_held_drew (S := Below w6.heap.size w6) (by kernel_rfl) (Below.refl _ _).drew (fun _ => ?_)
  have HS : Hid (Below w6.heap.size w6 w6.drew) := Lib.hid (Below.refl _ _).drew
  refine wpAnyH_ready (rs := [0]) (by kernel_rfl) (by simp) ?_
  refine AllReadyH.cons rfl (fun K hK => ?_) AllReadyH.nil
  go_simp
  refine (sane_any _).mono ?_
  rintro e u0 ⟨rfl, hb⟩
  have HS' : Hid (Below w6.heap.size w6 u0) := Lib.hid (HS.out.trans (hb.mono HS.out.size))
  clear HS hb
  have HS := HS'
  clear HS'
  refine hK.out _ _ HS.out (fun _ => ?_)
  clear hK K
  refine wpAnyH_take (i := 1) (v := .bool true) rfl (by kernel_rfl) (by kernel_rfl) (by kernel_rfl) (fun _ _ _ h => h) (Or.inl ⟨by rfl, ?_⟩) HS.out ?_
  · intro u hu; go_simp
  go_simp
  refine wpAnyH_take (i := 2) (v := .slice a0 len0 cap0) rfl (by kernel_rfl) (by kernel_rfl) (by kernel_rfl) (fun _ _ _ h => h) (Or.inl ⟨by rfl, ?_⟩) HS.out ?_
  · intro u hu; go_simp
  go_simp
  refine wpAnyH_take (i := 4) (v := .slice a0 len0 cap0) rfl (by kernel_rfl) (by kernel_rfl) (by kernel_rfl) (fun _ _ _ h => h) (Or.inl ⟨by rfl, ?_⟩) HS.out ?_
  · intro u hu; go_simp
  go_simp
  refine wpAnyH_ready (rs := [3]) (by kernel_rfl) (by simp) ?_
  refine AllReadyH.cons rfl (fun K hK => ?_) AllReadyH.nil
  go_simp
  refine (sum_any a0 len0 cap0 xs0 _ (Hr0.out.below (Hb6.out.trans (HS.out.mono Hb6.out.size)) (Nat.le_refl _))).mono ?_
  rintro e u1 ⟨rfl, hb⟩
  rw [← HRA.out.1, ← HRA.out.2]
  have HS' : Hid (Below w6.heap.size w6 u1) := Lib.hid (HS.out.trans (hb.mono HS.out.size))
  clear HS hb
  have HS := HS'
  clear HS'
  refine hK.out _ _ HS.out (fun _ => ?_)
  clear hK K
  refine wpAnyH_ready (rs := [5]) (by kernel_rfl) (by simp) ?_
  refine AllReadyH.cons rfl (fun K hK => ?_) AllReadyH.nil
  go_simp
  refine (rsum_any a0 len0 cap0 xs0 _ (Hr0.out.below (Hb6.out.trans (HS.out.mono Hb6.out.size)) (Nat.le_refl _))).mono ?_
  rintro e u2 ⟨rfl, hb⟩
  rw [← HRA.out.1, ← HRA.out.2]
  have HS' : Hid (Below w6.heap.size w6 u2) := Lib.hid (HS.out.trans (hb.mono HS.out.size))
  clear HS hb
  have HS := HS'
  clear HS'
  refine hK.out _ _ HS.out (fun _ => ?_)
  clear hK K
  refine wpAnyH_take (i := 6) (v := .bool true) rfl (by kernel_rfl) (by kernel_rfl) (by kernel_rfl) (fun _ _ _ h => h) (Or.inl ⟨by rfl, ?_⟩) HS.out ?_
  · intro u hu; go_simp
  go_simp
  refine wpAnyH_take (i := 7) (v := .bool true) rfl (by kernel_rfl) (by kernel_rfl) (by kernel_rfl) (fun _ _ _ h => h) (Or.inl ⟨by rfl, ?_⟩) HS.out ?_
  · intro u hu; go_simp
  go_simp
  refine wpAnyH_take (i := 8) (v := .bool true) rfl (by kernel_rfl) (by kernel_rfl) (by kernel_rfl) (fun _ _ _ h => h) (Or.inl ⟨by rfl, ?_⟩) HS.out ?_
  · intro u hu; go_simp
  go_simp
  refine wpAnyH_take (i := 9) (v := .agg (#[.int .u32 x, .int .u32 y, .int .i64 z])) rfl (by kernel_rfl) (by kernel_rfl) (by kernel_rfl) (fun _ _ _ h => h) (load_yields (by rfl) 31 (.tmp 11) rfl g11 rfl 31 (#[.int .u32 x, .int .u32 y, .int .i64 z]) (0, 0) _ (fun u hu => Hq6.out.below hu lq) Try.underlying31 rfl Try.sizeRoll') HS.out ?_
  go_simp
  refine wpAnyH_take (i := 10) (v := .agg (#[.int .u32 x, .int .u32 y, .int .i64 z])) rfl (by kernel_rfl) (by kernel_rfl) (by kernel_rfl) (fun _ _ _ h => h) (load_yields (by rfl) 31 (.tmp 13) rfl g13 rfl 31 (#[.int .u32 x, .int .u32 y, .int .i64 z]) (0, 0) _ (fun u hu => Hp6.out.below hu lp) Try.underlying31 rfl Try.sizeRoll') HS.out ?_
  go_simp
  refine wpAnyH_take (i := 11) (v := .bool true) rfl (by kernel_rfl) (by kernel_rfl) (by kernel_rfl) (fun _ _ _ h => h) (Or.inl ⟨by rfl, ?_⟩) HS.out ?_
  · intro u hu; go_simp
  go_simp
  refine wpAnyH_take (i := 12) (v := .bool true) rfl (by kernel_rfl) (by kernel_rfl) (by kernel_rfl) (fun _ _ _ h => h) (Or.inl ⟨by rfl, ?_⟩) HS.out ?_
  · intro u hu; go_simp
  go_simp
  refine wpAnyH_take (i := 13) (v := .bool true) rfl (by kernel_rfl) (by kernel_rfl) (by kernel_rfl) (fun _ _ _ h => h) (Or.inl ⟨by rfl, ?_⟩) HS.out ?_
  · intro u hu; go_simp
  go_simp
  refine wpAnyH_take (i := 14) (v := .int .i64 er) rfl (by kernel_rfl) (by kernel_rfl) (by kernel_rfl) (fun _ _ _ h => h) (Or.inl ⟨by rfl, ?_⟩) HS.out ?_
  · intro u hu; go_simp
  go_simp
  refine wpAnyH_take (i := 15) (v := .int .i64 er) rfl (by kernel_rfl) (by kernel_rfl) (by kernel_rfl) (fun _ _ _ h => h) (Or.inl ⟨by rfl, ?_⟩) HS.out ?_
  · intro u hu; go_simp
  go_simp
  refine wpAnyH_take (i := 16) (v := .bool true) rfl (by kernel_rfl) (by kernel_rfl) (by kernel_rfl) (fun _ _ _ h => h) (Or.inl ⟨by rfl, ?_⟩) HS.out ?_
  · intro u hu; go_simp
  go_simp
  refine wpAnyH_take (i := 17) (v := .bool true) rfl (by kernel_rfl) (by kernel_rfl) (by kernel_rfl) (fun _ _ _ h => h) (Or.inl ⟨by rfl, ?_⟩) HS.out ?_
  · intro u hu; go_simp
  go_simp
  refine wpAnyH_take (i := 18) (v := .bool true) rfl (by kernel_rfl) (by kernel_rfl) (by kernel_rfl) (fun _ _ _ h => h) (Or.inl ⟨by rfl, ?_⟩) HS.out ?_
  · intro u hu; go_simp
  go_simp
  refine wpAnyH_take (i := 19) (v := .agg (#[.int .u32 A2, .int .u32 B2, .int .i64 N2])) rfl (by kernel_rfl) (by kernel_rfl) (by kernel_rfl) (fun _ _ _ h => h) (load_yields (by rfl) 31 (.tmp 7) rfl w.heap.size rfl 31 (#[.int .u32 A2, .int .u32 B2, .int .i64 N2]) (0, 0) _ (fun u hu => Hg6.out.below hu lg) Try.underlying31 rfl Try.sizeRoll') HS.out ?_
  go_simp
  refine wpAnyH_take (i := 21) (v := .agg (#[.int .u32 A2, .int .u32 B2, .int .i64 N2])) rfl (by kernel_rfl) (by kernel_rfl) (by kernel_rfl) (fun _ _ _ h => h) (load_yields (by rfl) 31 (.tmp 7) rfl w.heap.size rfl 31 (#[.int .u32 A2, .int .u32 B2, .int .i64 N2]) (0, 0) _ (fun u hu => Hg6.out.below hu lg) Try.underlying31 rfl Try.sizeRoll') HS.out ?_
  go_simp
  refine wpAnyH_ready (rs := [20]) (by kernel_rfl) (by simp) ?_
  refine AllReadyH.cons rfl (fun K hK => ?_) AllReadyH.nil
  go_simp
  refine (value_any A2 B2 N2 _ Hw2.out.1.1 Hw2.out.1.2 Hw2.out.2.1.1 Hw2.out.2.1.2).mono ?_
  rintro e u3 ⟨rfl, hb⟩
  rw [← HV.out]
  have HS' : Hid (Below w6.heap.size w6 u3) := Lib.hid (HS.out.trans (hb.mono HS.out.size))
  clear HS hb
  have HS := HS'
  clear HS'
  refine hK.out _ _ HS.out (fun _ => ?_)
  clear hK K
  refine wpAnyH_ready (rs := [22]) (by kernel_rfl) (by simp) ?_
  refine AllReadyH.cons rfl (fun K hK => ?_) AllReadyH.nil
  go_simp
  refine (rvalue_any A2 B2 N2 _ Hw2.out.1.1 Hw2.out.1.2 Hw2.out.2.1.1 Hw2.out.2.1.2).mono ?_
  rintro e u4 ⟨rfl, hb⟩
  rw [← HV.out]
  have HS' : Hid (Below w6.heap.size w6 u4) := Lib.hid (HS.out.trans (hb.mono HS.out.size))
  clear HS hb
  have HS := HS'
  clear HS'
  refine hK.out _ _ HS.out (fun _ => ?_)
  clear hK K
  refine wpAnyH_take (i := 23) (v := .bool true) rfl (by kernel_rfl) (by kernel_rfl) (by kernel_rfl) (fun _ _ _ h => h) (Or.inl ⟨by rfl, ?_⟩) HS.out ?_
  · intro u hu; go_simp
  go_simp
  refine wpAnyH_take (i := 24) (v := .bool true) rfl (by kernel_rfl) (by kernel_rfl) (by kernel_rfl) (fun _ _ _ h => h) (Or.inl ⟨by rfl, ?_⟩) HS.out ?_
  · intro u hu; go_simp
  go_simp
  refine wpAnyH_take (i := 25) (v := .bool true) rfl (by kernel_rfl) (by kernel_rfl) (by kernel_rfl) (fun _ _ _ h => h) (Or.inl ⟨by rfl, ?_⟩) HS.out ?_
  · intro u hu; go_simp
  go_simp
  refine wpAnyH_take (i := 26) (v := .slice va m vc) rfl (by kernel_rfl) (by kernel_rfl) (by kernel_rfl) (fun _ _ _ h => h) (Or.inl ⟨by rfl, ?_⟩) HS.out ?_
  · intro u hu; go_simp
  go_simp
  refine wpAnyH_take (i := 27) (v := .slice ua m uc) rfl (by kernel_rfl) (by kernel_rfl) (by kernel_rfl) (fun _ _ _ h => h) (Or.inl ⟨by rfl, ?_⟩) HS.out ?_
  · intro u hu; go_simp
  go_simp
  refine wpAnyH_ready (rs := [28]) (by kernel_rfl) (by simp) ?_
  refine AllReadyH.cons rfl (fun K hK => ?_) AllReadyH.nil
  go_simp
  refine (sameW_any va vc ua uc m ys _ (HU56.out.below HS.out (Nat.le_refl _)) (HU6.out.below HS.out (Nat.le_refl _))).mono ?_
  rintro e u5 ⟨rfl, hb⟩
  have HS' : Hid (Below w6.heap.size w6 u5) := Lib.hid (HS.out.trans (hb.mono HS.out.size))
  clear HS hb
  have HS := HS'
  clear HS'
  refine hK.out _ _ HS.out (fun _ => ?_)
  clear hK K
  refine wpAnyH_take (i := 29) (v := .bool true) rfl (by kernel_rfl) (by kernel_rfl) (by kernel_rfl) (fun _ _ _ h => h) (Or.inl ⟨by rfl, ?_⟩) HS.out ?_
  · intro u hu; go_simp
  go_simp
  refine wpAnyH_take (i := 30) (v := .bool true) rfl (by kernel_rfl) (by kernel_rfl) (by kernel_rfl) (fun _ _ _ h => h) (Or.inl ⟨by rfl, ?_⟩) HS.out ?_
  · intro u hu; go_simp
  go_simp
  refine wpAnyH_take (i := 31) (v := .int .i64 we) rfl (by kernel_rfl) (by kernel_rfl) (by kernel_rfl) (fun _ _ _ h => h) (Or.inl ⟨by rfl, ?_⟩) HS.out ?_
  · intro u hu; go_simp
  go_simp
  refine wpAnyH_take (i := 32) (v := .int .i64 we) rfl (by kernel_rfl) (by kernel_rfl) (by kernel_rfl) (fun _ _ _ h => h) (Or.inl ⟨by rfl, ?_⟩) HS.out ?_
  · intro u hu; go_simp
  go_simp
  refine wpAnyH_take (i := 33) (v := .bool true) rfl (by kernel_rfl) (by kernel_rfl) (by kernel_rfl) (fun _ _ _ h => h) (Or.inl ⟨by rfl, ?_⟩) HS.out ?_
  · intro u hu; go_simp
  go_simp
  refine wpAnyH_take (i := 34) (v := .bool true) rfl (by kernel_rfl) (by kernel_rfl) (by kernel_rfl) (fun _ _ _ h => h) (Or.inl ⟨by rfl, ?_⟩) HS.out ?_
  · intro u hu; go_simp
  go_simp
  refine wpAnyH_ready (rs := [35]) (by kernel_rfl) (by simp) ?_
  refine AllReadyH.cons rfl (fun K hK => ?_) AllReadyH.nil
  go_simp
  refine hK.out _ _ HS.out (fun _ => ?_)
  clear hK K
  refine wpAnyH_done (by kernel_rfl) ?_ _
  go_wp2_with fail
  go_ret
  exact ⟨rfl, Hb6.out.trans (HS.out.mono Hb6.out.size)⟩
end Go.Proofs.Ytjkkjfigoanplaa.sumsRolls

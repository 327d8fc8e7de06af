/- Not: the bits that are clear. -/
import Derived.Test.YtknacgdjodmaiaaDoorBjoin
namespace Go.Proofs.YtknacgdjodmaiaaDoor
set_option linter.unusedVariables false
open Go.RowKit Go.Shelf

/-- The bits of one byte that another one has not. -/
def anF (x y : Int) : Int := ((x.toNat &&& (255 - y.toNat) : Nat) : Int)
theorem anF_bd (x y : Int) (hx : 0 ≤ x ∧ x ≤ 255) (hy : 0 ≤ y ∧ y ≤ 255) : 0 ≤ anF x y ∧ anF x y ≤ 255 := by
  unfold anF
  have := Nat.and_le_left (n := x.toNat) (m := 255 - y.toNat)
  omega
theorem anF_eq (x y : Int) (hx : 0 ≤ x ∧ x ≤ 255) (hy : 0 ≤ y ∧ y ≤ 255) : bits .andNot .u8 x y = anF x y := by
  have := u8_andNot_nat x.toNat y.toNat (by omega) (by omega)
  rw [show ((x.toNat : Nat) : Int) = x by omega, show ((y.toNat : Nat) : Int) = y by omega] at this
  exact this
set_option maxRecDepth 100000 in
theorem an_any (x y : Int) (hx : 0 ≤ x ∧ x ≤ 255) (hy : 0 ≤ y ∧ y ≤ 255) (W : World) : Calls Tryd.prog 72 #[.int .u8 x, .int .u8 y] W fun e w' => e = .returned (.int .u8 (anF x y)) ∧ W = w' := by
  have he := anF_eq x y hx hy
  obtain ⟨z, hz⟩ : ∃ z, z = anF x y := ⟨_, rfl⟩
  rw [← hz] at he ⊢
  clear hz
  go_enter Tryd.func72, Tryd.ntmps72
  go_wp2
  go_ret
  exact ⟨rfl, rfl⟩
/-- The bytes of the bits that are clear. -/
def notV (M m : Nat) (bs : List Int) : List Int := joinN anF (fillV (List.replicate m 0) 0 M true) bs m m
set_option maxRecDepth 100000 in
set_option maxHeartbeats 1000000 in
theorem not1_bad (g0 : Nat) (N : Int) (a : Option Addr) (l c : Nat) (bs : List Int) (W : World) (hB : Blk W g0 24 #[.int .i64 N, .slice a l c]) (hr : Rd W a l c bs) (hN1 : -9223372036854775808 ≤ N) (hN2 : N ≤ 9223372036854775807) (hv : validB N bs = false) :
    Calls Tryd.prog 70 #[.pointer (some ⟨g0, 0, none⟩)] W fun e w' => e = pan 9 ∧ Below W.heap.size W w' := by
  obtain ⟨W0, hW0, hRes, hb0, hs0⟩ := lit_box W
  have q0 : W0.cell? ⟨g0, 0, none⟩ = some (.int .i64 N) := (hB.below hb0 hB.lt).cell 0
  have q1 : W0.cell? ⟨g0, 1, none⟩ = some (.slice a l c) := (hB.below hb0 hB.lt).cell 1
  have HW := Lib.hid hW0
  have Hb := Lib.hid hb0
  have C := Lib.hid (needValid_no N a l c bs W0 (hr.below hb0 (Nat.le_refl _)) hN1 hN2 hv)
  clear hW0 hRes hb0 hs0 hB hr hv
  go_enter Tryd.func70, Tryd.ntmps70
  go_upto_region 1 with fail
  rw [HW.out]
  go_wp2_with fail
  refine C.out.mono ?_
  rintro e w2 ⟨rfl, hb⟩
  exact ⟨rfl, rfl, Hb.out.trans (hb.mono Hb.out.size)⟩
set_option maxRecDepth 100000 in
set_option maxHeartbeats 4000000 in
theorem not1_ok (g0 : Nat) (M : Nat) (a : Option Addr) (l c : Nat) (bs : List Int) (W : World) (hB : Blk W g0 24 #[.int .i64 (M : Int), .slice a l c]) (hr : Rd W a l c bs) (hv : validB (M : Int) bs = true) :
    Calls Tryd.prog 70 #[.pointer (some ⟨g0, 0, none⟩)] W fun e w' => ∃ a' l' c', e = .returned (.agg #[.int .i64 (M : Int), .slice a' l' c']) ∧ Own w' W.heap.size (.slice a' l' c') (notV M l bs) ∧ Below W.heap.size W w' := by
  obtain ⟨v1, v2, v3, -⟩ := (validB_iff (M : Int) bs).mp hv
  have hl := hr.hl
  have hm : ((M : Int) + 7) / 8 = (l : Int) := by omega
  have hl9 : l ≤ 9000 := by omega
  have hM8 : M ≤ 8 * l := by omega
  obtain ⟨W0, hW0, hRes, hb0, hs0⟩ := lit_box W
  have q0 : W0.cell? ⟨g0, 0, none⟩ = some (.int .i64 (M : Int)) := (hB.below hb0 hB.lt).cell 0
  have q1 : W0.cell? ⟨g0, 1, none⟩ = some (.slice a l c) := (hB.below hb0 hB.lt).cell 1
  have HW := Lib.hid hW0
  have Hb := Lib.hid hb0
  have C := Lib.hid (needValid_yes M a l c bs W0 (hr.below hb0 (Nat.le_refl _)) (by omega) (by omega) hv)
  have HR := Lib.hid (hr.below hb0 (Nat.le_refl _))
  have HB := Lib.hid (hB.below hb0 hB.lt)
  have HRes := Lib.hid hRes
  have Hs0 := Lib.hid hs0
  have hg0 : g0 < W.heap.size := hB.lt
  have HE := Lib.hid (fun w => empty_any (M : Int) l w v1 v2 hm)
  clear hW0 hRes hb0 hs0 hB hr hv v1 v2 v3 hm
  go_enter Tryd.func70, Tryd.ntmps70
  go_upto_region 1 with fail
  rw [HW.out]
  go_wp2_with fail
  refine C.out.mono ?_
  rintro e1 w1 ⟨rfl, hb1⟩
  have HR1 := Lib.hid (HR.out.below hb1 (Nat.le_refl _))
  have hB1 := HB.out.below hb1 HB.out.lt
  have HB1 := Lib.hid hB1
  have HRes1 := Lib.hid (HRes.out.below hb1 HRes.out.lt)
  have p0 : w1.cell? ⟨g0, 0, none⟩ = some (.int .i64 (M : Int)) := hB1.cell 0
  have Hb1 := Lib.hid (Hb.out.trans (hb1.mono Hb.out.size))
  have hs1 : W.heap.size + 1 ≤ w1.heap.size := by have := hb1.size; have := Hs0.out; omega
  clear hb1 hB1 C HW Hb HB HR HRes q0 q1
  go_wp2_with fail
  refine (HE.out w1).mono ?_
  rintro e2 w2 ⟨a2, rfl, ho, hb2⟩
  obtain ⟨V, hV⟩ : ∃ V, V = w2.alloc (.cells #[.int .i64 (M : Int), .slice (some a2) l l] 24) := ⟨_, rfl⟩
  have hbV : Below w2.heap.size w2 V := by rw [hV]; exact (Below.refl _ w2).alloc (Nat.le_refl _) _
  have hBV : Blk V w2.heap.size 24 #[.int .i64 (M : Int), .slice (some a2) l l] := by rw [hV]; exact heap_new w2 _
  have hs2 := hb2.size
  have hb2V : Below w1.heap.size w1 V := hb2.trans (hbV.mono hb2.size)
  have hOV := ho.below hbV (Nat.le_refl _)
  have hsV : w2.heap.size < V.heap.size := hBV.lt
  have hrow : ∀ x, (some a2 : Option Addr) = some x → x.block ≠ w2.heap.size := by
    intro x hx
    cases hx
    rcases ho.1.2 with ⟨h1, _⟩ | ⟨g', cap', cur, h1, _, h2, _⟩
    · cases h1
    · have hx2 := (Value.slice.inj h1).1
      have hlt2 := (Array.getElem?_eq_some_iff.1 h2).1
      simp only [Option.some.injEq] at hx2
      subst hx2
      simp only
      omega
  have HOV := Lib.hid hOV
  have HBV := Lib.hid hBV
  have HbV := Lib.hid (Hb1.out.trans (hb2V.mono (by omega)))
  have HResV := Lib.hid (HRes1.out.below hb2V (by omega))
  have HB0V := Lib.hid (HB1.out.below hb2V (by omega))
  have u0 : V.cell? ⟨w2.heap.size, 0, none⟩ = some (.int .i64 (M : Int)) := hBV.cell 0
  have u1 : V.cell? ⟨w2.heap.size, 1, none⟩ = some (.slice (some a2) l l) := hBV.cell 1
  have u2 : V.cell? ⟨g0, 0, none⟩ = some (.int .i64 (M : Int)) := HB0V.out.cell 0
  have HV := Lib.hid hV
  have Hrow := Lib.hid hrow
  have Hb2V := Lib.hid hb2V
  clear ho hb2 hbV hBV hb2V hOV hV hrow HB1 HRes1 p0 HE
  go_upto_region 3 with fail
  rw [← HV.out]
  go_wp2_with fail
  have C2 := fill_any M w1.heap.size l (some a2) (List.replicate l 0) l 0 M M true V (by simp) HOV.out (by omega) hM8 hl9 (by omega)
  refine C2.mono ?_
  clear C2
  rintro e3 w3 ⟨rfl, hO3, hF⟩
  have hT3 : Blk w3 w2.heap.size 24 #[.int .i64 (M : Int), .slice (some a2) l l] := (hF.others _ hsV Hrow.out).trans HBV.out
  have hR3 : Blk w3 W.heap.size 24 #[.int .i64 0, .slice none 0 0] := HResV.out.below hF.below (by omega)
  have hB3 : Blk w3 g0 24 #[.int .i64 (M : Int), .slice a l c] := HB0V.out.below hF.below (by omega)
  have hRR := HR1.out.below (Hb2V.out.trans hF.below) (Nat.le_refl _)
  obtain ⟨ax, cx, hex, hA3⟩ := hO3.rdz (m := l) (by rw [fillV_len]; simp)
  have hax : ax = some a2 := (Value.slice.inj hex).1.symm
  have hcx : cx = l := (Value.slice.inj hex).2.2.symm
  rw [hax, hcx] at hA3
  have HR3 := Lib.hid hR3
  have HT3 := Lib.hid hT3
  have HB3 := Lib.hid hB3
  have HRR := Lib.hid hRR
  have HA3 := Lib.hid hA3
  have Hb3 := Lib.hid (HbV.out.trans (hF.below.mono (by omega)))
  have hs3 : W.heap.size + 1 ≤ w3.heap.size := by have := hR3.lt; omega
  have hw2 : w1.heap.size ≤ w2.heap.size := hs2
  clear hR3 hT3 hB3 hRR hA3 hF hO3 hex hax hcx HResV HBV HOV HbV HB0V HR1 Hb2V HV Hrow Hb1 u0 u1 u2
  go_upto_region 4 with fail
  refine wp_region_held_drew (S := But W.heap.size w3) (by kernel_rfl) (But.refl _ _).drew (fun _ => ?_)
  have HS : Hid (But W.heap.size w3 w3.drew) := Lib.hid (But.refl _ _).drew
  refine wpAnyH_take (i := 0) (v := .pointer (some ⟨g0, 0, none⟩)) rfl (by kernel_rfl) (by kernel_rfl) (by kernel_rfl) (fun _ _ _ h => h) (Or.inl ⟨by rfl, ?_⟩) HS.out ?_
  · intro u hu; go_simp
  go_simp
  refine wpAnyH_take (i := 1) (v := .int .i64 (M : Int)) rfl (by kernel_rfl) (by kernel_rfl) (by kernel_rfl) (fun _ _ _ h => h) (Or.inl ⟨by rfl, ?_⟩) HS.out ?_
  · intro u hu; have : u.cell? ⟨g0, 0, none⟩ = some (.int .i64 (M : Int)) := (hu.blk HB3.out (by omega)).cell 0; go_simp
  go_simp
  refine wpAnyH_take (i := 2) (v := .pointer (some ⟨w2.heap.size, 1, none⟩)) rfl (by kernel_rfl) (by kernel_rfl) (by kernel_rfl) (fun _ _ _ h => h) (Or.inl ⟨by rfl, ?_⟩) HS.out ?_
  · intro u hu; go_simp
  go_simp
  refine wpAnyH_take (i := 3) (v := .slice (some a2) l l) rfl (by kernel_rfl) (by kernel_rfl) (by kernel_rfl) (fun _ _ _ h => h) (Or.inl ⟨by rfl, ?_⟩) HS.out ?_
  · intro u hu; have : u.cell? ⟨w2.heap.size, 1, none⟩ = some (.slice (some a2) l l) := (hu.blk HT3.out (by omega)).cell 1; go_simp
  go_simp
  refine wpAnyH_take (i := 4) (v := .pointer (some ⟨g0, 1, none⟩)) rfl (by kernel_rfl) (by kernel_rfl) (by kernel_rfl) (fun _ _ _ h => h) (Or.inl ⟨by rfl, ?_⟩) HS.out ?_
  · intro u hu; go_simp
  go_simp
  refine wpAnyH_take (i := 5) (v := .slice a l c) rfl (by kernel_rfl) (by kernel_rfl) (by kernel_rfl) (fun _ _ _ h => h) (Or.inl ⟨by rfl, ?_⟩) HS.out ?_
  · intro u hu; have : u.cell? ⟨g0, 1, none⟩ = some (.slice a l c) := (hu.blk HB3.out (by omega)).cell 1; go_simp
  go_simp
  refine wpAnyH_ready (rs := [6]) (by kernel_rfl) (by simp) ?_
  refine AllReadyH.cons rfl (fun K hK => ?_) AllReadyH.nil
  go_simp
  refine (join_any anF 72 (some a2) a l l l c _ bs w3.drew HA3.out.drew HRR.out.drew (Nat.le_refl _) hl9 (enters_of Tryd.func72 (by kernel_rfl) rfl) (fun x y hx hy W => an_any x y hx hy W) anF_bd).mono ?_
  rintro e u ⟨ar, rfl, ho, hb⟩
  have HS2 : Hid (But W.heap.size w3 u) := Lib.hid (HS.out.trans (But.of_below hb (by have := HS.out.size; omega)))
  have HO : Hid (Own u w3.drew.heap.size (.slice (some ar) l l) (notV M l bs)) := Lib.hid ho
  have hres : Blk u W.heap.size 24 #[.int .i64 0, .slice none 0 0] := (hb.block _ (show W.heap.size < w3.drew.heap.size by have := HS.out.size; omega)).trans HR3.out
  have HRu := Lib.hid hres
  clear HS ho hb hres
  have HS := HS2
  clear HS2
  refine hK.out _ _ HS.out (fun _ => ?_)
  clear hK K
  refine wpAnyH_take (i := 7) (v := .agg #[.int .i64 (M : Int), .slice (some ar) l l]) rfl (by kernel_rfl) (by kernel_rfl) (by kernel_rfl) (fun _ _ _ h => h) (Or.inl ⟨by rfl, ?_⟩) HS.out ?_
  · intro u hu; go_simp
  go_simp
  have f0 := HRu.out.frozen 0
  have f1 := HRu.out.frozen 1
  have k0 : u.cell? ⟨W.heap.size, 0, none⟩ = some (.int .i64 0) := HRu.out.cell 0
  have k1 : u.cell? ⟨W.heap.size, 1, none⟩ = some (.slice none 0 0) := HRu.out.cell 1
  refine wpAnyH_ready (rs := [8]) (by kernel_rfl) (by simp) ?_
  refine AllReadyH.cons rfl (fun K hK => ?_) AllReadyH.nil
  go_simp
  rw [cells2 HRu.out]
  obtain ⟨V2, hV, rV, bV, sV, oV⟩ := filled HRu.out #[.int .i64 (M : Int), .slice (some ar) l l]
  rw [hV]
  clear f0 f1 k0 k1
  have HS2 : Hid (But W.heap.size w3 V2) := Lib.hid (HS.out.trans ⟨bV, fun k hk hne => oV k hne⟩)
  refine hK.out _ _ HS2.out (fun _ => ?_)
  clear hK K
  refine wpAnyH_done (by kernel_rfl) ?_ _
  have z0 : V2.cell? ⟨W.heap.size, 0, none⟩ = some (.int .i64 (M : Int)) := (show Blk V2 _ 24 _ from rV).cell 0
  have z1 : V2.cell? ⟨W.heap.size, 1, none⟩ = some (.slice (some ar) l l) := (show Blk V2 _ 24 _ from rV).cell 1
  have HZ : Hid (Own V2 W.heap.size (.slice (some ar) l l) (notV M l bs) ∧ Below W.heap.size W V2) := Lib.hid ⟨(HO.out.other oV (by show W.heap.size < w3.heap.size; omega)).mono (by show W.heap.size ≤ w3.heap.size; omega), Hb3.out.trans HS2.out.below⟩
  clear HS HS2 HO HRu rV bV sV oV hV HR3 HB3 HT3 HA3 HRR
  go_wp2_with fail
  simp [bodyPost, results, Tryd.results70, go_sem, z0, z1]
  exact ⟨_, _, _, ⟨rfl, rfl, rfl⟩, HZ.out.1, HZ.out.2⟩
end Go.Proofs.YtknacgdjodmaiaaDoor

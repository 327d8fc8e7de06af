/- And, Or, Minus: what the literal of joined answers; the three functions, told. -/
import Derived.Test.YthognmkjoekilaaDoorBsetp
namespace Go.Proofs.YthognmkjoekilaaDoor
set_option linter.unusedVariables false
open Go.RowKit Go.Shelf

section
variable (g0 g1 g2 : Nat) (N1 N2 : Int) (a b : Option Addr) (l c l2 c2 : Nat) (xs ys : List Int) (f : FuncId) (W : World)
  (hB : Blk W g0 24 #[.int .i64 N1, .slice a l c]) (hD : Blk W g1 24 #[.int .i64 N2, .slice b l2 c2]) (hF : Blk W g2 89 #[.func (.func f) #[] #[]])
  (hx : Rd W a l c xs) (hy : Rd W b l2 c2 ys) (h1 : -9223372036854775808 ≤ N1) (h2 : N1 ≤ 9223372036854775807) (h3 : -9223372036854775808 ≤ N2) (h4 : N2 ≤ 9223372036854775807)
include hB hx h1 h2
set_option maxRecDepth 100000 in
set_option maxHeartbeats 1000000 in
theorem joined1_bad1 (hv : validB N1 xs = false) : Calls Tryd.prog 89 #[.pointer (some ⟨g0, 0, none⟩), .pointer (some ⟨g1, 0, none⟩), .pointer (some ⟨g2, 0, none⟩)] W fun e w' => e = pan 9 ∧ Below W.heap.size W w' := by
  obtain ⟨W0, hW0, hRes, hb0, hs0⟩ := lit_box W
  have q0 : W0.cell? ⟨g0, 0, none⟩ = some (.int .i64 N1) := (hB.below hb0 hB.lt).cell 0
  have q1 : W0.cell? ⟨g0, 1, none⟩ = some (.slice a l c) := (hB.below hb0 hB.lt).cell 1
  have HW := Lib.hid hW0
  have Hb := Lib.hid hb0
  have C := Lib.hid (needValid_no N1 a l c xs W0 (hx.below hb0 (Nat.le_refl _)) h1 h2 hv)
  clear hW0 hRes hb0 hs0 hB hx hv
  go_enter Tryd.func89, Tryd.ntmps89
  go_upto_region 1 with fail
  rw [HW.out]
  go_wp2_with fail
  refine C.out.mono ?_
  rintro e w2 ⟨rfl, hb⟩
  exact ⟨rfl, rfl, Hb.out.trans (hb.mono Hb.out.size)⟩
include hD hF hy h3 h4
set_option maxRecDepth 100000 in
set_option maxHeartbeats 1000000 in
theorem joined1_bad2 (hv : validB N1 xs = true) (hv2 : validB N2 ys = false) : Calls Tryd.prog 89 #[.pointer (some ⟨g0, 0, none⟩), .pointer (some ⟨g1, 0, none⟩), .pointer (some ⟨g2, 0, none⟩)] W fun e w' => e = pan 9 ∧ Below W.heap.size W w' := by
  obtain ⟨W0, hW0, hRes, hb0, hs0⟩ := lit_box W
  have q0 : W0.cell? ⟨g0, 0, none⟩ = some (.int .i64 N1) := (hB.below hb0 hB.lt).cell 0
  have q1 : W0.cell? ⟨g0, 1, none⟩ = some (.slice a l c) := (hB.below hb0 hB.lt).cell 1
  have HW := Lib.hid hW0
  have Hb := Lib.hid hb0
  have C := Lib.hid (needValid_yes N1 a l c xs W0 (hx.below hb0 (Nat.le_refl _)) h1 h2 hv)
  have HX := Lib.hid (hx.below hb0 (Nat.le_refl _))
  have HY := Lib.hid (hy.below hb0 (Nat.le_refl _))
  have HB := Lib.hid (hB.below hb0 hB.lt)
  have HD := Lib.hid (hD.below hb0 hD.lt)
  have HF := Lib.hid (hF.below hb0 hF.lt)
  have HRes := Lib.hid hRes
  have Hs0 := Lib.hid hs0
  have hg0 : g0 < W.heap.size ∧ g1 < W.heap.size ∧ g2 < W.heap.size := ⟨hB.lt, hD.lt, hF.lt⟩
  clear hW0 hRes hb0 hs0 hB hD hF hx hy hv
  go_enter Tryd.func89, Tryd.ntmps89
  go_upto_region 1 with fail
  rw [HW.out]
  go_wp2_with fail
  refine C.out.mono ?_
  rintro e w1 ⟨rfl, hb⟩
  have HX' := Lib.hid (HX.out.below hb (Nat.le_refl _))
  have HY' := Lib.hid (HY.out.below hb (Nat.le_refl _))
  have HB' := Lib.hid (HB.out.below hb HB.out.lt)
  have HD' := Lib.hid (HD.out.below hb HD.out.lt)
  have HF' := Lib.hid (HF.out.below hb HF.out.lt)
  have HRes' := Lib.hid (HRes.out.below hb HRes.out.lt)
  have Hb' := Lib.hid (Hb.out.trans (hb.mono Hb.out.size))
  have hs' := hb.size
  clear hb Hb C q0 q1 HX HY HB HD HF HRes
  have HX := HX'
  have HY := HY'
  have Hb := Hb'
  have HB := HB'
  have HD := HD'
  have HF := HF'
  have HRes := HRes'
  clear HX' HY' Hb' HB' HD' HF' HRes'
  have hsw1 : W.heap.size < w1.heap.size := HRes.out.lt
  clear hs'
  have q0 : w1.cell? ⟨g1, 0, none⟩ = some (.int .i64 N2) := HD.out.cell 0
  have q1 : w1.cell? ⟨g1, 1, none⟩ = some (.slice b l2 c2) := HD.out.cell 1
  have C := Lib.hid (needValid_no N2 b l2 c2 ys w1 HY.out h3 h4 hv2)
  clear HB HD HF HRes
  go_wp2_with fail
  refine C.out.mono ?_
  rintro e w2 ⟨rfl, hb⟩
  exact ⟨rfl, rfl, Hb.out.trans (hb.mono Hb.out.size)⟩
set_option maxRecDepth 100000 in
set_option maxHeartbeats 1000000 in
theorem joined1_ne (hv : validB N1 xs = true) (hv2 : validB N2 ys = true) (hne : N1 ≠ N2) : Calls Tryd.prog 89 #[.pointer (some ⟨g0, 0, none⟩), .pointer (some ⟨g1, 0, none⟩), .pointer (some ⟨g2, 0, none⟩)] W fun e w' => e = pan 1 ∧ Below W.heap.size W w' := by
  obtain ⟨W0, hW0, hRes, hb0, hs0⟩ := lit_box W
  have q0 : W0.cell? ⟨g0, 0, none⟩ = some (.int .i64 N1) := (hB.below hb0 hB.lt).cell 0
  have q1 : W0.cell? ⟨g0, 1, none⟩ = some (.slice a l c) := (hB.below hb0 hB.lt).cell 1
  have HW := Lib.hid hW0
  have Hb := Lib.hid hb0
  have C := Lib.hid (needValid_yes N1 a l c xs W0 (hx.below hb0 (Nat.le_refl _)) h1 h2 hv)
  have HX := Lib.hid (hx.below hb0 (Nat.le_refl _))
  have HY := Lib.hid (hy.below hb0 (Nat.le_refl _))
  have HB := Lib.hid (hB.below hb0 hB.lt)
  have HD := Lib.hid (hD.below hb0 hD.lt)
  have HF := Lib.hid (hF.below hb0 hF.lt)
  have HRes := Lib.hid hRes
  have Hs0 := Lib.hid hs0
  have hg0 : g0 < W.heap.size ∧ g1 < W.heap.size ∧ g2 < W.heap.size := ⟨hB.lt, hD.lt, hF.lt⟩
  have gne : (N1 == N2) = false := by simpa using hne
  clear hW0 hRes hb0 hs0 hB hD hF hx hy hv hne
  go_enter Tryd.func89, Tryd.ntmps89
  go_upto_region 1 with fail
  rw [HW.out]
  go_wp2_with fail
  refine C.out.mono ?_
  rintro e w1 ⟨rfl, hb⟩
  have HX' := Lib.hid (HX.out.below hb (Nat.le_refl _))
  have HY' := Lib.hid (HY.out.below hb (Nat.le_refl _))
  have HB' := Lib.hid (HB.out.below hb HB.out.lt)
  have HD' := Lib.hid (HD.out.below hb HD.out.lt)
  have HF' := Lib.hid (HF.out.below hb HF.out.lt)
  have HRes' := Lib.hid (HRes.out.below hb HRes.out.lt)
  have Hb' := Lib.hid (Hb.out.trans (hb.mono Hb.out.size))
  have hs' := hb.size
  clear hb Hb C q0 q1 HX HY HB HD HF HRes
  have HX := HX'
  have HY := HY'
  have Hb := Hb'
  have HB := HB'
  have HD := HD'
  have HF := HF'
  have HRes := HRes'
  clear HX' HY' Hb' HB' HD' HF' HRes'
  have hsw1 : W.heap.size < w1.heap.size := HRes.out.lt
  clear hs'
  have q0 : w1.cell? ⟨g1, 0, none⟩ = some (.int .i64 N2) := HD.out.cell 0
  have q1 : w1.cell? ⟨g1, 1, none⟩ = some (.slice b l2 c2) := HD.out.cell 1
  have C := Lib.hid (needValid_yes N2 b l2 c2 ys w1 HY.out h3 h4 hv2)
  go_wp2_with fail
  refine C.out.mono ?_
  rintro e w2 ⟨rfl, hb⟩
  have HX' := Lib.hid (HX.out.below hb (Nat.le_refl _))
  have HY' := Lib.hid (HY.out.below hb (Nat.le_refl _))
  have HB' := Lib.hid (HB.out.below hb HB.out.lt)
  have HD' := Lib.hid (HD.out.below hb HD.out.lt)
  have HF' := Lib.hid (HF.out.below hb HF.out.lt)
  have HRes' := Lib.hid (HRes.out.below hb HRes.out.lt)
  have Hb' := Lib.hid (Hb.out.trans (hb.mono Hb.out.size))
  have hs' := hb.size
  clear hb Hb C q0 q1 HX HY HB HD HF HRes
  have HX := HX'
  have HY := HY'
  have Hb := Hb'
  have HB := HB'
  have HD := HD'
  have HF := HF'
  have HRes := HRes'
  clear HX' HY' Hb' HB' HD' HF' HRes'
  have hsw2 : W.heap.size < w2.heap.size := HRes.out.lt
  clear hs'
  have q0 : w2.cell? ⟨g0, 0, none⟩ = some (.int .i64 N1) := HB.out.cell 0
  have q1 : w2.cell? ⟨g1, 0, none⟩ = some (.int .i64 N2) := HD.out.cell 0
  go_wp2_with fail
  refine (need_no 1 w2).mono ?_
  rintro e w3 ⟨rfl, rfl⟩
  exact ⟨rfl, rfl, Hb.out⟩
end
set_option maxRecDepth 100000 in
set_option maxHeartbeats 4000000 in
theorem joined1_ok (φ : Int → Int → Int) (g0 g1 g2 : Nat) (M : Nat) (a b : Option Addr) (l c l2 c2 : Nat) (xs ys : List Int) (f : FuncId) (W : World)
    (hB : Blk W g0 24 #[.int .i64 (M : Int), .slice a l c]) (hD : Blk W g1 24 #[.int .i64 (M : Int), .slice b l2 c2]) (hF : Blk W g2 89 #[.func (.func f) #[] #[]])
    (hx : Rd W a l c xs) (hy : Rd W b l2 c2 ys) (hv : Vb M xs) (hv2 : Vb M ys)
    (hent : ∀ (args : Array Value) (w : World), (callFunc f args).run Tryd.prog w = .ok (.enter f args) w)
    (hf : ∀ x y, (0 ≤ x ∧ x ≤ 255) → (0 ≤ y ∧ y ≤ 255) → ∀ W, Calls Tryd.prog f #[.int .u8 x, .int .u8 y] W fun e w' => e = .returned (.int .u8 (φ x y)) ∧ W = w')
    (hφ : ∀ x y, (0 ≤ x ∧ x ≤ 255) → (0 ≤ y ∧ y ≤ 255) → 0 ≤ φ x y ∧ φ x y ≤ 255) :
    Calls Tryd.prog 89 #[.pointer (some ⟨g0, 0, none⟩), .pointer (some ⟨g1, 0, none⟩), .pointer (some ⟨g2, 0, none⟩)] W fun e w' => ∃ a' l' c', e = .returned (.agg #[.int .i64 (M : Int), .slice a' l' c']) ∧ Own w' W.heap.size (.slice a' l' c') (joinN φ xs ys l l) ∧ Below W.heap.size W w' := by
  have hl := hx.hl
  have hl2 := hy.hl
  have e1 := hv.len
  have e2 := hv2.len
  have e3 := hv.le
  have hll : l ≤ l2 := by omega
  have hl9 : l ≤ 9000 := by omega
  have hv := hv.valid
  have hv2 := hv2.valid
  have h1 : -9223372036854775808 ≤ (M : Int) := by omega
  have h2 : (M : Int) ≤ 9223372036854775807 := by omega
  have h3 := h1
  have h4 := h2
  obtain ⟨W0, hW0, hRes, hb0, hs0⟩ := lit_box W
  have q0 : W0.cell? ⟨g0, 0, none⟩ = some (.int .i64 (M : Int)) := (hB.below hb0 hB.lt).cell 0
  have q1 : W0.cell? ⟨g0, 1, none⟩ = some (.slice a l c) := (hB.below hb0 hB.lt).cell 1
  have HW := Lib.hid hW0
  have Hb := Lib.hid hb0
  have C := Lib.hid (needValid_yes M a l c xs W0 (hx.below hb0 (Nat.le_refl _)) h1 h2 hv)
  have HX := Lib.hid (hx.below hb0 (Nat.le_refl _))
  have HY := Lib.hid (hy.below hb0 (Nat.le_refl _))
  have HB := Lib.hid (hB.below hb0 hB.lt)
  have HD := Lib.hid (hD.below hb0 hD.lt)
  have HF := Lib.hid (hF.below hb0 hF.lt)
  have HRes := Lib.hid hRes
  have Hs0 := Lib.hid hs0
  have hg0 : g0 < W.heap.size ∧ g1 < W.heap.size ∧ g2 < W.heap.size := ⟨hB.lt, hD.lt, hF.lt⟩
  clear hW0 hRes hb0 hs0 hB hD hF hx hy hv e1 e2 e3
  go_enter Tryd.func89, Tryd.ntmps89
  go_upto_region 1 with fail
  rw [HW.out]
  go_wp2_with fail
  refine C.out.mono ?_
  rintro e w1 ⟨rfl, hb⟩
  have HX' := Lib.hid (HX.out.below hb (Nat.le_refl _))
  have HY' := Lib.hid (HY.out.below hb (Nat.le_refl _))
  have HB' := Lib.hid (HB.out.below hb HB.out.lt)
  have HD' := Lib.hid (HD.out.below hb HD.out.lt)
  have HF' := Lib.hid (HF.out.below hb HF.out.lt)
  have HRes' := Lib.hid (HRes.out.below hb HRes.out.lt)
  have Hb' := Lib.hid (Hb.out.trans (hb.mono Hb.out.size))
  have hs' := hb.size
  clear hb Hb C q0 q1 HX HY HB HD HF HRes
  have HX := HX'
  have HY := HY'
  have Hb := Hb'
  have HB := HB'
  have HD := HD'
  have HF := HF'
  have HRes := HRes'
  clear HX' HY' Hb' HB' HD' HF' HRes'
  have hsw1 : W.heap.size < w1.heap.size := HRes.out.lt
  clear hs'
  have q0 : w1.cell? ⟨g1, 0, none⟩ = some (.int .i64 (M : Int)) := HD.out.cell 0
  have q1 : w1.cell? ⟨g1, 1, none⟩ = some (.slice b l2 c2) := HD.out.cell 1
  have C := Lib.hid (needValid_yes (M : Int) b l2 c2 ys w1 HY.out h3 h4 hv2)
  go_wp2_with fail
  refine C.out.mono ?_
  rintro e w2 ⟨rfl, hb⟩
  have HX' := Lib.hid (HX.out.below hb (Nat.le_refl _))
  have HY' := Lib.hid (HY.out.below hb (Nat.le_refl _))
  have HB' := Lib.hid (HB.out.below hb HB.out.lt)
  have HD' := Lib.hid (HD.out.below hb HD.out.lt)
  have HF' := Lib.hid (HF.out.below hb HF.out.lt)
  have HRes' := Lib.hid (HRes.out.below hb HRes.out.lt)
  have Hb' := Lib.hid (Hb.out.trans (hb.mono Hb.out.size))
  have hs' := hb.size
  clear hb Hb C q0 q1 HX HY HB HD HF HRes
  have HX := HX'
  have HY := HY'
  have Hb := Hb'
  have HB := HB'
  have HD := HD'
  have HF := HF'
  have HRes := HRes'
  clear HX' HY' Hb' HB' HD' HF' HRes'
  have hsw2 : W.heap.size < w2.heap.size := HRes.out.lt
  clear hs'
  have q0 : w2.cell? ⟨g0, 0, none⟩ = some (.int .i64 (M : Int)) := HB.out.cell 0
  have q1 : w2.cell? ⟨g1, 0, none⟩ = some (.int .i64 (M : Int)) := HD.out.cell 0
  go_wp2_with fail
  refine (need_yes 1 w2).mono ?_
  rintro e w3 ⟨rfl, rfl⟩
  clear q0 q1
  go_upto_region 4 with fail
  refine wp_region_held_drew (S := But W.heap.size w2) (by kernel_rfl) (But.refl _ _).drew (fun _ => ?_)
  have HS : Hid (But W.heap.size w2 w2.drew) := Lib.hid (But.refl _ _).drew
  refine wpAnyH_take (i := 0) (v := .pointer (some ⟨g0, 0, none⟩)) rfl (by kernel_rfl) (by kernel_rfl) (by kernel_rfl) (fun _ _ _ h => h) (Or.inl ⟨by rfl, ?_⟩) HS.out ?_
  · intro u hu; go_simp
  go_simp
  refine wpAnyH_take (i := 1) (v := .int .i64 (M : Int)) rfl (by kernel_rfl) (by kernel_rfl) (by kernel_rfl) (fun _ _ _ h => h) (Or.inl ⟨by rfl, ?_⟩) HS.out ?_
  · intro u hu; have : u.cell? ⟨g0, 0, none⟩ = some (.int .i64 (M : Int)) := (hu.blk HB.out (by omega)).cell 0; go_simp
  go_simp
  refine wpAnyH_take (i := 2) (v := .pointer (some ⟨g0, 1, none⟩)) rfl (by kernel_rfl) (by kernel_rfl) (by kernel_rfl) (fun _ _ _ h => h) (Or.inl ⟨by rfl, ?_⟩) HS.out ?_
  · intro u hu; go_simp
  go_simp
  refine wpAnyH_take (i := 3) (v := .slice a l c) rfl (by kernel_rfl) (by kernel_rfl) (by kernel_rfl) (fun _ _ _ h => h) (Or.inl ⟨by rfl, ?_⟩) HS.out ?_
  · intro u hu; have : u.cell? ⟨g0, 1, none⟩ = some (.slice a l c) := (hu.blk HB.out (by omega)).cell 1; go_simp
  go_simp
  refine wpAnyH_take (i := 4) (v := .pointer (some ⟨g1, 1, none⟩)) rfl (by kernel_rfl) (by kernel_rfl) (by kernel_rfl) (fun _ _ _ h => h) (Or.inl ⟨by rfl, ?_⟩) HS.out ?_
  · intro u hu; go_simp
  go_simp
  refine wpAnyH_take (i := 5) (v := .slice b l2 c2) rfl (by kernel_rfl) (by kernel_rfl) (by kernel_rfl) (fun _ _ _ h => h) (Or.inl ⟨by rfl, ?_⟩) HS.out ?_
  · intro u hu; have : u.cell? ⟨g1, 1, none⟩ = some (.slice b l2 c2) := (hu.blk HD.out (by omega)).cell 1; go_simp
  go_simp
  refine wpAnyH_take (i := 6) (v := .func (.func f) #[] #[]) rfl (by kernel_rfl) (by kernel_rfl) (by kernel_rfl) (fun _ _ _ h => h) (Or.inl ⟨by rfl, ?_⟩) HS.out ?_
  · intro u hu; have : u.cell? ⟨g2, 0, none⟩ = some (.func (.func f) #[] #[]) := (hu.blk HF.out (by omega)).cell 0; go_simp
  go_simp
  refine wpAnyH_ready (rs := [7]) (by kernel_rfl) (by simp) ?_
  refine AllReadyH.cons rfl (fun K hK => ?_) AllReadyH.nil
  go_simp
  refine (join_any φ f a b l c l2 c2 xs ys w2.drew HX.out.drew HY.out.drew hll hl9 hent hf hφ).mono ?_
  rintro e u ⟨ar, rfl, ho, hb⟩
  have HS2 : Hid (But W.heap.size w2 u) := Lib.hid (HS.out.trans (But.of_below hb (by have := HS.out.size; omega)))
  have HO : Hid (Own u w2.drew.heap.size (.slice (some ar) l l) (joinN φ xs ys l l)) := Lib.hid ho
  have hres : Blk u W.heap.size 24 #[.int .i64 0, .slice none 0 0] := (hb.block _ (show W.heap.size < w2.drew.heap.size by have := HS.out.size; omega)).trans HRes.out
  have HRu := Lib.hid hres
  clear HS ho hb hres
  have HS := HS2
  clear HS2
  refine hK.out _ _ HS.out (fun _ => ?_)
  clear hK K
  refine wpAnyH_take (i := 8) (v := .agg #[.int .i64 (M : Int), .slice (some ar) l l]) rfl (by kernel_rfl) (by kernel_rfl) (by kernel_rfl) (fun _ _ _ h => h) (Or.inl ⟨by rfl, ?_⟩) HS.out ?_
  · intro u hu; go_simp
  go_simp
  have f0 := HRu.out.frozen 0
  have f1 := HRu.out.frozen 1
  have k0 : u.cell? ⟨W.heap.size, 0, none⟩ = some (.int .i64 0) := HRu.out.cell 0
  have k1 : u.cell? ⟨W.heap.size, 1, none⟩ = some (.slice none 0 0) := HRu.out.cell 1
  refine wpAnyH_ready (rs := [9]) (by kernel_rfl) (by simp) ?_
  refine AllReadyH.cons rfl (fun K hK => ?_) AllReadyH.nil
  go_simp
  rw [cells2 HRu.out]
  obtain ⟨V2, hV, rV, bV, sV, oV⟩ := filled HRu.out #[.int .i64 (M : Int), .slice (some ar) l l]
  rw [hV]
  clear f0 f1 k0 k1
  have HS2 : Hid (But W.heap.size w2 V2) := Lib.hid (HS.out.trans ⟨bV, fun k hk hne => oV k hne⟩)
  refine hK.out _ _ HS2.out (fun _ => ?_)
  clear hK K
  refine wpAnyH_done (by kernel_rfl) ?_ _
  have z0 : V2.cell? ⟨W.heap.size, 0, none⟩ = some (.int .i64 (M : Int)) := (show Blk V2 _ 24 _ from rV).cell 0
  have z1 : V2.cell? ⟨W.heap.size, 1, none⟩ = some (.slice (some ar) l l) := (show Blk V2 _ 24 _ from rV).cell 1
  have HZ : Hid (Own V2 W.heap.size (.slice (some ar) l l) (joinN φ xs ys l l) ∧ Below W.heap.size W V2) := Lib.hid ⟨(HO.out.other oV (by show W.heap.size < w2.heap.size; omega)).mono (by show W.heap.size ≤ w2.heap.size; omega), Hb.out.trans HS2.out.below⟩
  clear HS HS2 HO HRu rV bV sV oV hV HRes HB HD HF HX HY
  go_wp2_with fail
  simp [bodyPost, results, Tryd.results89, go_sem, z0, z1]
  exact ⟨_, _, _, ⟨rfl, rfl, rfl⟩, HZ.out.1, HZ.out.2⟩
set_option maxRecDepth 100000 in
theorem andB_any (x y : Int) (hx : 0 ≤ x ∧ x ≤ 255) (hy : 0 ≤ y ∧ y ≤ 255) (W : World) : Calls Tryd.prog 67 #[.int .u8 x, .int .u8 y] W fun e w' => e = .returned (.int .u8 (andF x y)) ∧ W = w' := by
  have he : bits .and .u8 x y = andF x y := u8_and x y hx.1 (by omega) hy.1 (by omega)
  obtain ⟨z, hz⟩ : ∃ z, z = andF x y := ⟨_, rfl⟩
  rw [← hz] at he ⊢
  clear hz
  go_enter Tryd.func67, Tryd.ntmps67
  go_wp2
  go_ret
  exact ⟨rfl, rfl⟩
set_option maxRecDepth 100000 in
theorem orB_any (x y : Int) (hx : 0 ≤ x ∧ x ≤ 255) (hy : 0 ≤ y ∧ y ≤ 255) (W : World) : Calls Tryd.prog 68 #[.int .u8 x, .int .u8 y] W fun e w' => e = .returned (.int .u8 (orF x y)) ∧ W = w' := by
  have he : bits .or .u8 x y = orF x y := u8_or x y hx.1 (by omega) hy.1 (by omega)
  obtain ⟨z, hz⟩ : ∃ z, z = orF x y := ⟨_, rfl⟩
  rw [← hz] at he ⊢
  clear hz
  go_enter Tryd.func68, Tryd.ntmps68
  go_wp2
  go_ret
  exact ⟨rfl, rfl⟩
set_option maxRecDepth 100000 in
theorem minusB_any (x y : Int) (hx : 0 ≤ x ∧ x ≤ 255) (hy : 0 ≤ y ∧ y ≤ 255) (W : World) : Calls Tryd.prog 69 #[.int .u8 x, .int .u8 y] W fun e w' => e = .returned (.int .u8 (anF x y)) ∧ W = w' := by
  have he : bits .andNot .u8 x y = anF x y := anF_eq x y hx hy
  obtain ⟨z, hz⟩ : ∃ z, z = anF x y := ⟨_, rfl⟩
  rw [← hz] at he ⊢
  clear hz
  go_enter Tryd.func69, Tryd.ntmps69
  go_wp2
  go_ret
  exact ⟨rfl, rfl⟩
theorem joined1_er (g0 g1 g2 : Nat) (N1 N2 : Int) (a b : Option Addr) (l c l2 c2 : Nat) (xs ys : List Int) (f : FuncId) (er : Int) (W : World)
    (hB : Blk W g0 24 #[.int .i64 N1, .slice a l c]) (hD : Blk W g1 24 #[.int .i64 N2, .slice b l2 c2]) (hF : Blk W g2 89 #[.func (.func f) #[] #[]])
    (hx : Rd W a l c xs) (hy : Rd W b l2 c2 ys) (h1 : -9223372036854775808 ≤ N1) (h2 : N1 ≤ 9223372036854775807) (h3 : -9223372036854775808 ≤ N2) (h4 : N2 ≤ 9223372036854775807)
    (her : (validB N1 xs = true ∧ validB N2 ys = true ∧ N1 ≠ N2 ∧ er = 1) ∨ ((validB N1 xs = false ∨ validB N2 ys = false) ∧ er = 9)) :
    Calls Tryd.prog 89 #[.pointer (some ⟨g0, 0, none⟩), .pointer (some ⟨g1, 0, none⟩), .pointer (some ⟨g2, 0, none⟩)] W fun e w' => e = pan er ∧ Below W.heap.size W w' := by
  rcases her with ⟨v1, v2, hne, rfl⟩ | ⟨hv, rfl⟩
  · exact joined1_ne g0 g1 g2 N1 N2 a b l c l2 c2 xs ys f W hB hD hF hx hy h1 h2 h3 h4 v1 v2 hne
  · cases hv1 : validB N1 xs with
    | false => exact joined1_bad1 g0 g1 g2 N1 a l c xs W hB hx h1 h2 hv1
    | true =>
      have hv2 : validB N2 ys = false := by
        rcases hv with hv | hv
        · rw [hv1] at hv; cases hv
        · exact hv
      exact joined1_bad2 g0 g1 g2 N1 N2 a b l c l2 c2 xs ys f W hB hD hF hx hy h1 h2 h3 h4 hv1 hv2
end Go.Proofs.YthognmkjoekilaaDoor

/- Get: what its literal answers; told. -/
import Derived.Test.YthognmkjoekilaaDoorBmc
import Derived.Test.YthognmkjoekilaaDoorBsetp
namespace Go.Proofs.YthognmkjoekilaaDoor
set_option linter.unusedVariables false
open Go.RowKit Go.Shelf

section
variable (g0 g1 : Nat) (N : Int) (a : Option Addr) (l c : Nat) (bs : List Int) (at_ : Int) (W : World) (hB : Blk W g0 24 #[.int .i64 N, .slice a l c]) (h1 : Blk W g1 3 #[.int .i64 at_])
  (hr : Rd W a l c bs) (hN1 : -9223372036854775808 ≤ N) (hN2 : N ≤ 9223372036854775807) (ha1 : -9223372036854775808 ≤ at_) (ha2 : at_ ≤ 9223372036854775807)
include hB h1 hr hN1 hN2 ha1 ha2
set_option maxRecDepth 100000 in
set_option maxHeartbeats 1000000 in
theorem get1_bad (hv : validB N bs = false) : Calls Tryd.prog 45 #[.pointer (some ⟨g0, 0, none⟩), .pointer (some ⟨g1, 0, none⟩)] W fun e w' => e = pan 9 ∧ Below W.heap.size W w' := by
  have q0 : W.cell? ⟨g0, 0, none⟩ = some (.int .i64 N) := hB.cell 0
  have q1 : W.cell? ⟨g0, 1, none⟩ = some (.slice a l c) := hB.cell 1
  have q2 := h1.boxed.cell
  have C := Lib.hid (needRange_bad N a l c bs W hr hN1 hN2 at_ 1 ha1 ha2 hv)
  clear hB h1 hr hv 
  go_enter Tryd.func45, Tryd.ntmps45
  go_wp2_with fail
  refine C.out.mono ?_
  rintro e w2 ⟨rfl, hb⟩
  exact ⟨rfl, rfl, hb⟩
set_option maxRecDepth 100000 in
set_option maxHeartbeats 1000000 in
theorem get1_rng (hv : validB N bs = true) (hc : ¬ (0 ≤ at_ ∧ 0 ≤ (1 : Int) ∧ 1 ≤ N - at_)) : Calls Tryd.prog 45 #[.pointer (some ⟨g0, 0, none⟩), .pointer (some ⟨g1, 0, none⟩)] W fun e w' => e = pan 1 ∧ Below W.heap.size W w' := by
  have q0 : W.cell? ⟨g0, 0, none⟩ = some (.int .i64 N) := hB.cell 0
  have q1 : W.cell? ⟨g0, 1, none⟩ = some (.slice a l c) := hB.cell 1
  have q2 := h1.boxed.cell
  have C := Lib.hid (needRange_no N a l c bs W hr hN1 hN2 at_ 1 ha1 ha2 hv hc)
  clear hB h1 hr hv hc
  go_enter Tryd.func45, Tryd.ntmps45
  go_wp2_with fail
  refine C.out.mono ?_
  rintro e w2 ⟨rfl, hb⟩
  exact ⟨rfl, rfl, hb⟩
end
set_option maxRecDepth 100000 in
set_option maxHeartbeats 1000000 in
theorem get1_ok (g0 g1 : Nat) (M : Nat) (a : Option Addr) (l c : Nat) (bs : List Int) (i : Nat) (W : World) (hB : Blk W g0 24 #[.int .i64 (M : Int), .slice a l c]) (h1 : Blk W g1 3 #[.int .i64 (i : Int)])
    (hr : Rd W a l c bs) (hv : Vb M bs) (hi : i < M) : Calls Tryd.prog 45 #[.pointer (some ⟨g0, 0, none⟩), .pointer (some ⟨g1, 0, none⟩)] W fun e w' => e = .returned (.bool (bitV bs i)) ∧ Below W.heap.size W w' := by
  have q0 : W.cell? ⟨g0, 0, none⟩ = some (.int .i64 (M : Int)) := hB.cell 0
  have q1 : W.cell? ⟨g0, 1, none⟩ = some (.slice a l c) := hB.cell 1
  have q2 := h1.boxed.cell
  have hM := hv.le
  have hlen := hv.len
  have hl := hr.hl
  have C := Lib.hid (needRange_yes (M : Int) a l c bs W hr (by omega) (by omega) (i : Int) 1 (by omega) (by omega) hv.valid ⟨by omega, by omega, by omega⟩)
  have HR := Lib.hid hr
  have HB := Lib.hid hB
  have H1 := Lib.hid h1
  obtain ⟨J, hJ⟩ : ∃ J, J = i / 8 := ⟨_, rfl⟩
  obtain ⟨T, hT⟩ : ∃ T, T = i % 8 := ⟨_, rfl⟩
  have hc9 := hr.hc
  have hm9 := hr.hm
  unfold maxLen at hm9
  obtain ⟨b, off, rfl, hcell⟩ := hr.hr (by omega)
  have hcJ := hcell J (by omega)
  have hbl := World.block_lt_of_cell? W _ hcJ
  have hxb := hr.hb _ (getD_mem (bs := bs) (i := J) (by omega))
  obtain ⟨X, hX⟩ : ∃ X, X = bs.getD J 0 := ⟨_, rfl⟩
  have hvb : bitV bs i = X.toNat.testBit T := by rw [hX, hJ, hT]; rfl
  rw [← hX] at hcJ hxb
  rw [hvb]
  obtain ⟨B, hBt⟩ : ∃ B, B = X.toNat.testBit T := ⟨_, rfl⟩
  rw [← hBt]
  have hX2 : X.toNat < 256 := by omega
  have hsh : ∀ x : Nat, x < 256 → ∀ t, t < 8 → (bits .and .u8 ((x / 2 ^ t : Nat) : Int) 1 == 1) = x.testBit t := by
    intro x hx t ht
    have h0 : (List.range 256).all (fun x => (List.range 8).all fun t => (bits .and .u8 ((x / 2 ^ t : Nat) : Int) 1 == 1) == x.testBit t) = true := by kernel_rfl
    have h1 := List.all_eq_true.mp (List.all_eq_true.mp h0 x (List.mem_range.mpr hx)) t (List.mem_range.mpr ht)
    exact eq_of_beq h1
  obtain ⟨q, hq⟩ : ∃ q : Nat, q = X.toNat / 2 ^ T := ⟨_, rfl⟩
  have hq2 : q ≤ 255 := by rw [hq]; have := Nat.div_le_self X.toNat (2 ^ T); omega
  obtain ⟨D, hD⟩ : ∃ D : Int, D = (q : Int) := ⟨_, rfl⟩
  have hD2 : (bits .and .u8 D 1 == 1) = B := by rw [hD, hq, hBt]; exact hsh _ hX2 T (by omega)
  have hD3 : X / 2 ^ T = D := by
    rw [hD, hq]
    obtain ⟨y, rfl⟩ : ∃ y : Nat, X = (y : Int) := ⟨X.toNat, by omega⟩
    rw [Int.toNat_natCast]
    push_cast
    rfl
  have hD4 : 0 ≤ D ∧ D ≤ 255 := by omega
  have hD5 : IntKind.u8.wrap D = D := IntWalk.u8_in _ (by omega)
  have e8 : (i : Int) / 8 = (J : Int) := by omega
  have e7 : (i : Int).tdiv 8 = (J : Int) := by rw [Int.tdiv_eq_ediv_of_nonneg (by omega)]; exact e8
  have e9 : (i : Int).tmod 8 = (T : Int) := by rw [hT]; rfl
  have wJ : IntKind.i64.wrap (J : Int) = (J : Int) := IntWalk.i64_in _ (by omega)
  have wT : IntKind.i64.wrap (T : Int) = (T : Int) := IntWalk.i64_in _ (by omega)
  have hil : (J : Int) < (l : Int) := by omega
  have hT8 : (T : Int) < 8 := by omega
  have hT0 : (0 : Int) ≤ (T : Int) := by omega
  have tT : (T : Int).toNat = T := rfl
  have HJ := Lib.hid hcJ
  clear hcell hcJ hJ hT hX hvb hBt hD hq hsh hB h1 hr hv
  go_enter Tryd.func45, Tryd.ntmps45
  go_wp2_with fail
  refine C.out.mono ?_
  rintro e w1 ⟨rfl, hb1⟩
  have HB' := Lib.hid (HB.out.below hb1 HB.out.lt)
  have H1' := Lib.hid (H1.out.below hb1 H1.out.lt)
  have HJ' : Hid (w1.cell? ⟨b, off + J, none⟩ = some (.int .u8 X)) := Lib.hid ((hb1.cell (p := ⟨b, off + J, none⟩) hbl).trans HJ.out)
  have hbl1 : b < w1.heap.size := by exact Nat.lt_of_lt_of_le hbl hb1.size
  have Hb1 := Lib.hid hb1
  clear HB H1 HJ HR hb1 C q0 q1 q2 hbl
  go_upto_region 2 with fail
  refine wp_region_held_drew (S := Below w1.heap.size w1) (by kernel_rfl) ((Below.refl _ w1).drew) (fun _ => ?_)
  have HS : Hid (Below w1.heap.size w1 w1.drew) := Lib.hid ((Below.refl _ w1).drew)
  refine wpAnyH_take (i := 0) (v := .pointer (some ⟨g0, 1, none⟩)) rfl (by kernel_rfl) (by kernel_rfl) (by kernel_rfl) (fun _ _ _ h => h) (Or.inl ⟨by rfl, ?_⟩) HS.out ?_
  · intro u hu; go_simp
  go_simp
  refine wpAnyH_take (i := 1) (v := .slice (some ⟨b, off, none⟩) l c) rfl (by kernel_rfl) (by kernel_rfl) (by kernel_rfl) (fun _ _ _ h => h) (Or.inl ⟨by rfl, ?_⟩) HS.out ?_
  · intro u hu; have : u.cell? ⟨g0, 1, none⟩ = some (.slice (some ⟨b, off, none⟩) l c) := (HB'.out.below hu HB'.out.lt).cell 1; go_simp
  go_simp
  refine wpAnyH_take (i := 2) (v := .int .i64 (i : Int)) rfl (by kernel_rfl) (by kernel_rfl) (by kernel_rfl) (fun _ _ _ h => h) (Or.inl ⟨by rfl, ?_⟩) HS.out ?_
  · intro u hu; have : u.cell? ⟨g1, 0, none⟩ = some (.int .i64 (i : Int)) := (H1'.out.below hu H1'.out.lt).cell 0; go_simp
  go_simp
  refine wpAnyH_take (i := 3) (v := .int .i64 (J : Int)) rfl (by kernel_rfl) (by kernel_rfl) (by kernel_rfl) (fun _ _ _ h => h) (Or.inl ⟨by rfl, ?_⟩) HS.out ?_
  · intro u hu; go_simp
  go_simp
  refine wpAnyH_take (i := 4) (v := .pointer (some ⟨b, off + J, none⟩)) rfl (by kernel_rfl) (by kernel_rfl) (by kernel_rfl) (fun _ _ _ h => h) (Or.inl ⟨by rfl, ?_⟩) HS.out ?_
  · intro u hu; go_simp
  go_simp
  refine wpAnyH_take (i := 5) (v := .int .u8 X) rfl (by kernel_rfl) (by kernel_rfl) (by kernel_rfl) (fun _ _ _ h => h) (Or.inl ⟨by rfl, ?_⟩) HS.out ?_
  · intro u hu; have := (hu.cell (p := ⟨b, off + J, none⟩) hbl1).trans HJ'.out; go_simp
  go_simp
  refine wpAnyH_take (i := 6) (v := .int .i64 (i : Int)) rfl (by kernel_rfl) (by kernel_rfl) (by kernel_rfl) (fun _ _ _ h => h) (Or.inl ⟨by rfl, ?_⟩) HS.out ?_
  · intro u hu; have : u.cell? ⟨g1, 0, none⟩ = some (.int .i64 (i : Int)) := (H1'.out.below hu H1'.out.lt).cell 0; go_simp
  go_simp
  refine wpAnyH_take (i := 7) (v := .int .i64 (T : Int)) rfl (by kernel_rfl) (by kernel_rfl) (by kernel_rfl) (fun _ _ _ h => h) (Or.inl ⟨by rfl, ?_⟩) HS.out ?_
  · intro u hu; go_simp
  go_simp
  refine wpAnyH_take (i := 8) (v := .int .u8 D) rfl (by kernel_rfl) (by kernel_rfl) (by kernel_rfl) (fun _ _ _ h => h) (Or.inl ⟨by rfl, ?_⟩) HS.out ?_
  · intro u hu; go_simp
  go_simp
  refine wpAnyH_take (i := 9) (v := .int .u8 (bits .and .u8 D 1)) rfl (by kernel_rfl) (by kernel_rfl) (by kernel_rfl) (fun _ _ _ h => h) (Or.inl ⟨by rfl, ?_⟩) HS.out ?_
  · intro u hu; go_simp
  go_simp
  refine wpAnyH_take (i := 10) (v := .bool B) rfl (by kernel_rfl) (by kernel_rfl) (by kernel_rfl) (fun _ _ _ h => h) (Or.inl ⟨by rfl, ?_⟩) HS.out ?_
  · intro u hu; go_simp
  go_simp
  refine wpAnyH_ready (rs := [11]) (by kernel_rfl) (by simp) ?_
  refine AllReadyH.cons rfl (fun K hK => ?_) AllReadyH.nil
  go_simp
  refine hK.out _ _ HS.out (fun _ => ?_)
  clear hK K
  refine wpAnyH_done (by kernel_rfl) ?_ _
  have Hb2 := Lib.hid (Hb1.out.trans (HS.out.mono Hb1.out.size))
  clear HS
  go_wp2_with fail
  go_ret
  exact ⟨rfl, Hb2.out⟩
theorem get_ok (M : Nat) (a : Option Addr) (l c : Nat) (bs : List Int) (i : Nat) (w : World) (hr : Rd w a l c bs) (hv : Vb M bs) (hi : i < M) : Calls Tryd.prog 14 #[.agg #[.int .i64 (M : Int), .slice a l c], .int .i64 (i : Int)] w fun e w' => e = .returned (.tuple #[.bool (bitV bs i), .int .i64 0]) ∧ Below w.heap.size w w' :=
  get_lift_ok M a l c i (bitV bs i) w fun W hb h0 h1 => get1_ok _ _ M a l c bs i W h0 h1 (hr.below hb (Nat.le_refl _)) hv hi
section
variable (N : Int) (a : Option Addr) (l c : Nat) (bs : List Int) (at_ : Int) (w : World) (hr : Rd w a l c bs) (hN1 : -9223372036854775808 ≤ N) (hN2 : N ≤ 9223372036854775807) (ha1 : -9223372036854775808 ≤ at_) (ha2 : at_ ≤ 9223372036854775807)
include hr hN1 hN2 ha1 ha2
theorem get_bad (hv : validB N bs = false) : Calls Tryd.prog 14 #[.agg #[.int .i64 N, .slice a l c], .int .i64 at_] w fun e w' => e = .returned (.tuple #[.bool false, .int .i64 9]) ∧ Below w.heap.size w w' :=
  get_lift_bad N a l c at_ 9 w fun W hb h0 h1 => get1_bad _ _ N a l c bs at_ W h0 h1 (hr.below hb (Nat.le_refl _)) hN1 hN2 ha1 ha2 hv
theorem get_rng (hv : validB N bs = true) (hc : ¬ (0 ≤ at_ ∧ at_ < N)) : Calls Tryd.prog 14 #[.agg #[.int .i64 N, .slice a l c], .int .i64 at_] w fun e w' => e = .returned (.tuple #[.bool false, .int .i64 1]) ∧ Below w.heap.size w w' :=
  get_lift_bad N a l c at_ 1 w fun W hb h0 h1 => get1_rng _ _ N a l c bs at_ W h0 h1 (hr.below hb (Nat.le_refl _)) hN1 hN2 ha1 ha2 hv (by omega)
end
end Go.Proofs.YthognmkjoekilaaDoor

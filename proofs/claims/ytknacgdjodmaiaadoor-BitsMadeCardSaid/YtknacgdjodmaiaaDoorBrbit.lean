/- The reference's power and Bit. -/
import Derived.Test.YtknacgdjodmaiaaDoorBopen
import Derived.Deep.DeepCutAuto
namespace Go.Proofs.YtknacgdjodmaiaaDoor
set_option linter.unusedVariables false
open Go.RowKit Go.Shelf

set_option maxRecDepth 100000 in
set_option maxHeartbeats 2000000 in
theorem power_any (n : Nat) (hn : n < 8) (w : World) : Calls Tryd.prog 55 #[.int .i64 (n : Int)] w fun e w' => e = .returned (.int .u8 ((2 ^ n : Nat) : Int)) ∧ w = w' := by
  go_enter Tryd.func55, Tryd.ntmps55
  go_wp2_with fail
  go_loopw [3, 4] (fun o i wr => ∃ k : Nat, k ≤ n ∧ i = .int .i64 (k : Int) ∧ o = .int .u8 ((2 ^ k : Nat) : Int) ∧ w = wr) (fun _ i _ => n - (intOf i).toNat)
  case atStart => exact ⟨0, Nat.zero_le _, rfl, rfl, rfl⟩
  case round =>
    obtain ⟨k, hk, rfl, rfl, rfl⟩ := hrel
    by_cases hlt : k < n
    · obtain ⟨X, hX⟩ : ∃ X, X = 2 ^ k := ⟨_, rfl⟩
      have hX9 : X ≤ 64 := by rw [hX]; exact Nat.pow_le_pow_right (by omega) (by omega : k ≤ 6)
      have hn1 : 2 ^ (k + 1) = 2 * X := by rw [hX, Nat.pow_succ]; omega
      rw [← hX]
      have Hn := Lib.hid hn1
      have hki : (k : Int) < (n : Int) := by omega
      clear hX hn1
      go_wp2_with fail
      go_roundw
      case rel => exact ⟨k + 1, by omega, by push_cast; rfl, by rw [Hn.out]; push_cast; rfl, by first | rfl | trivial⟩
      case measure => simp only [intOf]; omega
    · obtain rfl : k = n := by omega
      obtain ⟨X, hX⟩ : ∃ X, X = 2 ^ k := ⟨_, rfl⟩
      rw [← hX]
      have HX := Lib.hid hX
      clear hX
      go_wp2_with fail
      go_ret
      exact ⟨by rw [← HX.out]; rfl, rfl⟩
theorem bit_div (x : Int) (hx : 0 ≤ x ∧ x ≤ 255) (t : Nat) : (x / ((2 ^ t : Nat) : Int)) % 2 = if x.toNat.testBit t then 1 else 0 := by
  obtain ⟨y, rfl⟩ : ∃ y : Nat, x = (y : Int) := ⟨x.toNat, by omega⟩
  rw [Int.toNat_natCast, Nat.testBit_eq_decide_div_mod_eq]
  have h : ((y : Int) / ((2 ^ t : Nat) : Int)) % 2 = ((y / 2 ^ t % 2 : Nat) : Int) := by push_cast; rfl
  rw [h]
  rcases Nat.mod_two_eq_zero_or_one (y / 2 ^ t) with h0 | h0 <;> rw [h0] <;> simp
set_option maxRecDepth 100000 in
set_option maxHeartbeats 2000000 in
theorem bit_any (N : Int) (a : Option Addr) (l c : Nat) (bs : List Int) (i : Nat) (w : World) (hr : Rd w a l c bs) (hi : i < 8 * l) : Calls Tryd.prog 20 #[.agg #[.int .i64 N, .slice a l c], .int .i64 (i : Int)] w fun e w' => e = .returned (.bool (bitV bs i)) ∧ Below w.heap.size w w' := by
  obtain ⟨W, hW⟩ : ∃ W, W = w.alloc (.cells #[.int .i64 N, .slice a l c] 24) := ⟨_, rfl⟩
  have hb : Below w.heap.size w W := by rw [hW]; exact (Below.refl _ w).alloc (Nat.le_refl _) _
  have hB : Blk W w.heap.size 24 #[.int .i64 N, .slice a l c] := by rw [hW]; exact heap_new w _
  obtain ⟨J, hJ⟩ : ∃ J, J = i / 8 := ⟨_, rfl⟩
  obtain ⟨T, hT⟩ : ∃ T, T = i % 8 := ⟨_, rfl⟩
  have hc9 := hr.hc
  have hm9 := hr.hm
  unfold maxLen at hm9
  obtain ⟨b, off, rfl, hcell⟩ := hr.hr (by omega)
  have q1 : W.cell? ⟨w.heap.size, 1, none⟩ = some (.slice (some ⟨b, off, none⟩) l c) := hB.cell 1
  have hc := hcell J (by omega)
  have hbl := World.block_lt_of_cell? w _ hc
  have hc2 : W.cell? ⟨b, off + J, none⟩ = some (.int .u8 (bs.getD J 0)) := (hb.cell (p := ⟨b, off + J, none⟩) hbl).trans hc
  have hxb := hr.hb _ (getD_mem (bs := bs) (i := J) (by have := hr.hl; omega))
  obtain ⟨X, hX⟩ : ∃ X, X = bs.getD J 0 := ⟨_, rfl⟩
  have hv : bitV bs i = X.toNat.testBit T := by rw [hX, hJ, hT]; rfl
  rw [← hX] at hc2 hxb
  rw [hv]
  obtain ⟨P0, hP0⟩ : ∃ P0, P0 = 2 ^ T := ⟨_, rfl⟩
  obtain ⟨D, hD⟩ : ∃ D : Int, D = X / (P0 : Int) := ⟨_, rfl⟩
  obtain ⟨R, hR⟩ : ∃ R : Int, R = D % 2 := ⟨_, rfl⟩
  have hP1 : 1 ≤ P0 := by rw [hP0]; exact Nat.one_le_two_pow
  have hP2 : P0 ≤ 128 := by rw [hP0]; exact Nat.pow_le_pow_right (by omega) (by omega : T ≤ 7)
  have hD0 : 0 ≤ D ∧ D ≤ 255 := by
    rw [hD]
    refine ⟨Int.ediv_nonneg hxb.1 (by omega), Int.le_trans (Int.ediv_le_self _ hxb.1) hxb.2⟩
  have hR0 : R = if X.toNat.testBit T then 1 else 0 := by rw [hR, hD, hP0]; exact bit_div X hxb T
  have hR1 : (R == 1) = X.toNat.testBit T := by rw [hR0]; cases X.toNat.testBit T <;> simp
  rw [← hR1]
  have hP3 : (P0 : Int) ≤ 128 := by omega
  have hP4 : (1 : Int) ≤ (P0 : Int) := by omega
  have f1 : X.tdiv (P0 : Int) = D := by rw [hD]; exact Int.tdiv_eq_ediv_of_nonneg hxb.1
  have f2 : D.tmod 2 = R := by rw [hR]; exact Int.tmod_eq_emod_of_nonneg hD0.1
  have hP5 : (P0 = 0) = False := eq_false (by omega)
  have wD : IntKind.u8.wrap D = D := by simp [IntKind.wrap, IntKind.bits, IntKind.signed]; omega
  have P := fun W => power_any T (by omega) W
  rw [← hP0] at P
  have e8 : (i : Int) / 8 = (J : Int) := by omega
  have e9 : (i : Int).tmod 8 = (T : Int) := by rw [hT]; rfl
  have hJ63 : (J : Int) ≤ 9223372036854775807 := by omega
  have wJ : IntKind.i64.wrap (J : Int) = (J : Int) := by simp [IntKind.wrap, IntKind.bits, IntKind.signed]; omega
  have wT : IntKind.i64.wrap (T : Int) = (T : Int) := by simp [IntKind.wrap, IntKind.bits, IntKind.signed]; omega
  have hil : (J : Int) < (l : Int) := by omega
  have hi9 : (J : Int) ≤ 9223372036854775807 := by omega
  have hT8 : (T : Int) < 8 := by omega
  have HW := Lib.hid hW
  have Hb := Lib.hid hb
  have HP := Lib.hid P
  clear hcell hc hW hb hB hX hv hr P hJ hT hc9 hm9 hP0 hD hR hR0 hR1
  go_enter Tryd.func20, Tryd.ntmps20
  go_upto_region 1 with fail
  rw [← HW.out]
  refine wp_region_held_drew (S := Below W.heap.size W) (by kernel_rfl) ((Below.refl _ W).drew) (fun _ => ?_)
  have HS : Hid (Below W.heap.size W W.drew) := Lib.hid ((Below.refl _ W).drew)
  refine wpAnyH_take (i := 0) (v := .pointer (some ⟨w.heap.size, 1, none⟩)) rfl (by kernel_rfl) (by kernel_rfl) (by kernel_rfl) (fun _ _ _ h => h) (Or.inl ⟨by rfl, ?_⟩) HS.out ?_
  · intro u hu; go_simp
  go_simp
  refine wpAnyH_take (i := 1) (v := .slice (some ⟨b, off, none⟩) l c) rfl (by kernel_rfl) (by kernel_rfl) (by kernel_rfl) (fun _ _ _ h => h) (Or.inl ⟨by rfl, ?_⟩) HS.out ?_
  · intro u hu; have := (hu.cell (p := ⟨w.heap.size, 1, none⟩) (World.block_lt_of_cell? W _ q1)).trans q1; go_simp
  go_simp
  refine wpAnyH_take (i := 2) (v := .int .i64 (i : Int)) rfl (by kernel_rfl) (by kernel_rfl) (by kernel_rfl) (fun _ _ _ h => h) (Or.inl ⟨by rfl, ?_⟩) HS.out ?_
  · intro u hu; go_simp
  go_simp
  refine wpAnyH_take (i := 3) (v := .int .i64 (J : Int)) rfl (by kernel_rfl) (by kernel_rfl) (by kernel_rfl) (fun _ _ _ h => h) (Or.inl ⟨by rfl, ?_⟩) HS.out ?_
  · intro u hu; go_simp
  go_simp
  refine wpAnyH_take (i := 4) (v := .pointer (some ⟨b, off + J, none⟩)) rfl (by kernel_rfl) (by kernel_rfl) (by kernel_rfl) (fun _ _ _ h => h) (Or.inl ⟨by rfl, ?_⟩) HS.out ?_
  · intro u hu; go_simp
  go_simp
  refine wpAnyH_take (i := 5) (v := .int .u8 X) rfl (by kernel_rfl) (by kernel_rfl) (by kernel_rfl) (fun _ _ _ h => h) (Or.inl ⟨by rfl, ?_⟩) HS.out ?_
  · intro u hu; have := (hu.cell (p := ⟨b, off + J, none⟩) (World.block_lt_of_cell? W _ hc2)).trans hc2; go_simp
  go_simp
  refine wpAnyH_take (i := 6) (v := .int .i64 (i : Int)) rfl (by kernel_rfl) (by kernel_rfl) (by kernel_rfl) (fun _ _ _ h => h) (Or.inl ⟨by rfl, ?_⟩) HS.out ?_
  · intro u hu; go_simp
  go_simp
  refine wpAnyH_take (i := 7) (v := .int .i64 (T : Int)) rfl (by kernel_rfl) (by kernel_rfl) (by kernel_rfl) (fun _ _ _ h => h) (Or.inl ⟨by rfl, ?_⟩) HS.out ?_
  · intro u hu; go_simp
  go_simp
  refine wpAnyH_ready (rs := [8]) (by kernel_rfl) (by simp) ?_
  refine AllReadyH.cons rfl (fun K hK => ?_) AllReadyH.nil
  go_simp
  refine (HP.out _).mono ?_
  rintro e u ⟨rfl, rfl⟩
  refine hK.out _ _ HS.out (fun _ => ?_)
  clear hK K
  refine wpAnyH_take (i := 9) (v := .int .u8 D) rfl (by kernel_rfl) (by kernel_rfl) (by kernel_rfl) (fun _ _ _ h => h) (Or.inl ⟨by rfl, ?_⟩) HS.out ?_
  · intro u hu; go_simp
  go_simp
  refine wpAnyH_take (i := 10) (v := .int .u8 R) rfl (by kernel_rfl) (by kernel_rfl) (by kernel_rfl) (fun _ _ _ h => h) (Or.inl ⟨by rfl, ?_⟩) HS.out ?_
  · intro u hu; go_simp
  go_simp
  refine wpAnyH_take (i := 11) (v := .bool (R == 1)) rfl (by kernel_rfl) (by kernel_rfl) (by kernel_rfl) (fun _ _ _ h => h) (Or.inl ⟨by rfl, ?_⟩) HS.out ?_
  · intro u hu; go_simp
  go_simp
  refine wpAnyH_ready (rs := [12]) (by kernel_rfl) (by simp) ?_
  refine AllReadyH.cons rfl (fun K hK => ?_) AllReadyH.nil
  go_simp
  refine hK.out _ _ HS.out (fun _ => ?_)
  clear hK K
  refine wpAnyH_done (by kernel_rfl) ?_ _
  have HZ := Lib.hid (Hb.out.trans (HS.out.mono Hb.out.size))
  clear HS HP HW
  go_wp2_with fail
  go_ret
  exact ⟨rfl, HZ.out⟩
end Go.Proofs.YtknacgdjodmaiaaDoor

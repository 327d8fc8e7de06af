/- The reference's SameRanges, of equal lists. -/
import Derived.Test.YthognmkjoekilaaDoorBrruns
namespace Go.Proofs.YthognmkjoekilaaDoor
set_option linter.unusedVariables false
open Go.RowKit Go.Shelf

set_option maxRecDepth 100000 in
set_option maxHeartbeats 2000000 in
theorem sameR_eq (B1 B2 : Nat) (a a2 : Option Addr) (n c n2 c2 : Nat) (L : List (Nat × Nat)) (w : World) (h1 : OwnR w B1 (.slice a n c) L) (h2 : OwnR w B2 (.slice a2 n2 c2) L) :
    Calls Tryd.prog 38 #[.slice a n c, .slice a2 n2 c2] w fun e w' => e = .returned (.bool true) ∧ Below w.heap.size w w' := by
  obtain ⟨e1, hnc, hcm⟩ := h1.len
  obtain ⟨e2, hnc2, hcm2⟩ := h2.len
  unfold maxLen at hcm hcm2
  obtain rfl : n = n2 := by omega
  have H1 := Lib.hid h1
  have H2 := Lib.hid h2
  have He := Lib.hid e1
  clear h1 h2 e1 e2
  go_enter Tryd.func38, Tryd.ntmps38
  go_wp2_with fail
  go_loopw [5] (fun p wr => ∃ k : Nat, p = .int .i64 (k : Int) ∧ k ≤ n ∧ Below w.heap.size w wr) (fun p _ => n - (intOf p).toNat)
  case atStart => exact ⟨0, rfl, Nat.zero_le _, Below.refl _ _⟩
  case round =>
    obtain ⟨k, rfl, hk, hbr⟩ := hrel
    have Hbr := Lib.hid hbr
    by_cases hlt : k < n
    · have hki : (k : Int) < (n : Int) := by omega
      have HA := H1.out.belowB hbr (Nat.le_refl _)
      have HB := H2.out.belowB hbr (Nat.le_refl _)
      obtain ⟨g, rfl, -, hg⟩ := HA.addr (by omega)
      obtain ⟨g2, rfl, -, hg2⟩ := HB.addr (by omega)
      obtain ⟨c0, c1⟩ := HA.at_ k (by rw [He.out]; exact hlt)
      obtain ⟨d0, d1⟩ := HB.at_ k (by rw [He.out]; exact hlt)
      obtain ⟨r, hr⟩ : ∃ r, r = L.getD k (0, 0) := ⟨_, rfl⟩
      rw [← hr] at c0 c1 d0 d1
      obtain ⟨p, q⟩ := r
      simp only at c0 c1 d0 d1
      have C0 := Lib.hid c0
      have C1 := Lib.hid c1
      have D0 := Lib.hid d0
      have D1 := Lib.hid d1
      clear HA HB c0 c1 d0 d1 hr hbr
      go_upto_region 6 with fail
      refine wp_region_held_drew (S := Below wr.heap.size wr) (by kernel_rfl) ((Below.refl _ wr).drew) (fun _ => ?_)
      have HS : Hid (Below wr.heap.size wr wr.drew) := Lib.hid ((Below.refl _ wr).drew)
      refine wpAnyH_take (i := 0) (v := .slice (some ⟨g, 0, none⟩) n c) rfl (by kernel_rfl) (by kernel_rfl) (by kernel_rfl) (fun _ _ _ h => h) (Or.inl ⟨by rfl, ?_⟩) HS.out ?_
      · intro u hu; go_simp
      go_simp
      refine wpAnyH_take (i := 1) (v := .int .i64 (k : Int)) rfl (by kernel_rfl) (by kernel_rfl) (by kernel_rfl) (fun _ _ _ h => h) (Or.inl ⟨by rfl, ?_⟩) HS.out ?_
      · intro u hu; go_simp
      go_simp
      refine wpAnyH_take (i := 2) (v := .pointer (some ⟨g, k * 2, none⟩)) rfl (by kernel_rfl) (by kernel_rfl) (by kernel_rfl) (fun _ _ _ h => h) (Or.inl ⟨by rfl, ?_⟩) HS.out ?_
      · intro u hu; go_simp
      go_simp
      refine wpAnyH_take (i := 3) (v := .agg #[.int .i64 (p : Int), .int .i64 (q : Int)]) rfl (by kernel_rfl) (by kernel_rfl) (by kernel_rfl) (fun _ _ _ h => h) (Or.inl ⟨by rfl, ?_⟩) HS.out ?_
      · intro u hu; have k0 : u.cell? ⟨g, k * 2, none⟩ = some (.int .i64 (p : Int)) := (hu.cell (p := ⟨g, k * 2, none⟩) hg).trans C0.out; have k1 : u.cell? ⟨g, k * 2 + 1, none⟩ = some (.int .i64 (q : Int)) := (hu.cell (p := ⟨g, k * 2 + 1, none⟩) hg).trans C1.out; go_simp
      go_simp
      refine wpAnyH_take (i := 4) (v := .slice (some ⟨g2, 0, none⟩) n c2) rfl (by kernel_rfl) (by kernel_rfl) (by kernel_rfl) (fun _ _ _ h => h) (Or.inl ⟨by rfl, ?_⟩) HS.out ?_
      · intro u hu; go_simp
      go_simp
      refine wpAnyH_take (i := 5) (v := .int .i64 (k : Int)) rfl (by kernel_rfl) (by kernel_rfl) (by kernel_rfl) (fun _ _ _ h => h) (Or.inl ⟨by rfl, ?_⟩) HS.out ?_
      · intro u hu; go_simp
      go_simp
      refine wpAnyH_take (i := 6) (v := .pointer (some ⟨g2, k * 2, none⟩)) rfl (by kernel_rfl) (by kernel_rfl) (by kernel_rfl) (fun _ _ _ h => h) (Or.inl ⟨by rfl, ?_⟩) HS.out ?_
      · intro u hu; go_simp
      go_simp
      refine wpAnyH_take (i := 7) (v := .agg #[.int .i64 (p : Int), .int .i64 (q : Int)]) rfl (by kernel_rfl) (by kernel_rfl) (by kernel_rfl) (fun _ _ _ h => h) (Or.inl ⟨by rfl, ?_⟩) HS.out ?_
      · intro u hu; have k0 : u.cell? ⟨g2, k * 2, none⟩ = some (.int .i64 (p : Int)) := (hu.cell (p := ⟨g2, k * 2, none⟩) hg2).trans D0.out; have k1 : u.cell? ⟨g2, k * 2 + 1, none⟩ = some (.int .i64 (q : Int)) := (hu.cell (p := ⟨g2, k * 2 + 1, none⟩) hg2).trans D1.out; go_simp
      go_simp
      refine wpAnyH_take (i := 8) (v := .bool false) rfl (by kernel_rfl) (by kernel_rfl) (by kernel_rfl) (fun _ _ _ h => h) (Or.inl ⟨by rfl, ?_⟩) HS.out ?_
      · intro u hu; go_simp
      go_simp
      refine wpAnyH_done (by kernel_rfl) ?_ _
      have Hb := Lib.hid (Hbr.out.trans (HS.out.mono Hbr.out.size))
      clear HS C0 C1 D0 D1 Hbr
      go_wp2_with fail
      go_roundw
      case rel => exact ⟨k + 1, by go_num, by omega, Hb.out⟩
      case measure => simp only [intOf]; omega
    · obtain rfl : n = k := by omega
      clear hbr
      go_wp2_with fail
      go_ret
      exact ⟨rfl, Hbr.out⟩
end Go.Proofs.YthognmkjoekilaaDoor

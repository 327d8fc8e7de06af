/- The reference's Made. -/
import Derived.Test.YthognmkjoekilaaDoorBrlist
namespace Go.Proofs.YthognmkjoekilaaDoor
set_option linter.unusedVariables false
open Go.RowKit Go.Shelf

theorem own_addr {w : World} {B : Nat} {x : Addr} {n c : Nat} {xs : List Int} (h : Own w B (.slice (some x) n c) xs) : ∃ g, x = ⟨g, 0, none⟩ ∧ B ≤ g ∧ g < w.heap.size := by
  rcases h.1.2 with ⟨hv, h0⟩ | ⟨g, cap, cur, hv, hg0, hg, -⟩
  · cases hv
  · injection hv with h1 h2 h3
    injection h1 with h1
    exact ⟨g, h1, hg0, (Array.getElem?_eq_some_iff.1 hg).1⟩
set_option maxRecDepth 100000 in
set_option maxHeartbeats 4000000 in
theorem made_any (n : Nat) (a : Option Addr) (cap : Nat) (l : List Bool) (w : World) (hr : RdL w a n cap l) (hn : n ≤ 65536) :
    Calls Tryd.prog 57 #[.slice a n cap] w fun e w' => ∃ a' m c', e = .returned (.agg #[.int .i64 (n : Int), .slice a' m c']) ∧ Own w' w.heap.size (.slice a' m c') (madeV l) ∧ Below w.heap.size w w' := by
  obtain ⟨m, hm⟩ : ∃ m : Nat, ((n : Int) + 7) / 8 = (m : Int) := ⟨(n + 7) / 8, by omega⟩
  have hm2 : m = (n + 7) / 8 := by omega
  have hl := hr.hl
  have hc := hr.hc
  have hcm := hr.hm
  unfold maxLen at hcm
  obtain ⟨r, W0, e1, e2, hB0, hb0, -⟩ := boxed (Below.refl _ w) 0 none 0 0 [] (Rd.nil w)
  have C := Lib.hid (rnew_any (n : Int) m W0 (by omega) (by omega) hm)
  have HR := Lib.hid (hr.below hb0 (Nat.le_refl _))
  have HB0 := Lib.hid hB0.blk
  have Hb := Lib.hid hb0
  have H2 := Lib.hid e2
  have H1 := Lib.hid e1
  have hrW := hB0.blk.lt
  have hmadeV : madeV l = madeN l m n := by unfold madeV; rw [hl, ← hm2]
  rw [hmadeV]
  have hm3 : n ≤ 8 * m := by omega
  have hm4 : 8 * m ≤ n + 7 := by omega
  clear hm2 hr hB0 hb0 e1 e2 hm hmadeV
  go_enter Tryd.func57, Tryd.ntmps57
  go_upto_region 1 with fail
  rw [H2.out, H1.out]
  go_wp2_with fail
  refine C.out.mono ?_
  rintro e w1 ⟨a1, rfl, ho, hb1⟩
  obtain ⟨ga, rfl, hga0, hga1⟩ := own_addr ho
  obtain ⟨V, hV⟩ : ∃ V, V = w1.alloc (.cells #[.int .i64 (n : Int), .slice (some ⟨ga, 0, none⟩) m m] 24) := ⟨_, rfl⟩
  have hbV : Below w1.heap.size w1 V := by rw [hV]; exact (Below.refl _ w1).alloc (Nat.le_refl _) _
  have hBV : Blk V w1.heap.size 24 #[.int .i64 (n : Int), .slice (some ⟨ga, 0, none⟩) m m] := by rw [hV]; exact heap_new w1 _
  have hOV := ho.below hbV (Nat.le_refl _)
  have hb0V : Below W0.heap.size W0 V := hb1.trans (hbV.mono hb1.size)
  obtain ⟨g, hg⟩ : ∃ g, g = w1.heap.size := ⟨_, rfl⟩
  have HV := Lib.hid hV
  have Hg := Lib.hid hg
  rw [← hg] at hBV hga1
  have HO := Lib.hid hOV
  have HB := Lib.hid hBV
  have HbV := Lib.hid hb0V
  have hgW : g < V.heap.size := hBV.lt
  have hW0s : W0.heap.size ≤ g := by rw [hg]; exact hb1.size
  clear ho hb1 hbV hBV hOV hb0V hV hg C
  go_upto_region 2 with fail
  rw [← HV.out, ← Hg.out]
  go_wp2_with fail
  go_loopw [4] (fun p wr => ∃ k : Nat, p = .int .i64 (k : Int) ∧ k ≤ n ∧ Own wr W0.heap.size (.slice (some ⟨ga, 0, none⟩) m m) (madeN l m k) ∧ Blk wr g 24 #[.int .i64 (n : Int), .slice (some ⟨ga, 0, none⟩) m m] ∧ Below W0.heap.size W0 wr) (fun p _ => n - (intOf p).toNat)
  case atStart => exact ⟨0, rfl, Nat.zero_le _, HO.out, HB.out, HbV.out⟩
  case round =>
    obtain ⟨k, rfl, hk, hOr, hBr, hbr⟩ := hrel
    have HOr := Lib.hid hOr
    have HBr := Lib.hid hBr
    have Hbr := Lib.hid hbr
    have hRL := HR.out.below hbr (Nat.le_refl _)
    clear hOr hBr hbr HO HB HbV
    by_cases hlt : k < n
    · have hki : (k : Int) < (n : Int) := by omega
      obtain ⟨b, off, rfl, hcell⟩ := hRL.hr (by omega)
      have hck := hcell k hlt
      obtain ⟨B, hBt⟩ : ∃ B, B = l.getD k false := ⟨_, rfl⟩
      rw [← hBt] at hck
      have hnext : madeN l m (k + 1) = if B then (madeN l m k).set (k / 8) ((madeN l m k).getD (k / 8) 0 + ((2 ^ (k % 8) : Nat) : Int)) else madeN l m k := by rw [hBt]; rfl
      have hspec := madeN_spec l m k (by omega)
      have hlen := madeN_len l m k
      cases B with
      | false =>
        rw [if_neg (by simp)] at hnext
        have HOn := Lib.hid HOr.out
        rw [← hnext] at HOn
        clear hcell hRL hBt hnext hspec hlen HOr
        go_wp2_with fail
        go_roundw
        case rel => exact ⟨k + 1, by go_num, by omega, HOn.out, HBr.out, Hbr.out⟩
        case measure => simp only [intOf]; omega
      | true =>
        rw [if_pos rfl] at hnext
        obtain ⟨J, hJ⟩ : ∃ J, J = k / 8 := ⟨_, rfl⟩
        obtain ⟨T, hT⟩ : ∃ T, T = k % 8 := ⟨_, rfl⟩
        have hJm : J < m := by omega
        have hX0 := hspec.1 _ (getD_mem (bs := madeN l m k) (i := J) (by omega))
        have hbit : ((madeN l m k).getD J 0).toNat.testBit T = false := by
          have := hspec.2 k (by omega)
          rw [show decide (k < k) = false by simp, Bool.false_and] at this
          rw [hJ, hT]
          exact this
        obtain ⟨X, hX⟩ : ∃ X, X = (madeN l m k).getD J 0 := ⟨_, rfl⟩
        rw [← hJ, ← hT, ← hX] at hnext
        rw [← hX] at hX0 hbit
        have hadd := (add_power X.toNat (by omega) T (by omega) hbit).1
        obtain ⟨P0, hP0⟩ : ∃ P0, P0 = 2 ^ T := ⟨_, rfl⟩
        have CP := fun W => power_any T (by omega) W
        rw [← hP0] at hnext hadd CP
        have hcellJ : wr.cell? ⟨ga, J, none⟩ = some (.int .u8 X) := by
          have h1 := HOr.out.1
          rw [hlen] at h1
          rw [h1.cellAt J (by omega), List.getElem?_map, List.getElem?_eq_getElem (by omega), hX]
          simp [List.getD, show J < (madeN l m k).length by omega]
        have hfroJ : wr.frozen? ⟨ga, J, none⟩ = false := by
          have h1 := HOr.out.1
          rw [hlen] at h1
          exact h1.frozenAt J
        obtain ⟨Y, hY⟩ : ∃ Y : Int, X + (P0 : Int) = Y := ⟨_, rfl⟩
        have hY2 : 0 ≤ Y ∧ Y ≤ 255 := by omega
        have hYw : IntKind.u8.wrap Y = Y := IntWalk.u8_in _ (by omega)
        rw [hY] at hnext
        have hst := HOr.out.stored (by rw [hlen]) J Y hY2
        rw [← hnext] at hst
        have e8 : (k : Int) / 8 = (J : Int) := by omega
        have e7 : (k : Int).tdiv 8 = (J : Int) := by rw [Int.tdiv_eq_ediv_of_nonneg (by omega)]; exact e8
        have e9 : (k : Int).tmod 8 = (T : Int) := by rw [hT]; rfl
        have wJ : IntKind.i64.wrap (J : Int) = (J : Int) := IntWalk.i64_in _ (by omega)
        have wT : IntKind.i64.wrap (T : Int) = (T : Int) := IntWalk.i64_in _ (by omega)
        have hJi : (J : Int) < (m : Int) := by omega
        have hgga : g ≠ ga := by omega
        have HCP := Lib.hid CP
        have Hst := Lib.hid hst
        have cJ : wr.drew.cell? ⟨ga, J, none⟩ = some (.int .u8 X) := hcellJ
        have fJ : wr.drew.frozen? ⟨ga, J, none⟩ = false := hfroJ
        clear hcell hRL hBt hnext hspec hlen HOr hX hbit hadd hP0 CP hcellJ hfroJ hst hJ hT
        go_upto_region 6 with fail
        clear hck
        refine wp_region_held_drew (S := But ga wr) (by kernel_rfl) (But.refl _ _).drew (fun _ => ?_)
        have HS : Hid (But ga wr wr.drew) := Lib.hid (But.refl _ _).drew
        refine wpAnyH_take (i := 0) (v := .pointer (some ⟨g, 1, none⟩)) rfl (by kernel_rfl) (by kernel_rfl) (by kernel_rfl) (fun _ _ _ h => h) (Or.inl ⟨by rfl, ?_⟩) HS.out ?_
        · intro u hu; go_simp
        go_simp
        refine wpAnyH_take (i := 1) (v := .slice (some ⟨ga, 0, none⟩) m m) rfl (by kernel_rfl) (by kernel_rfl) (by kernel_rfl) (fun _ _ _ h => h) (Or.inl ⟨by rfl, ?_⟩) HS.out ?_
        · intro u hu; have : u.cell? ⟨g, 1, none⟩ = some (.slice (some ⟨ga, 0, none⟩) m m) := (hu.blk HBr.out hgga).cell 1; go_simp
        go_simp
        refine wpAnyH_take (i := 2) (v := .int .i64 (k : Int)) rfl (by kernel_rfl) (by kernel_rfl) (by kernel_rfl) (fun _ _ _ h => h) (Or.inl ⟨by rfl, ?_⟩) HS.out ?_
        · intro u hu; go_simp
        go_simp
        refine wpAnyH_take (i := 3) (v := .int .i64 (J : Int)) rfl (by kernel_rfl) (by kernel_rfl) (by kernel_rfl) (fun _ _ _ h => h) (Or.inl ⟨by rfl, ?_⟩) HS.out ?_
        · intro u hu; go_simp
        go_simp
        refine wpAnyH_take (i := 4) (v := .pointer (some ⟨g, 1, none⟩)) rfl (by kernel_rfl) (by kernel_rfl) (by kernel_rfl) (fun _ _ _ h => h) (Or.inl ⟨by rfl, ?_⟩) HS.out ?_
        · intro u hu; go_simp
        go_simp
        refine wpAnyH_take (i := 5) (v := .slice (some ⟨ga, 0, none⟩) m m) rfl (by kernel_rfl) (by kernel_rfl) (by kernel_rfl) (fun _ _ _ h => h) (Or.inl ⟨by rfl, ?_⟩) HS.out ?_
        · intro u hu; have : u.cell? ⟨g, 1, none⟩ = some (.slice (some ⟨ga, 0, none⟩) m m) := (hu.blk HBr.out hgga).cell 1; go_simp
        go_simp
        refine wpAnyH_take (i := 6) (v := .int .i64 (k : Int)) rfl (by kernel_rfl) (by kernel_rfl) (by kernel_rfl) (fun _ _ _ h => h) (Or.inl ⟨by rfl, ?_⟩) HS.out ?_
        · intro u hu; go_simp
        go_simp
        refine wpAnyH_take (i := 7) (v := .int .i64 (J : Int)) rfl (by kernel_rfl) (by kernel_rfl) (by kernel_rfl) (fun _ _ _ h => h) (Or.inl ⟨by rfl, ?_⟩) HS.out ?_
        · intro u hu; go_simp
        go_simp
        refine wpAnyH_take (i := 8) (v := .pointer (some ⟨ga, J, none⟩)) rfl (by kernel_rfl) (by kernel_rfl) (by kernel_rfl) (fun _ _ _ h => h) (Or.inl ⟨by rfl, ?_⟩) HS.out ?_
        · intro u hu; go_simp
        go_simp
        refine wpAnyH_take (i := 10) (v := .int .i64 (k : Int)) rfl (by kernel_rfl) (by kernel_rfl) (by kernel_rfl) (fun _ _ _ h => h) (Or.inl ⟨by rfl, ?_⟩) HS.out ?_
        · intro u hu; go_simp
        go_simp
        refine wpAnyH_take (i := 11) (v := .int .i64 (T : Int)) rfl (by kernel_rfl) (by kernel_rfl) (by kernel_rfl) (fun _ _ _ h => h) (Or.inl ⟨by rfl, ?_⟩) HS.out ?_
        · intro u hu; go_simp
        go_simp
        refine wpAnyH_ready (rs := [9, 12]) (by kernel_rfl) (by simp) ?_
        refine AllReadyH.cons rfl (fun K hK => ?_) (AllReadyH.cons rfl (fun K hK => ?_) AllReadyH.nil)
        · go_simp
          refine hK.out _ _ HS.out (fun _ => ?_)
          clear hK K
          refine wpAnyH_ready (rs := [12]) (by kernel_rfl) (by simp) ?_
          refine AllReadyH.cons rfl (fun K hK => ?_) AllReadyH.nil
          go_simp
          refine (HCP.out wr.drew).mono ?_
          rintro e u ⟨rfl, rfl⟩
          refine hK.out _ _ HS.out (fun _ => ?_)
          clear hK K
          refine wpAnyH_take (i := 13) (v := .int .u8 Y) rfl (by kernel_rfl) (by kernel_rfl) (by kernel_rfl) (fun _ _ _ h => h) (Or.inl ⟨by rfl, ?_⟩) HS.out ?_
          · intro u hu; go_simp
          go_simp
          refine wpAnyH_take (i := 14) (v := .pointer (some ⟨ga, J, none⟩)) rfl (by kernel_rfl) (by kernel_rfl) (by kernel_rfl) (fun _ _ _ h => h) (Or.inl ⟨by rfl, ?_⟩) HS.out ?_
          · intro u hu; go_simp
          go_simp
          refine wpAnyH_ready (rs := [15]) (by kernel_rfl) (by simp) ?_
          refine AllReadyH.cons rfl (fun K hK => ?_) AllReadyH.nil
          go_simp
          have HS2 : Hid (But ga wr (wr.drew.setCell ⟨ga, J, none⟩ (.int .u8 Y))) := Lib.hid (HS.out.setCell J (.int .u8 Y))
          refine hK.out _ _ HS2.out (fun _ => ?_)
          clear hK K
          refine wpAnyH_done (by kernel_rfl) ?_ _
          have HOn : Hid (Own (wr.drew.setCell ⟨ga, J, none⟩ (.int .u8 Y)) W0.heap.size (.slice (some ⟨ga, 0, none⟩) m m) (madeN l m (k + 1))) := Lib.hid Hst.out
          have HBn := Lib.hid (HS2.out.blk HBr.out hgga)
          have Hbn := Lib.hid (Hbr.out.trans (HS2.out.below.mono hga0))
          clear HS HS2 Hst HBr Hbr cJ fJ
          go_wp2_with fail
          go_roundw
          case rel => exact ⟨k + 1, by go_num, by omega, HOn.out, HBn.out, Hbn.out⟩
          case measure => simp only [intOf]; omega
        · go_simp
          refine (HCP.out wr.drew).mono ?_
          rintro e u ⟨rfl, rfl⟩
          refine hK.out _ _ HS.out (fun _ => ?_)
          clear hK K
          refine wpAnyH_ready (rs := [9]) (by kernel_rfl) (by simp) ?_
          refine AllReadyH.cons rfl (fun K hK => ?_) AllReadyH.nil
          go_simp
          refine hK.out _ _ HS.out (fun _ => ?_)
          clear hK K
          refine wpAnyH_take (i := 13) (v := .int .u8 Y) rfl (by kernel_rfl) (by kernel_rfl) (by kernel_rfl) (fun _ _ _ h => h) (Or.inl ⟨by rfl, ?_⟩) HS.out ?_
          · intro u hu; go_simp
          go_simp
          refine wpAnyH_take (i := 14) (v := .pointer (some ⟨ga, J, none⟩)) rfl (by kernel_rfl) (by kernel_rfl) (by kernel_rfl) (fun _ _ _ h => h) (Or.inl ⟨by rfl, ?_⟩) HS.out ?_
          · intro u hu; go_simp
          go_simp
          refine wpAnyH_ready (rs := [15]) (by kernel_rfl) (by simp) ?_
          refine AllReadyH.cons rfl (fun K hK => ?_) AllReadyH.nil
          go_simp
          have HS2 : Hid (But ga wr (wr.drew.setCell ⟨ga, J, none⟩ (.int .u8 Y))) := Lib.hid (HS.out.setCell J (.int .u8 Y))
          refine hK.out _ _ HS2.out (fun _ => ?_)
          clear hK K
          refine wpAnyH_done (by kernel_rfl) ?_ _
          have HOn : Hid (Own (wr.drew.setCell ⟨ga, J, none⟩ (.int .u8 Y)) W0.heap.size (.slice (some ⟨ga, 0, none⟩) m m) (madeN l m (k + 1))) := Lib.hid Hst.out
          have HBn := Lib.hid (HS2.out.blk HBr.out hgga)
          have Hbn := Lib.hid (Hbr.out.trans (HS2.out.below.mono hga0))
          clear HS HS2 Hst HBr Hbr cJ fJ
          go_wp2_with fail
          go_roundw
          case rel => exact ⟨k + 1, by go_num, by omega, HOn.out, HBn.out, Hbn.out⟩
          case measure => simp only [intOf]; omega
    · obtain rfl : k = n := by omega
      have z0 : wr.cell? ⟨g, 0, none⟩ = some (.int .i64 (k : Int)) := HBr.out.cell 0
      have z1 : wr.cell? ⟨g, 1, none⟩ = some (.slice (some ⟨ga, 0, none⟩) m m) := HBr.out.cell 1
      have HRr : Hid (Blk wr r 24 #[.int .i64 0, .slice none 0 0]) := Lib.hid (HB0.out.below Hbr.out hrW)
      have f0 := HRr.out.frozen 0
      have f1 := HRr.out.frozen 1
      have k0 : wr.cell? ⟨r, 0, none⟩ = some (.int .i64 0) := HRr.out.cell 0
      have k1 : wr.cell? ⟨r, 1, none⟩ = some (.slice none 0 0) := HRr.out.cell 1
      clear hRL
      go_wp2_with fail
      rw [cells2 HRr.out]
      obtain ⟨V2, hV, rV, bV, sV, oV⟩ := filled HRr.out #[.int .i64 (k : Int), .slice (some ⟨ga, 0, none⟩) m m]
      rw [hV]
      clear f0 f1 k0 k1 z0 z1
      have z0 : V2.cell? ⟨r, 0, none⟩ = some (.int .i64 (k : Int)) := (show Blk V2 _ 24 _ from rV).cell 0
      have z1 : V2.cell? ⟨r, 1, none⟩ = some (.slice (some ⟨ga, 0, none⟩) m m) := (show Blk V2 _ 24 _ from rV).cell 1
      have hrw : w.heap.size = r := H1.out
      have HZ : Hid (Own V2 w.heap.size (.slice (some ⟨ga, 0, none⟩) m m) (madeN l m k) ∧ Below w.heap.size w V2) := Lib.hid ⟨(HOr.out.other oV (by omega)).mono Hb.out.size, (Hb.out.trans (Hbr.out.mono Hb.out.size)).trans (hrw ▸ bV)⟩
      clear HRr rV bV sV oV hV HOr HBr Hbr
      simp [bodyPost, results, Tryd.results57, go_sem, z0, z1]
      exact ⟨_, _, _, ⟨rfl, rfl, rfl⟩, HZ.out.1, HZ.out.2⟩
end Go.Proofs.YthognmkjoekilaaDoor

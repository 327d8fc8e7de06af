/- The reference's Join. -/
import Derived.Test.YthognmkjoekilaaDoorBis
namespace Go.Proofs.YthognmkjoekilaaDoor
set_option linter.unusedVariables false
open Go.RowKit Go.Shelf

theorem OwnL.other {w W : World} {B g : Nat} {v : Value} {n : Nat} {l : List Bool} (h : OwnL w B v n l) (hk : ∀ k, k ≠ g → W.heap[k]? = w.heap[k]?) (hg : g < B) : OwnL W B v n l := by
  refine ⟨⟨h.1.1, ?_⟩, h.2⟩
  rcases h.1.2 with hn | ⟨g', cap, cur, rfl, hg0, hgg, rest⟩
  · exact .inl hn
  · exact .inr ⟨g', cap, cur, rfl, hg0, (hk g' (by omega)).trans hgg, rest⟩
theorem OwnL.block {w : World} {B n cap : Nat} {va : Option Addr} {l : List Bool} (h : OwnL w B (.slice va n cap) n l) : ∀ x, va = some x → x.block < w.heap.size := by
  intro x hx
  rcases h.1.2 with ⟨hv, h0⟩ | ⟨g, cap', cur, hv, hg0, hg, -⟩
  · injection hv with h1 h2 h3
    rw [hx] at h1; cases h1
  · injection hv with h1 h2 h3
    rw [hx] at h1
    injection h1 with h1
    subst h1
    exact (Array.getElem?_eq_some_iff.1 hg).1
set_option maxRecDepth 100000 in
set_option maxHeartbeats 4000000 in
theorem rjoin1_is (M : Nat) (a b : Option Addr) (l c l2 c2 : Nat) (xs ys : List Int) (w : World) (hx : Rd w a l c xs) (hy : Rd w b l2 c2 ys) (hv : Vb M xs) (hv2 : Vb M ys) :
    Calls Tryd.prog 35 #[.int .i64 1, .agg #[.int .i64 (M : Int), .slice a l c], .agg #[.int .i64 (M : Int), .slice b l2 c2]] w fun e' w' => ∃ a' l' c' X, e' = .returned (.agg #[.int .i64 (M : Int), .slice a' l' c']) ∧ Rd w' a' l' c' X ∧ Is M X (fun j => bitV xs j && !bitV ys j) ∧ Below w.heap.size w w' := by
  have hM := hv.le
  have hlen := hv.len
  have hlen2 := hv2.len
  have hrl := hx.hl
  have hrl2 := hy.hl
  obtain ⟨gf, hgf⟩ : ∃ gf : Nat → Bool, gf = fun j => bitV xs j && !bitV ys j := ⟨_, rfl⟩
  have hstart : mixL M (bitV xs) gf 0 = listV xs M := mixL_start M xs gf 0 (fun j hj => by omega)
  have hend : Is M (madeV (mixL M (bitV xs) gf M)) (fun j => bitV xs j && !bitV ys j) := (made_is (mixL_len M _ _ _) hM).as (fun j hj => by rw [mixL_at M _ _ _ j hj, hgf, if_pos hj])
  obtain ⟨W, hW, hB0, hB1, hB2, hb, hs⟩ := and_boxes (M : Int) (M : Int) a b l c l2 c2 w
  have CX := Lib.hid (list_any M a l c xs W (hx.below hb (Nat.le_refl _)) hM (by omega))
  have CY := Lib.hid (fun u (hu : Below W.heap.size W u) => list_any M b l2 c2 ys u ((hy.below hb (Nat.le_refl _)).below hu (Nat.le_refl _)) hM (by omega))
  have HB1 := Lib.hid hB1
  have HRes := Lib.hid hB2
  have HW := Lib.hid hW
  have Hb := Lib.hid hb
  have Hgf := Lib.hid hgf
  have Hst := Lib.hid hstart
  have Hend := Lib.hid hend
  have q0 : W.cell? ⟨w.heap.size, 0, none⟩ = some (.int .i64 (M : Int)) := hB0.cell 0
  have q1 : W.cell? ⟨w.heap.size, 1, none⟩ = some (.slice a l c) := hB0.cell 1
  obtain ⟨r, hr⟩ : ∃ r, r = w.heap.size + 2 := ⟨_, rfl⟩
  have Hr := Lib.hid hr
  rw [← hr] at HRes
  have hwr : w.heap.size ≤ r := by omega
  have hlt1 := hB1.lt
  clear hx hy hv hv2 hB0 hB1 hB2 hb hW hgf hstart hend hlen hlen2 hrl hrl2 hr hs
  go_enter Tryd.func35, Tryd.ntmps35
  go_upto_region 1 with fail
  rw [HW.out, ← Hr.out]
  go_wp2_with fail
  refine CX.out.mono ?_
  rintro e w1 ⟨va, vc, rfl, ho, hb1⟩
  rw [← Hst.out] at ho
  have hblk := ho.block
  have HO := Lib.hid ho
  have Hb1 := Lib.hid hb1
  have CY1 := Lib.hid (CY.out w1 hb1)
  have HB1' := HB1.out.below hb1 HB1.out.lt
  clear q0 q1 CX CY
  have q0 : w1.cell? ⟨w.heap.size + 1, 0, none⟩ = some (.int .i64 (M : Int)) := HB1'.cell 0
  have q1 : w1.cell? ⟨w.heap.size + 1, 1, none⟩ = some (.slice b l2 c2) := HB1'.cell 1
  have hs1 := hb1.size
  clear ho hb1 HB1' HB1
  go_wp2_with fail
  refine CY1.out.mono ?_
  rintro e w2 ⟨vb, vd, rfl, ho2, hb2⟩
  have HOx := Lib.hid (HO.out.below hb2 (Nat.le_refl _))
  have HOy := Lib.hid ho2
  have Hb2 := Lib.hid (Hb1.out.trans (hb2.mono hs1))
  clear HO Hb1 CY1 q0 q1 ho2 hb2
  go_wp2_with fail
  go_loopw [9] (fun p wr => ∃ k : Nat, p = .int .i64 (k : Int) ∧ k ≤ M ∧ OwnL wr W.heap.size (.slice va M vc) M (mixL M (bitV xs) gf k) ∧ OwnL wr w1.heap.size (.slice vb M vd) M (listV ys M) ∧ Below W.heap.size W wr) (fun p _ => M - (intOf p).toNat)
  case atStart => exact ⟨0, rfl, Nat.zero_le _, HOx.out, HOy.out, Hb2.out⟩
  case round =>
    obtain ⟨k, rfl, hk, hOx, hOy, hbr⟩ := hrel
    have HX := Lib.hid hOx
    have HY := Lib.hid hOy
    have Hbr := Lib.hid hbr
    clear HOx HOy Hb2
    by_cases hlt : k < M
    · obtain ⟨ga, rfl, hga, hc0, hf0⟩ := hOx.cell k hlt
      obtain ⟨gb, rfl, hgb, hd0, hf1⟩ := hOy.cell k hlt
      have hkM : (k : Int) < (M : Int) := by omega
      have hnext := mixL_next M (bitV xs) gf k hlt
      rw [mixL_at M _ _ _ k hlt, if_neg (by omega)] at hc0
      rw [listV_at ys M k hlt] at hd0
      have hgk : gf k = (bitV xs k && !bitV ys k) := by rw [Hgf.out]
      rw [hgk] at hnext
      have hga1 : ga < w1.heap.size := hblk _ rfl
      have hst := HX.out.stored k (bitV xs k && !bitV ys k)
      rw [← hnext] at hst
      have HXn := Lib.hid hst
      have HYn := Lib.hid (HY.out.other (W := wr.setCell ⟨ga, k, none⟩ (.bool (bitV xs k && !bitV ys k))) (fun i hi => Below.heap_setCell _ _ _ i hi) hga1)
      have Hbn := Lib.hid (Hbr.out.setCell (p := ⟨ga, k, none⟩) hga (.bool (bitV xs k && !bitV ys k)))
      obtain ⟨B1, hB1⟩ : ∃ B1, B1 = bitV xs k := ⟨_, rfl⟩
      obtain ⟨B2, hB2⟩ : ∃ B2, B2 = bitV ys k := ⟨_, rfl⟩
      rw [← hB1] at hc0 HXn HYn Hbn
      rw [← hB2] at hd0 HXn HYn Hbn
      clear hOx hOy hbr HX HY Hbr hnext hst hgk hB1 hB2 hf1
      cases B1 <;> cases B2 <;> (
        go_wp2_with fail
        go_roundw
        case rel => exact ⟨k + 1, by go_num, by omega, HXn.out, HYn.out, Hbn.out⟩
        case measure => simp only [intOf]; omega)
    · obtain rfl : M = k := by omega
      obtain ⟨-, hrl⟩ := hOx.rd
      have HRr : Hid (Blk wr r 24 #[.int .i64 0, .slice none 0 0]) := Lib.hid (HRes.out.below hbr HRes.out.lt)
      have CM := Lib.hid (made_any M va vc (mixL M (bitV xs) gf M) wr hrl hM)
      clear hOx hOy hbr hrl HX HY
      go_wp2_with fail
      refine CM.out.mono ?_
      rintro e u ⟨x1, x2, x3, rfl, ho, hbu⟩
      have HRu : Hid (Blk u r 24 #[.int .i64 0, .slice none 0 0]) := Lib.hid (HRr.out.below hbu HRr.out.lt)
      have HOu := Lib.hid ho
      have Hbu := Lib.hid (Hbr.out.trans (hbu.mono Hbr.out.size))
      have hrr := HRr.out.lt
      clear ho hbu HRr
      have f0 := HRu.out.frozen 0
      have f1 := HRu.out.frozen 1
      have k0 : u.cell? ⟨r, 0, none⟩ = some (.int .i64 0) := HRu.out.cell 0
      have k1 : u.cell? ⟨r, 1, none⟩ = some (.slice none 0 0) := HRu.out.cell 1
      go_wp2_with fail
      rw [cells2 HRu.out]
      obtain ⟨V2, hV, rV, bV, sV, oV⟩ := filled HRu.out #[.int .i64 (M : Int), .slice x1 x2 x3]
      rw [hV]
      clear f0 f1 k0 k1
      have z0 : V2.cell? ⟨r, 0, none⟩ = some (.int .i64 (M : Int)) := (show Blk V2 _ 24 _ from rV).cell 0
      have z1 : V2.cell? ⟨r, 1, none⟩ = some (.slice x1 x2 x3) := (show Blk V2 _ 24 _ from rV).cell 1
      have HZ : Hid (Rd V2 x1 x2 x3 (madeV (mixL M (bitV xs) gf M)) ∧ Below w.heap.size w V2) := Lib.hid ⟨own_read (HOu.out.other oV hrr), (Hb.out.trans (Hbu.out.mono Hb.out.size)).trans (bV.mono hwr)⟩
      clear HRu rV bV sV oV hV HOu Hbu
      simp [bodyPost, results, Tryd.results35, go_sem, z0, z1]
      exact ⟨_, _, _, ⟨rfl, rfl, rfl⟩, _, HZ.out.1, Hend.out, HZ.out.2⟩
set_option maxRecDepth 100000 in
set_option maxHeartbeats 4000000 in
theorem rjoin2_is (M : Nat) (a b : Option Addr) (l c l2 c2 : Nat) (xs ys : List Int) (w : World) (hx : Rd w a l c xs) (hy : Rd w b l2 c2 ys) (hv : Vb M xs) (hv2 : Vb M ys) :
    Calls Tryd.prog 35 #[.int .i64 2, .agg #[.int .i64 (M : Int), .slice a l c], .agg #[.int .i64 (M : Int), .slice b l2 c2]] w fun e' w' => ∃ a' l' c' X, e' = .returned (.agg #[.int .i64 (M : Int), .slice a' l' c']) ∧ Rd w' a' l' c' X ∧ Is M X (fun j => bitV xs j && bitV ys j) ∧ Below w.heap.size w w' := by
  have hM := hv.le
  have hlen := hv.len
  have hlen2 := hv2.len
  have hrl := hx.hl
  have hrl2 := hy.hl
  obtain ⟨gf, hgf⟩ : ∃ gf : Nat → Bool, gf = fun j => bitV xs j && bitV ys j := ⟨_, rfl⟩
  have hstart : mixL M (bitV xs) gf 0 = listV xs M := mixL_start M xs gf 0 (fun j hj => by omega)
  have hend : Is M (madeV (mixL M (bitV xs) gf M)) (fun j => bitV xs j && bitV ys j) := (made_is (mixL_len M _ _ _) hM).as (fun j hj => by rw [mixL_at M _ _ _ j hj, hgf, if_pos hj])
  obtain ⟨W, hW, hB0, hB1, hB2, hb, hs⟩ := and_boxes (M : Int) (M : Int) a b l c l2 c2 w
  have CX := Lib.hid (list_any M a l c xs W (hx.below hb (Nat.le_refl _)) hM (by omega))
  have CY := Lib.hid (fun u (hu : Below W.heap.size W u) => list_any M b l2 c2 ys u ((hy.below hb (Nat.le_refl _)).below hu (Nat.le_refl _)) hM (by omega))
  have HB1 := Lib.hid hB1
  have HRes := Lib.hid hB2
  have HW := Lib.hid hW
  have Hb := Lib.hid hb
  have Hgf := Lib.hid hgf
  have Hst := Lib.hid hstart
  have Hend := Lib.hid hend
  have q0 : W.cell? ⟨w.heap.size, 0, none⟩ = some (.int .i64 (M : Int)) := hB0.cell 0
  have q1 : W.cell? ⟨w.heap.size, 1, none⟩ = some (.slice a l c) := hB0.cell 1
  obtain ⟨r, hr⟩ : ∃ r, r = w.heap.size + 2 := ⟨_, rfl⟩
  have Hr := Lib.hid hr
  rw [← hr] at HRes
  have hwr : w.heap.size ≤ r := by omega
  have hlt1 := hB1.lt
  clear hx hy hv hv2 hB0 hB1 hB2 hb hW hgf hstart hend hlen hlen2 hrl hrl2 hr hs
  go_enter Tryd.func35, Tryd.ntmps35
  go_upto_region 1 with fail
  rw [HW.out, ← Hr.out]
  go_wp2_with fail
  refine CX.out.mono ?_
  rintro e w1 ⟨va, vc, rfl, ho, hb1⟩
  rw [← Hst.out] at ho
  have hblk := ho.block
  have HO := Lib.hid ho
  have Hb1 := Lib.hid hb1
  have CY1 := Lib.hid (CY.out w1 hb1)
  have HB1' := HB1.out.below hb1 HB1.out.lt
  clear q0 q1 CX CY
  have q0 : w1.cell? ⟨w.heap.size + 1, 0, none⟩ = some (.int .i64 (M : Int)) := HB1'.cell 0
  have q1 : w1.cell? ⟨w.heap.size + 1, 1, none⟩ = some (.slice b l2 c2) := HB1'.cell 1
  have hs1 := hb1.size
  clear ho hb1 HB1' HB1
  go_wp2_with fail
  refine CY1.out.mono ?_
  rintro e w2 ⟨vb, vd, rfl, ho2, hb2⟩
  have HOx := Lib.hid (HO.out.below hb2 (Nat.le_refl _))
  have HOy := Lib.hid ho2
  have Hb2 := Lib.hid (Hb1.out.trans (hb2.mono hs1))
  clear HO Hb1 CY1 q0 q1 ho2 hb2
  go_wp2_with fail
  go_loopw [9] (fun p wr => ∃ k : Nat, p = .int .i64 (k : Int) ∧ k ≤ M ∧ OwnL wr W.heap.size (.slice va M vc) M (mixL M (bitV xs) gf k) ∧ OwnL wr w1.heap.size (.slice vb M vd) M (listV ys M) ∧ Below W.heap.size W wr) (fun p _ => M - (intOf p).toNat)
  case atStart => exact ⟨0, rfl, Nat.zero_le _, HOx.out, HOy.out, Hb2.out⟩
  case round =>
    obtain ⟨k, rfl, hk, hOx, hOy, hbr⟩ := hrel
    have HX := Lib.hid hOx
    have HY := Lib.hid hOy
    have Hbr := Lib.hid hbr
    clear HOx HOy Hb2
    by_cases hlt : k < M
    · obtain ⟨ga, rfl, hga, hc0, hf0⟩ := hOx.cell k hlt
      obtain ⟨gb, rfl, hgb, hd0, hf1⟩ := hOy.cell k hlt
      have hkM : (k : Int) < (M : Int) := by omega
      have hnext := mixL_next M (bitV xs) gf k hlt
      rw [mixL_at M _ _ _ k hlt, if_neg (by omega)] at hc0
      rw [listV_at ys M k hlt] at hd0
      have hgk : gf k = (bitV xs k && bitV ys k) := by rw [Hgf.out]
      rw [hgk] at hnext
      have hga1 : ga < w1.heap.size := hblk _ rfl
      have hst := HX.out.stored k (bitV xs k && bitV ys k)
      rw [← hnext] at hst
      have HXn := Lib.hid hst
      have HYn := Lib.hid (HY.out.other (W := wr.setCell ⟨ga, k, none⟩ (.bool (bitV xs k && bitV ys k))) (fun i hi => Below.heap_setCell _ _ _ i hi) hga1)
      have Hbn := Lib.hid (Hbr.out.setCell (p := ⟨ga, k, none⟩) hga (.bool (bitV xs k && bitV ys k)))
      obtain ⟨B1, hB1⟩ : ∃ B1, B1 = bitV xs k := ⟨_, rfl⟩
      obtain ⟨B2, hB2⟩ : ∃ B2, B2 = bitV ys k := ⟨_, rfl⟩
      rw [← hB1] at hc0 HXn HYn Hbn
      rw [← hB2] at hd0 HXn HYn Hbn
      clear hOx hOy hbr HX HY Hbr hnext hst hgk hB1 hB2 hf1
      cases B1 <;> cases B2 <;> (
        go_wp2_with fail
        go_roundw
        case rel => exact ⟨k + 1, by go_num, by omega, HXn.out, HYn.out, Hbn.out⟩
        case measure => simp only [intOf]; omega)
    · obtain rfl : M = k := by omega
      obtain ⟨-, hrl⟩ := hOx.rd
      have HRr : Hid (Blk wr r 24 #[.int .i64 0, .slice none 0 0]) := Lib.hid (HRes.out.below hbr HRes.out.lt)
      have CM := Lib.hid (made_any M va vc (mixL M (bitV xs) gf M) wr hrl hM)
      clear hOx hOy hbr hrl HX HY
      go_wp2_with fail
      refine CM.out.mono ?_
      rintro e u ⟨x1, x2, x3, rfl, ho, hbu⟩
      have HRu : Hid (Blk u r 24 #[.int .i64 0, .slice none 0 0]) := Lib.hid (HRr.out.below hbu HRr.out.lt)
      have HOu := Lib.hid ho
      have Hbu := Lib.hid (Hbr.out.trans (hbu.mono Hbr.out.size))
      have hrr := HRr.out.lt
      clear ho hbu HRr
      have f0 := HRu.out.frozen 0
      have f1 := HRu.out.frozen 1
      have k0 : u.cell? ⟨r, 0, none⟩ = some (.int .i64 0) := HRu.out.cell 0
      have k1 : u.cell? ⟨r, 1, none⟩ = some (.slice none 0 0) := HRu.out.cell 1
      go_wp2_with fail
      rw [cells2 HRu.out]
      obtain ⟨V2, hV, rV, bV, sV, oV⟩ := filled HRu.out #[.int .i64 (M : Int), .slice x1 x2 x3]
      rw [hV]
      clear f0 f1 k0 k1
      have z0 : V2.cell? ⟨r, 0, none⟩ = some (.int .i64 (M : Int)) := (show Blk V2 _ 24 _ from rV).cell 0
      have z1 : V2.cell? ⟨r, 1, none⟩ = some (.slice x1 x2 x3) := (show Blk V2 _ 24 _ from rV).cell 1
      have HZ : Hid (Rd V2 x1 x2 x3 (madeV (mixL M (bitV xs) gf M)) ∧ Below w.heap.size w V2) := Lib.hid ⟨own_read (HOu.out.other oV hrr), (Hb.out.trans (Hbu.out.mono Hb.out.size)).trans (bV.mono hwr)⟩
      clear HRu rV bV sV oV hV HOu Hbu
      simp [bodyPost, results, Tryd.results35, go_sem, z0, z1]
      exact ⟨_, _, _, ⟨rfl, rfl, rfl⟩, _, HZ.out.1, Hend.out, HZ.out.2⟩
set_option maxRecDepth 100000 in
set_option maxHeartbeats 4000000 in
theorem rjoin3_is (M : Nat) (a b : Option Addr) (l c l2 c2 : Nat) (xs ys : List Int) (w : World) (hx : Rd w a l c xs) (hy : Rd w b l2 c2 ys) (hv : Vb M xs) (hv2 : Vb M ys) :
    Calls Tryd.prog 35 #[.int .i64 3, .agg #[.int .i64 (M : Int), .slice a l c], .agg #[.int .i64 (M : Int), .slice b l2 c2]] w fun e' w' => ∃ a' l' c' X, e' = .returned (.agg #[.int .i64 (M : Int), .slice a' l' c']) ∧ Rd w' a' l' c' X ∧ Is M X (fun j => bitV xs j || bitV ys j) ∧ Below w.heap.size w w' := by
  have hM := hv.le
  have hlen := hv.len
  have hlen2 := hv2.len
  have hrl := hx.hl
  have hrl2 := hy.hl
  obtain ⟨gf, hgf⟩ : ∃ gf : Nat → Bool, gf = fun j => bitV xs j || bitV ys j := ⟨_, rfl⟩
  have hstart : mixL M (bitV xs) gf 0 = listV xs M := mixL_start M xs gf 0 (fun j hj => by omega)
  have hend : Is M (madeV (mixL M (bitV xs) gf M)) (fun j => bitV xs j || bitV ys j) := (made_is (mixL_len M _ _ _) hM).as (fun j hj => by rw [mixL_at M _ _ _ j hj, hgf, if_pos hj])
  obtain ⟨W, hW, hB0, hB1, hB2, hb, hs⟩ := and_boxes (M : Int) (M : Int) a b l c l2 c2 w
  have CX := Lib.hid (list_any M a l c xs W (hx.below hb (Nat.le_refl _)) hM (by omega))
  have CY := Lib.hid (fun u (hu : Below W.heap.size W u) => list_any M b l2 c2 ys u ((hy.below hb (Nat.le_refl _)).below hu (Nat.le_refl _)) hM (by omega))
  have HB1 := Lib.hid hB1
  have HRes := Lib.hid hB2
  have HW := Lib.hid hW
  have Hb := Lib.hid hb
  have Hgf := Lib.hid hgf
  have Hst := Lib.hid hstart
  have Hend := Lib.hid hend
  have q0 : W.cell? ⟨w.heap.size, 0, none⟩ = some (.int .i64 (M : Int)) := hB0.cell 0
  have q1 : W.cell? ⟨w.heap.size, 1, none⟩ = some (.slice a l c) := hB0.cell 1
  obtain ⟨r, hr⟩ : ∃ r, r = w.heap.size + 2 := ⟨_, rfl⟩
  have Hr := Lib.hid hr
  rw [← hr] at HRes
  have hwr : w.heap.size ≤ r := by omega
  have hlt1 := hB1.lt
  clear hx hy hv hv2 hB0 hB1 hB2 hb hW hgf hstart hend hlen hlen2 hrl hrl2 hr hs
  go_enter Tryd.func35, Tryd.ntmps35
  go_upto_region 1 with fail
  rw [HW.out, ← Hr.out]
  go_wp2_with fail
  refine CX.out.mono ?_
  rintro e w1 ⟨va, vc, rfl, ho, hb1⟩
  rw [← Hst.out] at ho
  have hblk := ho.block
  have HO := Lib.hid ho
  have Hb1 := Lib.hid hb1
  have CY1 := Lib.hid (CY.out w1 hb1)
  have HB1' := HB1.out.below hb1 HB1.out.lt
  clear q0 q1 CX CY
  have q0 : w1.cell? ⟨w.heap.size + 1, 0, none⟩ = some (.int .i64 (M : Int)) := HB1'.cell 0
  have q1 : w1.cell? ⟨w.heap.size + 1, 1, none⟩ = some (.slice b l2 c2) := HB1'.cell 1
  have hs1 := hb1.size
  clear ho hb1 HB1' HB1
  go_wp2_with fail
  refine CY1.out.mono ?_
  rintro e w2 ⟨vb, vd, rfl, ho2, hb2⟩
  have HOx := Lib.hid (HO.out.below hb2 (Nat.le_refl _))
  have HOy := Lib.hid ho2
  have Hb2 := Lib.hid (Hb1.out.trans (hb2.mono hs1))
  clear HO Hb1 CY1 q0 q1 ho2 hb2
  go_wp2_with fail
  go_loopw [9] (fun p wr => ∃ k : Nat, p = .int .i64 (k : Int) ∧ k ≤ M ∧ OwnL wr W.heap.size (.slice va M vc) M (mixL M (bitV xs) gf k) ∧ OwnL wr w1.heap.size (.slice vb M vd) M (listV ys M) ∧ Below W.heap.size W wr) (fun p _ => M - (intOf p).toNat)
  case atStart => exact ⟨0, rfl, Nat.zero_le _, HOx.out, HOy.out, Hb2.out⟩
  case round =>
    obtain ⟨k, rfl, hk, hOx, hOy, hbr⟩ := hrel
    have HX := Lib.hid hOx
    have HY := Lib.hid hOy
    have Hbr := Lib.hid hbr
    clear HOx HOy Hb2
    by_cases hlt : k < M
    · obtain ⟨ga, rfl, hga, hc0, hf0⟩ := hOx.cell k hlt
      obtain ⟨gb, rfl, hgb, hd0, hf1⟩ := hOy.cell k hlt
      have hkM : (k : Int) < (M : Int) := by omega
      have hnext := mixL_next M (bitV xs) gf k hlt
      rw [mixL_at M _ _ _ k hlt, if_neg (by omega)] at hc0
      rw [listV_at ys M k hlt] at hd0
      have hgk : gf k = (bitV xs k || bitV ys k) := by rw [Hgf.out]
      rw [hgk] at hnext
      have hga1 : ga < w1.heap.size := hblk _ rfl
      have hst := HX.out.stored k (bitV xs k || bitV ys k)
      rw [← hnext] at hst
      have HXn := Lib.hid hst
      have HYn := Lib.hid (HY.out.other (W := wr.setCell ⟨ga, k, none⟩ (.bool (bitV xs k || bitV ys k))) (fun i hi => Below.heap_setCell _ _ _ i hi) hga1)
      have Hbn := Lib.hid (Hbr.out.setCell (p := ⟨ga, k, none⟩) hga (.bool (bitV xs k || bitV ys k)))
      obtain ⟨B1, hB1⟩ : ∃ B1, B1 = bitV xs k := ⟨_, rfl⟩
      obtain ⟨B2, hB2⟩ : ∃ B2, B2 = bitV ys k := ⟨_, rfl⟩
      rw [← hB1] at hc0 HXn HYn Hbn
      rw [← hB2] at hd0 HXn HYn Hbn
      clear hOx hOy hbr HX HY Hbr hnext hst hgk hB1 hB2 hf1
      cases B1 <;> cases B2 <;> (
        go_wp2_with fail
        go_roundw
        case rel => exact ⟨k + 1, by go_num, by omega, HXn.out, HYn.out, Hbn.out⟩
        case measure => simp only [intOf]; omega)
    · obtain rfl : M = k := by omega
      obtain ⟨-, hrl⟩ := hOx.rd
      have HRr : Hid (Blk wr r 24 #[.int .i64 0, .slice none 0 0]) := Lib.hid (HRes.out.below hbr HRes.out.lt)
      have CM := Lib.hid (made_any M va vc (mixL M (bitV xs) gf M) wr hrl hM)
      clear hOx hOy hbr hrl HX HY
      go_wp2_with fail
      refine CM.out.mono ?_
      rintro e u ⟨x1, x2, x3, rfl, ho, hbu⟩
      have HRu : Hid (Blk u r 24 #[.int .i64 0, .slice none 0 0]) := Lib.hid (HRr.out.below hbu HRr.out.lt)
      have HOu := Lib.hid ho
      have Hbu := Lib.hid (Hbr.out.trans (hbu.mono Hbr.out.size))
      have hrr := HRr.out.lt
      clear ho hbu HRr
      have f0 := HRu.out.frozen 0
      have f1 := HRu.out.frozen 1
      have k0 : u.cell? ⟨r, 0, none⟩ = some (.int .i64 0) := HRu.out.cell 0
      have k1 : u.cell? ⟨r, 1, none⟩ = some (.slice none 0 0) := HRu.out.cell 1
      go_wp2_with fail
      rw [cells2 HRu.out]
      obtain ⟨V2, hV, rV, bV, sV, oV⟩ := filled HRu.out #[.int .i64 (M : Int), .slice x1 x2 x3]
      rw [hV]
      clear f0 f1 k0 k1
      have z0 : V2.cell? ⟨r, 0, none⟩ = some (.int .i64 (M : Int)) := (show Blk V2 _ 24 _ from rV).cell 0
      have z1 : V2.cell? ⟨r, 1, none⟩ = some (.slice x1 x2 x3) := (show Blk V2 _ 24 _ from rV).cell 1
      have HZ : Hid (Rd V2 x1 x2 x3 (madeV (mixL M (bitV xs) gf M)) ∧ Below w.heap.size w V2) := Lib.hid ⟨own_read (HOu.out.other oV hrr), (Hb.out.trans (Hbu.out.mono Hb.out.size)).trans (bV.mono hwr)⟩
      clear HRu rV bV sV oV hV HOu Hbu
      simp [bodyPost, results, Tryd.results35, go_sem, z0, z1]
      exact ⟨_, _, _, ⟨rfl, rfl, rfl⟩, _, HZ.out.1, Hend.out, HZ.out.2⟩
end Go.Proofs.YthognmkjoekilaaDoor

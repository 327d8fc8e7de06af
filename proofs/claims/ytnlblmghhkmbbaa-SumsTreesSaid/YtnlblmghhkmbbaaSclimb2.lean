/- climb, where there is more than one leaf. -/
import Derived.Test.YtnlblmghhkmbbaaSclimb
import Derived.Test.YtnlblmghhkmbbaaSrev
namespace Go.Proofs.Ytnlblmghhkmbbaa
set_option linter.unusedVariables false
open Go.RowKit Go.Shelf

theorem last_of {ds : List (List Int)} {q : Nat} (h : ds.length = q + 1) : ds.getLast?.getD [] = ds[q]'(by omega) := by
  rw [List.getLast?_eq_getElem?]
  have : ds.length - 1 = q := by omega
  rw [this, List.getElem?_eq_getElem (by omega)]; rfl
theorem RdG.front {w : World} {a : Option Addr} {p cap q : Nat} {ds : List (List Int)} (h : RdG w a p cap ds) (hq : p = q + 1) : RdG w a q cap ds.dropLast := by
  have hl := h.hl
  have hc := h.hc
  refine ⟨by simp [hl]; omega, by omega, h.hm, fun d hd => h.hd d ((List.dropLast_sublist ds).mem hd), fun h0 => ?_⟩
  obtain ⟨b, off, ha, hcell⟩ := h.hr (by omega)
  refine ⟨b, off, ha, fun i hi => ?_⟩
  have := hcell i (by simp at hi; omega)
  rw [List.getElem_dropLast]
  exact this
attribute [local irreducible] digestV rootV halfV climbV
set_option maxRecDepth 100000 in
set_option maxHeartbeats 8000000 in
theorem climb_lt (n i k : Nat) (la : Option Addr) (ll lc : Nat) (leaf : List Int) (b off p cap q : Nat) (ds : List (List Int)) (w : World) (r : Option (List (List Int)))
    (hp : RdG w (some ⟨b, off, none⟩) p cap ds) (hq : p = q + 1) (h2 : 2 ≤ n) (hm : n ≤ 4096) (hk : k = halfV n) (hi : i < k) (hin : i < n)
    (ih : ∀ w', Below w.heap.size w w' → Calls Try.prog 89 #[.int .i64 ((k : Nat) : Int), .int .i64 ((i : Nat) : Int), .slice la ll lc, .slice (some ⟨b, off, none⟩) q cap] w' (ClimbPost r w')) (hr : ∀ l, r = some l → l ≠ [] ∧ l.length ≤ 4096) :
    Calls Try.prog 89 #[.int .i64 n, .int .i64 i, .slice la ll lc, .slice (some ⟨b, off, none⟩) p cap] w (ClimbPost (r.map fun l => l ++ [1 :: (digestV (l.getLast?.getD []) ++ ds.getLast?.getD [])]) w) := by
  have hl := hp.hl
  have hc := hp.hc
  have hcm := hp.hm
  unfold maxLen at hcm
  have hb := halfV_bd n h2 hm
  rw [← hk] at hb
  obtain ⟨b1, b2, b3⟩ := hb
  have hlast := last_of (ds := ds) (q := q) (by omega)
  obtain ⟨d, hd⟩ : ∃ d, d = ds[q]'(by omega) := ⟨_, rfl⟩
  rw [← hd] at hlast
  rw [hlast]
  have hdd : Dig d := by rw [hd]; exact hp.hd _ (List.getElem_mem _)
  obtain ⟨b', off', e', hcell⟩ := hp.hr (by omega)
  cases e'
  have hrg := hcell q (by omega)
  rw [← hd, Nat.mul_comm 16 q] at hrg
  have hbl : b < w.heap.size := by
    have := hrg 0 (.int .u8 (d.getD 0 0)) (by rw [Array.getElem?_toList, digC_get _ 0 (by rw [hdd.1]; omega)])
    exact World.block_lt_of_cell? w _ this
  obtain ⟨w9, hw9⟩ : ∃ w9, w9 = w.drew := ⟨_, rfl⟩
  have hb9 : Below w.heap.size w w9 := by rw [hw9]; exact (Below.refl _ w).drew
  have hz9 : w9.heap.size = w.heap.size := by rw [hw9]; rfl
  have r9 := rangeAt_below hrg hb9 hbl
  obtain ⟨W1, hW1⟩ : ∃ W1, W1 = w9.alloc (.cells (digC (List.replicate 16 0)) 47) := ⟨_, rfl⟩
  have hb91 : Below w9.heap.size w9 W1 := by rw [hW1]; exact (Below.refl _ w9).alloc (Nat.le_refl _) _
  have r1 := rangeAt_below r9 hb91 (by omega)
  have hO1 : Blk W1 w9.heap.size 47 (digC (List.replicate 16 0)) := by rw [hW1]; exact heap_new w9 _
  have hdl0 : digC (List.replicate 16 0) = #[.int .u8 0, .int .u8 0, .int .u8 0, .int .u8 0, .int .u8 0, .int .u8 0, .int .u8 0, .int .u8 0, .int .u8 0, .int .u8 0, .int .u8 0, .int .u8 0, .int .u8 0, .int .u8 0, .int .u8 0, .int .u8 0] := by rfl
  obtain ⟨W2, hW2⟩ : ∃ W2, W2 = W1.setRow w9.heap.size (digC d) := ⟨_, rfl⟩
  have hO2 : Blk W2 w9.heap.size 47 (digC d) := by rw [hW2]; exact setRow_heap _ _ _ _ _ _ hO1
  have hb1 : Below w.heap.size w W1 := hb9.trans (hb91.mono (by omega))
  have hb2 : Below w.heap.size w W2 := by rw [hW2]; exact hb1.trans (below_setRow _ _ _ _ (by omega))
  have hs2 : W2.heap.size = w.heap.size + 1 := by rw [hW2, hW1]; simp [hz9]
  have z1 := Try.sizeDig d hdd.1
  have z2 : (digC (List.replicate 16 0)).size = (digC d).size := by rw [digC_size, digC_size, hdd.1]; rfl
  have z3 : (digC d).all (fun x => x.oneCell') = true := digC_one d
  have L := Lib.hid (sizeDig2 d hdd.1)
  have hO2r : W2.rangeAt w9.heap.size 0 (digC d).toList := by
    intro j v hv
    rw [Nat.zero_add, hO2.cell j]
    simpa using hv
  have hn1 : ((n : Int) == 1) = false := by simp; omega
  have hp0 : ((p : Int) == 0) = false := by simp; omega
  have hw : IntKind.i64.wrap ((p : Int) - 1) = (q : Int) := by rw [show (p : Int) - 1 = (q : Int) by omega]; exact IntWalk.i64_in _ (by omega)
  have hq0 : (0 : Int) ≤ (q : Int) := by omega
  have hqp : q < p := by omega
  have hqi : (q : Int) < (p : Int) := by omega
  have hqc : (q : Int) ≤ (cap : Int) := by omega
  have hqc2 : q ≤ cap := by omega
  have hik : (i : Int) < (k : Int) := by omega
  
  
  have hik3 : ((i - k : Nat) : Int) ≤ 4096 := by omega
  have I := Lib.hid (ih W2 hb2)
  have HO1 := Lib.hid hO1
  have HO2 := Lib.hid hO2
  have HO2r := Lib.hid hO2r
  have R9 := Lib.hid r9
  have R1 := Lib.hid r1
  rw [hdl0] at hW1
  have HW1 := Lib.hid hW1
  have HW2 := Lib.hid hW2
  have Hw9 := Lib.hid hw9
  have Hz9 := Lib.hid hz9
  have Hb2 := Lib.hid hb2
  have Hs2 := Lib.hid hs2
  have Hdd := Lib.hid hdd
  have Hk := Lib.hid hk
  have Hr := Lib.hid hr
  have hlt1 : w9.heap.size < W1.heap.size := hO1.lt
  have hr0 := Lib.hid (show r = none ∨ ∃ l, r = some l by cases r with | none => exact .inl rfl | some l => exact .inr ⟨l, rfl⟩)
  clear hp hq ih hl hlast hd hcell hrg hW1 hW2 hw9 hz9 hb9 hb91 r9 r1 hO1 hO2 hb1 hb2 hs2 hdd hdl0 hO2r hk hr
  go_enter Try.func89, Try.ntmps89
  go_wp2_with fail
  refine wp_region_any (by kernel_rfl) ?_
  rw [show (({ w with drawn := w.drawn + 1 } : World)) = w9 from Hw9.out.symm]
  refine wpAny_take (i := 0) (v := .slice (some ⟨b, off, none⟩) p cap) rfl (by kernel_rfl) (by kernel_rfl) (by kernel_rfl) (fun _ _ _ h => h) (Or.inl ⟨by rfl, ?_⟩) ?_
  · intro w; go_simp
  refine wpAny_take (i := 1) (v := .slice (some ⟨b, off, none⟩) p cap) rfl (by kernel_rfl) (by kernel_rfl) (by kernel_rfl) (fun _ _ _ h => h) (Or.inl ⟨by rfl, ?_⟩) ?_
  · intro w; go_simp
  refine wpAny_take (i := 2) (v := .int .i64 p) rfl (by kernel_rfl) (by kernel_rfl) (by kernel_rfl) (fun _ _ _ h => h) (Or.inl ⟨by rfl, ?_⟩) ?_
  · intro w; go_simp
  refine wpAny_take (i := 3) (v := .int .i64 q) rfl (by kernel_rfl) (by kernel_rfl) (by kernel_rfl) (fun _ _ _ h => h) (Or.inl ⟨by rfl, ?_⟩) ?_
  · intro w; go_simp
  refine wpAny_take (i := 4) (v := .slice (some ⟨b, off, none⟩) q cap) rfl (by kernel_rfl) (by kernel_rfl) (by kernel_rfl) (fun _ _ _ h => h) (Or.inl ⟨by rfl, ?_⟩) ?_
  · intro w; go_simp
  refine wpAny_take (i := 5) (v := .slice (some ⟨b, off, none⟩) p cap) rfl (by kernel_rfl) (by kernel_rfl) (by kernel_rfl) (fun _ _ _ h => h) (Or.inl ⟨by rfl, ?_⟩) ?_
  · intro w; go_simp
  refine wpAny_take (i := 6) (v := .slice (some ⟨b, off, none⟩) p cap) rfl (by kernel_rfl) (by kernel_rfl) (by kernel_rfl) (fun _ _ _ h => h) (Or.inl ⟨by rfl, ?_⟩) ?_
  · intro w; go_simp
  refine wpAny_take (i := 7) (v := .int .i64 p) rfl (by kernel_rfl) (by kernel_rfl) (by kernel_rfl) (fun _ _ _ h => h) (Or.inl ⟨by rfl, ?_⟩) ?_
  · intro w; go_simp
  refine wpAny_take (i := 8) (v := .int .i64 q) rfl (by kernel_rfl) (by kernel_rfl) (by kernel_rfl) (fun _ _ _ h => h) (Or.inl ⟨by rfl, ?_⟩) ?_
  · intro w; go_simp
  refine wpAny_take (i := 9) (v := .pointer (some ⟨b, off + q * 16, none⟩)) rfl (by kernel_rfl) (by kernel_rfl) (by kernel_rfl) (fun _ _ _ h => h) (Or.inl ⟨by rfl, ?_⟩) ?_
  · intro w; go_simp
  go_simp
  refine wpAny_all (rs := [10, 11]) (by kernel_rfl) (by simp) ?_
  intro j hj
  rcases List.mem_cons.1 hj with rfl | hj
  · clear hj
    refine op_load rfl rfl 47 (.tmp 38) rfl b (off + q * 16) rfl (digC d) _ R9.out Try.underlying47 rfl L.out ?_
    refine any_seq (k := 11) (by rfl) (by kernel_rfl) ?_
    simp only [List.drop_succ_cons, List.drop_zero]
    go_upto_region 8 with (rw [← HW1.out]; refine wpList_store_row rfl 47 (.tmp 10) (.tmp 39) rfl w9.heap.size (digC d) rfl rfl 47 (digC (List.replicate 16 0)) HO1.out z1 z2 z3 ?_)
    rw [← HW2.out]
    go_wp2_with fail
    refine (firstPart_any n W2 h2 hm).mono ?_
    rintro e w6 ⟨rfl, hw6⟩
    subst hw6
    rw [← Hk.out]
    go_wp2_with fail
    refine I.out.mono ?_
    intro e w8 h8
    rcases hr0.out with hr1 | ⟨l, hr1⟩
    · subst hr1
      obtain ⟨rfl, hb8⟩ := h8
      exact ⟨rfl, rfl, Hb2.out.trans (hb8.mono Hb2.out.size)⟩
    · subst hr1
      obtain ⟨v, ms, rfl, hN8, hml, hb8⟩ := h8
      obtain ⟨va, vc, rfl, hlc, hcm2, hg8⟩ := row_slice hN8.row
      have hml2 := Hr.out l rfl
      have hmsl : ms.length = l.length := by rw [← hml, List.length_map]
      have hpos : 0 < ms.length := by rw [hmsl]; exact List.length_pos_iff.2 hml2.1
      have hms4 : ms.length ≤ 4096 := by omega
      obtain ⟨g8, rfl, -, -⟩ := hg8 hpos
      obtain ⟨j, hj⟩ : ∃ j, j = ms.length - 1 := ⟨_, rfl⟩
      have hjl : j < ms.length := by omega
      obtain ⟨x, hx⟩ : ∃ x, x = (ms[j]'hjl).xs := ⟨_, rfl⟩
      have hxl : l.getLast?.getD [] = x := by
        rw [hx, ← hml, List.getLast?_eq_getElem?, List.length_map, ← hj, List.getElem?_map, List.getElem?_eq_getElem hjl]; rfl
      have hrx := nodes_range hN8.row j hjl
      rw [← hx, Nat.mul_comm 17 j] at hrx
      obtain ⟨w10, hw10⟩ : ∃ w10, w10 = w8.drew := ⟨_, rfl⟩
      have hwj : IntKind.i64.wrap ((ms.length : Int) - 1) = (j : Int) := by rw [show (ms.length : Int) - 1 = (j : Int) by omega]; exact IntWalk.i64_in _ (by omega)
      have RX : Hid (w10.rangeAt g8 (j * 17) (digC (digestV x)).toList) := Lib.hid (by rw [hw10]; simpa using hrx)
      have RO : Hid (w10.rangeAt w9.heap.size 0 (digC d).toList) := Lib.hid (by rw [hw10]; simpa using rangeAt_below HO2r.out hb8 HO2.out.lt)
      have LX := Lib.hid (sizeDig2 (digestV x) (digestV_len x))
      have HN10 : Hid (Nodes w10 w.heap.size (.slice (some ⟨g8, 0, none⟩) ms.length vc) ms) := Lib.hid (by rw [hw10]; exact (hN8.below (Below.refl _ w8).drew (Nat.le_refl _)).mono Hb2.out.size)
      have Hb10 : Hid (Below w.heap.size w w10) := Lib.hid (by rw [hw10]; exact (Hb2.out.trans (hb8.mono Hb2.out.size)).drew)
      have Hml := Lib.hid (And.intro hml hxl.symm)
      have Hw10 := Lib.hid hw10
      have hj0 : (0 : Int) ≤ (j : Int) := by omega
      have hjli : (j : Int) < (ms.length : Int) := by omega
      clear hN8 hml hb8 hlc hcm2 hg8 hml2 hmsl hj hx hxl hrx hw10 I HO1 HO2 HO2r R9 R1 Hr
      go_wp2_with fail
      refine wp_region_any (by kernel_rfl) ?_
      rw [show (({ w8 with drawn := w8.drawn + 1 } : World)) = w10 from Hw10.out.symm]
      refine wpAny_take (i := 0) (v := .slice (some ⟨g8, 0, none⟩) ms.length vc) rfl (by kernel_rfl) (by kernel_rfl) (by kernel_rfl) (fun _ _ _ h => h) (Or.inl ⟨by rfl, ?_⟩) ?_
      · intro w; go_simp
      refine wpAny_take (i := 1) (v := .slice (some ⟨g8, 0, none⟩) ms.length vc) rfl (by kernel_rfl) (by kernel_rfl) (by kernel_rfl) (fun _ _ _ h => h) (Or.inl ⟨by rfl, ?_⟩) ?_
      · intro w; go_simp
      refine wpAny_take (i := 2) (v := .slice (some ⟨g8, 0, none⟩) ms.length vc) rfl (by kernel_rfl) (by kernel_rfl) (by kernel_rfl) (fun _ _ _ h => h) (Or.inl ⟨by rfl, ?_⟩) ?_
      · intro w; go_simp
      refine wpAny_take (i := 3) (v := .int .i64 (ms.length : Nat)) rfl (by kernel_rfl) (by kernel_rfl) (by kernel_rfl) (fun _ _ _ h => h) (Or.inl ⟨by rfl, ?_⟩) ?_
      · intro w; go_simp
      refine wpAny_take (i := 4) (v := .int .i64 (j : Nat)) rfl (by kernel_rfl) (by kernel_rfl) (by kernel_rfl) (fun _ _ _ h => h) (Or.inl ⟨by rfl, ?_⟩) ?_
      · intro w; go_simp
      refine wpAny_take (i := 5) (v := .pointer (some ⟨g8, j * 17, none⟩)) rfl (by kernel_rfl) (by kernel_rfl) (by kernel_rfl) (fun _ _ _ h => h) (Or.inl ⟨by rfl, ?_⟩) ?_
      · intro w; go_simp
      refine wpAny_take (i := 6) (v := .pointer (some ⟨g8, j * 17, none⟩)) rfl (by kernel_rfl) (by kernel_rfl) (by kernel_rfl) (fun _ _ _ h => h) (Or.inl ⟨by rfl, ?_⟩) ?_
      · intro w; go_simp
      go_simp
      refine wpAny_all (rs := [7, 8]) (by kernel_rfl) (by simp) ?_
      intro t ht
      rcases List.mem_cons.1 ht with rfl | ht
      · clear ht
        refine op_load rfl rfl 47 (.tmp 56) rfl g8 (j * 17) rfl (digC (digestV x)) _ RX.out Try.underlying47 rfl LX.out ?_
        refine wpAny_all (rs := [8]) (by kernel_rfl) (by simp) (fun t ht => ?_)
        obtain rfl : t = 8 := by simpa using ht
        clear ht
        refine op_load rfl rfl 47 (.tmp 10) rfl w9.heap.size 0 rfl (digC d) _ RO.out Try.underlying47 rfl L.out ?_
        refine any_seq (k := 9) (by rfl) (by kernel_rfl) ?_
        simp only [List.drop_succ_cons, List.drop_zero]
        go_wp2_with fail
        refine (innerNode_any (digestV x) d w10 (digestV_dig x) Hdd.out).mono ?_
        rintro e w11 ⟨u, rfl, ho11, hb11⟩
        obtain ⟨m, hm'⟩ : ∃ m, m = (1 :: (digestV x ++ d)).length := ⟨_, rfl⟩
        obtain ⟨ca, cc, rfl, -, -⟩ := ho11.rdb hm'.symm
        have hN11 := HN10.out.below hb11 (Nat.le_refl _)
        have HN11 := Lib.hid hN11
        have Ho11 := Lib.hid ho11
        have Hb11 : Hid (Below w.heap.size w w11) := Lib.hid (Hb10.out.trans (hb11.mono Hb10.out.size))
        have HII := Lib.hid (info_parts Try.infoN)
        have hsz := nodeC_size (digestV (1 :: (digestV x ++ d))) (.slice ca m cc) (digestV_len _)
        have Hsz := Lib.hid hsz
        clear hb11 ho11 hm' hN11 hsz
        go_wp2_with (first | (refine wpList_build_node rfl (.tmp 59) rfl (digestV (1 :: (digestV x ++ d))) (.slice ca m cc) (digestV_len _) rfl ?_) | (obtain ⟨i0, hi', hz0, hz1, hz2⟩ := HII.out; refine wpList_append_one rfl (.tmp 50) (.tmp 60) 98 rfl w.heap.size 92 i0 _ 17 40 Try.underlying98 hi' hz0 hz1 hz2 rfl (by decide) (.slice (some ⟨g8, 0, none⟩) ms.length vc) ms.length _ rfl (HN11.out.row.alloc _) w11.heap.size (nodeC (digestV (1 :: (digestV x ++ d))) (.slice ca m cc)) rfl (heap_new w11 _) Hsz.out (nodeC_one _ _ rfl) (by omega) (by unfold maxLen; omega) (by simp; have := Hb11.out.size; omega) ?_; clear hi' hz0 hz1 hz2; intro v' w12 hrow12 hg12))
        have hvb := (HN11.out.row.alloc (.cells (nodeC (digestV (1 :: (digestV x ++ d))) (.slice ca m cc)) 92)).lt
        have hb12 : Below w.heap.size w w12 := (Hb11.out.alloc Hb11.out.size _).grown hg12 (by simp; have := Hb11.out.size; omega) (fun k e => (hvb k e).1)
        have hN12 : Nodes w12 w.heap.size v' (ms ++ [⟨.slice ca m cc, 1 :: (digestV x ++ d)⟩]) := by
          refine ⟨?_, ?_⟩
          · rw [nodesC_append, nodesC_one, List.length_append, List.length_singleton]; exact hrow12
          · intro y hy
            rcases List.mem_append.1 hy with hy | hy
            · exact ((HN11.out.own y hy).alloc _).grown_other (HN11.out.row.alloc _) (by decide) hg12
            · rw [List.mem_singleton] at hy
              subst hy
              exact ((Ho11.out.mono (by have := Hb10.out.size; omega)).alloc _).grown_other (HN11.out.row.alloc _) (by decide) hg12
        have HF := Lib.hid (And.intro hN12 hb12)
        clear hN12 hb12 hvb hrow12 hg12
        obtain ⟨a12, c12, rfl, -, -, -⟩ := row_slice HF.out.1.row
        go_wp2_with fail
        go_ret
        refine ⟨_, _, rfl, HF.out.1, ?_, HF.out.2⟩
        rw [List.map_append, Hml.out.1]
        show _ = l ++ [1 :: (digestV (l.getLast?.getD []) ++ d)]
        rw [← Hml.out.2]
        rfl
      · obtain rfl : t = 8 := by simpa using ht
        clear ht
        refine op_load rfl rfl 47 (.tmp 10) rfl w9.heap.size 0 rfl (digC d) _ RO.out Try.underlying47 rfl L.out ?_
        refine wpAny_all (rs := [7]) (by kernel_rfl) (by simp) (fun t ht => ?_)
        obtain rfl : t = 7 := by simpa using ht
        clear ht
        refine op_load rfl rfl 47 (.tmp 56) rfl g8 (j * 17) rfl (digC (digestV x)) _ RX.out Try.underlying47 rfl LX.out ?_
        refine any_seq (k := 9) (by rfl) (by kernel_rfl) ?_
        simp only [List.drop_succ_cons, List.drop_zero]
        go_wp2_with fail
        refine (innerNode_any (digestV x) d w10 (digestV_dig x) Hdd.out).mono ?_
        rintro e w11 ⟨u, rfl, ho11, hb11⟩
        obtain ⟨m, hm'⟩ : ∃ m, m = (1 :: (digestV x ++ d)).length := ⟨_, rfl⟩
        obtain ⟨ca, cc, rfl, -, -⟩ := ho11.rdb hm'.symm
        have hN11 := HN10.out.below hb11 (Nat.le_refl _)
        have HN11 := Lib.hid hN11
        have Ho11 := Lib.hid ho11
        have Hb11 : Hid (Below w.heap.size w w11) := Lib.hid (Hb10.out.trans (hb11.mono Hb10.out.size))
        have HII := Lib.hid (info_parts Try.infoN)
        have hsz := nodeC_size (digestV (1 :: (digestV x ++ d))) (.slice ca m cc) (digestV_len _)
        have Hsz := Lib.hid hsz
        clear hb11 ho11 hm' hN11 hsz
        go_wp2_with (first | (refine wpList_build_node rfl (.tmp 59) rfl (digestV (1 :: (digestV x ++ d))) (.slice ca m cc) (digestV_len _) rfl ?_) | (obtain ⟨i0, hi', hz0, hz1, hz2⟩ := HII.out; refine wpList_append_one rfl (.tmp 50) (.tmp 60) 98 rfl w.heap.size 92 i0 _ 17 40 Try.underlying98 hi' hz0 hz1 hz2 rfl (by decide) (.slice (some ⟨g8, 0, none⟩) ms.length vc) ms.length _ rfl (HN11.out.row.alloc _) w11.heap.size (nodeC (digestV (1 :: (digestV x ++ d))) (.slice ca m cc)) rfl (heap_new w11 _) Hsz.out (nodeC_one _ _ rfl) (by omega) (by unfold maxLen; omega) (by simp; have := Hb11.out.size; omega) ?_; clear hi' hz0 hz1 hz2; intro v' w12 hrow12 hg12))
        have hvb := (HN11.out.row.alloc (.cells (nodeC (digestV (1 :: (digestV x ++ d))) (.slice ca m cc)) 92)).lt
        have hb12 : Below w.heap.size w w12 := (Hb11.out.alloc Hb11.out.size _).grown hg12 (by simp; have := Hb11.out.size; omega) (fun k e => (hvb k e).1)
        have hN12 : Nodes w12 w.heap.size v' (ms ++ [⟨.slice ca m cc, 1 :: (digestV x ++ d)⟩]) := by
          refine ⟨?_, ?_⟩
          · rw [nodesC_append, nodesC_one, List.length_append, List.length_singleton]; exact hrow12
          · intro y hy
            rcases List.mem_append.1 hy with hy | hy
            · exact ((HN11.out.own y hy).alloc _).grown_other (HN11.out.row.alloc _) (by decide) hg12
            · rw [List.mem_singleton] at hy
              subst hy
              exact ((Ho11.out.mono (by have := Hb10.out.size; omega)).alloc _).grown_other (HN11.out.row.alloc _) (by decide) hg12
        have HF := Lib.hid (And.intro hN12 hb12)
        clear hN12 hb12 hvb hrow12 hg12
        obtain ⟨a12, c12, rfl, -, -, -⟩ := row_slice HF.out.1.row
        go_wp2_with fail
        go_ret
        refine ⟨_, _, rfl, HF.out.1, ?_, HF.out.2⟩
        rw [List.map_append, Hml.out.1]
        show _ = l ++ [1 :: (digestV (l.getLast?.getD []) ++ d)]
        rw [← Hml.out.2]
        rfl
  · obtain rfl : j = 11 := by simpa using hj
    clear hj
    refine wpOp_step rfl (fun K hK => ?_)
    go_simp
    refine hK _ _ ?_
    clear hK K
    rw [← HW1.out]
    refine wpAny_take (i := 12) (v := .slice (some ⟨b, off, none⟩) q cap) rfl (by kernel_rfl) (by kernel_rfl) (by kernel_rfl) (fun _ _ _ h => h) (Or.inl ⟨by rfl, ?_⟩) ?_
    · intro w; go_simp
    go_simp
    refine wpAny_all (rs := [10]) (by kernel_rfl) (by simp) (fun j hj => ?_)
    obtain rfl : j = 10 := by simpa using hj
    clear hj
    refine op_load rfl rfl 47 (.tmp 38) rfl b (off + q * 16) rfl (digC d) _ R1.out Try.underlying47 rfl L.out ?_
    refine any_seq (k := 13) (by rfl) (by kernel_rfl) ?_
    simp only [List.drop_succ_cons, List.drop_zero]
    go_upto_region 8 with (refine wpList_store_row rfl 47 (.tmp 10) (.tmp 39) rfl w9.heap.size (digC d) rfl rfl 47 (digC (List.replicate 16 0)) HO1.out z1 z2 z3 ?_)
    rw [← HW2.out]
    go_wp2_with fail
    refine (firstPart_any n W2 h2 hm).mono ?_
    rintro e w6 ⟨rfl, hw6⟩
    subst hw6
    rw [← Hk.out]
    go_wp2_with fail
    refine I.out.mono ?_
    intro e w8 h8
    rcases hr0.out with hr1 | ⟨l, hr1⟩
    · subst hr1
      obtain ⟨rfl, hb8⟩ := h8
      exact ⟨rfl, rfl, Hb2.out.trans (hb8.mono Hb2.out.size)⟩
    · subst hr1
      obtain ⟨v, ms, rfl, hN8, hml, hb8⟩ := h8
      obtain ⟨va, vc, rfl, hlc, hcm2, hg8⟩ := row_slice hN8.row
      have hml2 := Hr.out l rfl
      have hmsl : ms.length = l.length := by rw [← hml, List.length_map]
      have hpos : 0 < ms.length := by rw [hmsl]; exact List.length_pos_iff.2 hml2.1
      have hms4 : ms.length ≤ 4096 := by omega
      obtain ⟨g8, rfl, -, -⟩ := hg8 hpos
      obtain ⟨j, hj⟩ : ∃ j, j = ms.length - 1 := ⟨_, rfl⟩
      have hjl : j < ms.length := by omega
      obtain ⟨x, hx⟩ : ∃ x, x = (ms[j]'hjl).xs := ⟨_, rfl⟩
      have hxl : l.getLast?.getD [] = x := by
        rw [hx, ← hml, List.getLast?_eq_getElem?, List.length_map, ← hj, List.getElem?_map, List.getElem?_eq_getElem hjl]; rfl
      have hrx := nodes_range hN8.row j hjl
      rw [← hx, Nat.mul_comm 17 j] at hrx
      obtain ⟨w10, hw10⟩ : ∃ w10, w10 = w8.drew := ⟨_, rfl⟩
      have hwj : IntKind.i64.wrap ((ms.length : Int) - 1) = (j : Int) := by rw [show (ms.length : Int) - 1 = (j : Int) by omega]; exact IntWalk.i64_in _ (by omega)
      have RX : Hid (w10.rangeAt g8 (j * 17) (digC (digestV x)).toList) := Lib.hid (by rw [hw10]; simpa using hrx)
      have RO : Hid (w10.rangeAt w9.heap.size 0 (digC d).toList) := Lib.hid (by rw [hw10]; simpa using rangeAt_below HO2r.out hb8 HO2.out.lt)
      have LX := Lib.hid (sizeDig2 (digestV x) (digestV_len x))
      have HN10 : Hid (Nodes w10 w.heap.size (.slice (some ⟨g8, 0, none⟩) ms.length vc) ms) := Lib.hid (by rw [hw10]; exact (hN8.below (Below.refl _ w8).drew (Nat.le_refl _)).mono Hb2.out.size)
      have Hb10 : Hid (Below w.heap.size w w10) := Lib.hid (by rw [hw10]; exact (Hb2.out.trans (hb8.mono Hb2.out.size)).drew)
      have Hml := Lib.hid (And.intro hml hxl.symm)
      have Hw10 := Lib.hid hw10
      have hj0 : (0 : Int) ≤ (j : Int) := by omega
      have hjli : (j : Int) < (ms.length : Int) := by omega
      clear hN8 hml hb8 hlc hcm2 hg8 hml2 hmsl hj hx hxl hrx hw10 I HO1 HO2 HO2r R9 R1 Hr
      go_wp2_with fail
      refine wp_region_any (by kernel_rfl) ?_
      rw [show (({ w8 with drawn := w8.drawn + 1 } : World)) = w10 from Hw10.out.symm]
      refine wpAny_take (i := 0) (v := .slice (some ⟨g8, 0, none⟩) ms.length vc) rfl (by kernel_rfl) (by kernel_rfl) (by kernel_rfl) (fun _ _ _ h => h) (Or.inl ⟨by rfl, ?_⟩) ?_
      · intro w; go_simp
      refine wpAny_take (i := 1) (v := .slice (some ⟨g8, 0, none⟩) ms.length vc) rfl (by kernel_rfl) (by kernel_rfl) (by kernel_rfl) (fun _ _ _ h => h) (Or.inl ⟨by rfl, ?_⟩) ?_
      · intro w; go_simp
      refine wpAny_take (i := 2) (v := .slice (some ⟨g8, 0, none⟩) ms.length vc) rfl (by kernel_rfl) (by kernel_rfl) (by kernel_rfl) (fun _ _ _ h => h) (Or.inl ⟨by rfl, ?_⟩) ?_
      · intro w; go_simp
      refine wpAny_take (i := 3) (v := .int .i64 (ms.length : Nat)) rfl (by kernel_rfl) (by kernel_rfl) (by kernel_rfl) (fun _ _ _ h => h) (Or.inl ⟨by rfl, ?_⟩) ?_
      · intro w; go_simp
      refine wpAny_take (i := 4) (v := .int .i64 (j : Nat)) rfl (by kernel_rfl) (by kernel_rfl) (by kernel_rfl) (fun _ _ _ h => h) (Or.inl ⟨by rfl, ?_⟩) ?_
      · intro w; go_simp
      refine wpAny_take (i := 5) (v := .pointer (some ⟨g8, j * 17, none⟩)) rfl (by kernel_rfl) (by kernel_rfl) (by kernel_rfl) (fun _ _ _ h => h) (Or.inl ⟨by rfl, ?_⟩) ?_
      · intro w; go_simp
      refine wpAny_take (i := 6) (v := .pointer (some ⟨g8, j * 17, none⟩)) rfl (by kernel_rfl) (by kernel_rfl) (by kernel_rfl) (fun _ _ _ h => h) (Or.inl ⟨by rfl, ?_⟩) ?_
      · intro w; go_simp
      go_simp
      refine wpAny_all (rs := [7, 8]) (by kernel_rfl) (by simp) ?_
      intro t ht
      rcases List.mem_cons.1 ht with rfl | ht
      · clear ht
        refine op_load rfl rfl 47 (.tmp 56) rfl g8 (j * 17) rfl (digC (digestV x)) _ RX.out Try.underlying47 rfl LX.out ?_
        refine wpAny_all (rs := [8]) (by kernel_rfl) (by simp) (fun t ht => ?_)
        obtain rfl : t = 8 := by simpa using ht
        clear ht
        refine op_load rfl rfl 47 (.tmp 10) rfl w9.heap.size 0 rfl (digC d) _ RO.out Try.underlying47 rfl L.out ?_
        refine any_seq (k := 9) (by rfl) (by kernel_rfl) ?_
        simp only [List.drop_succ_cons, List.drop_zero]
        go_wp2_with fail
        refine (innerNode_any (digestV x) d w10 (digestV_dig x) Hdd.out).mono ?_
        rintro e w11 ⟨u, rfl, ho11, hb11⟩
        obtain ⟨m, hm'⟩ : ∃ m, m = (1 :: (digestV x ++ d)).length := ⟨_, rfl⟩
        obtain ⟨ca, cc, rfl, -, -⟩ := ho11.rdb hm'.symm
        have hN11 := HN10.out.below hb11 (Nat.le_refl _)
        have HN11 := Lib.hid hN11
        have Ho11 := Lib.hid ho11
        have Hb11 : Hid (Below w.heap.size w w11) := Lib.hid (Hb10.out.trans (hb11.mono Hb10.out.size))
        have HII := Lib.hid (info_parts Try.infoN)
        have hsz := nodeC_size (digestV (1 :: (digestV x ++ d))) (.slice ca m cc) (digestV_len _)
        have Hsz := Lib.hid hsz
        clear hb11 ho11 hm' hN11 hsz
        go_wp2_with (first | (refine wpList_build_node rfl (.tmp 59) rfl (digestV (1 :: (digestV x ++ d))) (.slice ca m cc) (digestV_len _) rfl ?_) | (obtain ⟨i0, hi', hz0, hz1, hz2⟩ := HII.out; refine wpList_append_one rfl (.tmp 50) (.tmp 60) 98 rfl w.heap.size 92 i0 _ 17 40 Try.underlying98 hi' hz0 hz1 hz2 rfl (by decide) (.slice (some ⟨g8, 0, none⟩) ms.length vc) ms.length _ rfl (HN11.out.row.alloc _) w11.heap.size (nodeC (digestV (1 :: (digestV x ++ d))) (.slice ca m cc)) rfl (heap_new w11 _) Hsz.out (nodeC_one _ _ rfl) (by omega) (by unfold maxLen; omega) (by simp; have := Hb11.out.size; omega) ?_; clear hi' hz0 hz1 hz2; intro v' w12 hrow12 hg12))
        have hvb := (HN11.out.row.alloc (.cells (nodeC (digestV (1 :: (digestV x ++ d))) (.slice ca m cc)) 92)).lt
        have hb12 : Below w.heap.size w w12 := (Hb11.out.alloc Hb11.out.size _).grown hg12 (by simp; have := Hb11.out.size; omega) (fun k e => (hvb k e).1)
        have hN12 : Nodes w12 w.heap.size v' (ms ++ [⟨.slice ca m cc, 1 :: (digestV x ++ d)⟩]) := by
          refine ⟨?_, ?_⟩
          · rw [nodesC_append, nodesC_one, List.length_append, List.length_singleton]; exact hrow12
          · intro y hy
            rcases List.mem_append.1 hy with hy | hy
            · exact ((HN11.out.own y hy).alloc _).grown_other (HN11.out.row.alloc _) (by decide) hg12
            · rw [List.mem_singleton] at hy
              subst hy
              exact ((Ho11.out.mono (by have := Hb10.out.size; omega)).alloc _).grown_other (HN11.out.row.alloc _) (by decide) hg12
        have HF := Lib.hid (And.intro hN12 hb12)
        clear hN12 hb12 hvb hrow12 hg12
        obtain ⟨a12, c12, rfl, -, -, -⟩ := row_slice HF.out.1.row
        go_wp2_with fail
        go_ret
        refine ⟨_, _, rfl, HF.out.1, ?_, HF.out.2⟩
        rw [List.map_append, Hml.out.1]
        show _ = l ++ [1 :: (digestV (l.getLast?.getD []) ++ d)]
        rw [← Hml.out.2]
        rfl
      · obtain rfl : t = 8 := by simpa using ht
        clear ht
        refine op_load rfl rfl 47 (.tmp 10) rfl w9.heap.size 0 rfl (digC d) _ RO.out Try.underlying47 rfl L.out ?_
        refine wpAny_all (rs := [7]) (by kernel_rfl) (by simp) (fun t ht => ?_)
        obtain rfl : t = 7 := by simpa using ht
        clear ht
        refine op_load rfl rfl 47 (.tmp 56) rfl g8 (j * 17) rfl (digC (digestV x)) _ RX.out Try.underlying47 rfl LX.out ?_
        refine any_seq (k := 9) (by rfl) (by kernel_rfl) ?_
        simp only [List.drop_succ_cons, List.drop_zero]
        go_wp2_with fail
        refine (innerNode_any (digestV x) d w10 (digestV_dig x) Hdd.out).mono ?_
        rintro e w11 ⟨u, rfl, ho11, hb11⟩
        obtain ⟨m, hm'⟩ : ∃ m, m = (1 :: (digestV x ++ d)).length := ⟨_, rfl⟩
        obtain ⟨ca, cc, rfl, -, -⟩ := ho11.rdb hm'.symm
        have hN11 := HN10.out.below hb11 (Nat.le_refl _)
        have HN11 := Lib.hid hN11
        have Ho11 := Lib.hid ho11
        have Hb11 : Hid (Below w.heap.size w w11) := Lib.hid (Hb10.out.trans (hb11.mono Hb10.out.size))
        have HII := Lib.hid (info_parts Try.infoN)
        have hsz := nodeC_size (digestV (1 :: (digestV x ++ d))) (.slice ca m cc) (digestV_len _)
        have Hsz := Lib.hid hsz
        clear hb11 ho11 hm' hN11 hsz
        go_wp2_with (first | (refine wpList_build_node rfl (.tmp 59) rfl (digestV (1 :: (digestV x ++ d))) (.slice ca m cc) (digestV_len _) rfl ?_) | (obtain ⟨i0, hi', hz0, hz1, hz2⟩ := HII.out; refine wpList_append_one rfl (.tmp 50) (.tmp 60) 98 rfl w.heap.size 92 i0 _ 17 40 Try.underlying98 hi' hz0 hz1 hz2 rfl (by decide) (.slice (some ⟨g8, 0, none⟩) ms.length vc) ms.length _ rfl (HN11.out.row.alloc _) w11.heap.size (nodeC (digestV (1 :: (digestV x ++ d))) (.slice ca m cc)) rfl (heap_new w11 _) Hsz.out (nodeC_one _ _ rfl) (by omega) (by unfold maxLen; omega) (by simp; have := Hb11.out.size; omega) ?_; clear hi' hz0 hz1 hz2; intro v' w12 hrow12 hg12))
        have hvb := (HN11.out.row.alloc (.cells (nodeC (digestV (1 :: (digestV x ++ d))) (.slice ca m cc)) 92)).lt
        have hb12 : Below w.heap.size w w12 := (Hb11.out.alloc Hb11.out.size _).grown hg12 (by simp; have := Hb11.out.size; omega) (fun k e => (hvb k e).1)
        have hN12 : Nodes w12 w.heap.size v' (ms ++ [⟨.slice ca m cc, 1 :: (digestV x ++ d)⟩]) := by
          refine ⟨?_, ?_⟩
          · rw [nodesC_append, nodesC_one, List.length_append, List.length_singleton]; exact hrow12
          · intro y hy
            rcases List.mem_append.1 hy with hy | hy
            · exact ((HN11.out.own y hy).alloc _).grown_other (HN11.out.row.alloc _) (by decide) hg12
            · rw [List.mem_singleton] at hy
              subst hy
              exact ((Ho11.out.mono (by have := Hb10.out.size; omega)).alloc _).grown_other (HN11.out.row.alloc _) (by decide) hg12
        have HF := Lib.hid (And.intro hN12 hb12)
        clear hN12 hb12 hvb hrow12 hg12
        obtain ⟨a12, c12, rfl, -, -, -⟩ := row_slice HF.out.1.row
        go_wp2_with fail
        go_ret
        refine ⟨_, _, rfl, HF.out.1, ?_, HF.out.2⟩
        rw [List.map_append, Hml.out.1]
        show _ = l ++ [1 :: (digestV (l.getLast?.getD []) ++ d)]
        rw [← Hml.out.2]
        rfl
set_option maxRecDepth 100000 in
set_option maxHeartbeats 8000000 in
theorem climb_ge (n i k : Nat) (la : Option Addr) (ll lc : Nat) (leaf : List Int) (b off p cap q : Nat) (ds : List (List Int)) (w : World) (r : Option (List (List Int)))
    (hp : RdG w (some ⟨b, off, none⟩) p cap ds) (hq : p = q + 1) (h2 : 2 ≤ n) (hm : n ≤ 4096) (hk : k = halfV n) (hi : k ≤ i) (hin : i < n)
    (ih : ∀ w', Below w.heap.size w w' → Calls Try.prog 89 #[.int .i64 ((n - k : Nat) : Int), .int .i64 ((i - k : Nat) : Int), .slice la ll lc, .slice (some ⟨b, off, none⟩) q cap] w' (ClimbPost r w')) (hr : ∀ l, r = some l → l ≠ [] ∧ l.length ≤ 4096) :
    Calls Try.prog 89 #[.int .i64 n, .int .i64 i, .slice la ll lc, .slice (some ⟨b, off, none⟩) p cap] w (ClimbPost (r.map fun l => l ++ [1 :: (ds.getLast?.getD [] ++ digestV (l.getLast?.getD []))]) w) := by
  have hl := hp.hl
  have hc := hp.hc
  have hcm := hp.hm
  unfold maxLen at hcm
  have hb := halfV_bd n h2 hm
  rw [← hk] at hb
  obtain ⟨b1, b2, b3⟩ := hb
  have hlast := last_of (ds := ds) (q := q) (by omega)
  obtain ⟨d, hd⟩ : ∃ d, d = ds[q]'(by omega) := ⟨_, rfl⟩
  rw [← hd] at hlast
  rw [hlast]
  have hdd : Dig d := by rw [hd]; exact hp.hd _ (List.getElem_mem _)
  obtain ⟨b', off', e', hcell⟩ := hp.hr (by omega)
  cases e'
  have hrg := hcell q (by omega)
  rw [← hd, Nat.mul_comm 16 q] at hrg
  have hbl : b < w.heap.size := by
    have := hrg 0 (.int .u8 (d.getD 0 0)) (by rw [Array.getElem?_toList, digC_get _ 0 (by rw [hdd.1]; omega)])
    exact World.block_lt_of_cell? w _ this
  obtain ⟨w9, hw9⟩ : ∃ w9, w9 = w.drew := ⟨_, rfl⟩
  have hb9 : Below w.heap.size w w9 := by rw [hw9]; exact (Below.refl _ w).drew
  have hz9 : w9.heap.size = w.heap.size := by rw [hw9]; rfl
  have r9 := rangeAt_below hrg hb9 hbl
  obtain ⟨W1, hW1⟩ : ∃ W1, W1 = w9.alloc (.cells (digC (List.replicate 16 0)) 47) := ⟨_, rfl⟩
  have hb91 : Below w9.heap.size w9 W1 := by rw [hW1]; exact (Below.refl _ w9).alloc (Nat.le_refl _) _
  have r1 := rangeAt_below r9 hb91 (by omega)
  have hO1 : Blk W1 w9.heap.size 47 (digC (List.replicate 16 0)) := by rw [hW1]; exact heap_new w9 _
  have hdl0 : digC (List.replicate 16 0) = #[.int .u8 0, .int .u8 0, .int .u8 0, .int .u8 0, .int .u8 0, .int .u8 0, .int .u8 0, .int .u8 0, .int .u8 0, .int .u8 0, .int .u8 0, .int .u8 0, .int .u8 0, .int .u8 0, .int .u8 0, .int .u8 0] := by rfl
  obtain ⟨W2, hW2⟩ : ∃ W2, W2 = W1.setRow w9.heap.size (digC d) := ⟨_, rfl⟩
  have hO2 : Blk W2 w9.heap.size 47 (digC d) := by rw [hW2]; exact setRow_heap _ _ _ _ _ _ hO1
  have hb1 : Below w.heap.size w W1 := hb9.trans (hb91.mono (by omega))
  have hb2 : Below w.heap.size w W2 := by rw [hW2]; exact hb1.trans (below_setRow _ _ _ _ (by omega))
  have hs2 : W2.heap.size = w.heap.size + 1 := by rw [hW2, hW1]; simp [hz9]
  have z1 := Try.sizeDig d hdd.1
  have z2 : (digC (List.replicate 16 0)).size = (digC d).size := by rw [digC_size, digC_size, hdd.1]; rfl
  have z3 : (digC d).all (fun x => x.oneCell') = true := digC_one d
  have L := Lib.hid (sizeDig2 d hdd.1)
  have hO2r : W2.rangeAt w9.heap.size 0 (digC d).toList := by
    intro j v hv
    rw [Nat.zero_add, hO2.cell j]
    simpa using hv
  have hn1 : ((n : Int) == 1) = false := by simp; omega
  have hp0 : ((p : Int) == 0) = false := by simp; omega
  have hw : IntKind.i64.wrap ((p : Int) - 1) = (q : Int) := by rw [show (p : Int) - 1 = (q : Int) by omega]; exact IntWalk.i64_in _ (by omega)
  have hq0 : (0 : Int) ≤ (q : Int) := by omega
  have hqp : q < p := by omega
  have hqi : (q : Int) < (p : Int) := by omega
  have hqc : (q : Int) ≤ (cap : Int) := by omega
  have hqc2 : q ≤ cap := by omega
  have hik : ¬ (i : Int) < (k : Int) := by omega
  have hnk : (n : Int) - (k : Int) = ((n - k : Nat) : Int) := by omega
  have hik2 : (i : Int) - (k : Int) = ((i - k : Nat) : Int) := by omega
  have hik3 : ((i - k : Nat) : Int) ≤ 4096 := by omega
  have I := Lib.hid (ih W2 hb2)
  have HO1 := Lib.hid hO1
  have HO2 := Lib.hid hO2
  have HO2r := Lib.hid hO2r
  have R9 := Lib.hid r9
  have R1 := Lib.hid r1
  rw [hdl0] at hW1
  have HW1 := Lib.hid hW1
  have HW2 := Lib.hid hW2
  have Hw9 := Lib.hid hw9
  have Hz9 := Lib.hid hz9
  have Hb2 := Lib.hid hb2
  have Hs2 := Lib.hid hs2
  have Hdd := Lib.hid hdd
  have Hk := Lib.hid hk
  have Hr := Lib.hid hr
  have hlt1 : w9.heap.size < W1.heap.size := hO1.lt
  have hr0 := Lib.hid (show r = none ∨ ∃ l, r = some l by cases r with | none => exact .inl rfl | some l => exact .inr ⟨l, rfl⟩)
  clear hp hq ih hl hlast hd hcell hrg hW1 hW2 hw9 hz9 hb9 hb91 r9 r1 hO1 hO2 hb1 hb2 hs2 hdd hdl0 hO2r hk hr
  go_enter Try.func89, Try.ntmps89
  go_wp2_with fail
  refine wp_region_any (by kernel_rfl) ?_
  rw [show (({ w with drawn := w.drawn + 1 } : World)) = w9 from Hw9.out.symm]
  refine wpAny_take (i := 0) (v := .slice (some ⟨b, off, none⟩) p cap) rfl (by kernel_rfl) (by kernel_rfl) (by kernel_rfl) (fun _ _ _ h => h) (Or.inl ⟨by rfl, ?_⟩) ?_
  · intro w; go_simp
  refine wpAny_take (i := 1) (v := .slice (some ⟨b, off, none⟩) p cap) rfl (by kernel_rfl) (by kernel_rfl) (by kernel_rfl) (fun _ _ _ h => h) (Or.inl ⟨by rfl, ?_⟩) ?_
  · intro w; go_simp
  refine wpAny_take (i := 2) (v := .int .i64 p) rfl (by kernel_rfl) (by kernel_rfl) (by kernel_rfl) (fun _ _ _ h => h) (Or.inl ⟨by rfl, ?_⟩) ?_
  · intro w; go_simp
  refine wpAny_take (i := 3) (v := .int .i64 q) rfl (by kernel_rfl) (by kernel_rfl) (by kernel_rfl) (fun _ _ _ h => h) (Or.inl ⟨by rfl, ?_⟩) ?_
  · intro w; go_simp
  refine wpAny_take (i := 4) (v := .slice (some ⟨b, off, none⟩) q cap) rfl (by kernel_rfl) (by kernel_rfl) (by kernel_rfl) (fun _ _ _ h => h) (Or.inl ⟨by rfl, ?_⟩) ?_
  · intro w; go_simp
  refine wpAny_take (i := 5) (v := .slice (some ⟨b, off, none⟩) p cap) rfl (by kernel_rfl) (by kernel_rfl) (by kernel_rfl) (fun _ _ _ h => h) (Or.inl ⟨by rfl, ?_⟩) ?_
  · intro w; go_simp
  refine wpAny_take (i := 6) (v := .slice (some ⟨b, off, none⟩) p cap) rfl (by kernel_rfl) (by kernel_rfl) (by kernel_rfl) (fun _ _ _ h => h) (Or.inl ⟨by rfl, ?_⟩) ?_
  · intro w; go_simp
  refine wpAny_take (i := 7) (v := .int .i64 p) rfl (by kernel_rfl) (by kernel_rfl) (by kernel_rfl) (fun _ _ _ h => h) (Or.inl ⟨by rfl, ?_⟩) ?_
  · intro w; go_simp
  refine wpAny_take (i := 8) (v := .int .i64 q) rfl (by kernel_rfl) (by kernel_rfl) (by kernel_rfl) (fun _ _ _ h => h) (Or.inl ⟨by rfl, ?_⟩) ?_
  · intro w; go_simp
  refine wpAny_take (i := 9) (v := .pointer (some ⟨b, off + q * 16, none⟩)) rfl (by kernel_rfl) (by kernel_rfl) (by kernel_rfl) (fun _ _ _ h => h) (Or.inl ⟨by rfl, ?_⟩) ?_
  · intro w; go_simp
  go_simp
  refine wpAny_all (rs := [10, 11]) (by kernel_rfl) (by simp) ?_
  intro j hj
  rcases List.mem_cons.1 hj with rfl | hj
  · clear hj
    refine op_load rfl rfl 47 (.tmp 38) rfl b (off + q * 16) rfl (digC d) _ R9.out Try.underlying47 rfl L.out ?_
    refine any_seq (k := 11) (by rfl) (by kernel_rfl) ?_
    simp only [List.drop_succ_cons, List.drop_zero]
    go_upto_region 8 with (rw [← HW1.out]; refine wpList_store_row rfl 47 (.tmp 10) (.tmp 39) rfl w9.heap.size (digC d) rfl rfl 47 (digC (List.replicate 16 0)) HO1.out z1 z2 z3 ?_)
    rw [← HW2.out]
    go_wp2_with fail
    refine (firstPart_any n W2 h2 hm).mono ?_
    rintro e w6 ⟨rfl, hw6⟩
    subst hw6
    rw [← Hk.out]
    go_wp2_with fail
    refine I.out.mono ?_
    intro e w8 h8
    rcases hr0.out with hr1 | ⟨l, hr1⟩
    · subst hr1
      obtain ⟨rfl, hb8⟩ := h8
      exact ⟨rfl, rfl, Hb2.out.trans (hb8.mono Hb2.out.size)⟩
    · subst hr1
      obtain ⟨v, ms, rfl, hN8, hml, hb8⟩ := h8
      obtain ⟨va, vc, rfl, hlc, hcm2, hg8⟩ := row_slice hN8.row
      have hml2 := Hr.out l rfl
      have hmsl : ms.length = l.length := by rw [← hml, List.length_map]
      have hpos : 0 < ms.length := by rw [hmsl]; exact List.length_pos_iff.2 hml2.1
      have hms4 : ms.length ≤ 4096 := by omega
      obtain ⟨g8, rfl, -, -⟩ := hg8 hpos
      obtain ⟨j, hj⟩ : ∃ j, j = ms.length - 1 := ⟨_, rfl⟩
      have hjl : j < ms.length := by omega
      obtain ⟨x, hx⟩ : ∃ x, x = (ms[j]'hjl).xs := ⟨_, rfl⟩
      have hxl : l.getLast?.getD [] = x := by
        rw [hx, ← hml, List.getLast?_eq_getElem?, List.length_map, ← hj, List.getElem?_map, List.getElem?_eq_getElem hjl]; rfl
      have hrx := nodes_range hN8.row j hjl
      rw [← hx, Nat.mul_comm 17 j] at hrx
      obtain ⟨w10, hw10⟩ : ∃ w10, w10 = w8.drew := ⟨_, rfl⟩
      have hwj : IntKind.i64.wrap ((ms.length : Int) - 1) = (j : Int) := by rw [show (ms.length : Int) - 1 = (j : Int) by omega]; exact IntWalk.i64_in _ (by omega)
      have RX : Hid (w10.rangeAt g8 (j * 17) (digC (digestV x)).toList) := Lib.hid (by rw [hw10]; simpa using hrx)
      have RO : Hid (w10.rangeAt w9.heap.size 0 (digC d).toList) := Lib.hid (by rw [hw10]; simpa using rangeAt_below HO2r.out hb8 HO2.out.lt)
      have LX := Lib.hid (sizeDig2 (digestV x) (digestV_len x))
      have HN10 : Hid (Nodes w10 w.heap.size (.slice (some ⟨g8, 0, none⟩) ms.length vc) ms) := Lib.hid (by rw [hw10]; exact (hN8.below (Below.refl _ w8).drew (Nat.le_refl _)).mono Hb2.out.size)
      have Hb10 : Hid (Below w.heap.size w w10) := Lib.hid (by rw [hw10]; exact (Hb2.out.trans (hb8.mono Hb2.out.size)).drew)
      have Hml := Lib.hid (And.intro hml hxl.symm)
      have Hw10 := Lib.hid hw10
      have hj0 : (0 : Int) ≤ (j : Int) := by omega
      have hjli : (j : Int) < (ms.length : Int) := by omega
      clear hN8 hml hb8 hlc hcm2 hg8 hml2 hmsl hj hx hxl hrx hw10 I HO1 HO2 HO2r R9 R1 Hr
      go_wp2_with fail
      refine wp_region_any (by kernel_rfl) ?_
      rw [show (({ w8 with drawn := w8.drawn + 1 } : World)) = w10 from Hw10.out.symm]
      refine wpAny_take (i := 0) (v := .slice (some ⟨g8, 0, none⟩) ms.length vc) rfl (by kernel_rfl) (by kernel_rfl) (by kernel_rfl) (fun _ _ _ h => h) (Or.inl ⟨by rfl, ?_⟩) ?_
      · intro w; go_simp
      refine wpAny_take (i := 2) (v := .slice (some ⟨g8, 0, none⟩) ms.length vc) rfl (by kernel_rfl) (by kernel_rfl) (by kernel_rfl) (fun _ _ _ h => h) (Or.inl ⟨by rfl, ?_⟩) ?_
      · intro w; go_simp
      refine wpAny_take (i := 3) (v := .slice (some ⟨g8, 0, none⟩) ms.length vc) rfl (by kernel_rfl) (by kernel_rfl) (by kernel_rfl) (fun _ _ _ h => h) (Or.inl ⟨by rfl, ?_⟩) ?_
      · intro w; go_simp
      refine wpAny_take (i := 4) (v := .int .i64 (ms.length : Nat)) rfl (by kernel_rfl) (by kernel_rfl) (by kernel_rfl) (fun _ _ _ h => h) (Or.inl ⟨by rfl, ?_⟩) ?_
      · intro w; go_simp
      refine wpAny_take (i := 5) (v := .int .i64 (j : Nat)) rfl (by kernel_rfl) (by kernel_rfl) (by kernel_rfl) (fun _ _ _ h => h) (Or.inl ⟨by rfl, ?_⟩) ?_
      · intro w; go_simp
      refine wpAny_take (i := 6) (v := .pointer (some ⟨g8, j * 17, none⟩)) rfl (by kernel_rfl) (by kernel_rfl) (by kernel_rfl) (fun _ _ _ h => h) (Or.inl ⟨by rfl, ?_⟩) ?_
      · intro w; go_simp
      refine wpAny_take (i := 7) (v := .pointer (some ⟨g8, j * 17, none⟩)) rfl (by kernel_rfl) (by kernel_rfl) (by kernel_rfl) (fun _ _ _ h => h) (Or.inl ⟨by rfl, ?_⟩) ?_
      · intro w; go_simp
      go_simp
      refine wpAny_all (rs := [1, 8]) (by kernel_rfl) (by simp) ?_
      intro t ht
      rcases List.mem_cons.1 ht with rfl | ht
      · clear ht
        refine op_load rfl rfl 47 (.tmp 10) rfl w9.heap.size 0 rfl (digC d) _ RO.out Try.underlying47 rfl L.out ?_
        refine wpAny_all (rs := [8]) (by kernel_rfl) (by simp) (fun t ht => ?_)
        obtain rfl : t = 8 := by simpa using ht
        clear ht
        refine op_load rfl rfl 47 (.tmp 78) rfl g8 (j * 17) rfl (digC (digestV x)) _ RX.out Try.underlying47 rfl LX.out ?_
        refine any_seq (k := 9) (by rfl) (by kernel_rfl) ?_
        simp only [List.drop_succ_cons, List.drop_zero]
        go_wp2_with fail
        refine (innerNode_any d (digestV x) w10 Hdd.out (digestV_dig x)).mono ?_
        rintro e w11 ⟨u, rfl, ho11, hb11⟩
        obtain ⟨m, hm'⟩ : ∃ m, m = (1 :: (d ++ digestV x)).length := ⟨_, rfl⟩
        obtain ⟨ca, cc, rfl, -, -⟩ := ho11.rdb hm'.symm
        have hN11 := HN10.out.below hb11 (Nat.le_refl _)
        have HN11 := Lib.hid hN11
        have Ho11 := Lib.hid ho11
        have Hb11 : Hid (Below w.heap.size w w11) := Lib.hid (Hb10.out.trans (hb11.mono Hb10.out.size))
        have HII := Lib.hid (info_parts Try.infoN)
        have hsz := nodeC_size (digestV (1 :: (d ++ digestV x))) (.slice ca m cc) (digestV_len _)
        have Hsz := Lib.hid hsz
        clear hb11 ho11 hm' hN11 hsz
        go_wp2_with (first | (refine wpList_build_node rfl (.tmp 80) rfl (digestV (1 :: (d ++ digestV x))) (.slice ca m cc) (digestV_len _) rfl ?_) | (obtain ⟨i0, hi', hz0, hz1, hz2⟩ := HII.out; refine wpList_append_one rfl (.tmp 71) (.tmp 81) 98 rfl w.heap.size 92 i0 _ 17 40 Try.underlying98 hi' hz0 hz1 hz2 rfl (by decide) (.slice (some ⟨g8, 0, none⟩) ms.length vc) ms.length _ rfl (HN11.out.row.alloc _) w11.heap.size (nodeC (digestV (1 :: (d ++ digestV x))) (.slice ca m cc)) rfl (heap_new w11 _) Hsz.out (nodeC_one _ _ rfl) (by omega) (by unfold maxLen; omega) (by simp; have := Hb11.out.size; omega) ?_; clear hi' hz0 hz1 hz2; intro v' w12 hrow12 hg12))
        have hvb := (HN11.out.row.alloc (.cells (nodeC (digestV (1 :: (d ++ digestV x))) (.slice ca m cc)) 92)).lt
        have hb12 : Below w.heap.size w w12 := (Hb11.out.alloc Hb11.out.size _).grown hg12 (by simp; have := Hb11.out.size; omega) (fun k e => (hvb k e).1)
        have hN12 : Nodes w12 w.heap.size v' (ms ++ [⟨.slice ca m cc, 1 :: (d ++ digestV x)⟩]) := by
          refine ⟨?_, ?_⟩
          · rw [nodesC_append, nodesC_one, List.length_append, List.length_singleton]; exact hrow12
          · intro y hy
            rcases List.mem_append.1 hy with hy | hy
            · exact ((HN11.out.own y hy).alloc _).grown_other (HN11.out.row.alloc _) (by decide) hg12
            · rw [List.mem_singleton] at hy
              subst hy
              exact ((Ho11.out.mono (by have := Hb10.out.size; omega)).alloc _).grown_other (HN11.out.row.alloc _) (by decide) hg12
        have HF := Lib.hid (And.intro hN12 hb12)
        clear hN12 hb12 hvb hrow12 hg12
        obtain ⟨a12, c12, rfl, -, -, -⟩ := row_slice HF.out.1.row
        go_wp2_with fail
        go_ret
        refine ⟨_, _, rfl, HF.out.1, ?_, HF.out.2⟩
        rw [List.map_append, Hml.out.1]
        show _ = l ++ [1 :: (d ++ digestV (l.getLast?.getD []))]
        rw [← Hml.out.2]
        rfl
      · obtain rfl : t = 8 := by simpa using ht
        clear ht
        refine op_load rfl rfl 47 (.tmp 78) rfl g8 (j * 17) rfl (digC (digestV x)) _ RX.out Try.underlying47 rfl LX.out ?_
        refine wpAny_all (rs := [1]) (by kernel_rfl) (by simp) (fun t ht => ?_)
        obtain rfl : t = 1 := by simpa using ht
        clear ht
        refine op_load rfl rfl 47 (.tmp 10) rfl w9.heap.size 0 rfl (digC d) _ RO.out Try.underlying47 rfl L.out ?_
        refine any_seq (k := 9) (by rfl) (by kernel_rfl) ?_
        simp only [List.drop_succ_cons, List.drop_zero]
        go_wp2_with fail
        refine (innerNode_any d (digestV x) w10 Hdd.out (digestV_dig x)).mono ?_
        rintro e w11 ⟨u, rfl, ho11, hb11⟩
        obtain ⟨m, hm'⟩ : ∃ m, m = (1 :: (d ++ digestV x)).length := ⟨_, rfl⟩
        obtain ⟨ca, cc, rfl, -, -⟩ := ho11.rdb hm'.symm
        have hN11 := HN10.out.below hb11 (Nat.le_refl _)
        have HN11 := Lib.hid hN11
        have Ho11 := Lib.hid ho11
        have Hb11 : Hid (Below w.heap.size w w11) := Lib.hid (Hb10.out.trans (hb11.mono Hb10.out.size))
        have HII := Lib.hid (info_parts Try.infoN)
        have hsz := nodeC_size (digestV (1 :: (d ++ digestV x))) (.slice ca m cc) (digestV_len _)
        have Hsz := Lib.hid hsz
        clear hb11 ho11 hm' hN11 hsz
        go_wp2_with (first | (refine wpList_build_node rfl (.tmp 80) rfl (digestV (1 :: (d ++ digestV x))) (.slice ca m cc) (digestV_len _) rfl ?_) | (obtain ⟨i0, hi', hz0, hz1, hz2⟩ := HII.out; refine wpList_append_one rfl (.tmp 71) (.tmp 81) 98 rfl w.heap.size 92 i0 _ 17 40 Try.underlying98 hi' hz0 hz1 hz2 rfl (by decide) (.slice (some ⟨g8, 0, none⟩) ms.length vc) ms.length _ rfl (HN11.out.row.alloc _) w11.heap.size (nodeC (digestV (1 :: (d ++ digestV x))) (.slice ca m cc)) rfl (heap_new w11 _) Hsz.out (nodeC_one _ _ rfl) (by omega) (by unfold maxLen; omega) (by simp; have := Hb11.out.size; omega) ?_; clear hi' hz0 hz1 hz2; intro v' w12 hrow12 hg12))
        have hvb := (HN11.out.row.alloc (.cells (nodeC (digestV (1 :: (d ++ digestV x))) (.slice ca m cc)) 92)).lt
        have hb12 : Below w.heap.size w w12 := (Hb11.out.alloc Hb11.out.size _).grown hg12 (by simp; have := Hb11.out.size; omega) (fun k e => (hvb k e).1)
        have hN12 : Nodes w12 w.heap.size v' (ms ++ [⟨.slice ca m cc, 1 :: (d ++ digestV x)⟩]) := by
          refine ⟨?_, ?_⟩
          · rw [nodesC_append, nodesC_one, List.length_append, List.length_singleton]; exact hrow12
          · intro y hy
            rcases List.mem_append.1 hy with hy | hy
            · exact ((HN11.out.own y hy).alloc _).grown_other (HN11.out.row.alloc _) (by decide) hg12
            · rw [List.mem_singleton] at hy
              subst hy
              exact ((Ho11.out.mono (by have := Hb10.out.size; omega)).alloc _).grown_other (HN11.out.row.alloc _) (by decide) hg12
        have HF := Lib.hid (And.intro hN12 hb12)
        clear hN12 hb12 hvb hrow12 hg12
        obtain ⟨a12, c12, rfl, -, -, -⟩ := row_slice HF.out.1.row
        go_wp2_with fail
        go_ret
        refine ⟨_, _, rfl, HF.out.1, ?_, HF.out.2⟩
        rw [List.map_append, Hml.out.1]
        show _ = l ++ [1 :: (d ++ digestV (l.getLast?.getD []))]
        rw [← Hml.out.2]
        rfl
  · obtain rfl : j = 11 := by simpa using hj
    clear hj
    refine wpOp_step rfl (fun K hK => ?_)
    go_simp
    refine hK _ _ ?_
    clear hK K
    rw [← HW1.out]
    refine wpAny_take (i := 12) (v := .slice (some ⟨b, off, none⟩) q cap) rfl (by kernel_rfl) (by kernel_rfl) (by kernel_rfl) (fun _ _ _ h => h) (Or.inl ⟨by rfl, ?_⟩) ?_
    · intro w; go_simp
    go_simp
    refine wpAny_all (rs := [10]) (by kernel_rfl) (by simp) (fun j hj => ?_)
    obtain rfl : j = 10 := by simpa using hj
    clear hj
    refine op_load rfl rfl 47 (.tmp 38) rfl b (off + q * 16) rfl (digC d) _ R1.out Try.underlying47 rfl L.out ?_
    refine any_seq (k := 13) (by rfl) (by kernel_rfl) ?_
    simp only [List.drop_succ_cons, List.drop_zero]
    go_upto_region 8 with (refine wpList_store_row rfl 47 (.tmp 10) (.tmp 39) rfl w9.heap.size (digC d) rfl rfl 47 (digC (List.replicate 16 0)) HO1.out z1 z2 z3 ?_)
    rw [← HW2.out]
    go_wp2_with fail
    refine (firstPart_any n W2 h2 hm).mono ?_
    rintro e w6 ⟨rfl, hw6⟩
    subst hw6
    rw [← Hk.out]
    go_wp2_with fail
    refine I.out.mono ?_
    intro e w8 h8
    rcases hr0.out with hr1 | ⟨l, hr1⟩
    · subst hr1
      obtain ⟨rfl, hb8⟩ := h8
      exact ⟨rfl, rfl, Hb2.out.trans (hb8.mono Hb2.out.size)⟩
    · subst hr1
      obtain ⟨v, ms, rfl, hN8, hml, hb8⟩ := h8
      obtain ⟨va, vc, rfl, hlc, hcm2, hg8⟩ := row_slice hN8.row
      have hml2 := Hr.out l rfl
      have hmsl : ms.length = l.length := by rw [← hml, List.length_map]
      have hpos : 0 < ms.length := by rw [hmsl]; exact List.length_pos_iff.2 hml2.1
      have hms4 : ms.length ≤ 4096 := by omega
      obtain ⟨g8, rfl, -, -⟩ := hg8 hpos
      obtain ⟨j, hj⟩ : ∃ j, j = ms.length - 1 := ⟨_, rfl⟩
      have hjl : j < ms.length := by omega
      obtain ⟨x, hx⟩ : ∃ x, x = (ms[j]'hjl).xs := ⟨_, rfl⟩
      have hxl : l.getLast?.getD [] = x := by
        rw [hx, ← hml, List.getLast?_eq_getElem?, List.length_map, ← hj, List.getElem?_map, List.getElem?_eq_getElem hjl]; rfl
      have hrx := nodes_range hN8.row j hjl
      rw [← hx, Nat.mul_comm 17 j] at hrx
      obtain ⟨w10, hw10⟩ : ∃ w10, w10 = w8.drew := ⟨_, rfl⟩
      have hwj : IntKind.i64.wrap ((ms.length : Int) - 1) = (j : Int) := by rw [show (ms.length : Int) - 1 = (j : Int) by omega]; exact IntWalk.i64_in _ (by omega)
      have RX : Hid (w10.rangeAt g8 (j * 17) (digC (digestV x)).toList) := Lib.hid (by rw [hw10]; simpa using hrx)
      have RO : Hid (w10.rangeAt w9.heap.size 0 (digC d).toList) := Lib.hid (by rw [hw10]; simpa using rangeAt_below HO2r.out hb8 HO2.out.lt)
      have LX := Lib.hid (sizeDig2 (digestV x) (digestV_len x))
      have HN10 : Hid (Nodes w10 w.heap.size (.slice (some ⟨g8, 0, none⟩) ms.length vc) ms) := Lib.hid (by rw [hw10]; exact (hN8.below (Below.refl _ w8).drew (Nat.le_refl _)).mono Hb2.out.size)
      have Hb10 : Hid (Below w.heap.size w w10) := Lib.hid (by rw [hw10]; exact (Hb2.out.trans (hb8.mono Hb2.out.size)).drew)
      have Hml := Lib.hid (And.intro hml hxl.symm)
      have Hw10 := Lib.hid hw10
      have hj0 : (0 : Int) ≤ (j : Int) := by omega
      have hjli : (j : Int) < (ms.length : Int) := by omega
      clear hN8 hml hb8 hlc hcm2 hg8 hml2 hmsl hj hx hxl hrx hw10 I HO1 HO2 HO2r R9 R1 Hr
      go_wp2_with fail
      refine wp_region_any (by kernel_rfl) ?_
      rw [show (({ w8 with drawn := w8.drawn + 1 } : World)) = w10 from Hw10.out.symm]
      refine wpAny_take (i := 0) (v := .slice (some ⟨g8, 0, none⟩) ms.length vc) rfl (by kernel_rfl) (by kernel_rfl) (by kernel_rfl) (fun _ _ _ h => h) (Or.inl ⟨by rfl, ?_⟩) ?_
      · intro w; go_simp
      refine wpAny_take (i := 2) (v := .slice (some ⟨g8, 0, none⟩) ms.length vc) rfl (by kernel_rfl) (by kernel_rfl) (by kernel_rfl) (fun _ _ _ h => h) (Or.inl ⟨by rfl, ?_⟩) ?_
      · intro w; go_simp
      refine wpAny_take (i := 3) (v := .slice (some ⟨g8, 0, none⟩) ms.length vc) rfl (by kernel_rfl) (by kernel_rfl) (by kernel_rfl) (fun _ _ _ h => h) (Or.inl ⟨by rfl, ?_⟩) ?_
      · intro w; go_simp
      refine wpAny_take (i := 4) (v := .int .i64 (ms.length : Nat)) rfl (by kernel_rfl) (by kernel_rfl) (by kernel_rfl) (fun _ _ _ h => h) (Or.inl ⟨by rfl, ?_⟩) ?_
      · intro w; go_simp
      refine wpAny_take (i := 5) (v := .int .i64 (j : Nat)) rfl (by kernel_rfl) (by kernel_rfl) (by kernel_rfl) (fun _ _ _ h => h) (Or.inl ⟨by rfl, ?_⟩) ?_
      · intro w; go_simp
      refine wpAny_take (i := 6) (v := .pointer (some ⟨g8, j * 17, none⟩)) rfl (by kernel_rfl) (by kernel_rfl) (by kernel_rfl) (fun _ _ _ h => h) (Or.inl ⟨by rfl, ?_⟩) ?_
      · intro w; go_simp
      refine wpAny_take (i := 7) (v := .pointer (some ⟨g8, j * 17, none⟩)) rfl (by kernel_rfl) (by kernel_rfl) (by kernel_rfl) (fun _ _ _ h => h) (Or.inl ⟨by rfl, ?_⟩) ?_
      · intro w; go_simp
      go_simp
      refine wpAny_all (rs := [1, 8]) (by kernel_rfl) (by simp) ?_
      intro t ht
      rcases List.mem_cons.1 ht with rfl | ht
      · clear ht
        refine op_load rfl rfl 47 (.tmp 10) rfl w9.heap.size 0 rfl (digC d) _ RO.out Try.underlying47 rfl L.out ?_
        refine wpAny_all (rs := [8]) (by kernel_rfl) (by simp) (fun t ht => ?_)
        obtain rfl : t = 8 := by simpa using ht
        clear ht
        refine op_load rfl rfl 47 (.tmp 78) rfl g8 (j * 17) rfl (digC (digestV x)) _ RX.out Try.underlying47 rfl LX.out ?_
        refine any_seq (k := 9) (by rfl) (by kernel_rfl) ?_
        simp only [List.drop_succ_cons, List.drop_zero]
        go_wp2_with fail
        refine (innerNode_any d (digestV x) w10 Hdd.out (digestV_dig x)).mono ?_
        rintro e w11 ⟨u, rfl, ho11, hb11⟩
        obtain ⟨m, hm'⟩ : ∃ m, m = (1 :: (d ++ digestV x)).length := ⟨_, rfl⟩
        obtain ⟨ca, cc, rfl, -, -⟩ := ho11.rdb hm'.symm
        have hN11 := HN10.out.below hb11 (Nat.le_refl _)
        have HN11 := Lib.hid hN11
        have Ho11 := Lib.hid ho11
        have Hb11 : Hid (Below w.heap.size w w11) := Lib.hid (Hb10.out.trans (hb11.mono Hb10.out.size))
        have HII := Lib.hid (info_parts Try.infoN)
        have hsz := nodeC_size (digestV (1 :: (d ++ digestV x))) (.slice ca m cc) (digestV_len _)
        have Hsz := Lib.hid hsz
        clear hb11 ho11 hm' hN11 hsz
        go_wp2_with (first | (refine wpList_build_node rfl (.tmp 80) rfl (digestV (1 :: (d ++ digestV x))) (.slice ca m cc) (digestV_len _) rfl ?_) | (obtain ⟨i0, hi', hz0, hz1, hz2⟩ := HII.out; refine wpList_append_one rfl (.tmp 71) (.tmp 81) 98 rfl w.heap.size 92 i0 _ 17 40 Try.underlying98 hi' hz0 hz1 hz2 rfl (by decide) (.slice (some ⟨g8, 0, none⟩) ms.length vc) ms.length _ rfl (HN11.out.row.alloc _) w11.heap.size (nodeC (digestV (1 :: (d ++ digestV x))) (.slice ca m cc)) rfl (heap_new w11 _) Hsz.out (nodeC_one _ _ rfl) (by omega) (by unfold maxLen; omega) (by simp; have := Hb11.out.size; omega) ?_; clear hi' hz0 hz1 hz2; intro v' w12 hrow12 hg12))
        have hvb := (HN11.out.row.alloc (.cells (nodeC (digestV (1 :: (d ++ digestV x))) (.slice ca m cc)) 92)).lt
        have hb12 : Below w.heap.size w w12 := (Hb11.out.alloc Hb11.out.size _).grown hg12 (by simp; have := Hb11.out.size; omega) (fun k e => (hvb k e).1)
        have hN12 : Nodes w12 w.heap.size v' (ms ++ [⟨.slice ca m cc, 1 :: (d ++ digestV x)⟩]) := by
          refine ⟨?_, ?_⟩
          · rw [nodesC_append, nodesC_one, List.length_append, List.length_singleton]; exact hrow12
          · intro y hy
            rcases List.mem_append.1 hy with hy | hy
            · exact ((HN11.out.own y hy).alloc _).grown_other (HN11.out.row.alloc _) (by decide) hg12
            · rw [List.mem_singleton] at hy
              subst hy
              exact ((Ho11.out.mono (by have := Hb10.out.size; omega)).alloc _).grown_other (HN11.out.row.alloc _) (by decide) hg12
        have HF := Lib.hid (And.intro hN12 hb12)
        clear hN12 hb12 hvb hrow12 hg12
        obtain ⟨a12, c12, rfl, -, -, -⟩ := row_slice HF.out.1.row
        go_wp2_with fail
        go_ret
        refine ⟨_, _, rfl, HF.out.1, ?_, HF.out.2⟩
        rw [List.map_append, Hml.out.1]
        show _ = l ++ [1 :: (d ++ digestV (l.getLast?.getD []))]
        rw [← Hml.out.2]
        rfl
      · obtain rfl : t = 8 := by simpa using ht
        clear ht
        refine op_load rfl rfl 47 (.tmp 78) rfl g8 (j * 17) rfl (digC (digestV x)) _ RX.out Try.underlying47 rfl LX.out ?_
        refine wpAny_all (rs := [1]) (by kernel_rfl) (by simp) (fun t ht => ?_)
        obtain rfl : t = 1 := by simpa using ht
        clear ht
        refine op_load rfl rfl 47 (.tmp 10) rfl w9.heap.size 0 rfl (digC d) _ RO.out Try.underlying47 rfl L.out ?_
        refine any_seq (k := 9) (by rfl) (by kernel_rfl) ?_
        simp only [List.drop_succ_cons, List.drop_zero]
        go_wp2_with fail
        refine (innerNode_any d (digestV x) w10 Hdd.out (digestV_dig x)).mono ?_
        rintro e w11 ⟨u, rfl, ho11, hb11⟩
        obtain ⟨m, hm'⟩ : ∃ m, m = (1 :: (d ++ digestV x)).length := ⟨_, rfl⟩
        obtain ⟨ca, cc, rfl, -, -⟩ := ho11.rdb hm'.symm
        have hN11 := HN10.out.below hb11 (Nat.le_refl _)
        have HN11 := Lib.hid hN11
        have Ho11 := Lib.hid ho11
        have Hb11 : Hid (Below w.heap.size w w11) := Lib.hid (Hb10.out.trans (hb11.mono Hb10.out.size))
        have HII := Lib.hid (info_parts Try.infoN)
        have hsz := nodeC_size (digestV (1 :: (d ++ digestV x))) (.slice ca m cc) (digestV_len _)
        have Hsz := Lib.hid hsz
        clear hb11 ho11 hm' hN11 hsz
        go_wp2_with (first | (refine wpList_build_node rfl (.tmp 80) rfl (digestV (1 :: (d ++ digestV x))) (.slice ca m cc) (digestV_len _) rfl ?_) | (obtain ⟨i0, hi', hz0, hz1, hz2⟩ := HII.out; refine wpList_append_one rfl (.tmp 71) (.tmp 81) 98 rfl w.heap.size 92 i0 _ 17 40 Try.underlying98 hi' hz0 hz1 hz2 rfl (by decide) (.slice (some ⟨g8, 0, none⟩) ms.length vc) ms.length _ rfl (HN11.out.row.alloc _) w11.heap.size (nodeC (digestV (1 :: (d ++ digestV x))) (.slice ca m cc)) rfl (heap_new w11 _) Hsz.out (nodeC_one _ _ rfl) (by omega) (by unfold maxLen; omega) (by simp; have := Hb11.out.size; omega) ?_; clear hi' hz0 hz1 hz2; intro v' w12 hrow12 hg12))
        have hvb := (HN11.out.row.alloc (.cells (nodeC (digestV (1 :: (d ++ digestV x))) (.slice ca m cc)) 92)).lt
        have hb12 : Below w.heap.size w w12 := (Hb11.out.alloc Hb11.out.size _).grown hg12 (by simp; have := Hb11.out.size; omega) (fun k e => (hvb k e).1)
        have hN12 : Nodes w12 w.heap.size v' (ms ++ [⟨.slice ca m cc, 1 :: (d ++ digestV x)⟩]) := by
          refine ⟨?_, ?_⟩
          · rw [nodesC_append, nodesC_one, List.length_append, List.length_singleton]; exact hrow12
          · intro y hy
            rcases List.mem_append.1 hy with hy | hy
            · exact ((HN11.out.own y hy).alloc _).grown_other (HN11.out.row.alloc _) (by decide) hg12
            · rw [List.mem_singleton] at hy
              subst hy
              exact ((Ho11.out.mono (by have := Hb10.out.size; omega)).alloc _).grown_other (HN11.out.row.alloc _) (by decide) hg12
        have HF := Lib.hid (And.intro hN12 hb12)
        clear hN12 hb12 hvb hrow12 hg12
        obtain ⟨a12, c12, rfl, -, -, -⟩ := row_slice HF.out.1.row
        go_wp2_with fail
        go_ret
        refine ⟨_, _, rfl, HF.out.1, ?_, HF.out.2⟩
        rw [List.map_append, Hml.out.1]
        show _ = l ++ [1 :: (d ++ digestV (l.getLast?.getD []))]
        rw [← Hml.out.2]
        rfl
end Go.Proofs.Ytnlblmghhkmbbaa

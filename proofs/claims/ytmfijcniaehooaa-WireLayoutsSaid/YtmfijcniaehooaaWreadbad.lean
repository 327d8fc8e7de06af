/- Bytes that do not fit a layout are refused by the first field that cannot be read. -/
import Derived.Test.YtmfijcniaehooaaWready
import Derived.Test.YtmfijcniaehooaaGdies
namespace Go.Proofs.Ytmfijcniaehooaa
set_option linter.unusedVariables false
open Go.RowKit

theorem read1_bad {w w' : World} {R : Nat} {a : Option Addr} {len cap : Nat} {xs : List Int} {p : Nat} {er n : Int} {bs : List Int} {st : Nat} {e : Ending} (h : Read1 w R a len cap xs p er n bs st e w') (h0 : er ≠ 0) : e = pan er ∧ w.grownBy w' (some R) := by
  rcases h with ⟨h, _⟩ | ⟨_, h⟩
  · exact absurd h h0
  · exact h
attribute [local irreducible] oneV
set_option maxRecDepth 100000 in
set_option maxHeartbeats 8000000 in
theorem readAll_bad (a : Option Addr) (len cap : Nat) (fs : List Fld) (w : World) (h : RdF w a len cap fs) (a2 : Option Addr) (len2 cap2 : Nat) (bs : List Int) (h2 : Rd w a2 len2 cap2 bs) (hbig : len2 ≤ 140737488355328) (hch : checkV fs = 0) (k0 : Nat) (hk0 : k0 < len) (hok : ∀ k, k < k0 → (atV fs bs k).1 = 0) (er : Int) (her : (atV fs bs k0).1 = er) (hne : er ≠ 0) :
    Calls Try.prog 76 #[.slice a len cap, .slice a2 len2 cap2] w fun e w' => e = .returned (.tuple #[.slice none 0 0, .slice none 0 0, .int .i64 er]) ∧ Below w.heap.size w w' := by
  have h0 : 0 < len := by omega
  have HE := Lib.hid her
  have HN := Lib.hid hne
  clear her hne
  have hc := h.hc
  have hm := h.hm
  have hl := h.hl
  unfold maxLen at hm
  obtain ⟨b, off, rfl, hcell⟩ := h.hr h0
  have hbk := World.block_lt_of_cell? w _ (hcell 0 h0).1
  have Hl := Lib.hid hl
  have H := Lib.hid h
  have H2 := Lib.hid h2
  have Hch := Lib.hid hch
  have h64 : len ≤ 64 := by have := (checkV_ok hch).1; omega
  clear h hcell hl h2 hch
  have hmf : ∀ (fn : Fn) (first cap : Array Value) (w : World), (Instr.makeFunc fn first cap).run Try.prog w = .ok (.func fn first cap) w := fun _ _ _ _ => rfl
  go_enter_defers Try.func76, Try.ntmps76
  go_wp2_with fail
  have hb0 : Below w.heap.size w (((w.alloc (.cells #[.slice none 0 0] 50)).alloc (.cells #[.slice none 0 0] 63)).alloc (.cells #[.int .i64 0] 24)) := (((Below.refl w.heap.size w).alloc (Nat.le_refl _) _).alloc (by simp) _).alloc (by simp; omega) _
  refine (check_any _ _ _ fs _ (H.out.below hb0 (Nat.le_refl _))).mono ?_
  rintro e w1 ⟨rfl, hb1⟩
  rw [Hch.out]
  go_wp2_with (first
    | (go_at_call 70; refine (kinds_any _).mono ?_; rintro e w1 ⟨rfl, rfl⟩)
    | (refine wpList_store_newAt (by rfl) 121 (.tmp 8) (.tmp 18) rfl kindTab (w1.heap.size + 1) (by simp) rfl rfl 121 _ Try.sizeKinds (by kernel_rfl) (by kernel_rfl) ?_))
  have hS1 := hb1.size
  simp at hS1
  have hb2 : Below w.heap.size w w1 := hb0.trans (hb1.mono (by simp; omega))
  have hx := heap3 w (.cells #[.slice none 0 0] 50) (.cells #[.slice none 0 0] 63) (.cells #[.int .i64 0] 24)
  obtain ⟨W1, hW1⟩ : ∃ W1, W1 = ((w1.alloc (.cells kindTab 121)).alloc (.cells kindTab 121)).alloc (.cells #[.int .i64 0, .slice a2 len2 cap2] 137) := ⟨_, rfl⟩
  have hy := heap3 w1 (.cells kindTab 121) (.cells kindTab 121) (.cells #[.int .i64 0, .slice a2 len2 cap2] 137)
  have hbW : Below w1.heap.size w1 W1 := by rw [hW1]; exact (((Below.refl w1.heap.size w1).alloc (Nat.le_refl _) _).alloc (by simp) _).alloc (by simp; omega) _
  have hSW : w1.heap.size + 1 + 1 + 1 ≤ W1.heap.size := by rw [hW1]; simp
  rw [← hW1] at hy ⊢
  clear hW1
  have hb3 : Below w.heap.size w W1 := hb2.trans (hbW.mono (by omega))
  have bx0 : Boxed W1 w.heap.size 50 (.slice none 0 0) := ((hbW.block _ (by omega)).trans (hb1.block _ (by first | (simp; done) | (simp; omega)))).trans hx.1
  have bx1 : Boxed W1 (w.heap.size + 1) 63 (.slice none 0 0) := ((hbW.block _ (by omega)).trans (hb1.block _ (by first | (simp; done) | (simp; omega)))).trans hx.2.1
  have bx2 : Boxed W1 (w.heap.size + 1 + 1) 24 (.int .i64 0) := ((hbW.block _ (by omega)).trans (hb1.block _ (by first | (simp; done) | (simp; omega)))).trans hx.2.2
  have hT : IsTab W1 (w1.heap.size + 1) := hy.2.1
  have hR : IsR W1 (w1.heap.size + 1 + 1) 0 a2 len2 cap2 bs := ⟨hy.2.2, H2.out.below hb3 (Nat.le_refl _), Nat.zero_le _⟩
  clear hx hy hb0 hb1 hb2 hbW
  have HII := Lib.hid (info_parts Try.infoI)
  have HR := Lib.hid hR
  have Hbx0 := Lib.hid bx0
  have Hbx1 := Lib.hid bx1
  have Hbx2 := Lib.hid bx2
  have HT := Lib.hid hT
  have Hb3 := Lib.hid hb3
  have c1 := bx1.cell
  have f1 := bx1.frozen
  clear hR bx0 bx1 bx2 hT hb3
  have hl0 : w.heap.size < W1.heap.size := by omega
  have hl1 : w.heap.size + 1 < W1.heap.size := by omega
  have hl2 : w.heap.size + 1 + 1 < W1.heap.size := by omega
  have HS := Lib.hid (show St w (w1.heap.size + 1) (w1.heap.size + 1 + 1) a2 len2 cap2 bs [] (.slice none 0 0) [] (.slice none 0 0) 0 W1 from ⟨Hbx0.out, Hbx1.out, Hbx2.out, HT.out, HR.out, World.ownsRow_nil _ _ _ _, World.ownsRow_nil _ _ _ _, by simp, Hb3.out⟩)
  clear HR Hbx0 Hbx1 Hbx2 HT Hb3
  have hTR : w.heap.size ≤ w1.heap.size + 1 + 1 := by omega
  go_upto_region 7 with fail
  go_cut [] from 12 (fun wx => ∃ v1, St w (w1.heap.size + 1) (w1.heap.size + 1 + 1) a2 len2 cap2 bs [] (.slice none 0 0) [0] v1 0 wx)
  case first =>
    refine wp_region_noPanic ?_
    go_region_law (first | (obtain ⟨i0, hi, hz0, hz1, hz2⟩ := HII.out; refine step_append_lies _ rfl _ _ 63 (by rfl) w.heap.size 3 i0 (.int .i64 0) 1 8 Try.underlying63 hi hz0 hz1 hz2 rfl (by decide) (.slice none 0 0) 0 [] (by rfl) (World.ownsRow_nil _ _ _ _) ⟨W1.heap.size, 0, none⟩ 1 1 [.int .i64 0] (by rfl) (by rfl) (World.news_of_block (cs := #[.int .i64 0]) (t := 3) (fr := (0, 0)) (heap_alloc_new W1 _)) (by simp [Value.oneCell']) (by omega) (by unfold maxLen; omega) (by omega) (by simp; omega) (W1.heap.size + 1) (by simp) ?_; clear hi hz0 hz1 hz2; intro g cap w2 hown hgrow hat hlt; have hq := (boxed_drew (HS.out.bx1.alloc (.cells #[.int .i64 0] 3))).kept hgrow (by simp [Value.ownBlock]); have hq1 := hq.cell; have hq2 := hq.frozen) | (go_simp; go_at_call 52; refine (at_any (HS.out.rd.below (Below.refl _ W1).drew (Nat.le_refl _))).mono ?_; rintro e w' ⟨rfl, rfl⟩))
    all_goals (refine NoPanic.normal ?_; go_wp2_with fail; go_meet; exact ⟨_, HS.out.bound H2.out hown (grown_undrew hgrow)⟩)
  case rest =>
    obtain ⟨v1, hS⟩ := hcut
    have HS := Lib.hid hS
    clear hS c1 f1
    have Hok := Lib.hid hok
    clear hok
    have hTs : w1.heap.size + 1 + 1 < wc.heap.size := HS.out.rd.lt
    go_wp2_with fail
    go_loopw [11, 29] (fun _ i wr => ∃ (k : Nat) (items : List Itm) (v0 v1 : Value), k ≤ k0 ∧ i = .int .i64 k ∧ items.length = k ∧ items.map (fun x => (x.n, x.xs)) = (List.range k).map (fun k => ((atV fs bs k).2.1, (atV fs bs k).2.2.1))
        ∧ St w (w1.heap.size + 1) (w1.heap.size + 1 + 1) a2 len2 cap2 bs items v0 ((List.range (k + 1)).map fun k => (posV fs bs k : Int)) v1 (posV fs bs k) wr)
      (fun _ i _ => k0 - (intOf i).toNat)
    case atStart => 
      refine ⟨0, [], .slice none 0 0, v1, Nat.zero_le _, rfl, rfl, rfl, ?_⟩
      have h0 : posV fs bs 0 = 0 := by unfold posV; rfl
      rw [show (List.range (0 + 1)).map (fun k => (posV fs bs k : Int)) = [0] from by simp [h0], h0]
      exact HS.out
    case round =>
      obtain ⟨k, items, v0, v1, hk, rfl, hil, hiv, hst⟩ := hrel
      by_cases hlt0 : k < k0
      · have hlt : k < len := by omega
        have hF := H.out.below hst.below (Nat.le_refl _)
        have hS := hst.below.size
        obtain ⟨b', off', e', hcell⟩ := hF.hr h0
        cases e'
        obtain ⟨c0, c1, c2⟩ := hcell k hlt
        have hl1 := Hl.out
        have hat := posV_succ fs bs k
        have hok := Hok.out k hlt0
        have hav : atV fs bs k = oneV (fs.getD k default).kind (fs.getD k default).width bs (posV fs bs k) := by unfold atV; rfl
        obtain ⟨f, hf⟩ : ∃ f, f = fs.getD k default := ⟨_, rfl⟩
        rw [← hf] at c0 c1 c2 hav
        have hfm : f ∈ fs := by
          rw [hf]
          have : fs.getD k default = fs[k]'(by omega) := by simp [List.getD, hl1, hlt]
          rw [this]; exact List.getElem_mem _
        have hok2 := (checkV_ok Hch.out).2 f hfm
        obtain ⟨g1, g5, g6, g7⟩ := fld_bd hok2
        obtain ⟨t0, t1, t2, t3, t4, t5⟩ := hst.tab.cells f.kind g1 g5
        have d0 := hst.bx0.cell
        have d1 := hst.bx0.frozen
        have hl0' : w.heap.size < wr.heap.size := hst.bx0.lt
        have hTlt : w1.heap.size + 1 + 1 < wr.heap.size := hst.rd.lt
        have hent := enters_read f.kind g1 g5
        have hTlt0 : w1.heap.size + 1 < wr.heap.size := by omega
        have hst0 : w.heap.size ≤ (wr.alloc (.cells #[.string f.name, .int .i64 f.kind, .int .i64 f.width] 101)).drew.heap.size := by simp; omega
        have hst2 := hst.alloc H2.out ((Below.refl wr.heap.size wr).alloc (Nat.le_refl _) (.cells #[.string f.name, .int .i64 f.kind, .int .i64 f.width] 101))
        have HS2 := Lib.hid hst2
        have Hat := Lib.hid hat
        have Hav := Lib.hid hav
        have Hiv := Lib.hid hiv
        have hblt : b < wr.heap.size := by omega
        have hk0 : (0 : Int) ≤ (k : Int) := by omega
        have hk1 : (k : Int) < (len : Int) := by omega
        have g1' : (0 : Int) ≤ f.kind := by omega
        have g5' : f.kind < 6 := by omega
        clear hat hav hst2 hst hiv hf hF hcell hl1 hfm hok2
        have HDD := Lib.hid (info_parts Try.infoD)
        go_upto_region 11 with fail
        go_cut [] from 30 to 50 (fun wx => ∃ (x : Itm) (v0' : Value), (x.n, x.xs) = ((atV fs bs k).2.1, (atV fs bs k).2.2.1) ∧ St w (w1.heap.size + 1) (w1.heap.size + 1 + 1) a2 len2 cap2 bs (items ++ [x]) v0' ((List.range (k + 1)).map fun k => (posV fs bs k : Int)) v1 (posV fs bs (k + 1)) wx)
        case first =>
          refine wp_region_noPanic ?_
          go_region_law (first
            | (obtain ⟨i0, hi, hz0, hz1, hz2⟩ := HDD.out; refine step_append_lies _ rfl _ _ 50 (by rfl) w.heap.size 52 i0 (.agg #[.int .i64 0, .slice none 0 0]) 2 32 Try.underlying50 hi hz0 hz1 hz2 rfl (by decide) v0 items.length (itemCells items) (by rfl) (HS3.out.row0.alloc _) ⟨w2.heap.size, 0, none⟩ 1 1 [.int .i64 (atV fs bs k).2.1, .slice a1 l1 c1'] (by rfl) (by rfl) (World.news_of_block (cs := #[.int .i64 (atV fs bs k).2.1, .slice a1 l1 c1']) (t := 52) (fr := (0, 0)) (heap_alloc_new w2 _)) (by simp [Value.oneCell']) (by omega) (by unfold maxLen; omega) (by omega) (by simp; omega) (w2.heap.size + 1) (by simp) ?_; clear hi hz0 hz1 hz2; intro g cap w3 hown hgrow hat hlt; have hq := HS3.out.boxed0 hown hgrow; have hq1 := hq.cell; have hq2 := hq.frozen)
            | (go_simp; go_at_fn (fRead f.kind); refine (read_any (HS2.out.drew H2.out).rd f.kind f.width g1 g5 (by omega) (by omega) hbig).mono ?_; intro e w2 hr1; rw [← Hav.out] at hr1; obtain ⟨a1, l1, c1', rfl, hO, hM⟩ := read1_ok hr1 hok; have HS3 := Lib.hid ((HS2.out.drew H2.out).moved H2.out hTR hM); have q0 := HS3.out.bx0.cell; have q1 := HS3.out.bx0.frozen; have HO := Lib.hid hO; have ql := HS3.out.bx0.lt; clear hr1 hO hM))
          all_goals (refine NoPanic.normal ?_; go_wp2_with fail; go_meet; exact ⟨⟨(atV fs bs k).2.1, a1, l1, c1', (atV fs bs k).2.2.1⟩, _, rfl, by rw [Hat.out]; rw [hil] at hown; exact HS3.out.item H2.out (HO.out.mono hst0) (by rw [hil]; exact hown) hgrow⟩)
        case rest =>
          obtain ⟨x, v0', hx, hS4⟩ := hcut
          have HX := Lib.hid hx
          have HS4 := Lib.hid hS4
          clear hx hS4 c0 c1 c2 t0 t1 t2 t3 t4 t5 d0 d1 hent HS2 hst0 Hav
          have e0 := HS4.out.bx1.cell
          have e1 := HS4.out.bx1.frozen
          have e2 := HS4.out.bx1.lt
          go_upto_region 12 with fail
          refine wp_region_noPanic ?_
          go_region_law (first
            | (obtain ⟨i0, hi, hz0, hz1, hz2⟩ := HII.out; refine step_append_lies _ rfl _ _ 63 (by rfl) w.heap.size 3 i0 (.int .i64 0) 1 8 Try.underlying63 hi hz0 hz1 hz2 rfl (by decide) v1 ((List.range (k + 1)).map fun k => (posV fs bs k : Int)).length _ (by rfl) (row_drew (HS4.out.row1.alloc _)) ⟨wc.heap.size, 0, none⟩ 1 1 [.int .i64 (posV fs bs (k + 1))] (by rfl) (by rfl) (World.news_of_block (cs := #[.int .i64 (posV fs bs (k + 1))]) (t := 3) (fr := (0, 0)) (heap_alloc_new wc _)) (by simp [Value.oneCell']) (by omega) (by unfold maxLen; rw [List.length_map, List.length_range]; omega) (by rw [List.length_map, List.length_range]; omega) (by simp; have := HS4.out.below.size; omega) (wc.heap.size + 1) (by simp) ?_; clear hi hz0 hz1 hz2; intro g cap w3 hown hgrow hat hlt; have hq := HS4.out.boxed1 hown (grown_undrew hgrow); have hq1 := hq.cell; have hq2 := hq.frozen)
            | (go_simp; go_at_call 52; refine (at_any (HS4.out.drew H2.out).rd).mono ?_; rintro e w' ⟨rfl, rfl⟩))
          all_goals (
            have hbl : ((List.range (k + 1)).map fun k => (posV fs bs k : Int)).length = k + 1 := by simp
            refine NoPanic.normal ?_
            rw [hbl] at hown
            clear hq hq1 hq2 e0 e1 e2 hat
            go_wp2
            go_roundw
            case rel =>
              refine ⟨k + 1, items ++ [x], v0', .slice (some ⟨g, 0, none⟩) (k + 1 + 1) cap, by omega, by go_num, by simp [hil], by rw [List.map_append, Hiv.out, List.range_succ, List.map_append, List.map_singleton, List.map_singleton, HX.out], ?_⟩
              rw [List.range_succ, List.map_append]
              exact HS4.out.bound H2.out (by rw [hbl]; exact hown) (grown_undrew hgrow)
            case measure => simp [intOf]; omega)
      · obtain rfl : k = k0 := by omega
        have hlt : k < len := by omega
        have hF := H.out.below hst.below (Nat.le_refl _)
        have hS := hst.below.size
        obtain ⟨b', off', e', hcell⟩ := hF.hr h0
        cases e'
        obtain ⟨c0, c1, c2⟩ := hcell k hlt
        have hl1 := Hl.out
        have hat := posV_succ fs bs k
        have hbad := HN.out
        have hav : atV fs bs k = oneV (fs.getD k default).kind (fs.getD k default).width bs (posV fs bs k) := by unfold atV; rfl
        obtain ⟨f, hf⟩ : ∃ f, f = fs.getD k default := ⟨_, rfl⟩
        rw [← hf] at c0 c1 c2 hav
        have hfm : f ∈ fs := by
          rw [hf]
          have : fs.getD k default = fs[k]'(by omega) := by simp [List.getD, hl1, hlt]
          rw [this]; exact List.getElem_mem _
        have hok2 := (checkV_ok Hch.out).2 f hfm
        obtain ⟨g1, g5, g6, g7⟩ := fld_bd hok2
        obtain ⟨t0, t1, t2, t3, t4, t5⟩ := hst.tab.cells f.kind g1 g5
        have d0 := hst.bx0.cell
        have d1 := hst.bx0.frozen
        have hl0' : w.heap.size < wr.heap.size := hst.bx0.lt
        have hTlt : w1.heap.size + 1 + 1 < wr.heap.size := hst.rd.lt
        have hent := enters_read f.kind g1 g5
        have hTlt0 : w1.heap.size + 1 < wr.heap.size := by omega
        have hst0 : w.heap.size ≤ (wr.alloc (.cells #[.string f.name, .int .i64 f.kind, .int .i64 f.width] 101)).drew.heap.size := by simp; omega
        have hst2 := hst.alloc H2.out ((Below.refl wr.heap.size wr).alloc (Nat.le_refl _) (.cells #[.string f.name, .int .i64 f.kind, .int .i64 f.width] 101))
        have HS2 := Lib.hid hst2
        have Hat := Lib.hid hat
        have Hav := Lib.hid hav
        have Hiv := Lib.hid hiv
        have hblt : b < wr.heap.size := by omega
        have hk0 : (0 : Int) ≤ (k : Int) := by omega
        have hk1 : (k : Int) < (len : Int) := by omega
        have g1' : (0 : Int) ≤ f.kind := by omega
        have g5' : f.kind < 6 := by omega
        clear hat hav hst2 hst hiv hf hF hcell hl1 hfm hok2
        have HDD := Lib.hid (info_parts Try.infoD)
        go_upto_region 11 with fail
        have x0 := HS2.out.bx0.cell
        obtain ⟨y0, y1, y2, y3, y4, y5⟩ := HS2.out.tab.cells f.kind g1 g5
        have n1 := cell_of_row (wr.alloc (.cells #[.string f.name, .int .i64 f.kind, .int .i64 f.width] 101)) wr.heap.size 1 _ _ _ (heap_alloc_last wr _)
        have n2 := cell_of_row (wr.alloc (.cells #[.string f.name, .int .i64 f.kind, .int .i64 f.width] 101)) wr.heap.size 2 _ _ _ (heap_alloc_last wr _)
        simp only [List.getElem?_toArray, List.getElem?_cons_zero, List.getElem?_cons_succ] at n1 n2
        obtain ⟨WX, hWX⟩ : ∃ WX, WX = wr.alloc (.cells #[.string f.name, .int .i64 f.kind, .int .i64 f.width] 101) := ⟨_, rfl⟩
        have hWs : w.heap.size ≤ WX.heap.size := by rw [hWX]; simp; omega
        rw [← hWX] at x0 y0 y1 y2 y3 y4 y5 n1 n2 HS2 ⊢
        clear hWX hst0 c0 c1 c2 t0 t1 t2 t3 t4 t5 d0 d1 y0 y1 y2 y3 y4
        refine region_dies 9 53 _ [(4, .pointer (some ⟨w.heap.size, 0, none⟩)), (11, .pointer (some ⟨wr.heap.size, 0, none⟩)), (8, .pointer (some ⟨w1.heap.size + 1, 0, none⟩)), (9, .pointer (some ⟨w1.heap.size + 1 + 1, 0, none⟩)), (5, .pointer (some ⟨w.heap.size + 1, 0, none⟩)), (6, .pointer (some ⟨w.heap.size + 1 + 1, 0, none⟩))]
          (fun i => 33 + i) (fun i => match i with
            | 0 => v0
            | 1 => .pointer (some ⟨wr.heap.size, 1, none⟩)
            | 2 => .int .i64 f.kind
            | 3 => .pointer (some ⟨w1.heap.size + 1, f.kind.toNat * 6, none⟩)
            | 4 => .pointer (some ⟨w1.heap.size + 1, f.kind.toNat * 6 + 5, none⟩)
            | 5 => .func (.func (fRead f.kind)) #[] #[]
            | 6 => .pointer (some ⟨w1.heap.size + 1 + 1, 0, none⟩)
            | 7 => .pointer (some ⟨wr.heap.size, 2, none⟩)
            | 8 => .int .i64 f.width
            | _ => undef) (by kernel_rfl) (by decide) (by kernel_rfl) (by kernel_rfl) (by kernel_rfl) ?step ?die _ rfl rfl ?fix
        case fix =>
          intro t v ht
          simp only [List.mem_cons, Prod.mk.injEq, List.not_mem_nil, or_false] at ht
          rcases ht with ⟨rfl, rfl⟩ | ⟨rfl, rfl⟩ | ⟨rfl, rfl⟩ | ⟨rfl, rfl⟩ | ⟨rfl, rfl⟩ | ⟨rfl, rfl⟩ <;> rfl
        case step =>
          intro i o a ho hi hf hd
          have e4 := hf 4 (.pointer (some ⟨w.heap.size, 0, none⟩)) (by simp)
          have e11 := hf 11 (.pointer (some ⟨wr.heap.size, 0, none⟩)) (by simp)
          have e8 := hf 8 (.pointer (some ⟨w1.heap.size + 1, 0, none⟩)) (by simp)
          have e9 := hf 9 (.pointer (some ⟨w1.heap.size + 1 + 1, 0, none⟩)) (by simp)
          clear hf
          have hi' : i = 0 ∨ i = 1 ∨ i = 2 ∨ i = 3 ∨ i = 4 ∨ i = 5 ∨ i = 6 ∨ i = 7 ∨ i = 8 := by omega
          clear hi
          rcases hi' with rfl | rfl | rfl | rfl | rfl | rfl | rfl | rfl | rfl
          · simp only [List.getElem?_toArray, List.getElem?_cons_zero, Option.some.injEq] at ho
            subst ho
            clear hd
            simp only [execOp, Act.eval, e4]
            go_simp
          · simp only [List.getElem?_toArray, List.getElem?_cons_zero, List.getElem?_cons_succ, Option.some.injEq] at ho
            subst ho
            clear hd
            simp only [execOp, Act.eval, e11]
            go_simp
          · simp only [List.getElem?_toArray, List.getElem?_cons_zero, List.getElem?_cons_succ, Option.some.injEq] at ho
            subst ho
            have q : a.tmps.getD 34 undef = .pointer (some ⟨wr.heap.size, 1, none⟩) := hd ⟨1, .data⟩ (by simp) (by kernel_rfl)
            clear hd
            simp only [execOp, Act.eval, q]
            go_simp
          · simp only [List.getElem?_toArray, List.getElem?_cons_zero, List.getElem?_cons_succ, Option.some.injEq] at ho
            subst ho
            have q : a.tmps.getD 35 undef = .int .i64 f.kind := hd ⟨2, .data⟩ (by simp) (by kernel_rfl)
            clear hd
            simp only [execOp, Act.eval, q, e8]
            go_simp
          · simp only [List.getElem?_toArray, List.getElem?_cons_zero, List.getElem?_cons_succ, Option.some.injEq] at ho
            subst ho
            have q : a.tmps.getD 36 undef = .pointer (some ⟨w1.heap.size + 1, f.kind.toNat * 6, none⟩) := hd ⟨3, .data⟩ (by simp) (by kernel_rfl)
            clear hd
            simp only [execOp, Act.eval, q]
            go_simp
          · simp only [List.getElem?_toArray, List.getElem?_cons_zero, List.getElem?_cons_succ, Option.some.injEq] at ho
            subst ho
            have q : a.tmps.getD 37 undef = .pointer (some ⟨w1.heap.size + 1, f.kind.toNat * 6 + 5, none⟩) := hd ⟨4, .data⟩ (by simp) (by kernel_rfl)
            clear hd
            simp only [execOp, Act.eval, q]
            go_simp
          · simp only [List.getElem?_toArray, List.getElem?_cons_zero, List.getElem?_cons_succ, Option.some.injEq] at ho
            subst ho
            clear hd
            simp only [execOp, Act.eval, e9]
            go_simp
          · simp only [List.getElem?_toArray, List.getElem?_cons_zero, List.getElem?_cons_succ, Option.some.injEq] at ho
            subst ho
            clear hd
            simp only [execOp, Act.eval, e11]
            go_simp
          · simp only [List.getElem?_toArray, List.getElem?_cons_zero, List.getElem?_cons_succ, Option.some.injEq] at ho
            subst ho
            have q : a.tmps.getD 40 undef = .pointer (some ⟨wr.heap.size, 2, none⟩) := hd ⟨7, .data⟩ (by simp) (by kernel_rfl)
            clear hd
            simp only [execOp, Act.eval, q]
            go_simp
        case die =>
          intro o a K ho hsz hD hf hd
          simp only [List.getElem?_toArray, List.getElem?_cons_zero, List.getElem?_cons_succ, Option.some.injEq] at ho
          subst ho
          have q5 : a.tmps.getD 38 undef = .func (.func (fRead f.kind)) #[] #[] := hd ⟨5, .data⟩ (by simp) (by kernel_rfl)
          have q6 : a.tmps.getD 39 undef = .pointer (some ⟨w1.heap.size + 1 + 1, 0, none⟩) := hd ⟨6, .data⟩ (by simp) (by kernel_rfl)
          have q8 : a.tmps.getD 41 undef = .int .i64 f.width := hd ⟨8, .data⟩ (by simp) (by kernel_rfl)
          have e4 := hf 4 (.pointer (some ⟨w.heap.size, 0, none⟩)) (by simp)
          have e5 := hf 5 (.pointer (some ⟨w.heap.size + 1, 0, none⟩)) (by simp)
          have e6 := hf 6 (.pointer (some ⟨w.heap.size + 1 + 1, 0, none⟩)) (by simp)
          clear hd hf
          unfold Oper.wp
          simp only [execOp]
          go_simp
          refine (read_any (HS2.out.drew H2.out).rd f.kind f.width g1 g5 (by omega) (by omega) hbig).mono ?_
          intro e w2 hr1
          rw [← Hav.out, HE.out] at hr1
          obtain ⟨rfl, hg⟩ := read1_bad hr1 HN.out
          have hS4 := HS2.out.drew H2.out
          have bx0 := hS4.bx0.kept hg (by simp; omega)
          have bx1 := hS4.bx1.kept hg (by simp; omega)
          have bx2 := hS4.bx2.kept hg (by simp; omega)
          have hb4 : Below w.heap.size w w2 := hS4.below.grown hg hS4.below.size (fun k hk => by simp at hk; omega)
          have Hb4 := Lib.hid hb4
          have c0 := bx0.cell
          have c1 := bx1.cell
          have c2 := bx2.cell
          have d0 := bx0.frozen
          have d1 := bx1.frozen
          have d2 := bx2.frozen
          have l0 := bx0.lt
          have l1 := bx1.lt
          have l2 := bx2.lt
          have HX := Lib.hid (And.intro bx0 (And.intro bx1 bx2))
          clear hr1 hg hS4 hb4 bx0 bx1 bx2 x0 y5 n1 n2 HS2
          unfold pan
          simp only
          change bodyPostD _ _ _ (Exit.panic _) a w2
          simp only [bodyPostD, hD]
          refine leaves_cons (f := 102) (args := #[.pointer (some ⟨w.heap.size, 0, none⟩), .pointer (some ⟨w.heap.size + 1, 0, none⟩), .pointer (some ⟨w.heap.size + 1 + 1, 0, none⟩)]) (by simp) (by simp [go_sem]) ?_
          refine (catch_pan w.heap.size (w.heap.size + 1) (w.heap.size + 1 + 1) er w2 [] _ _ _ c0 c1 c2 d0 d1 d2 (by omega) (by omega)).mono ?_
          rintro e u' w'' ⟨rfl, rfl, rfl⟩
          have B0 := HX.out.1.set (.slice none 0 0)
          have B1 : Boxed _ _ _ _ := (heap_setCell_other w2 ⟨w.heap.size, 0, none⟩ (w.heap.size + 1) (.slice none 0 0) (by simp)).trans HX.out.2.1
          have B2 : Boxed _ _ _ _ := (heap_setCell_other w2 ⟨w.heap.size, 0, none⟩ (w.heap.size + 1 + 1) (.slice none 0 0) (by simp; omega)).trans HX.out.2.2
          have hz1 := Hb4.out.setCell (p := ⟨w.heap.size, 0, none⟩) (by simp) (.slice none 0 0)
          generalize w2.setCell ⟨w.heap.size, 0, none⟩ (.slice none 0 0) = w3 at *
          have C0 : Boxed _ _ _ _ := (heap_setCell_other w3 ⟨w.heap.size + 1, 0, none⟩ w.heap.size (.slice none 0 0) (by simp)).trans B0
          have C1 := Boxed.set (.slice none 0 0) B1
          have C2 : Boxed _ _ _ _ := (heap_setCell_other w3 ⟨w.heap.size + 1, 0, none⟩ (w.heap.size + 1 + 1) (.slice none 0 0) (by simp)).trans B2
          have hz2 := hz1.setCell (p := ⟨w.heap.size + 1, 0, none⟩) (by simp) (.slice none 0 0)
          generalize w3.setCell ⟨w.heap.size + 1, 0, none⟩ (.slice none 0 0) = w4 at *
          have D0 : Boxed _ _ _ _ := (heap_setCell_other w4 ⟨w.heap.size + 1 + 1, 0, none⟩ w.heap.size (.int .i64 er) (by simp; omega)).trans C0
          have D1 : Boxed _ _ _ _ := (heap_setCell_other w4 ⟨w.heap.size + 1 + 1, 0, none⟩ (w.heap.size + 1) (.int .i64 er) (by simp)).trans C1
          have D2 := Boxed.set (.int .i64 er) C2
          have hz3 := hz2.setCell (p := ⟨w.heap.size + 1 + 1, 0, none⟩) (by simp; omega) (.int .i64 er)
          generalize w4.setCell ⟨w.heap.size + 1 + 1, 0, none⟩ (.int .i64 er) = w5 at *
          have z0 := D0.cell
          have z1 := D1.cell
          have z2 := D2.cell
          have E4 : a.tmps[4]?.getD undef = .pointer (some ⟨w.heap.size, 0, none⟩) := by simpa using e4
          have E5 : a.tmps[5]?.getD undef = .pointer (some ⟨w.heap.size + 1, 0, none⟩) := by simpa using e5
          have E6 : a.tmps[6]?.getD undef = .pointer (some ⟨w.heap.size + 1 + 1, 0, none⟩) := by simpa using e6
          have HZ := Lib.hid hz3
          clear D0 D1 D2 C0 C1 C2 B0 B1 B2 hz1 hz2 hz3 c0 c1 c2 d0 d1 d2
          simp [Leaves, settle, results, Try.results76, go_sem, E4, E5, E6, z0, z1, z2]
          exact HZ.out
end Go.Proofs.Ytmfijcniaehooaa

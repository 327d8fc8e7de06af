/- Bytes that fit a layout are read wholly. -/
import Derived.Test.YtmfijcniaehooaaWst
import Derived.Deep.RegionLaw
import Derived.Deep.RegionHeld3
import Derived.Deep.DeepCutAuto
import Derived.Shelf.Abstract
namespace Go.Proofs.Ytmfijcniaehooaa
set_option linter.unusedVariables false
open Go.RowKit

theorem Try.infoI : (Try.prog.info? 3).map (fun i => (i.zero, i.size, i.bytes)) = some (some (.int .i64 0), 1, 8) := by kernel_rfl
theorem Try.infoD : (Try.prog.info? 52).map (fun i => (i.zero, i.size, i.bytes)) = some (some (.agg #[.int .i64 0, .slice none 0 0]), 2, 32) := by kernel_rfl
theorem boxed_drew {W : World} {B : Nat} {t : TypeId} {v : Value} (h : Boxed W B t v) : Boxed W.drew B t v := h
theorem heap3 (w : World) (a b c : Obj) : (((w.alloc a).alloc b).alloc c).heap[w.heap.size]? = some a ∧ (((w.alloc a).alloc b).alloc c).heap[w.heap.size + 1]? = some b ∧ (((w.alloc a).alloc b).alloc c).heap[w.heap.size + 1 + 1]? = some c := by
  refine ⟨?_, ?_, ?_⟩
  · rw [heap_alloc_old _ _ _ (by simp; omega), heap_alloc_old _ _ _ (by simp), heap_alloc_last]
  · rw [heap_alloc_old _ _ _ (by simp)]
    have := heap_alloc_last (w.alloc a) b
    simpa using this
  · have := heap_alloc_last ((w.alloc a).alloc b) c
    simpa using this
theorem grown_undrew {W w2 : World} {r : Option Nat} (h : W.drew.grownBy w2 r) : W.grownBy w2 r := ⟨h.os, h.tape, h.output, h.size, h.block⟩
theorem St.drew {w W : World} {T R : Nat} {a2 : Option Addr} {len2 cap2 : Nat} {bs : List Int} {items : List Itm} {v0 v1 : Value} {bds : List Int} {p : Nat} (h : St w T R a2 len2 cap2 bs items v0 bds v1 p W) (h2 : Rd w a2 len2 cap2 bs) : St w T R a2 len2 cap2 bs items v0 bds v1 p W.drew := h.alloc h2 (Below.refl _ W).drew
theorem row_drew {W : World} {base : Nat} {e : TypeId} {size : Nat} {v : Value} {n : Nat} {xs : List Value} (h : W.ownsRow base e size v n xs) : W.drew.ownsRow base e size v n xs := h
theorem set_same {W : World} {B : Nat} {t : TypeId} {v : Value} (h : Boxed W B t v) : W.setCell ⟨B, 0, none⟩ v = W := by
  have he : (W.setCell ⟨B, 0, none⟩ v).heap = W.heap := by
    refine Array.ext_getElem? fun i => ?_
    by_cases hi : i = B
    · subst hi; exact (h.set v).trans (show W.heap[i]? = _ from h).symm
    · exact heap_setCell_other W ⟨B, 0, none⟩ i v hi
  have : W.setCell ⟨B, 0, none⟩ v = { W with heap := (W.setCell ⟨B, 0, none⟩ v).heap } := rfl
  rw [this, he]
theorem row_slice {W : World} {base : Nat} {e : TypeId} {size : Nat} {v : Value} {n : Nat} {xs : List Value} (h : W.ownsRow base e size v n xs) : ∃ a l c, v = .slice a l c := by
  rcases h.2 with ⟨rfl, _⟩ | ⟨g, cap, cur, rfl, _⟩
  · exact ⟨_, _, _, rfl⟩
  · exact ⟨_, _, _, rfl⟩
theorem St.boxed0 {w W w2 : World} {T R : Nat} {a2 : Option Addr} {len2 cap2 : Nat} {bs : List Int} {items : List Itm} {v0 v1 v' : Value} {bds : List Int} {p m : Nat} {tmp : Obj} {ys : List Value}
    (h : St w T R a2 len2 cap2 bs items v0 bds v1 p W) (hown' : w2.ownsRow w.heap.size 52 2 v' m ys) (hgrow : (W.alloc tmp).grownBy w2 v0.ownBlock) : Boxed w2 w.heap.size 50 v0 :=
  (h.bx0.appended (by decide) h.row0 h.below.size (Nat.le_refl _) hown' hgrow).1
theorem St.boxed1 {w W w2 : World} {T R : Nat} {a2 : Option Addr} {len2 cap2 : Nat} {bs : List Int} {items : List Itm} {v0 v1 v' : Value} {bds : List Int} {p m : Nat} {tmp : Obj} {ys : List Value}
    (h : St w T R a2 len2 cap2 bs items v0 bds v1 p W) (hown' : w2.ownsRow w.heap.size 3 1 v' m ys) (hgrow : (W.alloc tmp).grownBy w2 v1.ownBlock) : Boxed w2 (w.heap.size + 1) 63 v1 :=
  (h.bx1.appended (by decide) h.row1 h.below.size (by omega) hown' hgrow).1
theorem read1_ok {w w' : World} {R : Nat} {a : Option Addr} {len cap : Nat} {xs : List Int} {p : Nat} {er n : Int} {bs : List Int} {st : Nat} {e : Ending} (h : Read1 w R a len cap xs p er n bs st e w') (h0 : er = 0) :
    ∃ a1 l1 c1, e = .returned (.agg #[.int .i64 n, .slice a1 l1 c1]) ∧ Own w' w.heap.size (.slice a1 l1 c1) bs ∧ Moved w w' R (p + st) a len cap xs := by
  rcases h with ⟨_, h⟩ | ⟨h, _⟩
  · exact h
  · exact absurd h0 h
theorem enters_some {P : Program} {f : FuncId} {fn : Func} (hf : P.funcs[f]? = some fn) (hname : (fn.name == "runtime.NumGoroutine") = false) (hb : fn.body.isSome = true) : Enters P f := by
  obtain ⟨c, hc⟩ := Option.isSome_iff_exists.1 hb
  exact enters_of hf hname hc
theorem enters_read (k : Int) (h1 : 1 ≤ k) (h5 : k ≤ 5) (args : Array Value) (w : World) : (callFunc (fRead k) args).run Try.prog w = .ok (.enter (fRead k) args) w := by
  have : k = 1 ∨ k = 2 ∨ k = 3 ∨ k = 4 ∨ k = 5 := by omega
  rcases this with rfl | rfl | rfl | rfl | rfl
  · rw [fRead_1]; exact enters_some (fn := Try.f88) (by kernel_rfl) (by kernel_rfl) (by kernel_rfl) args w
  · rw [fRead_2]; exact enters_some (fn := Try.f91) (by kernel_rfl) (by kernel_rfl) (by kernel_rfl) args w
  · rw [fRead_3]; exact enters_some (fn := Try.f94) (by kernel_rfl) (by kernel_rfl) (by kernel_rfl) args w
  · rw [fRead_4]; exact enters_some (fn := Try.f96) (by kernel_rfl) (by kernel_rfl) (by kernel_rfl) args w
  · rw [fRead_5]; exact enters_some (fn := Try.f100) (by kernel_rfl) (by kernel_rfl) (by kernel_rfl) args w
/-- The place behind k fields. -/
def posV (fs : List Fld) (xs : List Int) : Nat → Nat
  | 0 => 0
  | k + 1 => posV fs xs k + (oneV (fs.getD k default).kind (fs.getD k default).width xs (posV fs xs k)).2.2.2
/-- What reading the field k gives. -/
def atV (fs : List Fld) (xs : List Int) (k : Nat) : Int × Int × List Int × Nat := oneV (fs.getD k default).kind (fs.getD k default).width xs (posV fs xs k)
theorem posV_succ (fs : List Fld) (xs : List Int) (k : Nat) : posV fs xs (k + 1) = posV fs xs k + (atV fs xs k).2.2.2 := rfl
attribute [irreducible] posV atV
attribute [local irreducible] oneV
set_option maxRecDepth 100000 in
set_option maxHeartbeats 8000000 in
theorem readAll_ok (a : Option Addr) (len cap : Nat) (fs : List Fld) (w : World) (h : RdF w a len cap fs) (a2 : Option Addr) (len2 cap2 : Nat) (bs : List Int) (h2 : Rd w a2 len2 cap2 bs) (hbig : len2 ≤ 140737488355328) (hch : checkV fs = 0) (h0 : 0 < len) (hok : ∀ k, k < len → (atV fs bs k).1 = 0) :
    Calls Try.prog 76 #[.slice a len cap, .slice a2 len2 cap2] w fun e w' => ∃ v0 v1 items, e = .returned (.tuple #[v0, v1, .int .i64 0]) ∧ w'.ownsRow w.heap.size 52 2 v0 len (itemCells items) ∧ w'.ownsRow w.heap.size 3 1 v1 (len + 1) ((List.range (len + 1)).map fun k => .int .i64 (posV fs bs k)) ∧ items.map (fun x => (x.n, x.xs)) = (List.range len).map (fun k => ((atV fs bs k).2.1, (atV fs bs k).2.2.1)) ∧ (∀ x ∈ items, Own w' w.heap.size (.slice x.a x.len x.cap) x.xs) ∧ Below w.heap.size w w' := by
  have hc := h.hc
  have hm := h.hm
  have hl := h.hl
  unfold maxLen at hm
  obtain ⟨b, off, rfl, hcell⟩ := h.hr h0
  have hbk := World.block_lt_of_cell? w _ (hcell 0 h0).1
  have Hl := Lib.hid hl
  have H := Lib.hid h
  have H2 := Lib.hid h2
  have Hch := Lib.hid hch
  have h64 : len ≤ 64 := by have := (checkV_ok hch).1; omega
  clear h hcell hl h2 hch
  have hmf : ∀ (fn : Fn) (first cap : Array Value) (w : World), (Instr.makeFunc fn first cap).run Try.prog w = .ok (.func fn first cap) w := fun _ _ _ _ => rfl
  go_enter_defers Try.func76, Try.ntmps76
  go_wp2_with fail
  have hb0 : Below w.heap.size w (((w.alloc (.cells #[.slice none 0 0] 50)).alloc (.cells #[.slice none 0 0] 63)).alloc (.cells #[.int .i64 0] 24)) := (((Below.refl w.heap.size w).alloc (Nat.le_refl _) _).alloc (by simp) _).alloc (by simp; omega) _
  refine (check_any _ _ _ fs _ (H.out.below hb0 (Nat.le_refl _))).mono ?_
  rintro e w1 ⟨rfl, hb1⟩
  rw [Hch.out]
  go_wp2_with (first
    | (go_at_call 70; refine (kinds_any _).mono ?_; rintro e w1 ⟨rfl, rfl⟩)
    | (refine wpList_store_newAt (by rfl) 121 (.tmp 8) (.tmp 18) rfl kindTab (w1.heap.size + 1) (by simp) rfl rfl 121 _ Try.sizeKinds (by kernel_rfl) (by kernel_rfl) ?_))
  have hS1 := hb1.size
  simp at hS1
  have hb2 : Below w.heap.size w w1 := hb0.trans (hb1.mono (by simp; omega))
  have hx := heap3 w (.cells #[.slice none 0 0] 50) (.cells #[.slice none 0 0] 63) (.cells #[.int .i64 0] 24)
  obtain ⟨W1, hW1⟩ : ∃ W1, W1 = ((w1.alloc (.cells kindTab 121)).alloc (.cells kindTab 121)).alloc (.cells #[.int .i64 0, .slice a2 len2 cap2] 137) := ⟨_, rfl⟩
  have hy := heap3 w1 (.cells kindTab 121) (.cells kindTab 121) (.cells #[.int .i64 0, .slice a2 len2 cap2] 137)
  have hbW : Below w1.heap.size w1 W1 := by rw [hW1]; exact (((Below.refl w1.heap.size w1).alloc (Nat.le_refl _) _).alloc (by simp) _).alloc (by simp; omega) _
  have hSW : w1.heap.size + 1 + 1 + 1 ≤ W1.heap.size := by rw [hW1]; simp
  rw [← hW1] at hy ⊢
  clear hW1
  have hb3 : Below w.heap.size w W1 := hb2.trans (hbW.mono (by omega))
  have bx0 : Boxed W1 w.heap.size 50 (.slice none 0 0) := ((hbW.block _ (by omega)).trans (hb1.block _ (by first | (simp; done) | (simp; omega)))).trans hx.1
  have bx1 : Boxed W1 (w.heap.size + 1) 63 (.slice none 0 0) := ((hbW.block _ (by omega)).trans (hb1.block _ (by first | (simp; done) | (simp; omega)))).trans hx.2.1
  have bx2 : Boxed W1 (w.heap.size + 1 + 1) 24 (.int .i64 0) := ((hbW.block _ (by omega)).trans (hb1.block _ (by first | (simp; done) | (simp; omega)))).trans hx.2.2
  have hT : IsTab W1 (w1.heap.size + 1) := hy.2.1
  have hR : IsR W1 (w1.heap.size + 1 + 1) 0 a2 len2 cap2 bs := ⟨hy.2.2, H2.out.below hb3 (Nat.le_refl _), Nat.zero_le _⟩
  clear hx hy hb0 hb1 hb2 hbW
  have HII := Lib.hid (info_parts Try.infoI)
  have HR := Lib.hid hR
  have Hbx0 := Lib.hid bx0
  have Hbx1 := Lib.hid bx1
  have Hbx2 := Lib.hid bx2
  have HT := Lib.hid hT
  have Hb3 := Lib.hid hb3
  have c1 := bx1.cell
  have f1 := bx1.frozen
  clear hR bx0 bx1 bx2 hT hb3
  have hl0 : w.heap.size < W1.heap.size := by omega
  have hl1 : w.heap.size + 1 < W1.heap.size := by omega
  have hl2 : w.heap.size + 1 + 1 < W1.heap.size := by omega
  have HS := Lib.hid (show St w (w1.heap.size + 1) (w1.heap.size + 1 + 1) a2 len2 cap2 bs [] (.slice none 0 0) [] (.slice none 0 0) 0 W1 from ⟨Hbx0.out, Hbx1.out, Hbx2.out, HT.out, HR.out, World.ownsRow_nil _ _ _ _, World.ownsRow_nil _ _ _ _, by simp, Hb3.out⟩)
  clear HR Hbx0 Hbx1 Hbx2 HT Hb3
  have hTR : w.heap.size ≤ w1.heap.size + 1 + 1 := by omega
  go_upto_region 7 with fail
  go_cut [] from 12 (fun wx => ∃ v1, St w (w1.heap.size + 1) (w1.heap.size + 1 + 1) a2 len2 cap2 bs [] (.slice none 0 0) [0] v1 0 wx)
  case first =>
    refine wp_region_noPanic ?_
    go_region_law (first | (obtain ⟨i0, hi, hz0, hz1, hz2⟩ := HII.out; refine step_append_lies _ rfl _ _ 63 (by rfl) w.heap.size 3 i0 (.int .i64 0) 1 8 Try.underlying63 hi hz0 hz1 hz2 rfl (by decide) (.slice none 0 0) 0 [] (by rfl) (World.ownsRow_nil _ _ _ _) ⟨W1.heap.size, 0, none⟩ 1 1 [.int .i64 0] (by rfl) (by rfl) (World.news_of_block (cs := #[.int .i64 0]) (t := 3) (fr := (0, 0)) (heap_alloc_new W1 _)) (by simp [Value.oneCell']) (by omega) (by unfold maxLen; omega) (by omega) (by simp; omega) (W1.heap.size + 1) (by simp) ?_; clear hi hz0 hz1 hz2; intro g cap w2 hown hgrow hat hlt; have hq := (boxed_drew (HS.out.bx1.alloc (.cells #[.int .i64 0] 3))).kept hgrow (by simp [Value.ownBlock]); have hq1 := hq.cell; have hq2 := hq.frozen) | (go_simp; go_at_call 52; refine (at_any (HS.out.rd.below (Below.refl _ W1).drew (Nat.le_refl _))).mono ?_; rintro e w' ⟨rfl, rfl⟩))
    all_goals (refine NoPanic.normal ?_; go_wp2_with fail; go_meet; exact ⟨_, HS.out.bound H2.out hown (grown_undrew hgrow)⟩)
  case rest =>
    obtain ⟨v1, hS⟩ := hcut
    have HS := Lib.hid hS
    clear hS c1 f1
    have Hok := Lib.hid hok
    clear hok
    have hTs : w1.heap.size + 1 + 1 < wc.heap.size := HS.out.rd.lt
    go_wp2_with fail
    go_loopw [11, 29] (fun _ i wr => ∃ (k : Nat) (items : List Itm) (v0 v1 : Value), k ≤ len ∧ i = .int .i64 k ∧ items.length = k ∧ items.map (fun x => (x.n, x.xs)) = (List.range k).map (fun k => ((atV fs bs k).2.1, (atV fs bs k).2.2.1))
        ∧ St w (w1.heap.size + 1) (w1.heap.size + 1 + 1) a2 len2 cap2 bs items v0 ((List.range (k + 1)).map fun k => (posV fs bs k : Int)) v1 (posV fs bs k) wr)
      (fun _ i _ => len - (intOf i).toNat)
    case atStart => 
      refine ⟨0, [], .slice none 0 0, v1, Nat.zero_le _, rfl, rfl, rfl, ?_⟩
      have h0 : posV fs bs 0 = 0 := by unfold posV; rfl
      rw [show (List.range (0 + 1)).map (fun k => (posV fs bs k : Int)) = [0] from by simp [h0], h0]
      exact HS.out
    case round =>
      obtain ⟨k, items, v0, v1, hk, rfl, hil, hiv, hst⟩ := hrel
      by_cases hlt : k < len
      · have hF := H.out.below hst.below (Nat.le_refl _)
        have hS := hst.below.size
        obtain ⟨b', off', e', hcell⟩ := hF.hr h0
        cases e'
        obtain ⟨c0, c1, c2⟩ := hcell k hlt
        have hl1 := Hl.out
        have hat := posV_succ fs bs k
        have hok := Hok.out k hlt
        have hav : atV fs bs k = oneV (fs.getD k default).kind (fs.getD k default).width bs (posV fs bs k) := by unfold atV; rfl
        obtain ⟨f, hf⟩ : ∃ f, f = fs.getD k default := ⟨_, rfl⟩
        rw [← hf] at c0 c1 c2 hav
        have hfm : f ∈ fs := by
          rw [hf]
          have : fs.getD k default = fs[k]'(by omega) := by simp [List.getD, hl1, hlt]
          rw [this]; exact List.getElem_mem _
        have hok2 := (checkV_ok Hch.out).2 f hfm
        obtain ⟨g1, g5, g6, g7⟩ := fld_bd hok2
        obtain ⟨t0, t1, t2, t3, t4, t5⟩ := hst.tab.cells f.kind g1 g5
        have d0 := hst.bx0.cell
        have d1 := hst.bx0.frozen
        have hl0' : w.heap.size < wr.heap.size := hst.bx0.lt
        have hTlt : w1.heap.size + 1 + 1 < wr.heap.size := hst.rd.lt
        have hent := enters_read f.kind g1 g5
        have hTlt0 : w1.heap.size + 1 < wr.heap.size := by omega
        have hst0 : w.heap.size ≤ (wr.alloc (.cells #[.string f.name, .int .i64 f.kind, .int .i64 f.width] 101)).drew.heap.size := by simp; omega
        have hst2 := hst.alloc H2.out ((Below.refl wr.heap.size wr).alloc (Nat.le_refl _) (.cells #[.string f.name, .int .i64 f.kind, .int .i64 f.width] 101))
        have HS2 := Lib.hid hst2
        have Hat := Lib.hid hat
        have Hav := Lib.hid hav
        have Hiv := Lib.hid hiv
        have hblt : b < wr.heap.size := by omega
        have hk0 : (0 : Int) ≤ (k : Int) := by omega
        have hk1 : (k : Int) < (len : Int) := by omega
        have g1' : (0 : Int) ≤ f.kind := by omega
        have g5' : f.kind < 6 := by omega
        clear hat hav hst2 hst hiv hf hF hcell hl1 hfm hok2
        have HDD := Lib.hid (info_parts Try.infoD)
        go_upto_region 11 with fail
        go_cut [] from 30 to 50 (fun wx => ∃ (x : Itm) (v0' : Value), (x.n, x.xs) = ((atV fs bs k).2.1, (atV fs bs k).2.2.1) ∧ St w (w1.heap.size + 1) (w1.heap.size + 1 + 1) a2 len2 cap2 bs (items ++ [x]) v0' ((List.range (k + 1)).map fun k => (posV fs bs k : Int)) v1 (posV fs bs (k + 1)) wx)
        case first =>
          refine wp_region_noPanic ?_
          go_region_law (first
            | (obtain ⟨i0, hi, hz0, hz1, hz2⟩ := HDD.out; refine step_append_lies _ rfl _ _ 50 (by rfl) w.heap.size 52 i0 (.agg #[.int .i64 0, .slice none 0 0]) 2 32 Try.underlying50 hi hz0 hz1 hz2 rfl (by decide) v0 items.length (itemCells items) (by rfl) (HS3.out.row0.alloc _) ⟨w2.heap.size, 0, none⟩ 1 1 [.int .i64 (atV fs bs k).2.1, .slice a1 l1 c1'] (by rfl) (by rfl) (World.news_of_block (cs := #[.int .i64 (atV fs bs k).2.1, .slice a1 l1 c1']) (t := 52) (fr := (0, 0)) (heap_alloc_new w2 _)) (by simp [Value.oneCell']) (by omega) (by unfold maxLen; omega) (by omega) (by simp; omega) (w2.heap.size + 1) (by simp) ?_; clear hi hz0 hz1 hz2; intro g cap w3 hown hgrow hat hlt; have hq := HS3.out.boxed0 hown hgrow; have hq1 := hq.cell; have hq2 := hq.frozen)
            | (go_simp; go_at_fn (fRead f.kind); refine (read_any (HS2.out.drew H2.out).rd f.kind f.width g1 g5 (by omega) (by omega) hbig).mono ?_; intro e w2 hr1; rw [← Hav.out] at hr1; obtain ⟨a1, l1, c1', rfl, hO, hM⟩ := read1_ok hr1 hok; have HS3 := Lib.hid ((HS2.out.drew H2.out).moved H2.out hTR hM); have q0 := HS3.out.bx0.cell; have q1 := HS3.out.bx0.frozen; have HO := Lib.hid hO; have ql := HS3.out.bx0.lt; clear hr1 hO hM))
          all_goals (refine NoPanic.normal ?_; go_wp2_with fail; go_meet; exact ⟨⟨(atV fs bs k).2.1, a1, l1, c1', (atV fs bs k).2.2.1⟩, _, rfl, by rw [Hat.out]; rw [hil] at hown; exact HS3.out.item H2.out (HO.out.mono hst0) (by rw [hil]; exact hown) hgrow⟩)
        case rest =>
          obtain ⟨x, v0', hx, hS4⟩ := hcut
          have HX := Lib.hid hx
          have HS4 := Lib.hid hS4
          clear hx hS4 c0 c1 c2 t0 t1 t2 t3 t4 t5 d0 d1 hent HS2 hst0 Hav
          have e0 := HS4.out.bx1.cell
          have e1 := HS4.out.bx1.frozen
          have e2 := HS4.out.bx1.lt
          go_upto_region 12 with fail
          refine wp_region_noPanic ?_
          go_region_law (first
            | (obtain ⟨i0, hi, hz0, hz1, hz2⟩ := HII.out; refine step_append_lies _ rfl _ _ 63 (by rfl) w.heap.size 3 i0 (.int .i64 0) 1 8 Try.underlying63 hi hz0 hz1 hz2 rfl (by decide) v1 ((List.range (k + 1)).map fun k => (posV fs bs k : Int)).length _ (by rfl) (row_drew (HS4.out.row1.alloc _)) ⟨wc.heap.size, 0, none⟩ 1 1 [.int .i64 (posV fs bs (k + 1))] (by rfl) (by rfl) (World.news_of_block (cs := #[.int .i64 (posV fs bs (k + 1))]) (t := 3) (fr := (0, 0)) (heap_alloc_new wc _)) (by simp [Value.oneCell']) (by omega) (by unfold maxLen; rw [List.length_map, List.length_range]; omega) (by rw [List.length_map, List.length_range]; omega) (by simp; have := HS4.out.below.size; omega) (wc.heap.size + 1) (by simp) ?_; clear hi hz0 hz1 hz2; intro g cap w3 hown hgrow hat hlt; have hq := HS4.out.boxed1 hown (grown_undrew hgrow); have hq1 := hq.cell; have hq2 := hq.frozen)
            | (go_simp; go_at_call 52; refine (at_any (HS4.out.drew H2.out).rd).mono ?_; rintro e w' ⟨rfl, rfl⟩))
          all_goals (
            have hbl : ((List.range (k + 1)).map fun k => (posV fs bs k : Int)).length = k + 1 := by simp
            refine NoPanic.normal ?_
            rw [hbl] at hown
            clear hq hq1 hq2 e0 e1 e2 hat
            go_wp2
            go_roundw
            case rel =>
              refine ⟨k + 1, items ++ [x], v0', .slice (some ⟨g, 0, none⟩) (k + 1 + 1) cap, by omega, by go_num, by simp [hil], by rw [List.map_append, Hiv.out, List.range_succ, List.map_append, List.map_singleton, List.map_singleton, HX.out], ?_⟩
              rw [List.range_succ, List.map_append]
              exact HS4.out.bound H2.out (by rw [hbl]; exact hown) (grown_undrew hgrow)
            case measure => simp [intOf]; omega)
      · obtain rfl : k = len := by omega
        obtain ⟨a0, m0, q0, rfl⟩ := row_slice hst.row0
        obtain ⟨a1, m1, q1, rfl⟩ := row_slice hst.row1
        have c0 := hst.bx0.cell
        have c1 := hst.bx1.cell
        have c2 := hst.bx2.cell
        have d0 := hst.bx0.frozen
        have d1 := hst.bx1.frozen
        have d2 := hst.bx2.frozen
        have l0 := hst.bx0.lt
        have l1 := hst.bx1.lt
        have l2 := hst.bx2.lt
        have HS5 := Lib.hid hst
        have Hiv := Lib.hid hiv
        clear hst hiv
        go_upto_region 14 with fail
        refine wp_region_noPanic ?_
        go_region
        refine NoPanic.normal ?_
        go_wp2_with fail
        have hz := HS5.out.drew H2.out
        rw [set_same HS5.out.bx0, set_same HS5.out.bx1, set_same HS5.out.bx2]
        have k0 := hz.bx0.cell
        have k1 := hz.bx1.cell
        have k2 := hz.bx2.cell
        have Hz := Lib.hid hz
        clear hz
        refine leaves_cons (f := 102) (args := #[.pointer (some ⟨w.heap.size, 0, none⟩), .pointer (some ⟨w.heap.size + 1, 0, none⟩), .pointer (some ⟨w.heap.size + 1 + 1, 0, none⟩)]) (by simp) (by simp [go_sem]) ?_
        refine (catch_idle _ _ _ _).mono ?_
        rintro e u' w'' ⟨rfl, rfl, rfl⟩
        simp [Leaves, settle, results, Try.results76, go_sem, k0, k1, k2]
        refine ⟨_, _, ⟨rfl, rfl⟩, items, by rw [← hil]; exact Hz.out.row0, ?_, Hiv.out, Hz.out.own, Hz.out.below⟩
        have hr := Hz.out.row1
        simpa [List.range_succ, Function.comp_def] using hr
end Go.Proofs.Ytmfijcniaehooaa

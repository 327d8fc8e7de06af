/- An empty layout is read of any bytes. -/
import Derived.Test.YtmfijcniaehooaaWready
namespace Go.Proofs.Ytmfijcniaehooaa
set_option linter.unusedVariables false
open Go.RowKit

set_option maxRecDepth 100000 in
set_option maxHeartbeats 8000000 in
theorem readAll_nil (a : Option Addr) (cap : Nat) (w : World) (h : RdF w a 0 cap []) (a2 : Option Addr) (len2 cap2 : Nat) (bs : List Int) (h2 : Rd w a2 len2 cap2 bs) :
    Calls Try.prog 76 #[.slice a 0 cap, .slice a2 len2 cap2] w fun e w' => ∃ v1, e = .returned (.tuple #[.slice none 0 0, v1, .int .i64 0]) ∧ w'.ownsRow w.heap.size 3 1 v1 1 [.int .i64 0] ∧ Below w.heap.size w w' := by
  have H := Lib.hid h
  have H2 := Lib.hid h2
  have Hch : Hid (checkV [] = 0) := Lib.hid (by unfold checkV; simp [chkL])
  clear h h2
  have hmf : ∀ (fn : Fn) (first cap : Array Value) (w : World), (Instr.makeFunc fn first cap).run Try.prog w = .ok (.func fn first cap) w := fun _ _ _ _ => rfl
  go_enter_defers Try.func76, Try.ntmps76
  go_wp2_with fail
  have hb0 : Below w.heap.size w (((w.alloc (.cells #[.slice none 0 0] 50)).alloc (.cells #[.slice none 0 0] 63)).alloc (.cells #[.int .i64 0] 24)) := (((Below.refl w.heap.size w).alloc (Nat.le_refl _) _).alloc (by simp) _).alloc (by simp; omega) _
  refine (check_any _ _ _ [] _ (H.out.below hb0 (Nat.le_refl _))).mono ?_
  rintro e w1 ⟨rfl, hb1⟩
  rw [Hch.out]
  go_wp2_with (first
    | (go_at_call 70; refine (kinds_any _).mono ?_; rintro e w1 ⟨rfl, rfl⟩)
    | (refine wpList_store_newAt (by rfl) 121 (.tmp 8) (.tmp 18) rfl kindTab (w1.heap.size + 1) (by simp) rfl rfl 121 _ Try.sizeKinds (by kernel_rfl) (by kernel_rfl) ?_))
  have hS1 := hb1.size
  simp at hS1
  have hb2 : Below w.heap.size w w1 := hb0.trans (hb1.mono (by simp; omega))
  have hx := heap3 w (.cells #[.slice none 0 0] 50) (.cells #[.slice none 0 0] 63) (.cells #[.int .i64 0] 24)
  obtain ⟨W1, hW1⟩ : ∃ W1, W1 = ((w1.alloc (.cells kindTab 121)).alloc (.cells kindTab 121)).alloc (.cells #[.int .i64 0, .slice a2 len2 cap2] 137) := ⟨_, rfl⟩
  have hy := heap3 w1 (.cells kindTab 121) (.cells kindTab 121) (.cells #[.int .i64 0, .slice a2 len2 cap2] 137)
  have hbW : Below w1.heap.size w1 W1 := by rw [hW1]; exact (((Below.refl w1.heap.size w1).alloc (Nat.le_refl _) _).alloc (by simp) _).alloc (by simp; omega) _
  have hSW : w1.heap.size + 1 + 1 + 1 ≤ W1.heap.size := by rw [hW1]; simp
  rw [← hW1] at hy ⊢
  clear hW1
  have hb3 : Below w.heap.size w W1 := hb2.trans (hbW.mono (by omega))
  have bx0 : Boxed W1 w.heap.size 50 (.slice none 0 0) := ((hbW.block _ (by omega)).trans (hb1.block _ (by first | (simp; done) | (simp; omega)))).trans hx.1
  have bx1 : Boxed W1 (w.heap.size + 1) 63 (.slice none 0 0) := ((hbW.block _ (by omega)).trans (hb1.block _ (by first | (simp; done) | (simp; omega)))).trans hx.2.1
  have bx2 : Boxed W1 (w.heap.size + 1 + 1) 24 (.int .i64 0) := ((hbW.block _ (by omega)).trans (hb1.block _ (by first | (simp; done) | (simp; omega)))).trans hx.2.2
  have hT : IsTab W1 (w1.heap.size + 1) := hy.2.1
  have hR : IsR W1 (w1.heap.size + 1 + 1) 0 a2 len2 cap2 bs := ⟨hy.2.2, H2.out.below hb3 (Nat.le_refl _), Nat.zero_le _⟩
  clear hx hy hb0 hb1 hb2 hbW
  have HII := Lib.hid (info_parts Try.infoI)
  have HR := Lib.hid hR
  have Hbx0 := Lib.hid bx0
  have Hbx1 := Lib.hid bx1
  have Hbx2 := Lib.hid bx2
  have HT := Lib.hid hT
  have Hb3 := Lib.hid hb3
  have c1 := bx1.cell
  have f1 := bx1.frozen
  clear hR bx0 bx1 bx2 hT hb3
  have hl0 : w.heap.size < W1.heap.size := by omega
  have hl1 : w.heap.size + 1 < W1.heap.size := by omega
  have hl2 : w.heap.size + 1 + 1 < W1.heap.size := by omega
  have HS := Lib.hid (show St w (w1.heap.size + 1) (w1.heap.size + 1 + 1) a2 len2 cap2 bs [] (.slice none 0 0) [] (.slice none 0 0) 0 W1 from ⟨Hbx0.out, Hbx1.out, Hbx2.out, HT.out, HR.out, World.ownsRow_nil _ _ _ _, World.ownsRow_nil _ _ _ _, by simp, Hb3.out⟩)
  clear HR Hbx0 Hbx1 Hbx2 HT Hb3
  have hTR : w.heap.size ≤ w1.heap.size + 1 + 1 := by omega
  go_upto_region 7 with fail
  go_cut [] from 12 (fun wx => ∃ v1, St w (w1.heap.size + 1) (w1.heap.size + 1 + 1) a2 len2 cap2 bs [] (.slice none 0 0) [0] v1 0 wx)
  case first =>
    refine wp_region_noPanic ?_
    go_region_law (first | (obtain ⟨i0, hi, hz0, hz1, hz2⟩ := HII.out; refine step_append_lies _ rfl _ _ 63 (by rfl) w.heap.size 3 i0 (.int .i64 0) 1 8 Try.underlying63 hi hz0 hz1 hz2 rfl (by decide) (.slice none 0 0) 0 [] (by rfl) (World.ownsRow_nil _ _ _ _) ⟨W1.heap.size, 0, none⟩ 1 1 [.int .i64 0] (by rfl) (by rfl) (World.news_of_block (cs := #[.int .i64 0]) (t := 3) (fr := (0, 0)) (heap_alloc_new W1 _)) (by simp [Value.oneCell']) (by omega) (by unfold maxLen; omega) (by omega) (by simp; omega) (W1.heap.size + 1) (by simp) ?_; clear hi hz0 hz1 hz2; intro g cap w2 hown hgrow hat hlt; have hq := (boxed_drew (HS.out.bx1.alloc (.cells #[.int .i64 0] 3))).kept hgrow (by simp [Value.ownBlock]); have hq1 := hq.cell; have hq2 := hq.frozen) | (go_simp; go_at_call 52; refine (at_any (HS.out.rd.below (Below.refl _ W1).drew (Nat.le_refl _))).mono ?_; rintro e w' ⟨rfl, rfl⟩))
    all_goals (refine NoPanic.normal ?_; go_wp2_with fail; go_meet; exact ⟨_, HS.out.bound H2.out hown (grown_undrew hgrow)⟩)
  case rest =>
    obtain ⟨v1, hst⟩ := hcut
    clear c1 f1
    have hTs : w1.heap.size + 1 + 1 < wc.heap.size := hst.rd.lt
    obtain ⟨a1, m1, q1, rfl⟩ := row_slice hst.row1
    have c0 := hst.bx0.cell
    have c1 := hst.bx1.cell
    have c2 := hst.bx2.cell
    have d0 := hst.bx0.frozen
    have d1 := hst.bx1.frozen
    have d2 := hst.bx2.frozen
    have l0 := hst.bx0.lt
    have l1 := hst.bx1.lt
    have l2 := hst.bx2.lt
    have HS5 := Lib.hid hst
    clear hst
    go_wp2_with fail
    refine wp_loop_rounds 1 ?_
    rw [rounds_succ]
    go_upto_region 14 with fail
    refine wp_region_noPanic ?_
    go_region
    refine NoPanic.normal ?_
    go_wp2_with fail
    have hz := HS5.out.drew H2.out
    rw [set_same HS5.out.bx0, set_same HS5.out.bx1, set_same HS5.out.bx2]
    have k0 := hz.bx0.cell
    have k1 := hz.bx1.cell
    have k2 := hz.bx2.cell
    have Hz := Lib.hid hz
    clear hz
    refine leaves_cons (f := 102) (args := #[.pointer (some ⟨w.heap.size, 0, none⟩), .pointer (some ⟨w.heap.size + 1, 0, none⟩), .pointer (some ⟨w.heap.size + 1 + 1, 0, none⟩)]) (by simp) (by simp [go_sem]) ?_
    refine (catch_idle _ _ _ _).mono ?_
    rintro e u' w'' ⟨rfl, rfl, rfl⟩
    simp [Leaves, settle, results, Try.results76, go_sem, k0, k1, k2]

    have hr := Hz.out.row1
    refine ⟨?_, Hz.out.below⟩
    simpa using hr
end Go.Proofs.Ytmfijcniaehooaa

/- The reference's Resize. -/
import Derived.Test.YthognmkjoekilaaDoorBresize
namespace Go.Proofs.YthognmkjoekilaaDoor
set_option linter.unusedVariables false
open Go.RowKit Go.Shelf

theorem listV_take (bs : List Int) (k n : Nat) (h : n ≤ k) : (listV bs k).take n = listV bs n := by
  unfold listV
  rw [← List.map_take, List.take_range, Nat.min_eq_left h]
theorem RdL.front {w : World} {a : Option Addr} {k cap : Nat} {l : List Bool} (h : RdL w a k cap l) (n : Nat) (hn : n ≤ k) : RdL w a n cap (l.take n) := by
  refine ⟨by rw [List.length_take, h.hl, Nat.min_eq_left hn], Nat.le_trans hn h.hc, h.hm, fun h0 => ?_⟩
  obtain ⟨b, off, ha, hc⟩ := h.hr (by omega)
  refine ⟨b, off, ha, fun i hi => ?_⟩
  rw [hc i (by omega)]
  simp [List.getD, List.getElem?_take, hi]
set_option maxRecDepth 100000 in
set_option maxHeartbeats 4000000 in
theorem rresize_is (M : Nat) (a : Option Addr) (l c : Nat) (bs : List Int) (n : Nat) (w : World) (hr : Rd w a l c bs) (hv : Vb M bs) (hn : n ≤ 65536) :
    Calls Tryd.prog 29 #[.agg #[.int .i64 (M : Int), .slice a l c], .int .i64 (n : Int)] w fun e' w' => ∃ a' l' c' X, e' = .returned (.agg #[.int .i64 (n : Int), .slice a' l' c']) ∧ Rd w' a' l' c' X ∧ Is n X (fun j => decide (j < M) && bitV bs j) ∧ Below w.heap.size w w' := by
  have hM := hv.le
  have hlen := hv.len
  have hrl := hr.hl
  have hzero : ∀ j, M ≤ j → bitV bs j = false := fun j hj => by
    by_cases h2 : j < 8 * bs.length
    · exact hv.high j hj h2
    · exact bit_past bs j (by omega)
  have hend : Is n (madeV (listV bs n)) (fun j => decide (j < M) && bitV bs j) := (made_is (listV_len bs n) hn).as (fun j hj => by
    rw [listV_at bs n j hj]
    by_cases h : j < M
    · simp [h]
    · rw [hzero j (by omega)]; simp)
  obtain ⟨g, r, W, e2, e3, eV, hB, hB0, hb⟩ := boxed_two w (M : Int) 0 a none l c 0 0 bs [] hr (Rd.nil w)
  have CL := Lib.hid (list_any M a l c bs W hB.rd hM (by omega))
  have HRes := Lib.hid hB0.blk
  have HE := Lib.hid eV
  have HE2 := Lib.hid e2
  have HE3 := Lib.hid e3
  have Hb := Lib.hid hb
  have hwr : w.heap.size ≤ r := by omega
  have Hz := Lib.hid hzero
  have Hend := Lib.hid hend
  have q0 : W.cell? ⟨g, 0, none⟩ = some (.int .i64 (M : Int)) := hB.blk.cell 0
  have q1 : W.cell? ⟨g, 1, none⟩ = some (.slice a l c) := hB.blk.cell 1
  clear hr hv hB hB0 hb eV e2 e3 hzero hend hlen hrl
  go_enter Tryd.func29, Tryd.ntmps29
  go_upto_region 1 with fail
  rw [HE.out, HE3.out, HE2.out]
  go_wp2_with fail
  refine CL.out.mono ?_
  rintro e w1 ⟨va, vc, rfl, ho, hb1⟩
  have HO := Lib.hid ho
  have Hb1 := Lib.hid hb1
  clear ho hb1 CL q0 q1
  go_wp2_with fail
  go_loopw [5] (fun o wr => ∃ (k : Nat) (va : Option Addr) (vc : Nat), o = .slice va k vc ∧ M ≤ k ∧ k ≤ 65536 ∧ OwnL wr W.heap.size (.slice va k vc) k (listV bs k) ∧ Below W.heap.size W wr) (fun o _ => match o with | .slice _ k _ => n - k | _ => 0)
  case atStart => exact ⟨M, va, vc, rfl, Nat.le_refl _, hM, HO.out, Hb1.out⟩
  case round =>
    obtain ⟨k, va, vc, rfl, hk0, hk, hOr, hbr⟩ := hrel
    have HOr := Lib.hid hOr
    have Hbr := Lib.hid hbr
    clear HO Hb1
    by_cases hlt : k < n
    · have hki : (k : Int) < (n : Int) := by omega
      have hn1 := listV_next bs k
      rw [Hz.out k hk0] at hn1
      have Hn := Lib.hid hn1
      have hsu : W.heap.size ≤ wr.heap.size := hbr.size
      clear hOr hbr hn1
      go_wp2_with (refine wpList_append_bool rfl (.tmp 12) (.tmp 13) rfl W.heap.size (.slice va k vc) k (listV bs k) rfl (HOr.out.alloc _) wr.heap.size false rfl (heap_new wr _) (by omega) (by rw [World.size_alloc]; omega) ?_; intro a3 c3 w3 hO3 hb3)
      have hbU : Below wr.heap.size wr (wr.alloc (.cells #[.bool false] 4)) := (Below.refl _ wr).alloc (Nat.le_refl _) _
      rw [← Hn.out] at hO3
      have HO3 := Lib.hid hO3
      have Hb3 := Lib.hid (Hbr.out.trans ((hbU.mono hsu).trans hb3))
      clear hO3 hbU hb3 HOr Hbr
      go_wp2_with fail
      go_roundw
      case rel => exact ⟨k + 1, a3, c3, rfl, by omega, by omega, HO3.out, Hb3.out⟩
      case measure => simp only []; omega
    · have hkn : ¬ ((k : Int) < (n : Int)) := by omega
      obtain ⟨-, hrl⟩ := hOr.rd
      have hkc := hrl.hc
      have hcm := hrl.hm
      unfold maxLen at hcm
      have hfr := hrl.front n (by omega)
      rw [listV_take bs k n (by omega)] at hfr
      have hni : (n : Int) ≤ (vc : Int) := by omega
      have HRr : Hid (Blk wr r 24 #[.int .i64 0, .slice none 0 0]) := Lib.hid (HRes.out.below hbr HRes.out.lt)
      have CM := Lib.hid (made_any n va vc (listV bs n) wr hfr hn)
      clear hOr hbr hrl hfr
      go_wp2_with fail
      refine CM.out.mono ?_
      rintro e u ⟨x1, x2, x3, rfl, ho, hbu⟩
      have HRu : Hid (Blk u r 24 #[.int .i64 0, .slice none 0 0]) := Lib.hid (HRr.out.below hbu HRr.out.lt)
      have HOu := Lib.hid ho
      have Hbu := Lib.hid (Hbr.out.trans (hbu.mono Hbr.out.size))
      have hrr := HRr.out.lt
      clear ho hbu HRr
      have f0 := HRu.out.frozen 0
      have f1 := HRu.out.frozen 1
      have k0 : u.cell? ⟨r, 0, none⟩ = some (.int .i64 0) := HRu.out.cell 0
      have k1 : u.cell? ⟨r, 1, none⟩ = some (.slice none 0 0) := HRu.out.cell 1
      go_wp2_with fail
      rw [cells2 HRu.out]
      obtain ⟨V2, hV, rV, bV, sV, oV⟩ := filled HRu.out #[.int .i64 (n : Int), .slice x1 x2 x3]
      rw [hV]
      clear f0 f1 k0 k1
      have z0 : V2.cell? ⟨r, 0, none⟩ = some (.int .i64 (n : Int)) := (show Blk V2 _ 24 _ from rV).cell 0
      have z1 : V2.cell? ⟨r, 1, none⟩ = some (.slice x1 x2 x3) := (show Blk V2 _ 24 _ from rV).cell 1
      have HZ : Hid (Rd V2 x1 x2 x3 (madeV (listV bs n)) ∧ Below w.heap.size w V2) := Lib.hid ⟨own_read (HOu.out.other oV hrr), (Hb.out.trans (Hbu.out.mono Hb.out.size)).trans (bV.mono hwr)⟩
      clear HRu rV bV sV oV hV HOu Hbu
      simp [bodyPost, results, Tryd.results29, go_sem, z0, z1]
      exact ⟨_, _, _, ⟨rfl, rfl, rfl⟩, _, HZ.out.1, Hend.out, HZ.out.2⟩
end Go.Proofs.YthognmkjoekilaaDoor

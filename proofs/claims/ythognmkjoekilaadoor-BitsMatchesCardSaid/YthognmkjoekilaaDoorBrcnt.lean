/- The reference's Count. -/
import Derived.Test.YthognmkjoekilaaDoorBis
namespace Go.Proofs.YthognmkjoekilaaDoor
set_option linter.unusedVariables false
open Go.RowKit Go.Shelf

theorem cnt_step (bs : List Int) (a e : Nat) (h : a ≤ e) : cntV bs a (e + 1) = cntV bs a e + (if bitV bs e then 1 else 0) := by
  unfold cntV
  rw [List.range_succ, List.filter_append, List.length_append]
  congr 1
  cases hb : bitV bs e <;> simp [hb, h]
set_option maxRecDepth 100000 in
set_option maxHeartbeats 4000000 in
theorem rcount_any (M : Nat) (a : Option Addr) (l c : Nat) (bs : List Int) (at_ m e : Nat) (w : World) (hr : Rd w a l c bs) (hv : Vb M bs) (he : e = at_ + m) (hc : e ≤ M) :
    Calls Tryd.prog 24 #[.agg #[.int .i64 (M : Int), .slice a l c], .int .i64 (at_ : Int), .int .i64 (m : Int)] w fun e' w' => e' = .returned (.int .i64 (cntV bs at_ e : Int)) ∧ Below w.heap.size w w' := by
  have hM := hv.le
  have hlen := hv.len
  have hrl := hr.hl
  have hMl : M ≤ 8 * l := by omega
  obtain ⟨g, W, e1, e2, hB, hb, -⟩ := boxed (Below.refl _ w) (M : Int) a l c bs hr
  have HB := Lib.hid hB
  have Hb := Lib.hid hb
  have H2 := Lib.hid e2
  have H1 := Lib.hid e1
  have hsz := hb.size
  have wE : IntKind.i64.wrap ((at_ : Int) + (m : Int)) = (e : Int) := by rw [show (at_ : Int) + (m : Int) = (e : Int) by omega]; exact IntWalk.i64_in _ (by omega)
  have hae : at_ ≤ e := by omega
  clear hr hv hB hb e1 e2 he hlen hrl
  go_enter Tryd.func24, Tryd.ntmps24
  go_upto_region 1 with fail
  rw [H2.out, H1.out]
  go_wp2_with fail
  go_loopw [7, 8] (fun o p wr => ∃ (k n : Nat), o = .int .i64 (n : Int) ∧ p = .int .i64 (k : Int) ∧ at_ ≤ k ∧ k ≤ e ∧ Hid (n = cntV bs at_ k) ∧ n ≤ k ∧ Below W.heap.size W wr) (fun _ p _ => e - (intOf p).toNat)
  case atStart => exact ⟨at_, 0, rfl, rfl, Nat.le_refl _, hae, Lib.hid (cntV_none bs at_ at_ (Nat.le_refl _)).symm, Nat.zero_le _, Below.refl _ _⟩
  case round =>
    obtain ⟨k, n, rfl, rfl, hk0, hk, Hn, hnk, hbr⟩ := hrel
    have hX := HB.out.below hbr
    have q0 : wr.cell? ⟨g, 0, none⟩ = some (.int .i64 (M : Int)) := hX.blk.cell 0
    have q1 : wr.cell? ⟨g, 1, none⟩ = some (.slice a l c) := hX.blk.cell 1
    have Hbr := Lib.hid hbr
    by_cases hlt : k < e
    · have hki : (k : Int) < (e : Int) := by omega
      have C := Lib.hid (bit_any (M : Int) a l c bs k wr hX.rd (by omega))
      have hs := cnt_step bs at_ k hk0
      obtain ⟨B, hBt⟩ : ∃ B, B = bitV bs k := ⟨_, rfl⟩
      rw [← hBt] at C hs
      rw [← Hn.out] at hs
      have Hs := Lib.hid hs
      clear hBt hs hX hbr
      go_wp2_with fail
      refine C.out.mono ?_
      rintro e' u ⟨rfl, hbu⟩
      have Hb' := Lib.hid (Hbr.out.trans (hbu.mono Hbr.out.size))
      clear hbu Hbr C q0 q1
      cases B with
      | true =>
        go_wp2_with fail
        go_roundw
        case rel => exact ⟨k + 1, n + 1, by go_num, by go_num, by omega, by omega, Lib.hid Hs.out.symm, by omega, Hb'.out⟩
        case measure => simp only [intOf]; omega
      | false =>
        go_wp2_with fail
        go_roundw
        case rel => exact ⟨k + 1, n, rfl, by go_num, by omega, by omega, Lib.hid Hs.out.symm, by omega, Hb'.out⟩
        case measure => simp only [intOf]; omega
    · obtain rfl : e = k := by omega
      clear hX hbr
      go_wp2_with fail
      go_ret
      exact ⟨by rw [← Hn.out]; rfl, Hb.out.trans (Hbr.out.mono hsz)⟩
end Go.Proofs.YthognmkjoekilaaDoor

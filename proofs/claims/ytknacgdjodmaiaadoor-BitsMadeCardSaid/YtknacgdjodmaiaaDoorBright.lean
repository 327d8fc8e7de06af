/- The reference's Right: whether a bitmap is valid. -/
import Derived.Test.YtknacgdjodmaiaaDoorBrbit
import Derived.Deep.DeepCutAuto
namespace Go.Proofs.YtknacgdjodmaiaaDoor
set_option linter.unusedVariables false
open Go.RowKit Go.Shelf

set_option maxRecDepth 100000 in
set_option maxHeartbeats 4000000 in
theorem right_any (N : Int) (a : Option Addr) (l c : Nat) (bs : List Int) (w : World) (hr : Rd w a l c bs) (hN1 : -9223372036854775808 ≤ N) (hN2 : N ≤ 9223372036854775807) (hl9 : l ≤ 1125899906842624) :
    Calls Tryd.prog 17 #[.agg #[.int .i64 N, .slice a l c]] w fun e w' => e = .returned (.bool (validB N bs)) ∧ Below w.heap.size w w' := by
  obtain ⟨W, hW⟩ : ∃ W, W = w.alloc (.cells #[.int .i64 N, .slice a l c] 24) := ⟨_, rfl⟩
  have hb : Below w.heap.size w W := by rw [hW]; exact (Below.refl _ w).alloc (Nat.le_refl _) _
  have hB : Blk W w.heap.size 24 #[.int .i64 N, .slice a l c] := by rw [hW]; exact heap_new w _
  have hsW : W.heap.size = w.heap.size + 1 := by rw [hW]; simp
  have q0 : W.cell? ⟨w.heap.size, 0, none⟩ = some (.int .i64 N) := hB.cell 0
  have q1 : W.cell? ⟨w.heap.size, 1, none⟩ = some (.slice a l c) := hB.cell 1
  have hlen := hr.hl
  have HW := Lib.hid hW
  have Hb := Lib.hid hb
  have HB := Lib.hid hB
  have HR := Lib.hid (hr.below hb (Nat.le_refl _))
  have Hs := Lib.hid hsW
  obtain ⟨V, hV⟩ : ∃ V, V = validB N bs := ⟨_, rfl⟩
  have Hv := Lib.hid (hV.symm ▸ validB_iff N bs)
  have HV := Lib.hid hV
  rw [← hV]
  clear hW hb hB hr hsW hV
  by_cases c1 : N < 0
  · have hF : V = false := by
      cases hh : V with
      | false => rfl
      | true => have := Hv.out.mp hh; omega
    rw [hF]
    clear Hv HV
    go_enter Tryd.func17, Tryd.ntmps17
    go_upto_region 1 with fail
    rw [← HW.out]
    go_wp2_with fail
    go_ret
    exact ⟨rfl, Hb.out⟩
  by_cases c2 : 65536 < N
  · have hF : V = false := by
      cases hh : V with
      | false => rfl
      | true => have := Hv.out.mp hh; omega
    rw [hF]
    clear Hv HV
    go_enter Tryd.func17, Tryd.ntmps17
    go_upto_region 1 with fail
    rw [← HW.out]
    go_wp2_with fail
    go_ret
    exact ⟨rfl, Hb.out⟩
  obtain ⟨M, rfl⟩ : ∃ M : Nat, N = (M : Int) := ⟨N.toNat, by omega⟩
  obtain ⟨K8, hK8⟩ : ∃ K8 : Int, K8 = ((M : Int) + 7) / 8 := ⟨_, rfl⟩
  have e8 : ((M : Int) + 7).tdiv 8 = K8 := by rw [hK8]; exact Int.tdiv_eq_ediv_of_nonneg (by omega)
  have hw8 : IntKind.i64.wrap K8 = K8 := by simp [IntKind.wrap, IntKind.bits, IntKind.signed]; omega
  by_cases c3 : (l : Int) = K8
  · have c4 : ((l : Int) = K8) = True := eq_true c3
    have hM8 : M ≤ 8 * l := by omega
    have h8l : 8 * l ≤ 65543 := by omega
    have Hv2 : Hid (V = true ↔ ∀ j : Nat, M ≤ j → j < 8 * l → bitV bs j = false) := Lib.hid ⟨fun h j h1 h2 => (Hv.out.mp h).2.2.2 j (by omega) (by omega), fun h => Hv.out.mpr ⟨by omega, by omega, by omega, fun j h1 h2 => h j (by omega) (by omega)⟩⟩
    clear Hv HV hK8 hlen
    go_enter Tryd.func17, Tryd.ntmps17
    go_upto_region 1 with fail
    rw [← HW.out]
    go_wp2_with fail
    go_loopw [3] (fun p wr => ∃ k : Nat, p = .int .i64 (k : Int) ∧ M ≤ k ∧ k ≤ 8 * l ∧ (∀ j, M ≤ j → j < k → bitV bs j = false) ∧ Below W.heap.size W wr) (fun p _ => 8 * l - (intOf p).toNat)
    case atStart => exact ⟨M, rfl, Nat.le_refl _, hM8, fun j h1 h2 => absurd h2 (by omega), Below.refl _ _⟩
    case round =>
      obtain ⟨k, rfl, hMk, hk8, hall, hbr⟩ := hrel
      have Hall := Lib.hid hall
      have Hbr := Lib.hid hbr
      have p0 : wr.cell? ⟨w.heap.size, 0, none⟩ = some (.int .i64 (M : Int)) := (HB.out.below hbr HB.out.lt).cell 0
      have p1 : wr.cell? ⟨w.heap.size, 1, none⟩ = some (.slice a l c) := (HB.out.below hbr HB.out.lt).cell 1
      have HRr := Lib.hid (HR.out.below hbr (Nat.le_refl _))
      clear hall hbr
      by_cases hlt : k < 8 * l
      · have hki : (k : Int) < 8 * (l : Int) := by omega
        have C := Lib.hid (bit_any (M : Int) a l c bs k wr HRr.out hlt)
        obtain ⟨B, hB⟩ : ∃ B, B = bitV bs k := ⟨_, rfl⟩
        rw [← hB] at C
        have HBt := Lib.hid hB
        clear hB
        go_wp2_with fail
        refine C.out.mono ?_
        rintro e u ⟨rfl, hb⟩
        have Hbu := Lib.hid (Hbr.out.trans (hb.mono Hbr.out.size))
        clear hb C HRr p0 p1
        cases B with
        | true =>
          have hV : V = false := by
            cases hh : V with
            | false => rfl
            | true => have := Hv2.out.mp hh k hMk hlt; rw [← HBt.out] at this; cases this
          have HV := Lib.hid hV
          clear hV
          go_wp2_with fail
          go_ret
          exact ⟨by rw [HV.out]; rfl, Hb.out.trans (Hbu.out.mono Hb.out.size)⟩
        | false =>
          go_wp2_with fail
          go_roundw
          case rel => exact ⟨k + 1, by push_cast; rfl, by omega, by omega, fun j h1 h2 => by
            by_cases hj : j < k
            · exact Hall.out j h1 hj
            · obtain rfl : j = k := by omega
              exact HBt.out.symm, Hbu.out⟩
          case measure => simp only [intOf]; omega
      · obtain rfl : k = 8 * l := by omega
        have hV : V = true := Hv2.out.mpr (fun j h1 h2 => Hall.out j h1 h2)
        have HV := Lib.hid hV
        clear hV p0
        go_wp2_with fail
        go_ret
        exact ⟨by rw [HV.out]; rfl, Hb.out.trans (Hbr.out.mono Hb.out.size)⟩
  · have hF : V = false := by
      cases hh : V with
      | false => rfl
      | true => have := Hv.out.mp hh; omega
    rw [hF]
    have c4 : ((l : Int) = K8) = False := eq_false c3
    clear Hv HV hK8 hlen
    go_enter Tryd.func17, Tryd.ntmps17
    go_upto_region 1 with fail
    rw [← HW.out]
    go_wp2_with fail
    go_ret
    exact ⟨rfl, Hb.out⟩
end Go.Proofs.YtknacgdjodmaiaaDoor

/- longest, where the clear bits do not suffice. -/
import Derived.Test.YtknacgdjodmaiaaDoorBlong
import Derived.Deep.DeepCutAuto
namespace Go.Proofs.YtknacgdjodmaiaaDoor
set_option linter.unusedVariables false
open Go.RowKit Go.Shelf

set_option maxRecDepth 100000 in
set_option maxHeartbeats 4000000 in
theorem longest_no (M : Nat) (a : Option Addr) (l c : Nat) (bs : List Int) (m : Nat) (ss : List (Nat × Nat)) (w : World) (hr : Rd w a l c bs) (hv : validB (M : Int) bs = true)
    (hm1 : 1 ≤ m) (hm : m ≤ 65536) (hs : StableR (runsV bs M false) ss) (hlt : ∀ i, i ≤ ss.length → 0 < leftV ss m i) :
    Calls Tryd.prog 81 #[.agg #[.int .i64 (M : Int), .slice a l c], .int .i64 (m : Int)] w fun e w' => e = pan 3 ∧ Below w.heap.size w w' := by
  have HR := Lib.hid hr
  have Hv := Lib.hid hv
  have Hs := Lib.hid hs
  have Hk := Lib.hid hlt
  clear hr hv hs hlt
  go_enter Tryd.func81, Tryd.ntmps81
  go_wp2_with fail
  have HR1 := Lib.hid (HR.out.below ((Below.refl _ w).alloc (Nat.le_refl _) (.cells #[.int .i64 (M : Int), .slice a l c] 24)) (Nat.le_refl _))
  have Hb1 := Lib.hid ((Below.refl _ w).alloc (Nat.le_refl _) (.cells #[.int .i64 (M : Int), .slice a l c] 24))
  obtain ⟨w1, hw1⟩ : ∃ w1, w1 = w.alloc (.cells #[.int .i64 (M : Int), .slice a l c] 24) := ⟨_, rfl⟩
  rw [← hw1] at HR1 Hb1 ⊢
  clear hw1
  refine (runs_any M a l c false w1).mono ?_
  rintro e w2 ⟨rfl, hw2⟩
  have hb2 : Below w1.heap.size w1 w2 := by rw [hw2]; exact ((Below.refl _ w1).alloc (Nat.le_refl _) _).alloc (by simp) _
  have hRA : RunsAt w2 w1.heap.size (w1.heap.size + 1) M a l c bs false := by
    refine ⟨?_, ?_, HR1.out.below hb2 (Nat.le_refl _)⟩
    · rw [hw2]; exact Blk.below (heap_new w1 _ : Blk (w1.alloc _) _ _ _) ((Below.refl _ _).alloc (Nat.le_refl _) _) (by simp)
    · rw [hw2]; have := Boxed.new (w1.alloc (.cells #[.int .i64 (M : Int), .slice a l c] 24)) 4 (.bool false); rw [World.size_alloc] at this; exact this
  have HRA := Lib.hid hRA
  have Hb2 := Lib.hid hb2
  clear hw2 hb2 hRA HR1 HR
  go_wp2_with fail
  refine (collect_any _ _ M a l c bs false w2 HRA.out Hv.out).mono ?_
  rintro e w3 ⟨a', l', c', rfl, hO, hb3⟩
  have HO := Lib.hid (hO.mono (B' := w.heap.size) (by have := Hb1.out.size; have := Hb2.out.size; omega))
  have Hb3 := Lib.hid (Hb1.out.trans ((Hb2.out.trans (hb3.mono Hb2.out.size)).mono Hb1.out.size))
  clear hO hb3 Hb1 Hb2 HRA
  go_wp2_with fail
  refine (Hs.out w3 w.heap.size a' l' c' HO.out Hb3.out.size).mono ?_
  rintro e w4 ⟨rfl, hO, hb⟩
  have HO := Lib.hid hO
  have Hb := Lib.hid (Hb3.out.trans hb)
  clear hO hb Hb3
  rcases HO.out.1.2 with ⟨hv, h0⟩ | ⟨g, cap, cur, hv, -⟩
  · injection hv with h1 h2 h3
    subst h1 h2 h3
    have hm2 : (0 : Int) < (m : Int) := by omega
    go_wp2_with fail
    refine wp_loop_rounds 1 ?_
    rw [rounds_succ]
    go_wp2_with fail
    refine (need_no 3 w4).mono ?_
    rintro e u ⟨rfl, rfl⟩
    exact ⟨rfl, rfl, Hb.out⟩
  obtain rfl : a' = some ⟨g, 0, none⟩ := by injection hv
  clear hv
  obtain ⟨hl', hg0, hg1, -⟩ := HO.out.holds
  have hl9 : l' ≤ c' ∧ c' ≤ 9223372036854775807 := by
    rcases HO.out.1.2 with ⟨hv, h0⟩ | ⟨g', cap, cur, hv, -, -, h1, h2, -⟩
    · cases hv
    · injection hv with h3 h4 h5; unfold maxLen at h2; rw [hl', h5]; exact ⟨h1, by omega⟩
  have Hl' := Lib.hid hl'
  clear hl'
  go_wp2_with fail
  go_loopw [1, 6] (fun q p wr => ∃ i : Nat, p = .int .i64 (i : Int) ∧ q = .int .i64 (leftV ss m i : Int) ∧ i ≤ l' ∧ OwnR wr w.heap.size (.slice (some ⟨g, 0, none⟩) l' c') (rowI ss m i) ∧ Below w.heap.size w wr) (fun _ p _ => l' - (intOf p).toNat)
  case atStart => exact ⟨0, rfl, rfl, Nat.zero_le _, HO.out, Hb.out⟩
  case round =>
    obtain ⟨i, rfl, rfl, hik, hOr, hbr⟩ := hrel
    have HOr := Lib.hid hOr
    have Hbr := Lib.hid hbr
    clear hOr hbr HO Hb
    have hlm := leftV_le ss m i
    by_cases hlt : i < l'
    · have hpos := Hk.out i (by rw [← Hl'.out]; omega)
      have hil : i < (rowI ss m i).length := by rw [rowI_len, ← Hl'.out]; omega
      obtain ⟨q0, q1⟩ := HOr.out.at_ i hil
      rw [rowI_at ss m i i (Nat.le_refl _)] at q0 q1
      have hfro : wr.frozen? ⟨g, i * 2 + 1, none⟩ = false := by have h1 := HOr.out.1; rw [rowI_len, ← Hl'.out] at h1; exact h1.frozenAt _
      obtain ⟨L, hL⟩ : ∃ L, L = leftV ss m i := ⟨_, rfl⟩
      obtain ⟨C, hC⟩ : ∃ C, C = (ss.getD i (0, 0)).2 := ⟨_, rfl⟩
      have hst := HOr.out.stored i hil (min C L) (by omega)
      rw [rowI_at ss m i i (Nat.le_refl _)] at hst
      have hrow : rowI ss m (i + 1) = (rowI ss m i).set i ((ss.getD i (0, 0)).1, min C L) := by rw [hL, hC]; rfl
      have hleft : leftV ss m (i + 1) = L - min C L := by rw [hL, hC]; rfl
      rw [← hrow] at hst
      rw [← hL] at hpos hlm ⊢
      rw [← hC] at q1
      have hil2 : (i : Int) < (l' : Int) := by omega
      have hpos2 : (0 : Int) < (L : Int) := by omega
      have Hst := Lib.hid hst
      have Hleft := Lib.hid hleft
      clear hst hrow hleft hL hC
      go_wp2_with fail
      refine (need_yes 3 wr).mono ?_
      rintro e u ⟨rfl, rfl⟩
      go_wp2_with fail
      have hmin : (min (C : Int) (L : Int)) = ((min C L : Nat) : Int) := by omega
      refine ⟨⟨i + 1, by push_cast; rfl, ?_, by omega, ?_, ?_⟩, ?_⟩
      · rw [Hleft.out, hmin]; congr 1; omega
      · rw [hmin]; exact Hst.out
      · exact Hbr.out.setCell (by simpa using hg0) _
      · simp only [intOf]; omega
    · have hie : i = l' := by omega
      subst hie
      have hpos := Hk.out i (by rw [← Hl'.out]; omega)
      obtain ⟨L, hL⟩ : ∃ L, L = leftV ss m i := ⟨_, rfl⟩
      rw [← hL] at hpos hlm ⊢
      have hpos2 : (0 : Int) < (L : Int) := by omega
      clear hL
      go_wp2_with fail
      refine (need_no 3 wr).mono ?_
      rintro e u ⟨rfl, rfl⟩
      exact ⟨rfl, rfl, Hbr.out⟩
end Go.Proofs.YtknacgdjodmaiaaDoor

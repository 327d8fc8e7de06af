/- The reference's Windows and SameWords. -/
import Derived.Test.YtjkkjfigoanplaaSrref
namespace Go.Proofs.Ytjkkjfigoanplaa
set_option linter.unusedVariables false
open Go.RowKit Go.Shelf

/-- A slice that reads as words. -/
structure RdU (w : World) (a : Option Addr) (len cap : Nat) (xs : List Int) : Prop where
  hl : xs.length = len
  hc : len ≤ cap
  hm : cap ≤ maxLen
  hr : 0 < len → ∃ b off, a = some ⟨b, off, none⟩ ∧ ∀ i, i < len → w.cell? ⟨b, off + i, none⟩ = some (.int .u32 (xs.getD i 0))
theorem RdU.below {w w' : World} {B : Nat} {a : Option Addr} {len cap : Nat} {xs : List Int} (h : RdU w a len cap xs) (hb : Below B w w') (hB : w.heap.size ≤ B) : RdU w' a len cap xs := by
  refine ⟨h.hl, h.hc, h.hm, fun h0 => ?_⟩
  obtain ⟨b, off, ha, hc⟩ := h.hr h0
  refine ⟨b, off, ha, fun i hi => ?_⟩
  have hlt := World.block_lt_of_cell? w _ (hc i hi)
  exact (hb.cell (p := ⟨b, off + i, none⟩) (Nat.lt_of_lt_of_le hlt hB)).trans (hc i hi)
theorem row_words {w : World} {B n : Nat} {v : Value} {xs : List Int} (h : w.ownsRow B 23 1 v n (xs.map (Value.int .u32))) : ∃ a cap, v = .slice a n cap ∧ RdU w a n cap xs := by
  have hn : xs.length = n := by have := h.1; simpa using this
  obtain ⟨a, cap, rfl, h1, h2, h3⟩ := row_slice h
  refine ⟨a, cap, rfl, hn, h1, h2, fun h0 => ?_⟩
  obtain ⟨g, rfl, -, -⟩ := h3 h0
  refine ⟨g, 0, rfl, fun i hi => ?_⟩
  rw [Nat.zero_add, row_cell h i (by omega), List.getElem?_map, List.getElem?_eq_getElem (by omega), getD_at _ _ (by omega)]
  rfl
set_option maxRecDepth 100000 in
set_option maxHeartbeats 1000000 in
theorem sameW_any (a : Option Addr) (ac : Nat) (b : Option Addr) (bc : Nat) (len : Nat) (xs : List Int) (w : World) (h1 : RdU w a len ac xs) (h2 : RdU w b len bc xs) :
    Calls Try.prog 28 #[.slice a len ac, .slice b len bc] w fun e w' => e = .returned (.bool true) ∧ Below w.heap.size w w' := by
  have hc1 := h1.hc
  have hm1 := h1.hm
  have hc2 := h2.hc
  have hm2 := h2.hm
  unfold maxLen at hm1 hm2
  have H1 := Lib.hid h1
  have H2 := Lib.hid h2
  clear h1 h2
  go_enter Try.func28, Try.ntmps28
  go_wp2_with fail
  go_loopw [5] (fun i wr => ∃ k : Nat, k ≤ len ∧ i = .int .i64 k ∧ Below w.heap.size w wr) (fun i _ => len - (intOf i).toNat)
  case atStart => exact ⟨0, Nat.zero_le _, rfl, Below.refl _ _⟩
  case round =>
    obtain ⟨k, hk, rfl, hb⟩ := hrel
    by_cases hlt : k < len
    · obtain ⟨w9, hw9⟩ : ∃ w9, w9 = wr.drew := ⟨_, rfl⟩
      have hb9 : Below w.heap.size w w9 := by rw [hw9]; exact hb.drew
      obtain ⟨b1, o1, rfl, hcell1⟩ := (H1.out.below hb9 (Nat.le_refl _)).hr (by omega)
      obtain ⟨b2, o2, rfl, hcell2⟩ := (H2.out.below hb9 (Nat.le_refl _)).hr (by omega)
      have d1 := hcell1 k hlt
      have d2 := hcell2 k hlt
      obtain ⟨x, hx⟩ : ∃ x, x = xs.getD k 0 := ⟨_, rfl⟩
      rw [← hx] at d1 d2
      have hk0 : (0 : Int) ≤ (k : Int) := by omega
      have hkl : (k : Int) < (len : Int) := by omega
      have Hb9 := Lib.hid hb9
      have Hw9 := Lib.hid hw9
      clear hx hcell1 hcell2 hb9 hw9 hb
      go_wp2_with fail
      refine wp_region_still_tail 8 (by kernel_rfl) (by kernel_rfl) ?_
      rw [show (({ wr with drawn := wr.drawn + 1 } : World)) = w9 from Hw9.out.symm]
      simp only [List.take_succ_cons, List.take_zero, List.drop_succ_cons, List.drop_zero]
      repeat still_step
      refine wpStill_nil ?_
      go_wp2_with fail
      go_roundw
      case rel => exact ⟨k + 1, by omega, by go_num, Hb9.out⟩
      case measure => simp [intOf]; omega
    · obtain rfl : k = len := by omega
      have Hb := Lib.hid hb
      clear hb
      go_wp2_with fail
      go_ret
      exact ⟨rfl, Hb.out⟩
set_option maxRecDepth 100000 in
set_option maxHeartbeats 1000000 in
theorem rwindows_less (a : Option Addr) (len cap : Nat) (n : Int) (w : World) (h : n < 1) :
    Calls Try.prog 23 #[.slice a len cap, .int .i64 n] w fun e w' => e = .returned (.tuple #[.slice none 0 0, .int .i64 1]) ∧ w' = w := by
  go_enter Try.func23, Try.ntmps23
  go_wp2
  go_ret2
  exact ⟨rfl, rfl⟩
set_option maxRecDepth 100000 in
set_option maxHeartbeats 1000000 in
theorem rwindows_more (a : Option Addr) (len cap : Nat) (n : Int) (w : World) (h : 1 ≤ n) (h2 : (len : Int) < n) :
    Calls Try.prog 23 #[.slice a len cap, .int .i64 n] w fun e w' => e = .returned (.tuple #[.slice none 0 0, .int .i64 0]) ∧ w' = w := by
  have h' : ¬ n < 1 := by omega
  have h2' : ¬ n ≤ (len : Int) := by omega
  go_enter Try.func23, Try.ntmps23
  go_wp2_with fail
  refine wp_loop_rounds 1 ?_
  rw [rounds_succ]
  go_wp2_with fail
  go_ret2
  exact ⟨rfl, rfl⟩
theorem rvalue_at (A B N : Int) (w : World) (a1 : 0 ≤ A) (a2 : A < 65521) (b1 : 0 ≤ B) (b2 : B < 65521) :
    Calls Try.prog 27 #[.agg #[.int .u32 A, .int .u32 B, .int .i64 N]] w fun e w' => e = .returned (.int .u32 (valueV A B)) ∧ Below w.heap.size w w' := rvalue_any A B N w a1 (by omega) b1 (by omega)
attribute [local irreducible] slideA slideB valueV
set_option maxRecDepth 100000 in
set_option maxHeartbeats 4000000 in
theorem rwindows_ok (a : Option Addr) (len cap n : Nat) (xs : List Int) (w : World) (h : Rd w a len cap xs) (h1 : 1 ≤ n) (h2 : n ≤ len) (hm : len ≤ 2147483647) :
    Calls Try.prog 23 #[.slice a len cap, .int .i64 n] w fun e w' => ∃ v, e = .returned (.tuple #[v, .int .i64 0]) ∧ w'.ownsRow w.heap.size 23 1 v (len - n + 1) ((winV xs n (len - n + 1)).map (Value.int .u32)) ∧ Below w.heap.size w w' := by
  obtain ⟨b, off, rfl, -⟩ := h.hr (by omega)
  have hl := h.hl
  have hc := h.hc
  have hcm := h.hm
  unfold maxLen at hcm
  have g1 : ¬ (n : Int) < 1 := by omega
  have g3 : (n : Int) ≤ (len : Int) := by omega
  obtain ⟨m, hmm⟩ : ∃ m, m = len - n + 1 := ⟨_, rfl⟩
  rw [← hmm]
  have H := Lib.hid h
  have hl' := Lib.hid hl
  have Hm := Lib.hid hmm
  clear h hl hmm
  go_enter Try.func23, Try.ntmps23
  go_wp2_with fail
  go_loopw [6, 7] (fun v i wr => ∃ k : Nat, k ≤ m ∧ i = .int .i64 k ∧ wr.ownsRow w.heap.size 23 1 v k ((winV xs n k).map (Value.int .u32)) ∧ Below w.heap.size w wr) (fun _ i _ => m - (intOf i).toNat)
  case atStart => exact ⟨0, Nat.zero_le _, rfl, World.ownsRow_nil _ _ _ _, Below.refl _ _⟩
  case round =>
    obtain ⟨k, hk, rfl, hrow, hb⟩ := hrel
    by_cases hlt : k < m
    · have hm1 := Hm.out
      have hg : (k : Int) ≤ (len : Int) - (n : Int) := by omega
      have hk0 : (0 : Int) ≤ (k : Int) := by omega
      have hkc : (k : Int) + (n : Int) ≤ (cap : Int) := by omega
      have hkl : (k : Int) ≤ (k : Int) + (n : Int) := by omega
      have hck : (cap = k) = False := by simp; omega
      have hw2 : ((k : Int) + (n : Int)).toNat - k = n := by omega
      have hrr := H.out.below hb (Nat.le_refl _)
      have hcut := hrr.cut k n (x := ⟨b, off + k, none⟩) (c := cap - k) (by omega) (fun _ => rfl) (by omega) (by unfold maxLen; omega)
      have hsr := slid_roll xs n (by omega) k (by have := hl'.out; omega)
      have hbd := slid_bd xs n k
      obtain ⟨p, hp⟩ : ∃ p, p = slid xs n k := ⟨_, rfl⟩
      rw [← hp] at hbd hsr
      have hsn := winV_snoc xs n k
      rw [← hp] at hsn
      obtain ⟨A, B⟩ := p
      simp only at hbd hsr hsn
      obtain ⟨x1, x2, x3, x4⟩ := hbd
      obtain ⟨va, vc, hv, -, -, -⟩ := row_slice hrow
      subst hv
      have hbs := hb.size
      have Hcut := Lib.hid hcut
      have Hsr := Lib.hid hsr
      have Hsn := Lib.hid hsn
      have Hrow := Lib.hid hrow
      have Hb := Lib.hid hb
      have hk9 : k + 1 ≤ 2147483648 := by omega
      clear hrr hcut hsr hsn hrow hb hm1 hp hk
      go_wp2_with fail
      refine (rsum_any _ n (cap - k) _ wr Hcut.out).mono ?_
      rintro e w1 ⟨rfl, hb1⟩
      rw [← Hsr.out]
      have Hrow1 := Lib.hid (row_below Hrow.out hb1 (Nat.le_refl _))
      have Hb1 : Hid (Below w.heap.size w w1) := Lib.hid (Hb.out.trans (hb1.mono Hb.out.size))
      clear hb1 Hrow Hb Hcut Hsr
      go_wp2_with fail
      refine (rvalue_at A B n w1 x1 x2 x3 x4).mono ?_
      rintro e w2 ⟨rfl, hb2⟩
      obtain ⟨u, hu⟩ : ∃ u, u = valueV A B := ⟨_, rfl⟩
      rw [← hu]
      have Hu := Lib.hid hu
      have Hrow2 := Lib.hid (row_below Hrow1.out hb2 (Nat.le_refl _))
      have Hb2 : Hid (Below w.heap.size w w2) := Lib.hid (Hb1.out.trans (hb2.mono Hb1.out.size))
      have HI0 := Lib.hid (info_parts Try.infoW)
      clear hb2 Hrow1 Hb1 hu
      go_wp2_with (obtain ⟨i0, hi, hz0, hz1, hz2⟩ := HI0.out; refine wpList_append_one rfl (.tmp 24) (.tmp 33) 34 rfl w.heap.size 23 i0 (.int .u32 0) 1 4 Try.underlying34 hi hz0 hz1 hz2 rfl (by decide) (.slice va k vc) k _ rfl (Hrow2.out.alloc _) w2.heap.size #[.int .u32 u] rfl (heap_new w2 _) rfl (by kernel_rfl) (by omega) (by unfold maxLen; omega) (by have := Hb2.out.size; simp; omega) ?_; clear hi hz0 hz1 hz2; intro v' w3 hrow3 hg3)
      have hvb := (Hrow2.out.alloc (.cells #[.int .u32 u] 23)).lt
      have hr3 : w3.ownsRow w.heap.size 23 1 v' (k + 1) ((winV xs n (k + 1)).map (Value.int .u32)) := by
        rw [Hsn.out, List.map_append]
        simp only [List.map_cons, List.map_nil]
        rw [← Hu.out]
        exact hrow3
      have hb3 : Below w.heap.size w w3 := (Hb2.out.alloc Hb2.out.size _).grown hg3 (by simp; have := Hb2.out.size; omega) (fun k e => (hvb k e).1)
      have Hr3 := Lib.hid hr3
      have Hb3 := Lib.hid hb3
      clear hvb hr3 hb3 hrow3 hg3 Hrow2
      go_wp2_with fail
      go_roundw
      case rel => exact ⟨k + 1, by omega, by go_num, Hr3.out, Hb3.out⟩
      case measure => simp [intOf]; omega
    · obtain rfl : k = m := by omega
      have hg : ¬ (k : Int) ≤ (len : Int) - (n : Int) := by have := Hm.out; omega
      obtain ⟨va, vc, hv, -, -, -⟩ := row_slice hrow
      subst hv
      have Hrow := Lib.hid hrow
      have Hb := Lib.hid hb
      clear hrow hb
      go_wp2_with fail
      go_ret2
      exact ⟨_, rfl, Hrow.out, Hb.out⟩
end Go.Proofs.Ytjkkjfigoanplaa

/- Count: the bits that are set. -/
import Derived.Test.YtknacgdjodmaiaaDoorBset
import Derived.Test.YtknacgdjodmaiaaDoorBcntp
import Derived.Test.YtknacgdjodmaiaaDoorBround
import Derived.Sort.CutIn
namespace Go.Proofs.YtknacgdjodmaiaaDoor
set_option linter.unusedVariables false
open Go.RowKit Go.Shelf
attribute [local go_sem] Oper.semAt_some

/-- The table of the numbers of set bits stands in the variable's block. -/
def Ones (w : World) : Prop := ∀ k, k < 16 → w.cell? ⟨0, k, none⟩ = some (.int .i64 (onesL.getD k 0 : Int))
theorem Ones.lt {w : World} (h : Ones w) : 0 < w.heap.size := World.block_lt_of_cell? w _ (h 0 (by omega))
theorem Ones.below {w w' : World} {B : Nat} (h : Ones w) (hb : Below B w w') (hB : w.heap.size ≤ B) : Ones w' := fun k hk => (hb.cell (p := ⟨0, k, none⟩) (by have := h.lt; simp only; omega)).trans (h k hk)
theorem Ones.but {w w' : World} {g : Nat} (h : Ones w) (hb : But g w w') (hg : 0 < g) : Ones w' := fun k hk => (World.cell?_of_block (w := w) (a := ⟨0, k, none⟩) (hb.others 0 h.lt (by omega))).trans (h k hk)
theorem ones_le (k : Nat) : onesL.getD k 0 ≤ 4 := by
  by_cases h : k < 16
  · have : (List.range 16).all (fun k => decide (onesL.getD k 0 ≤ 4)) = true := by kernel_rfl
    simpa using List.all_eq_true.mp this k (List.mem_range.mpr h)
  · simp [onesL, List.getD, show 16 ≤ k by omega]
set_option maxRecDepth 100000 in
set_option maxHeartbeats 4000000 in
theorem count1_bad (g0 g1 g2 : Nat) (N : Int) (a : Option Addr) (l c : Nat) (bs : List Int) (at_ m : Int) (W : World) (hB : Blk W g0 24 #[.int .i64 N, .slice a l c]) (h1 : Blk W g1 3 #[.int .i64 at_]) (h2 : Blk W g2 3 #[.int .i64 m]) (hr : Rd W a l c bs) (hN1 : -9223372036854775808 ≤ N) (hN2 : N ≤ 9223372036854775807) (ha1 : -9223372036854775808 ≤ at_) (ha2 : at_ ≤ 9223372036854775807) (hv : validB N bs = false) :
    Calls Tryd.prog 52 #[.pointer (some ⟨g0, 0, none⟩), .pointer (some ⟨g1, 0, none⟩), .pointer (some ⟨g2, 0, none⟩)] W fun e w' => e = pan 9 ∧ Below W.heap.size W w' := by
  have q0 : W.cell? ⟨g0, 0, none⟩ = some (.int .i64 N) := hB.cell 0
  have q1 : W.cell? ⟨g0, 1, none⟩ = some (.slice a l c) := hB.cell 1
  have q2 := h1.boxed.cell
  have q3 := h2.boxed.cell
  have C := Lib.hid (needRange_bad N a l c bs W hr hN1 hN2 at_ m ha1 ha2 hv)
  clear hB h1 h2 hr hv
  go_enter Tryd.func52, Tryd.ntmps52
  go_wp2_with fail
  refine C.out.mono ?_
  rintro e w2 ⟨rfl, hb⟩
  exact ⟨rfl, rfl, hb⟩
set_option maxRecDepth 100000 in
set_option maxHeartbeats 4000000 in
theorem count1_rng (g0 g1 g2 : Nat) (N : Int) (a : Option Addr) (l c : Nat) (bs : List Int) (at_ m : Int) (W : World) (hB : Blk W g0 24 #[.int .i64 N, .slice a l c]) (h1 : Blk W g1 3 #[.int .i64 at_]) (h2 : Blk W g2 3 #[.int .i64 m]) (hr : Rd W a l c bs) (hN1 : -9223372036854775808 ≤ N) (hN2 : N ≤ 9223372036854775807) (ha1 : -9223372036854775808 ≤ at_) (ha2 : at_ ≤ 9223372036854775807) (hv : validB N bs = true) (hc : ¬ (0 ≤ at_ ∧ 0 ≤ m ∧ m ≤ N - at_)) :
    Calls Tryd.prog 52 #[.pointer (some ⟨g0, 0, none⟩), .pointer (some ⟨g1, 0, none⟩), .pointer (some ⟨g2, 0, none⟩)] W fun e w' => e = pan 1 ∧ Below W.heap.size W w' := by
  have q0 : W.cell? ⟨g0, 0, none⟩ = some (.int .i64 N) := hB.cell 0
  have q1 : W.cell? ⟨g0, 1, none⟩ = some (.slice a l c) := hB.cell 1
  have q2 := h1.boxed.cell
  have q3 := h2.boxed.cell
  have C := Lib.hid (needRange_no N a l c bs W hr hN1 hN2 at_ m ha1 ha2 hv hc)
  clear hB h1 h2 hr hv hc
  go_enter Tryd.func52, Tryd.ntmps52
  go_wp2_with fail
  refine C.out.mono ?_
  rintro e w2 ⟨rfl, hb⟩
  exact ⟨rfl, rfl, hb⟩
set_option maxRecDepth 100000 in
set_option maxHeartbeats 4000000 in
theorem count1_ok (g0 g1 g2 : Nat) (N : Int) (a : Option Addr) (l c : Nat) (bs : List Int) (at_ m e : Nat) (W : World) (hB : Blk W g0 24 #[.int .i64 N, .slice a l c]) (h1 : Blk W g1 3 #[.int .i64 (at_ : Int)]) (h2 : Blk W g2 3 #[.int .i64 (m : Int)]) (hr : Rd W a l c bs) (hv : validB N bs = true) (he : e = at_ + m) (hc : (e : Int) ≤ N) (ho : Ones W) :
    Calls Tryd.prog 52 #[.pointer (some ⟨g0, 0, none⟩), .pointer (some ⟨g1, 0, none⟩), .pointer (some ⟨g2, 0, none⟩)] W fun e' w' => e' = .returned (.int .i64 (cntV bs at_ e : Int)) ∧ Below W.heap.size W w' := by
  have q0 : W.cell? ⟨g0, 0, none⟩ = some (.int .i64 N) := hB.cell 0
  have q1 : W.cell? ⟨g0, 1, none⟩ = some (.slice a l c) := hB.cell 1
  have q2 := h1.boxed.cell
  have q3 := h2.boxed.cell
  obtain ⟨v1, v2, v3, -⟩ := (validB_iff N bs).mp hv
  have hl := hr.hl
  have C := Lib.hid (needRange_yes N a l c bs W hr (by omega) (by omega) at_ m (by omega) (by omega) hv ⟨by omega, by omega, by omega⟩)
  have HR := Lib.hid hr
  have HB := Lib.hid hB
  have H1 := Lib.hid h1
  have H2 := Lib.hid h2
  have HO := Lib.hid ho
  have hl9 : l ≤ 9000 := by omega
  have he8 : e ≤ 8 * l := by omega
  have hg0 : g0 < W.heap.size := hB.lt
  have hg1 : g1 < W.heap.size := h1.lt
  have hg2 : g2 < W.heap.size := h2.lt
  have He := Lib.hid he
  clear hB h1 h2 hr hv v1 v2 v3 hc ho he
  refine (callsIn_wide (n := 9)).1 ?_
  refine callsIn_of_wp_marks Tryd.func52 rfl trivial ?_ rfl
  simp only [Tryd.ntmps52, List.size_toArray, List.length_cons, List.length_nil, Nat.reduceAdd, Nat.reduceSub, Array.replicate_succ, Array.replicate_zero, List.push_toArray, List.append_toArray, List.nil_append, List.cons_append]
  gi_wp2_with fail
  refine ⟨trivial, ?_⟩
  refine (callsIn_wide.2 C.out).mono ?_
  rintro e1 w1 ⟨rfl, hb1⟩
  obtain ⟨V, hV⟩ : ∃ V, V = w1.alloc (.cells #[.int .i64 0] 3) := ⟨_, rfl⟩
  have hbV : Below w1.heap.size w1 V := by rw [hV]; exact (Below.refl _ w1).alloc (Nat.le_refl _) _
  have hXV : Boxed V w1.heap.size 3 (.int .i64 0) := by rw [hV]; exact Boxed.new _ _ _
  have hbWV := hb1.trans (hbV.mono hb1.size)
  have hsV : w1.heap.size < V.heap.size := hXV.lt
  have hW1 := hb1.size
  have u2 := (H1.out.below hbWV hg1).boxed.cell
  have u3 := (H2.out.below hbWV hg2).boxed.cell
  have HV := Lib.hid hV
  have HbWV := Lib.hid hbWV
  have HXV := Lib.hid hXV
  clear hb1 hV hbV hbWV hXV C q0 q1 q2 q3
  gi_upto_region 3 with fail
  rw [← HV.out]
  gi_wp2_with fail
  refine ⟨trivial, ?_⟩
  refine (callsIn_wide.2 (parts_any at_ m V)).mono ?_
  rintro e2 w3 ⟨rfl, hw3⟩
  have hbx0 : Boxed w3 V.heap.size 3 (.int .i64 at_) := by rw [hw3]; exact (Boxed.new V _ _).alloc _
  have hbx1 : Boxed w3 (V.heap.size + 1) 3 (.int .i64 m) := by
    rw [hw3]; have := Boxed.new (V.alloc (.cells #[.int .i64 at_] 3)) 3 (.int .i64 m); rw [World.size_alloc] at this; exact this
  have hb3 : Below V.heap.size V w3 := by rw [hw3]; exact ((Below.refl _ V).alloc (Nat.le_refl _) _).alloc (by simp) _
  have hs3 : w3.heap.size = V.heap.size + 2 := by rw [hw3]; unfold rangeBoxes; simp
  have hbW3 := HbWV.out.trans (hb3.mono (by omega))
  have hX3 : Boxed w3 w1.heap.size 3 (.int .i64 0) := (hb3.block _ hsV).trans HXV.out
  have Hbx := Lib.hid (And.intro hbx0 hbx1)
  have HR3 := Lib.hid (HR.out.below hbW3 (Nat.le_refl _))
  have HB3 := Lib.hid (HB.out.below hbW3 hg0)
  have HO3 := Lib.hid (HO.out.below hbW3 (Nat.le_refl _))
  have HX3 := Lib.hid hX3
  have HbW3 := Lib.hid hbW3
  have hw1p : 0 < w1.heap.size := by have := HO.out.lt; omega
  have hablk : ∀ y, a = some y → 0 < l → y.block < W.heap.size := by
    intro y hy h0
    obtain ⟨b, off, hb, hc⟩ := HR.out.hr h0
    rw [hy] at hb
    cases hb
    exact World.block_lt_of_cell? W _ (hc 0 h0)
  clear hw3 hbx0 hbx1 hb3 hbW3 hX3 HR HB H1 H2 HO HXV HbWV HV u2 u3
  gi_wp2_with fail
  refine wpIn_rangeFunc_ownF rfl (by omega) (gf := 87) (lb := #[.pointer (some ⟨V.heap.size, 0, none⟩), .pointer (some ⟨V.heap.size + 1, 0, none⟩)]) rfl trivial (enters_of Tryd.func87 (by kernel_rfl) rfl)
    (parts1_stops Fence.wide _ trivial rfl (by omega) V.heap.size (V.heap.size + 1) at_ m e He.out _ Hbx.out.1 Hbx.out.2 (by omega))
    (fun h k hx => k (h hx)) ?kb (Below.refl _ _) (fun _ => rfl)
    (fun pre W' => (Boxed W' w1.heap.size 3 (.int .i64 (sumB bs at_ e (pre.map (·.1)) : Int)) ∧ pre.length ≤ 9000) ∧ But w1.heap.size w3 W')
    (fun _ _ _ => False)
    ?own (fun _ _ _ _ _ hs _ _ => hs) ?start
    (fun x => { tmps := #[.pointer (some ⟨g0, 0, none⟩), .pointer (some ⟨g1, 0, none⟩), .pointer (some ⟨g2, 0, none⟩), .int .i64 0, .pointer (some ⟨w1.heap.size, 0, none⟩), .int .i64 (x.1 : Int), .int .u8 (mkV at_ e x.1 : Int), undef, .agg #[.int .i64 N, .slice a l c], .int .i64 at_, .int .i64 m, .tuple #[], .int .i64 at_, .int .i64 m, .func (.func 87) #[] #[.pointer (some ⟨V.heap.size, 0, none⟩), .pointer (some ⟨V.heap.size + 1, 0, none⟩)], .int .i64 (x.1 : Int), .int .u8 (mkV at_ e x.1 : Int), undef, undef, undef, undef, undef, undef, undef, undef, undef, undef, undef, undef, undef, undef, undef, undef, undef, undef, undef], defers := [] }) ?assign ?body ?done ?stop
  case kb =>
    intro W l o o' hl ho hc _ ⟨h1, h2⟩
    exact ⟨(World.putObj_heap_other (by intro e; subst e; have := ho.symm.trans h1; cases this; cases hc)).trans h1, (World.putObj_heap_other (by intro e; subst e; have := ho.symm.trans h2; cases this; cases hc)).trans h2⟩
  case own =>
    refine OwnFrom.and (OwnFrom.and ?_ (fun _ _ _ _ hs _ _ => hs)) (ownFrom_but ?_ (Nat.le_refl _))
    · exact (blk_own w1.heap.size 3 (fun pre : List (PartNo at_ e) => #[.int .i64 (sumB bs at_ e (pre.map (·.1)) : Int)])).from _
    · omega
  case start => exact ⟨⟨HX3.out, by simp⟩, But.refl _ _⟩
  case assign =>
    intro l x W K hK
    dsimp only [partEnc]
    gi_wp2
    exact hK
  case body =>
    rintro ln pre ⟨i, hx⟩ W' ⟨⟨hX, hpl⟩, hbut⟩ hpN
    have hil : i < l := by omega
    have hpN2 : pre.length + 1 ≤ 9000 := by unfold partN at hpN; split at hpN <;> omega
    have hRW : Rd W' a l c bs := hbut.rd HR3.out (by intro y hy e0; have := hablk y hy (by omega); omega)
    obtain ⟨b, off, rfl, hcl⟩ := hRW.hr (by omega)
    have hcell := hcl i hil
    have hcp := hRW.hc
    have hcm := hRW.hm
    unfold maxLen at hcm
    have hXb := hRW.hb _ (getD_mem (bs := bs) (i := i) (by omega))
    have hsn := sumB_next bs at_ e (pre.map (·.1)) i
    have hsl := sumB_le bs at_ e (pre.map (·.1))
    rw [List.length_map] at hsl
    have hpop : popB bs at_ e i = onesL.getD (((bs.getD i 0).toNat &&& mkV at_ e i) % 16) 0 + onesL.getD (((bs.getD i 0).toNat &&& mkV at_ e i) / 16) 0 := rfl
    have hmb := mkV_lt at_ e i
    dsimp only
    obtain ⟨S, hS⟩ : ∃ S, S = sumB bs at_ e (pre.map (·.1)) := ⟨_, rfl⟩
    rw [← hS] at hX hsn hsl
    obtain ⟨X, hXv⟩ : ∃ X, X = bs.getD i 0 := ⟨_, rfl⟩
    rw [← hXv] at hXb hcell hpop
    obtain ⟨K, hKv⟩ : ∃ K, K = mkV at_ e i := ⟨_, rfl⟩
    rw [← hKv] at hmb hpop ⊢
    obtain ⟨Z, hZ⟩ : ∃ Z, Z = X.toNat &&& K := ⟨_, rfl⟩
    rw [← hZ] at hpop
    have hZ2 : Z < 256 := by rw [hZ]; have := Nat.and_le_right (n := X.toNat) (m := K); omega
    have hand : bits .and .u8 X (K : Int) = (Z : Int) := by rw [u8_and X K hXb.1 (by omega) (by omega) (by omega), Int.toNat_natCast, ← hZ]
    obtain ⟨r, hrr⟩ : ∃ r, r = Z % 16 := ⟨_, rfl⟩
    obtain ⟨q, hqq⟩ : ∃ q, q = Z / 16 := ⟨_, rfl⟩
    rw [← hrr, ← hqq] at hpop
    have e1 : (Z : Int) % 16 = (r : Int) := by omega
    have e2 : (Z : Int) / 16 = (q : Int) := by omega
    have e3 : (Z : Int).tmod 16 = (r : Int) := by rw [Int.tmod_eq_emod_of_nonneg (by omega)]; exact e1
    have e4 : (Z : Int).tdiv 16 = (q : Int) := by rw [Int.tdiv_eq_ediv_of_nonneg (by omega)]; exact e2
    have hr16 : r < 16 := by omega
    have hq16 : q < 16 := by omega
    have hOW := HO3.out.but hbut hw1p
    have t1 := hOW r hr16
    have t2 := hOW q hq16
    have b1 := ones_le r
    have b2 := ones_le q
    obtain ⟨y1, hy1⟩ : ∃ y, y = onesL.getD r 0 := ⟨_, rfl⟩
    obtain ⟨y2, hy2⟩ : ∃ y, y = onesL.getD q 0 := ⟨_, rfl⟩
    rw [← hy1] at hpop b1 t1
    rw [← hy2] at hpop b2 t2
    have hqB : W'.cell? ⟨g0, 1, none⟩ = some (.slice (some ⟨b, off, none⟩) l c) := (hbut.blk HB3.out (by omega)).cell 1
    have x0 := hX.cell
    have hii : (i : Int) < (l : Int) := by omega
    have hr16i : (r : Int) < 16 := by omega
    have hq16i : (q : Int) < 16 := by omega
    have e5 : IntKind.u8.wrap (q : Int) = (q : Int) := IntWalk.u8_in _ (by omega)
    have e6 : IntKind.i64.wrap ((y1 : Int) + (y2 : Int)) = (y1 : Int) + (y2 : Int) := IntWalk.i64_in _ (by omega)
    have e7 : IntKind.i64.wrap ((S : Int) + ((y1 : Int) + (y2 : Int))) = (S : Int) + ((y1 : Int) + (y2 : Int)) := IntWalk.i64_in _ (by omega)
    obtain ⟨w9, hw9⟩ : ∃ w9, w9 = W'.drew := ⟨_, rfl⟩
    have t3 : w9.cell? ⟨0, r, none⟩ = some (.int .i64 (y1 : Int)) := by rw [hw9]; exact t1
    have t4 : w9.cell? ⟨0, q, none⟩ = some (.int .i64 (y2 : Int)) := by rw [hw9]; exact t2
    have x3 : w9.cell? ⟨w1.heap.size, 0, none⟩ = some (.int .i64 (S : Int)) := by rw [hw9]; exact x0
    have x4 : w9.frozen? ⟨w1.heap.size, 0, none⟩ = false := by rw [hw9]; exact hX.frozen
    have hfin : KeepsOthers W' (w9.setCell ⟨w1.heap.size, 0, none⟩ (.int .i64 ((S : Int) + ((y1 : Int) + (y2 : Int))))) ∧ boxesKp V.heap.size (V.heap.size + 1) at_ m W' (w9.setCell ⟨w1.heap.size, 0, none⟩ (.int .i64 ((S : Int) + ((y1 : Int) + (y2 : Int))))) ∧
        (Boxed (w9.setCell ⟨w1.heap.size, 0, none⟩ (.int .i64 ((S : Int) + ((y1 : Int) + (y2 : Int))))) w1.heap.size 3 (.int .i64 (sumB bs at_ e ((pre ++ [(⟨i, hx⟩ : PartNo at_ e)]).map (·.1)) : Int)) ∧ (pre ++ [(⟨i, hx⟩ : PartNo at_ e)]).length ≤ 9000) ∧
        But w1.heap.size w3 (w9.setCell ⟨w1.heap.size, 0, none⟩ (.int .i64 ((S : Int) + ((y1 : Int) + (y2 : Int))))) := by
      have hbb := (But.refl w1.heap.size W').drew.setCell 0 (.int .i64 ((S : Int) + ((y1 : Int) + (y2 : Int))))
      rw [← hw9] at hbb
      refine ⟨hbb.keeps (show Blk W' _ 3 _ from hX), boxesKp_but hbb (by omega) (by omega), ⟨?_, by rw [List.length_append]; simpa using hpN2⟩, hbut.trans hbb⟩
      have hX9 : Boxed w9 w1.heap.size 3 (.int .i64 (S : Int)) := by rw [hw9]; exact hX
      have := hX9.set (.int .i64 ((S : Int) + ((y1 : Int) + (y2 : Int))))
      rw [List.map_append, List.map_singleton, hsn, hpop]
      have e9 : ((S + (y1 + y2) : Nat) : Int) = (S : Int) + ((y1 : Int) + (y2 : Int)) := by omega
      rw [e9]
      exact this
    have Hfin := Lib.hid hfin
    have Hw9 := Lib.hid hw9
    clear hfin hw9 hX hbut hRW hcl hcp hcm hsn hpop hS hXv hKv hZ hrr hqq hy1 hy2 hOW HX3 HR3 HB3 HO3 Hbx t1 t2 hpN hpl
    gi_wp2_with fail
    refine round_still_tail 11 (by kernel_rfl) (by kernel_rfl) (by kernel_rfl) ?_
    rw [show (({ W' with drawn := W'.drawn + 1 } : World)) = w9 from Hw9.out.symm]
    simp only [List.take_succ_cons, List.take_zero, List.drop_succ_cons, List.drop_zero]
    repeat still_step
    refine wpStill_nil ?_
    gi_wp2_with fail
    exact Hfin.out
  case done =>
    rintro D xs W' hD hS ⟨⟨hX, hpl⟩, hbut⟩ hK
    rw [hS, sumB_all HR3.out.hb at_ e (partN at_ e) (by omega) (by unfold partN; rfl)] at hX
    have x0 := hX.cell
    have HK := Lib.hid hK
    have Hb := Lib.hid (HbW3.out.trans (hbut.below.mono (by omega)))
    clear hX hpl hbut hK hS HX3 HR3 HB3 HO3 Hbx
    gi_wp2_with fail
    refine ⟨by simp, .inl ⟨_, _, rfl, run_takeDeferred HK.out, ?_⟩⟩
    exact ⟨_, results_tmp rfl _ _ _, rfl, Hb.out.trans (belowK_b (w := W) (Nat.le_refl _) W' D _ _ (by omega) HK.out rfl rfl)⟩
  case stop =>
    rintro D c pre W _ _ h _
    exact h.elim
end Go.Proofs.YtknacgdjodmaiaaDoor

import Derived.Test.YthognmkjoekilaaDoorBma
import Derived.Sort.CutIn
import Derived.RangeFuncWrites
import Derived.Test.YthognmkjoekilaaDoorRows
import Derived.Laws.EntriesVeiled
import Derived.Laws.ResultCell
import Derived.Deep.WholeRow
import Derived.Great.BuildSlice
import Derived.Deep.DeepCutAuto
/- Counting byte by byte (pure). -/
namespace Go.Proofs.YthognmkjoekilaaDoor
set_option linter.unusedVariables false

/-- How many bits one byte has in a range. -/
def popB (bs : List Int) (a e i : Nat) : Nat := popV ((bs.getD i 0).toNat &&& mkV a e i)
theorem mkV_cut (a e i : Nat) : mkV a e i = mkV (max a (8 * i)) (min e (8 * i + 8)) i := by
  unfold mkV
  rw [show min (min e (8 * i + 8)) (8 * i + 8) - max (max a (8 * i)) (8 * i) = min e (8 * i + 8) - max a (8 * i) by omega, show max (max a (8 * i)) (8 * i) - 8 * i = max a (8 * i) - 8 * i by omega]
theorem popB_eq {bs : List Int} (h : isBs bs) (a e i : Nat) (hi : i < bs.length) : popB bs a e i = cntV bs (max a (8 * i)) (min e (8 * i + 8)) := by
  unfold popB
  rw [mkV_cut]
  exact cntV_byte h _ _ i hi (by omega) (by omega)
theorem popV_le (x : Nat) (hx : x < 256) : popV x ≤ 8 := by
  rw [popV_bits x hx]
  have := List.length_filter_le x.testBit (List.range 8)
  simpa using this
theorem popB_le {bs : List Int} (a e i : Nat) : popB bs a e i ≤ 8 := by
  unfold popB
  apply popV_le
  have := Nat.and_le_right (n := (bs.getD i 0).toNat) (m := mkV a e i)
  have := mkV_lt a e i
  omega
def sumB (bs : List Int) (a e : Nat) (l : List Nat) : Nat := (l.map (popB bs a e)).sum
theorem sumB_le (bs : List Int) (a e : Nat) (l : List Nat) : sumB bs a e l ≤ 8 * l.length := by
  unfold sumB
  induction l with
  | nil => simp
  | cons x l ih =>
    have := popB_le (bs := bs) a e x
    simp only [List.map_cons, List.sum_cons, List.length_cons]
    omega
theorem sumB_next (bs : List Int) (a e : Nat) (l : List Nat) (i : Nat) : sumB bs a e (l ++ [i]) = sumB bs a e l + popB bs a e i := by
  simp [sumB]
theorem sumB_range {bs : List Int} (h : isBs bs) (a e : Nat) (he : e ≤ 8 * bs.length) (hae : a < e) : ∀ k, a / 8 + k ≤ (e + 7) / 8 → sumB bs a e (List.range' (a / 8) k) = cntV bs a (max a (min e (8 * (a / 8 + k)))) := by
  intro k
  induction k with
  | zero =>
    intro _
    rw [show max a (min e (8 * (a / 8 + 0))) = a by omega, cntV_none _ _ _ (Nat.le_refl _)]
    rfl
  | succ k ih =>
    intro hk
    rw [List.range'_concat, Nat.one_mul, sumB_next, ih (by omega), popB_eq h a e (a / 8 + k) (by omega)]
    rw [cntV_split bs a (max a (min e (8 * (a / 8 + k)))) (max a (min e (8 * (a / 8 + (k + 1))))) (by omega) (by omega)]
    congr 2 <;> omega
/-- All bytes of a range. -/
theorem sumB_all {bs : List Int} (h : isBs bs) (a e n : Nat) (he : e ≤ 8 * bs.length) (hn : n = if a < e then (e + 7) / 8 - a / 8 else 0) : sumB bs a e (List.range' (a / 8) n) = cntV bs a e := by
  by_cases hae : a < e
  · rw [if_pos hae] at hn
    rw [sumB_range h a e he hae n (by omega), show max a (min e (8 * (a / 8 + n))) = e by omega]
  · rw [if_neg hae] at hn
    subst hn
    rw [cntV_none _ _ _ (by omega)]
    rfl
end Go.Proofs.YthognmkjoekilaaDoor

/- Count: the bits that are set. -/
namespace Go.Proofs.YthognmkjoekilaaDoor
set_option linter.unusedVariables false
open Go.RowKit Go.Shelf
attribute [local go_sem] Oper.semAt_some

/-- The table of the numbers of set bits stands in the variable's block. -/
def Ones (w : World) : Prop := ∀ k, k < 16 → w.cell? ⟨0, k, none⟩ = some (.int .i64 (onesL.getD k 0 : Int))
theorem Ones.lt {w : World} (h : Ones w) : 0 < w.heap.size := World.block_lt_of_cell? w _ (h 0 (by omega))
theorem Ones.below {w w' : World} {B : Nat} (h : Ones w) (hb : Below B w w') (hB : w.heap.size ≤ B) : Ones w' := fun k hk => (hb.cell (p := ⟨0, k, none⟩) (by have := h.lt; simp only; omega)).trans (h k hk)
theorem Ones.but {w w' : World} {g : Nat} (h : Ones w) (hb : But g w w') (hg : 0 < g) : Ones w' := fun k hk => (World.cell?_of_block (w := w) (a := ⟨0, k, none⟩) (hb.others 0 h.lt (by omega))).trans (h k hk)
theorem ones_le (k : Nat) : onesL.getD k 0 ≤ 4 := by
  by_cases h : k < 16
  · have : (List.range 16).all (fun k => decide (onesL.getD k 0 ≤ 4)) = true := by kernel_rfl
    simpa using List.all_eq_true.mp this k (List.mem_range.mpr h)
  · simp [onesL, List.getD, show 16 ≤ k by omega]
set_option maxRecDepth 100000 in
set_option maxHeartbeats 4000000 in
theorem count1_bad (g0 g1 g2 : Nat) (N : Int) (a : Option Addr) (l c : Nat) (bs : List Int) (at_ m : Int) (W : World) (hB : Blk W g0 24 #[.int .i64 N, .slice a l c]) (h1 : Blk W g1 3 #[.int .i64 at_]) (h2 : Blk W g2 3 #[.int .i64 m]) (hr : Rd W a l c bs) (hN1 : -9223372036854775808 ≤ N) (hN2 : N ≤ 9223372036854775807) (ha1 : -9223372036854775808 ≤ at_) (ha2 : at_ ≤ 9223372036854775807) (hv : validB N bs = false) :
    Calls Tryd.prog 52 #[.pointer (some ⟨g0, 0, none⟩), .pointer (some ⟨g1, 0, none⟩), .pointer (some ⟨g2, 0, none⟩)] W fun e w' => e = pan 9 ∧ Below W.heap.size W w' := by
  have q0 : W.cell? ⟨g0, 0, none⟩ = some (.int .i64 N) := hB.cell 0
  have q1 : W.cell? ⟨g0, 1, none⟩ = some (.slice a l c) := hB.cell 1
  have q2 := h1.boxed.cell
  have q3 := h2.boxed.cell
  have C := Lib.hid (needRange_bad N a l c bs W hr hN1 hN2 at_ m ha1 ha2 hv)
  clear hB h1 h2 hr hv
  go_enter Tryd.func52, Tryd.ntmps52
  go_wp2_with fail
  refine C.out.mono ?_
  rintro e w2 ⟨rfl, hb⟩
  exact ⟨rfl, rfl, hb⟩
set_option maxRecDepth 100000 in
set_option maxHeartbeats 4000000 in
theorem count1_rng (g0 g1 g2 : Nat) (N : Int) (a : Option Addr) (l c : Nat) (bs : List Int) (at_ m : Int) (W : World) (hB : Blk W g0 24 #[.int .i64 N, .slice a l c]) (h1 : Blk W g1 3 #[.int .i64 at_]) (h2 : Blk W g2 3 #[.int .i64 m]) (hr : Rd W a l c bs) (hN1 : -9223372036854775808 ≤ N) (hN2 : N ≤ 9223372036854775807) (ha1 : -9223372036854775808 ≤ at_) (ha2 : at_ ≤ 9223372036854775807) (hv : validB N bs = true) (hc : ¬ (0 ≤ at_ ∧ 0 ≤ m ∧ m ≤ N - at_)) :
    Calls Tryd.prog 52 #[.pointer (some ⟨g0, 0, none⟩), .pointer (some ⟨g1, 0, none⟩), .pointer (some ⟨g2, 0, none⟩)] W fun e w' => e = pan 1 ∧ Below W.heap.size W w' := by
  have q0 : W.cell? ⟨g0, 0, none⟩ = some (.int .i64 N) := hB.cell 0
  have q1 : W.cell? ⟨g0, 1, none⟩ = some (.slice a l c) := hB.cell 1
  have q2 := h1.boxed.cell
  have q3 := h2.boxed.cell
  have C := Lib.hid (needRange_no N a l c bs W hr hN1 hN2 at_ m ha1 ha2 hv hc)
  clear hB h1 h2 hr hv hc
  go_enter Tryd.func52, Tryd.ntmps52
  go_wp2_with fail
  refine C.out.mono ?_
  rintro e w2 ⟨rfl, hb⟩
  exact ⟨rfl, rfl, hb⟩
set_option maxRecDepth 100000 in
set_option maxHeartbeats 4000000 in
theorem count1_ok (g0 g1 g2 : Nat) (N : Int) (a : Option Addr) (l c : Nat) (bs : List Int) (at_ m e : Nat) (W : World) (hB : Blk W g0 24 #[.int .i64 N, .slice a l c]) (h1 : Blk W g1 3 #[.int .i64 (at_ : Int)]) (h2 : Blk W g2 3 #[.int .i64 (m : Int)]) (hr : Rd W a l c bs) (hv : validB N bs = true) (he : e = at_ + m) (hc : (e : Int) ≤ N) (ho : Ones W) :
    Calls Tryd.prog 52 #[.pointer (some ⟨g0, 0, none⟩), .pointer (some ⟨g1, 0, none⟩), .pointer (some ⟨g2, 0, none⟩)] W fun e' w' => e' = .returned (.int .i64 (cntV bs at_ e : Int)) ∧ Below W.heap.size W w' := by
  have q0 : W.cell? ⟨g0, 0, none⟩ = some (.int .i64 N) := hB.cell 0
  have q1 : W.cell? ⟨g0, 1, none⟩ = some (.slice a l c) := hB.cell 1
  have q2 := h1.boxed.cell
  have q3 := h2.boxed.cell
  obtain ⟨v1, v2, v3, -⟩ := (validB_iff N bs).mp hv
  have hl := hr.hl
  have C := Lib.hid (needRange_yes N a l c bs W hr (by omega) (by omega) at_ m (by omega) (by omega) hv ⟨by omega, by omega, by omega⟩)
  have HR := Lib.hid hr
  have HB := Lib.hid hB
  have H1 := Lib.hid h1
  have H2 := Lib.hid h2
  have HO := Lib.hid ho
  have hl9 : l ≤ 9000 := by omega
  have he8 : e ≤ 8 * l := by omega
  have hg0 : g0 < W.heap.size := hB.lt
  have hg1 : g1 < W.heap.size := h1.lt
  have hg2 : g2 < W.heap.size := h2.lt
  have He := Lib.hid he
  clear hB h1 h2 hr hv v1 v2 v3 hc ho he
  refine (callsIn_wide (n := 9)).1 ?_
  refine callsIn_of_wp_marks Tryd.func52 rfl trivial ?_ rfl
  simp only [Tryd.ntmps52, List.size_toArray, List.length_cons, List.length_nil, Nat.reduceAdd, Nat.reduceSub, Array.replicate_succ, Array.replicate_zero, List.push_toArray, List.append_toArray, List.nil_append, List.cons_append]
  gi_wp2_with fail
  refine ⟨trivial, ?_⟩
  refine (callsIn_wide.2 C.out).mono ?_
  rintro e1 w1 ⟨rfl, hb1⟩
  obtain ⟨V, hV⟩ : ∃ V, V = w1.alloc (.cells #[.int .i64 0] 3) := ⟨_, rfl⟩
  have hbV : Below w1.heap.size w1 V := by rw [hV]; exact (Below.refl _ w1).alloc (Nat.le_refl _) _
  have hXV : Boxed V w1.heap.size 3 (.int .i64 0) := by rw [hV]; exact Boxed.new _ _ _
  have hbWV := hb1.trans (hbV.mono hb1.size)
  have hsV : w1.heap.size < V.heap.size := hXV.lt
  have hW1 := hb1.size
  have u2 := (H1.out.below hbWV hg1).boxed.cell
  have u3 := (H2.out.below hbWV hg2).boxed.cell
  have HV := Lib.hid hV
  have HbWV := Lib.hid hbWV
  have HXV := Lib.hid hXV
  clear hb1 hV hbV hbWV hXV C q0 q1 q2 q3
  gi_upto_region 3 with fail
  rw [← HV.out]
  gi_wp2_with fail
  refine ⟨trivial, ?_⟩
  refine (callsIn_wide.2 (parts_any at_ m V)).mono ?_
  rintro e2 w3 ⟨rfl, hw3⟩
  have hbx0 : Boxed w3 V.heap.size 3 (.int .i64 at_) := by rw [hw3]; exact (Boxed.new V _ _).alloc _
  have hbx1 : Boxed w3 (V.heap.size + 1) 3 (.int .i64 m) := by
    rw [hw3]; have := Boxed.new (V.alloc (.cells #[.int .i64 at_] 3)) 3 (.int .i64 m); rw [World.size_alloc] at this; exact this
  have hb3 : Below V.heap.size V w3 := by rw [hw3]; exact ((Below.refl _ V).alloc (Nat.le_refl _) _).alloc (by simp) _
  have hs3 : w3.heap.size = V.heap.size + 2 := by rw [hw3]; unfold rangeBoxes; simp
  have hbW3 := HbWV.out.trans (hb3.mono (by omega))
  have hX3 : Boxed w3 w1.heap.size 3 (.int .i64 0) := (hb3.block _ hsV).trans HXV.out
  have Hbx := Lib.hid (And.intro hbx0 hbx1)
  have HR3 := Lib.hid (HR.out.below hbW3 (Nat.le_refl _))
  have HB3 := Lib.hid (HB.out.below hbW3 hg0)
  have HO3 := Lib.hid (HO.out.below hbW3 (Nat.le_refl _))
  have HX3 := Lib.hid hX3
  have HbW3 := Lib.hid hbW3
  have hw1p : 0 < w1.heap.size := by have := HO.out.lt; omega
  have hablk : ∀ y, a = some y → 0 < l → y.block < W.heap.size := by
    intro y hy h0
    obtain ⟨b, off, hb, hc⟩ := HR.out.hr h0
    rw [hy] at hb
    cases hb
    exact World.block_lt_of_cell? W _ (hc 0 h0)
  clear hw3 hbx0 hbx1 hb3 hbW3 hX3 HR HB H1 H2 HO HXV HbWV HV u2 u3
  gi_wp2_with fail
  refine wpIn_rangeFunc_ownF rfl (by omega) (gf := 87) (lb := #[.pointer (some ⟨V.heap.size, 0, none⟩), .pointer (some ⟨V.heap.size + 1, 0, none⟩)]) rfl trivial (enters_of Tryd.func87 (by kernel_rfl) rfl)
    (parts1_stops Fence.wide _ trivial rfl (by omega) V.heap.size (V.heap.size + 1) at_ m e He.out _ Hbx.out.1 Hbx.out.2 (by omega))
    (fun h k hx => k (h hx)) ?kb (Below.refl _ _) (fun _ => rfl)
    (fun pre W' => (Boxed W' w1.heap.size 3 (.int .i64 (sumB bs at_ e (pre.map (·.1)) : Int)) ∧ pre.length ≤ 9000) ∧ But w1.heap.size w3 W')
    (fun _ _ _ => False)
    ?own (fun _ _ _ _ _ hs _ _ => hs) ?start
    (fun x => { tmps := #[.pointer (some ⟨g0, 0, none⟩), .pointer (some ⟨g1, 0, none⟩), .pointer (some ⟨g2, 0, none⟩), .int .i64 0, .pointer (some ⟨w1.heap.size, 0, none⟩), .int .i64 (x.1 : Int), .int .u8 (mkV at_ e x.1 : Int), undef, .agg #[.int .i64 N, .slice a l c], .int .i64 at_, .int .i64 m, .tuple #[], .int .i64 at_, .int .i64 m, .func (.func 87) #[] #[.pointer (some ⟨V.heap.size, 0, none⟩), .pointer (some ⟨V.heap.size + 1, 0, none⟩)], .int .i64 (x.1 : Int), .int .u8 (mkV at_ e x.1 : Int), undef, undef, undef, undef, undef, undef, undef, undef, undef, undef, undef, undef, undef, undef, undef, undef, undef, undef, undef], defers := [] }) ?assign ?body ?done ?stop
  case kb =>
    intro W l o o' hl ho hc _ ⟨h1, h2⟩
    exact ⟨(World.putObj_heap_other (by intro e; subst e; have := ho.symm.trans h1; cases this; cases hc)).trans h1, (World.putObj_heap_other (by intro e; subst e; have := ho.symm.trans h2; cases this; cases hc)).trans h2⟩
  case own =>
    refine OwnFrom.and (OwnFrom.and ?_ (fun _ _ _ _ hs _ _ => hs)) (ownFrom_but ?_ (Nat.le_refl _))
    · exact (blk_own w1.heap.size 3 (fun pre : List (PartNo at_ e) => #[.int .i64 (sumB bs at_ e (pre.map (·.1)) : Int)])).from _
    · omega
  case start => exact ⟨⟨HX3.out, by simp⟩, But.refl _ _⟩
  case assign =>
    intro l x W K hK
    dsimp only [partEnc]
    gi_wp2
    exact hK
  case body =>
    rintro ln pre ⟨i, hx⟩ W' ⟨⟨hX, hpl⟩, hbut⟩ hpN
    have hil : i < l := by omega
    have hpN2 : pre.length + 1 ≤ 9000 := by unfold partN at hpN; split at hpN <;> omega
    have hRW : Rd W' a l c bs := hbut.rd HR3.out (by intro y hy e0; have := hablk y hy (by omega); omega)
    obtain ⟨b, off, rfl, hcl⟩ := hRW.hr (by omega)
    have hcell := hcl i hil
    have hcp := hRW.hc
    have hcm := hRW.hm
    unfold maxLen at hcm
    have hXb := hRW.hb _ (getD_mem (bs := bs) (i := i) (by omega))
    have hsn := sumB_next bs at_ e (pre.map (·.1)) i
    have hsl := sumB_le bs at_ e (pre.map (·.1))
    rw [List.length_map] at hsl
    have hpop : popB bs at_ e i = onesL.getD (((bs.getD i 0).toNat &&& mkV at_ e i) % 16) 0 + onesL.getD (((bs.getD i 0).toNat &&& mkV at_ e i) / 16) 0 := rfl
    have hmb := mkV_lt at_ e i
    dsimp only
    obtain ⟨S, hS⟩ : ∃ S, S = sumB bs at_ e (pre.map (·.1)) := ⟨_, rfl⟩
    rw [← hS] at hX hsn hsl
    obtain ⟨X, hXv⟩ : ∃ X, X = bs.getD i 0 := ⟨_, rfl⟩
    rw [← hXv] at hXb hcell hpop
    obtain ⟨K, hKv⟩ : ∃ K, K = mkV at_ e i := ⟨_, rfl⟩
    rw [← hKv] at hmb hpop ⊢
    obtain ⟨Z, hZ⟩ : ∃ Z, Z = X.toNat &&& K := ⟨_, rfl⟩
    rw [← hZ] at hpop
    have hZ2 : Z < 256 := by rw [hZ]; have := Nat.and_le_right (n := X.toNat) (m := K); omega
    have hand : bits .and .u8 X (K : Int) = (Z : Int) := by rw [u8_and X K hXb.1 (by omega) (by omega) (by omega), Int.toNat_natCast, ← hZ]
    obtain ⟨r, hrr⟩ : ∃ r, r = Z % 16 := ⟨_, rfl⟩
    obtain ⟨q, hqq⟩ : ∃ q, q = Z / 16 := ⟨_, rfl⟩
    rw [← hrr, ← hqq] at hpop
    have e1 : (Z : Int) % 16 = (r : Int) := by omega
    have e2 : (Z : Int) / 16 = (q : Int) := by omega
    have e3 : (Z : Int).tmod 16 = (r : Int) := by rw [Int.tmod_eq_emod_of_nonneg (by omega)]; exact e1
    have e4 : (Z : Int).tdiv 16 = (q : Int) := by rw [Int.tdiv_eq_ediv_of_nonneg (by omega)]; exact e2
    have hr16 : r < 16 := by omega
    have hq16 : q < 16 := by omega
    have hOW := HO3.out.but hbut hw1p
    have t1 := hOW r hr16
    have t2 := hOW q hq16
    have b1 := ones_le r
    have b2 := ones_le q
    obtain ⟨y1, hy1⟩ : ∃ y, y = onesL.getD r 0 := ⟨_, rfl⟩
    obtain ⟨y2, hy2⟩ : ∃ y, y = onesL.getD q 0 := ⟨_, rfl⟩
    rw [← hy1] at hpop b1 t1
    rw [← hy2] at hpop b2 t2
    have hqB : W'.cell? ⟨g0, 1, none⟩ = some (.slice (some ⟨b, off, none⟩) l c) := (hbut.blk HB3.out (by omega)).cell 1
    have x0 := hX.cell
    have hii : (i : Int) < (l : Int) := by omega
    have hr16i : (r : Int) < 16 := by omega
    have hq16i : (q : Int) < 16 := by omega
    have e5 : IntKind.u8.wrap (q : Int) = (q : Int) := IntWalk.u8_in _ (by omega)
    have e6 : IntKind.i64.wrap ((y1 : Int) + (y2 : Int)) = (y1 : Int) + (y2 : Int) := IntWalk.i64_in _ (by omega)
    have e7 : IntKind.i64.wrap ((S : Int) + ((y1 : Int) + (y2 : Int))) = (S : Int) + ((y1 : Int) + (y2 : Int)) := IntWalk.i64_in _ (by omega)
    obtain ⟨w9, hw9⟩ : ∃ w9, w9 = W'.drew := ⟨_, rfl⟩
    have t3 : w9.cell? ⟨0, r, none⟩ = some (.int .i64 (y1 : Int)) := by rw [hw9]; exact t1
    have t4 : w9.cell? ⟨0, q, none⟩ = some (.int .i64 (y2 : Int)) := by rw [hw9]; exact t2
    have x3 : w9.cell? ⟨w1.heap.size, 0, none⟩ = some (.int .i64 (S : Int)) := by rw [hw9]; exact x0
    have x4 : w9.frozen? ⟨w1.heap.size, 0, none⟩ = false := by rw [hw9]; exact hX.frozen
    have hfin : KeepsOthers W' (w9.setCell ⟨w1.heap.size, 0, none⟩ (.int .i64 ((S : Int) + ((y1 : Int) + (y2 : Int))))) ∧ boxesKp V.heap.size (V.heap.size + 1) at_ m W' (w9.setCell ⟨w1.heap.size, 0, none⟩ (.int .i64 ((S : Int) + ((y1 : Int) + (y2 : Int))))) ∧
        (Boxed (w9.setCell ⟨w1.heap.size, 0, none⟩ (.int .i64 ((S : Int) + ((y1 : Int) + (y2 : Int))))) w1.heap.size 3 (.int .i64 (sumB bs at_ e ((pre ++ [(⟨i, hx⟩ : PartNo at_ e)]).map (·.1)) : Int)) ∧ (pre ++ [(⟨i, hx⟩ : PartNo at_ e)]).length ≤ 9000) ∧
        But w1.heap.size w3 (w9.setCell ⟨w1.heap.size, 0, none⟩ (.int .i64 ((S : Int) + ((y1 : Int) + (y2 : Int))))) := by
      have hbb := (But.refl w1.heap.size W').drew.setCell 0 (.int .i64 ((S : Int) + ((y1 : Int) + (y2 : Int))))
      rw [← hw9] at hbb
      refine ⟨hbb.keeps (show Blk W' _ 3 _ from hX), boxesKp_but hbb (by omega) (by omega), ⟨?_, by rw [List.length_append]; simpa using hpN2⟩, hbut.trans hbb⟩
      have hX9 : Boxed w9 w1.heap.size 3 (.int .i64 (S : Int)) := by rw [hw9]; exact hX
      have := hX9.set (.int .i64 ((S : Int) + ((y1 : Int) + (y2 : Int))))
      rw [List.map_append, List.map_singleton, hsn, hpop]
      have e9 : ((S + (y1 + y2) : Nat) : Int) = (S : Int) + ((y1 : Int) + (y2 : Int)) := by omega
      rw [e9]
      exact this
    have Hfin := Lib.hid hfin
    have Hw9 := Lib.hid hw9
    clear hfin hw9 hX hbut hRW hcl hcp hcm hsn hpop hS hXv hKv hZ hrr hqq hy1 hy2 hOW HX3 HR3 HB3 HO3 Hbx t1 t2 hpN hpl
    gi_wp2_with fail
    refine round_still_tail 11 (by kernel_rfl) (by kernel_rfl) (by kernel_rfl) ?_
    rw [show (({ W' with drawn := W'.drawn + 1 } : World)) = w9 from Hw9.out.symm]
    simp only [List.take_succ_cons, List.take_zero, List.drop_succ_cons, List.drop_zero]
    repeat still_step
    refine wpStill_nil ?_
    gi_wp2_with fail
    exact Hfin.out
  case done =>
    rintro D xs W' hD hS ⟨⟨hX, hpl⟩, hbut⟩ hK
    rw [hS, sumB_all HR3.out.hb at_ e (partN at_ e) (by omega) (by unfold partN; rfl)] at hX
    have x0 := hX.cell
    have HK := Lib.hid hK
    have Hb := Lib.hid (HbW3.out.trans (hbut.below.mono (by omega)))
    clear hX hpl hbut hK hS HX3 HR3 HB3 HO3 Hbx
    gi_wp2_with fail
    refine ⟨by simp, .inl ⟨_, _, rfl, run_takeDeferred HK.out, ?_⟩⟩
    exact ⟨_, results_tmp rfl _ _ _, rfl, Hb.out.trans (belowK_b (w := W) (Nat.le_refl _) W' D _ _ (by omega) HK.out rfl rfl)⟩
  case stop =>
    rintro D c pre W _ _ h _
    exact h.elim
end Go.Proofs.YthognmkjoekilaaDoor

/- seek: the next bit of a kind. -/
namespace Go.Proofs.YthognmkjoekilaaDoor
set_option linter.unusedVariables false
open Go.RowKit Go.Shelf

theorem xor_255 : ∀ n : Nat, n < 256 → 255 ^^^ n = 255 - n := by
  intro n hn
  have h : (List.range 256).all (fun n => decide (255 ^^^ n = 255 - n)) = true := by kernel_rfl
  simpa using List.all_eq_true.mp h n (List.mem_range.mpr hn)
theorem not_byte (x : Int) (hx : 0 ≤ x ∧ x ≤ 255) : bits .xor .u8 IntKind.u8.max x = 255 - x := by
  have h := u8_xor 255 x (by decide) (by decide) hx.1 (by omega)
  rw [show (255 : Int).toNat = 255 from rfl, xor_255 x.toNat (by omega)] at h
  have e : IntKind.u8.max = 255 := by kernel_rfl
  rw [e, h]
  omega
set_option maxRecDepth 100000 in
set_option maxHeartbeats 4000000 in
theorem seek_true (N : Int) (M : Nat) (a : Option Addr) (l c : Nat) (bs : List Int) (at_ : Nat) (w : World) (hr : Rd w a l c bs) (hv : validB N bs = true) (hM : N = (M : Int)) (ha : at_ ≤ M) :
    Calls Tryd.prog 93 #[.agg #[.int .i64 N, .slice a l c], .int .i64 at_, .bool true] w fun e w' => e = .returned (.int .i64 (seekV bs M true at_ : Int)) ∧ Below w.heap.size w w' := by
  obtain ⟨v1, v2, v3, v4⟩ := (validB_iff N bs).mp hv
  have hl := hr.hl
  have hN : N.toNat = M := by omega
  rw [hN] at v4
  have hM8 : M ≤ 8 * l := by omega
  have hMl : 8 * l < M + 8 := by omega
  have hM6 : M ≤ 65536 := by omega
  obtain ⟨W0, hW0⟩ : ∃ W0, w.alloc (.cells #[.int .i64 N, .slice a l c] 24) = W0 := ⟨_, rfl⟩
  have hb0 : Below w.heap.size w W0 := by rw [← hW0]; exact (Below.refl _ w).alloc (Nat.le_refl _) _
  have hB : Blk W0 w.heap.size 24 #[.int .i64 N, .slice a l c] := by rw [← hW0]; exact heap_new w _
  have hR0 := hr.below hb0 (Nat.le_refl _)
  have q0 : W0.cell? ⟨w.heap.size, 0, none⟩ = some (.int .i64 (M : Int)) := by rw [← hM]; exact hB.cell 0
  have q1 : W0.cell? ⟨w.heap.size, 1, none⟩ = some (.slice a l c) := hB.cell 1
  have HW := Lib.hid hW0
  have Hb := Lib.hid hb0
  have HR := Lib.hid hR0
  have Hv4 := Lib.hid v4
  have Hbs := Lib.hid hr.hb
  have hlb : bs.length = l := hl
  have Hl := Lib.hid hlb
  obtain ⟨res, hres⟩ : ∃ r, r = seekV bs M true at_ := ⟨_, rfl⟩
  rw [← hres]
  have Hres := Lib.hid hres
  clear hW0 hb0 hB hr hv v1 v2 v3 v4 hl hN hM hR0 hlb hres
  go_enter Tryd.func93, Tryd.ntmps93
  go_upto_region 1 with fail
  rw [HW.out]
  go_loopw [1] (fun p wr => ∃ k : Nat, p = .int .i64 (k : Int) ∧ wr = W0 ∧ at_ ≤ k ∧ k ≤ M + 7 ∧ ∀ t, at_ ≤ t → t < k → t < M → bitV bs t ≠ true) (fun p _ => M + 8 - (intOf p).toNat)
  case atStart => exact ⟨at_, rfl, rfl, Nat.le_refl _, by omega, fun t h1 h2 _ => absurd h2 (by omega)⟩
  case round =>
    obtain ⟨k, rfl, rfl, hk1, hk2, hmiss⟩ := hrel
    have Hmiss := Lib.hid hmiss
    clear hmiss
    by_cases hlt : k < M
    · obtain ⟨i, hi⟩ : ∃ i, i = k / 8 := ⟨_, rfl⟩
      obtain ⟨r, hrr⟩ : ∃ r, r = k % 8 := ⟨_, rfl⟩
      have hil : i < l := by omega
      have hr8 : r < 8 := by omega
      obtain ⟨b, off, rfl, hcl⟩ := HR.out.hr (by omega)
      have hcell := hcl i hil
      have hcp := HR.out.hc
      have hcm := HR.out.hm
      unfold maxLen at hcm
      have hXb := Hbs.out _ (getD_mem (bs := bs) (i := i) (by have := Hl.out; omega))
      have hz0 := fun h => seek_zero Hbs.out M true k hlt (by have := Hl.out; omega) h
      have hhit := fun h => seek_hit Hbs.out M true k hlt (by have := Hl.out; omega) (fun j h1 h2 => Hv4.out j h1 h2) (by have := Hl.out; omega) h
      rw [← hi, ← hrr] at hz0 hhit
      obtain ⟨X, hXv⟩ : ∃ X, X = bs.getD i 0 := ⟨_, rfl⟩
      rw [← hXv] at hXb hcell hz0 hhit
      have hlk := lookB_lt true X hXb r
      have hlook : lookB true X r = (X.toNat) / 2 ^ r * 2 ^ r := by unfold lookB; rfl
      obtain ⟨Z, hZ⟩ : ∃ Z, Z = lookB true X r := ⟨_, rfl⟩
      rw [← hZ] at hz0 hhit hlk hlook
      have e1 : (k : Int) / 8 = (i : Int) := by omega
      have e2 : (k : Int) % 8 = (r : Int) := by omega
      have e4 : k % 8 = r := by omega
      have hii : (i : Int) < (l : Int) := by omega
      have e5 : X / 2 ^ r * 2 ^ r % 256 = (Z : Int) := by
        obtain ⟨y, rfl⟩ := Int.eq_ofNat_of_zero_le hXb.1
        have : Z < 256 := hlk
        rw [hlook] at this ⊢
        rw [Int.toNat_natCast] at this ⊢
        skip
        generalize y = y' at *
        have e6 : (((y' / 2 ^ r * 2 ^ r : Nat) : Int)) % 256 = ((y' / 2 ^ r * 2 ^ r : Nat) : Int) := Int.emod_eq_of_lt (by omega) (by omega)
        rw [← e6]
        push_cast
        rfl
      skip
      have Hhit := Lib.hid hhit
      have Hz0 := Lib.hid hz0
      have Hi := Lib.hid (And.intro hi hrr)
      have Hlk := Lib.hid hlk
      clear hz0 hhit hlook hZ hXv hcl hcm hcp hi hrr
      by_cases hZ0 : Z = 0
      · have hz : ((Z : Int) != 0) = false := by simp [hZ0]
        have HZ0 := Lib.hid hZ0
        clear hZ0
        go_wp2_with fail
        go_roundw
        case rel =>
          refine ⟨(i + 1) * 8, by go_num, trivial, by have := Hi.out; omega, by have := Hi.out; omega, fun t h1 h2 h3 => ?_⟩
          by_cases htk : t < k
          · exact Hmiss.out t h1 htk h3
          · exact Hz0.out HZ0.out t (by omega) (by have := Hi.out; omega)
        case measure => simp [intOf]; have := Hi.out; omega
      · have hz : ((Z : Int) != 0) = true := by simpa using hZ0
        have hh := Hhit.out hZ0
        obtain ⟨tz, htz⟩ : ∃ t, t = Lib.trailingZeros8 Z := ⟨_, rfl⟩
        rw [← htz] at hh
        have hsk := seekV_skip bs M true at_ k hk1 (by omega) (fun t h1 h2 => Hmiss.out t h1 h2 (by omega))
        have Htz := Lib.hid htz
        have Hfin : Hid (res = 8 * i + tz) := Lib.hid (by rw [Hres.out, hsk, hh])
        have htz8 : tz ≤ 8 := by rw [htz]; exact (tz_facts Z Hlk.out).1
        clear hZ0 hh hsk htz
        go_wp2_with fail
        refine (Tryd.bits_TrailingZeros8 (Z : Int) wr (by omega) (by have := Hlk.out; omega)).mono ?_
        rintro e w2 ⟨rfl, rfl⟩
        rw [Int.toNat_natCast, ← Htz.out]
        go_wp2_with fail
        refine bodyPost_ret (results_tmp rfl _ _ _) rfl ⟨?_, Hb.out⟩
        show Ending.returned (.int .i64 ((i : Int) * 8 + (tz : Int))) = _
        rw [Hfin.out]
        congr 2
        push_cast
        omega
    · have hsk : res = M := by
        rw [Hres.out]
        exact seekV_eq bs M true at_ M ha (Nat.le_refl _) (fun t h1 h2 => Hmiss.out t h1 (by omega) h2) (fun h => absurd h (Nat.lt_irrefl _))
      have Hsk := Lib.hid hsk
      clear hsk Hmiss
      go_wp2_with fail
      go_ret
      exact ⟨by rw [Hsk.out]; rfl, Hb.out⟩
set_option maxRecDepth 100000 in
set_option maxHeartbeats 4000000 in
theorem seek_false (N : Int) (M : Nat) (a : Option Addr) (l c : Nat) (bs : List Int) (at_ : Nat) (w : World) (hr : Rd w a l c bs) (hv : validB N bs = true) (hM : N = (M : Int)) (ha : at_ ≤ M) :
    Calls Tryd.prog 93 #[.agg #[.int .i64 N, .slice a l c], .int .i64 at_, .bool false] w fun e w' => e = .returned (.int .i64 (seekV bs M false at_ : Int)) ∧ Below w.heap.size w w' := by
  obtain ⟨v1, v2, v3, v4⟩ := (validB_iff N bs).mp hv
  have hl := hr.hl
  have hN : N.toNat = M := by omega
  rw [hN] at v4
  have hM8 : M ≤ 8 * l := by omega
  have hMl : 8 * l < M + 8 := by omega
  have hM6 : M ≤ 65536 := by omega
  obtain ⟨W0, hW0⟩ : ∃ W0, w.alloc (.cells #[.int .i64 N, .slice a l c] 24) = W0 := ⟨_, rfl⟩
  have hb0 : Below w.heap.size w W0 := by rw [← hW0]; exact (Below.refl _ w).alloc (Nat.le_refl _) _
  have hB : Blk W0 w.heap.size 24 #[.int .i64 N, .slice a l c] := by rw [← hW0]; exact heap_new w _
  have hR0 := hr.below hb0 (Nat.le_refl _)
  have q0 : W0.cell? ⟨w.heap.size, 0, none⟩ = some (.int .i64 (M : Int)) := by rw [← hM]; exact hB.cell 0
  have q1 : W0.cell? ⟨w.heap.size, 1, none⟩ = some (.slice a l c) := hB.cell 1
  have HW := Lib.hid hW0
  have Hb := Lib.hid hb0
  have HR := Lib.hid hR0
  have Hv4 := Lib.hid v4
  have Hbs := Lib.hid hr.hb
  have hlb : bs.length = l := hl
  have Hl := Lib.hid hlb
  obtain ⟨res, hres⟩ : ∃ r, r = seekV bs M false at_ := ⟨_, rfl⟩
  rw [← hres]
  have Hres := Lib.hid hres
  clear hW0 hb0 hB hr hv v1 v2 v3 v4 hl hN hM hR0 hlb hres
  go_enter Tryd.func93, Tryd.ntmps93
  go_upto_region 1 with fail
  rw [HW.out]
  go_loopw [1] (fun p wr => ∃ k : Nat, p = .int .i64 (k : Int) ∧ wr = W0 ∧ at_ ≤ k ∧ k ≤ M + 7 ∧ ∀ t, at_ ≤ t → t < k → t < M → bitV bs t ≠ false) (fun p _ => M + 8 - (intOf p).toNat)
  case atStart => exact ⟨at_, rfl, rfl, Nat.le_refl _, by omega, fun t h1 h2 _ => absurd h2 (by omega)⟩
  case round =>
    obtain ⟨k, rfl, rfl, hk1, hk2, hmiss⟩ := hrel
    have Hmiss := Lib.hid hmiss
    clear hmiss
    by_cases hlt : k < M
    · obtain ⟨i, hi⟩ : ∃ i, i = k / 8 := ⟨_, rfl⟩
      obtain ⟨r, hrr⟩ : ∃ r, r = k % 8 := ⟨_, rfl⟩
      have hil : i < l := by omega
      have hr8 : r < 8 := by omega
      obtain ⟨b, off, rfl, hcl⟩ := HR.out.hr (by omega)
      have hcell := hcl i hil
      have hcp := HR.out.hc
      have hcm := HR.out.hm
      unfold maxLen at hcm
      have hXb := Hbs.out _ (getD_mem (bs := bs) (i := i) (by have := Hl.out; omega))
      have hz0 := fun h => seek_zero Hbs.out M false k hlt (by have := Hl.out; omega) h
      have hhit := fun h => seek_hit Hbs.out M false k hlt (by have := Hl.out; omega) (fun j h1 h2 => Hv4.out j h1 h2) (by have := Hl.out; omega) h
      rw [← hi, ← hrr] at hz0 hhit
      obtain ⟨X, hXv⟩ : ∃ X, X = bs.getD i 0 := ⟨_, rfl⟩
      rw [← hXv] at hXb hcell hz0 hhit
      have hlk := lookB_lt false X hXb r
      have hlook : lookB false X r = ((255 - X.toNat)) / 2 ^ r * 2 ^ r := by unfold lookB; rfl
      obtain ⟨Z, hZ⟩ : ∃ Z, Z = lookB false X r := ⟨_, rfl⟩
      rw [← hZ] at hz0 hhit hlk hlook
      have e1 : (k : Int) / 8 = (i : Int) := by omega
      have e2 : (k : Int) % 8 = (r : Int) := by omega
      have e4 : k % 8 = r := by omega
      have hii : (i : Int) < (l : Int) := by omega
      have e5 : (255 - X) / 2 ^ r * 2 ^ r % 256 = (Z : Int) := by
        obtain ⟨y, rfl⟩ := Int.eq_ofNat_of_zero_le hXb.1
        have : Z < 256 := hlk
        rw [hlook] at this ⊢
        rw [Int.toNat_natCast] at this ⊢
        rw [show (255 : Int) - (y : Int) = ((255 - y : Nat) : Int) by omega]
        generalize (255 - y) = y' at *
        have e6 : (((y' / 2 ^ r * 2 ^ r : Nat) : Int)) % 256 = ((y' / 2 ^ r * 2 ^ r : Nat) : Int) := Int.emod_eq_of_lt (by omega) (by omega)
        rw [← e6]
        push_cast
        rfl
      have e7 := not_byte X hXb; have e8 : bits .xor .u8 (if IntKind.u8.signed = true then -1 else IntKind.u8.max) X = 255 - X := e7; have hz9 : ((bits .xor .u8 (if IntKind.u8.signed = true then -1 else IntKind.u8.max) X / 2 ^ r * 2 ^ r % 256) != 0) = ((Z : Int) != 0) := (by rw [e8, e5])
      have Hhit := Lib.hid hhit
      have Hz0 := Lib.hid hz0
      have Hi := Lib.hid (And.intro hi hrr)
      have Hlk := Lib.hid hlk
      clear hz0 hhit hlook hZ hXv hcl hcm hcp hi hrr
      by_cases hZ0 : Z = 0
      · have hz : ((Z : Int) != 0) = false := by simp [hZ0]
        have HZ0 := Lib.hid hZ0
        clear hZ0
        go_wp2_with fail
        go_roundw
        case rel =>
          refine ⟨(i + 1) * 8, by go_num, trivial, by have := Hi.out; omega, by have := Hi.out; omega, fun t h1 h2 h3 => ?_⟩
          by_cases htk : t < k
          · exact Hmiss.out t h1 htk h3
          · exact Hz0.out HZ0.out t (by omega) (by have := Hi.out; omega)
        case measure => simp [intOf]; have := Hi.out; omega
      · have hz : ((Z : Int) != 0) = true := by simpa using hZ0
        have hh := Hhit.out hZ0
        obtain ⟨tz, htz⟩ : ∃ t, t = Lib.trailingZeros8 Z := ⟨_, rfl⟩
        rw [← htz] at hh
        have hsk := seekV_skip bs M false at_ k hk1 (by omega) (fun t h1 h2 => Hmiss.out t h1 h2 (by omega))
        have Htz := Lib.hid htz
        have Hfin : Hid (res = 8 * i + tz) := Lib.hid (by rw [Hres.out, hsk, hh])
        have htz8 : tz ≤ 8 := by rw [htz]; exact (tz_facts Z Hlk.out).1
        clear hZ0 hh hsk htz
        go_wp2_with fail
        refine (Tryd.bits_TrailingZeros8 (Z : Int) wr (by omega) (by have := Hlk.out; omega)).mono ?_
        rintro e w2 ⟨rfl, rfl⟩
        rw [Int.toNat_natCast, ← Htz.out]
        go_wp2_with fail
        refine bodyPost_ret (results_tmp rfl _ _ _) rfl ⟨?_, Hb.out⟩
        show Ending.returned (.int .i64 ((i : Int) * 8 + (tz : Int))) = _
        rw [Hfin.out]
        congr 2
        push_cast
        omega
    · have hsk : res = M := by
        rw [Hres.out]
        exact seekV_eq bs M false at_ M ha (Nat.le_refl _) (fun t h1 h2 => Hmiss.out t h1 (by omega) h2) (fun h => absurd h (Nat.lt_irrefl _))
      have Hsk := Lib.hid hsk
      clear hsk Hmiss
      go_wp2_with fail
      go_ret
      exact ⟨by rw [Hsk.out]; rfl, Hb.out⟩
theorem seek_any (on : Bool) (N : Int) (M : Nat) (a : Option Addr) (l c : Nat) (bs : List Int) (at_ : Nat) (w : World) (hr : Rd w a l c bs) (hv : validB N bs = true) (hM : N = (M : Int)) (ha : at_ ≤ M) :
    Calls Tryd.prog 93 #[.agg #[.int .i64 N, .slice a l c], .int .i64 at_, .bool on] w fun e w' => e = .returned (.int .i64 (seekV bs M on at_ : Int)) ∧ Below w.heap.size w w' := by
  cases on with
  | true => exact seek_true N M a l c bs at_ w hr hv hM ha
  | false => exact seek_false N M a l c bs at_ w hr hv hM ha
end Go.Proofs.YthognmkjoekilaaDoor

/- runs: the iterator over the runs of a bitmap. -/
namespace Go.Proofs.YthognmkjoekilaaDoor
set_option linter.unusedVariables false
open Go.RowKit Go.Shelf
attribute [local go_sem] Oper.semAt_some

/-- The boxes of runs. -/
def runsBoxes (w : World) (N : Int) (a : Option Addr) (l c : Nat) (on : Bool) : World := (w.alloc (.cells #[.int .i64 N, .slice a l c] 24)).alloc (.cells #[.bool on] 4)
set_option maxRecDepth 100000 in
set_option maxHeartbeats 1000000 in
theorem runs_any (N : Int) (a : Option Addr) (l c : Nat) (on : Bool) (w : World) : Calls Tryd.prog 76 #[.agg #[.int .i64 N, .slice a l c], .bool on] w fun e w' => e = .returned (.func (.func 92) #[] #[.pointer (some ⟨w.heap.size, 0, none⟩), .pointer (some ⟨w.heap.size + 1, 0, none⟩)]) ∧ w' = runsBoxes w N a l c on := by
  have hmf : ∀ (fn : Fn) (first cap : Array Value) (w : World), (Instr.makeFunc fn first cap).run Tryd.prog w = .ok (.func fn first cap) w := fun _ _ _ _ => rfl
  go_enter Tryd.func76, Tryd.ntmps76
  go_wp2_with fail
  go_ret
  exact ⟨rfl, rfl⟩
/-- A run. -/
abbrev RunNo := { r : Nat × Nat // r.1 + r.2 ≤ 65536 ∧ 1 ≤ r.2 }
def runEnc (x : RunNo) : Array Value := #[.agg #[.int .i64 (x.1.1 : Int), .int .i64 (x.1.2 : Int)]]
/-- What the iterator reads. -/
structure RunsAt (W : World) (g h : Nat) (N : Int) (a : Option Addr) (l c : Nat) (bs : List Int) (on : Bool) : Prop where
  b : Blk W g 24 #[.int .i64 N, .slice a l c]
  o : Boxed W h 4 (.bool on)
  r : Rd W a l c bs
theorem RunsAt.below {W W' : World} {g h : Nat} {N : Int} {a : Option Addr} {l c : Nat} {bs : List Int} {on : Bool} (k : RunsAt W g h N a l c bs on) (hb : Below W.heap.size W W') : RunsAt W' g h N a l c bs on :=
  ⟨k.b.below hb k.b.lt, (hb.block h k.o.lt).trans k.o, k.r.below hb (Nat.le_refl _)⟩
theorem grown_below {W W' : World} (hb : Below W.heap.size W W') : W.grownBy W' none := ⟨hb.os, hb.tape, hb.output, hb.size, fun k hk _ => hb.block k hk⟩
def runsKp (g h : Nat) (N : Int) (a : Option Addr) (l c : Nat) (bs : List Int) (on : Bool) (W W' : World) : Prop := RunsAt W g h N a l c bs on → RunsAt W' g h N a l c bs on
set_option maxRecDepth 100000 in
set_option maxHeartbeats 4000000 in
theorem runs1_stops (n : Nat) (hn : 1 ≤ n) (g h : Nat) (N : Int) (M : Nat) (a : Option Addr) (l c : Nat) (bs : List Int) (on : Bool) (w : World) (hR : RunsAt w g h N a l c bs on) (hv : validB N bs = true) (hM : N = (M : Int)) (K : Nat) (hK : K = (runsV bs M on).length) :
    SeqStopsK Fence.wide n Tryd.prog 92 #[.pointer (some ⟨g, 0, none⟩), .pointer (some ⟨h, 0, none⟩)] runEnc (runsKp g h N a l c bs on) (fun xs => xs.map (·.1) = runsV bs M on) (fun pre => pre.map (·.1) <+: runsV bs M on) K w := fun ln J Jx W hW hJ hJx hY h0 => by
  subst hM
  have hR1 : RunsAt W g h M a l c bs on := hR.below hW
  have hM6 : M ≤ 65536 := by have := (validB_iff (M : Int) bs).mp hv; omega
  have c0 : W.cell? ⟨g, 0, none⟩ = some (.int .i64 (M : Int)) := hR1.b.cell 0
  have c1 : W.cell? ⟨g, 1, none⟩ = some (.slice a l c) := hR1.b.cell 1
  have c2 := hR1.o.cell
  have C := Lib.hid (seek_any on M M a l c bs 0 W hR1.r hv rfl (Nat.zero_le _))
  have HR := Lib.hid hR1
  have Hv := Lib.hid hv
  have HK := Lib.hid hK
  have HJ := Lib.hid hJ
  have hWs := hW.size
  clear hR hR1 hW hv hK
  refine callsIn_of_wp Tryd.func92 rfl trivial ?_ rfl
  simp only [Tryd.ntmps92, List.size_toArray, List.length_cons, List.length_nil, Nat.reduceAdd, Nat.reduceSub, Array.replicate_succ, Array.replicate_zero, List.push_toArray, List.append_toArray, List.nil_append, List.cons_append]
  gi_wp2_with fail
  refine ⟨trivial, ?_⟩
  refine (callsIn_wide.2 C.out).mono ?_
  rintro e w1 ⟨rfl, hb1⟩
  have hR1 := HR.out.below hb1
  have h01 := HJ.out [] W w1 none h0 (grown_below hb1) (fun r e => by cases e)
  have hw1 := hb1.size
  have HR1 := Lib.hid hR1
  clear C hb1 hR1 c0 c1 c2 h0
  gi_wp2_with fail
  gi_loopw [4] (fun p wr => ∃ (pre : List RunNo) (k : Nat), p = .int .i64 (k : Int) ∧ pre.map (·.1) ++ restV bs M on k = runsV bs M on ∧ k ≤ M ∧ (k < M → bitV bs k = on) ∧ J pre wr ∧ RunsAt wr g h M a l c bs on )
    (fun p wr => M - (intOf p).toNat)
  case atStart =>
    obtain ⟨s1, s2, s3, s4⟩ := seekV_spec bs M on 0 (Nat.zero_le _)
    exact ⟨[], _, rfl, rfl, s2, s4, h01, HR1.out⟩
  case round =>
    obtain ⟨pre, k, rfl, hpre, hk, hbit, hJs, hRr⟩ := hrel
    have d0 : wr.cell? ⟨g, 0, none⟩ = some (.int .i64 (M : Int)) := hRr.b.cell 0
    have d1 : wr.cell? ⟨g, 1, none⟩ = some (.slice a l c) := hRr.b.cell 1
    have d2 := hRr.o.cell
    have HRr := Lib.hid hRr
    have HJs := Lib.hid hJs
    have Hpre := Lib.hid hpre
    clear hRr hJs hpre HR HR1 h01
    by_cases hlt : k < M
    · have hb := hbit hlt
      obtain ⟨s1, s2, s3, s4⟩ := run_step bs M on k hlt hb
      have hnext := restV_next bs M on k hlt hb
      have hbit2 := (seekV_spec bs M on (seekV bs M (!on) k) s2).2.2.2
      have C := seek_any (!on) M M a l c bs k wr HRr.out.r Hv.out rfl (by omega)
      obtain ⟨en, hen⟩ : ∃ en, en = seekV bs M (!on) k := ⟨_, rfl⟩
      rw [← hen] at C s1 s2 s3 s4 hnext hbit2
      obtain ⟨nx, hnx⟩ : ∃ nx, nx = seekV bs M on en := ⟨_, rfl⟩
      rw [← hnx] at s3 s4 hnext hbit2
      have HC := Lib.hid C
      have Hnx := Lib.hid hnx
      have Hnext := Lib.hid hnext
      have Hbit2 := Lib.hid hbit2
      clear C hen hnx hnext hbit2 hb hbit
      gi_wp2_with fail
      refine ⟨trivial, ?_⟩
      refine (callsIn_wide.2 HC.out).mono ?_
      rintro e w2 ⟨rfl, hb2⟩
      have hR2 := HRr.out.below hb2
      have hJ2 := HJ.out pre wr w2 none HJs.out (grown_below hb2) (fun r e => by cases e)
      have hw2 := hb2.size
      have d3 : w2.cell? ⟨g, 0, none⟩ = some (.int .i64 (M : Int)) := hR2.b.cell 0
      obtain ⟨mn, hmn⟩ : ∃ m, m = en - k := ⟨_, rfl⟩
      have e3 : (en : Int) - (k : Int) = (mn : Int) := by omega
      have hxx : k + mn ≤ 65536 ∧ 1 ≤ mn := by omega
      obtain ⟨x, hx1⟩ : ∃ x : RunNo, x.1 = (k, mn) := ⟨⟨(k, mn), hxx⟩, rfl⟩
      have hnx2 : pre.map (·.1) ++ ((k, mn) :: restV bs M on nx) = runsV bs M on := by rw [hmn, ← Hnext.out]; exact Hpre.out
      have hkl : pre.length < K := by
        have := congrArg List.length hnx2
        rw [List.length_append, List.length_map, List.length_cons, ← HK.out] at this
        omega
      obtain ⟨fn, tmps, assign, body, hy, hR⟩ := hY pre x w2 hJ2 hkl
      dsimp only [runEnc] at hy
      rw [hx1] at hy
      dsimp only at hy
      have HRn := Lib.hid hR
      have HR2 := Lib.hid hR2
      have Hnx2 := Lib.hid hnx2
      have Hx1 := Lib.hid hx1
      clear hR hkl hx1 hnx2 hb2 hJ2 hR2 hmn HC HJs HRr Hnext Hpre d0 d1 d2
      gi_wp2_with fail
      refine HRn.out.mono ?_
      rintro e' W3 (⟨rfl, hJ3, hk3⟩ | ⟨rfl, hJx3⟩)
      · have hR3 := hk3 HR2.out
        have p0 : W3.cell? ⟨g, 0, none⟩ = some (.int .i64 (M : Int)) := hR3.b.cell 0
        have p1 : W3.cell? ⟨g, 1, none⟩ = some (.slice a l c) := hR3.b.cell 1
        have p2 := hR3.o.cell
        have HR3 := Lib.hid hR3
        have HJ3 := Lib.hid hJ3
        have C := Lib.hid (seek_any on M M a l c bs en W3 hR3.r Hv.out rfl s2)
        clear hk3 hR3 hJ3 d3
        gi_wp2_with fail
        refine ⟨trivial, ?_⟩
        refine (callsIn_wide.2 C.out).mono ?_
        rintro e w4 ⟨rfl, hb4⟩
        rw [← Hnx.out]
        have hR4 := HR3.out.below hb4
        have hJ4 := HJ.out (pre ++ [x]) W3 w4 none HJ3.out (grown_below hb4) (fun r e => by cases e)
        have HR4 := Lib.hid hR4
        have HJ4 := Lib.hid hJ4
        clear hb4 hR4 hJ4 C p0 p1 p2
        gi_wp2_with fail
        go_roundw
        case rel => exact ⟨pre ++ [x], nx, rfl, by rw [List.map_append, List.map_singleton, Hx1.out, List.append_assoc]; exact Hnx2.out, s4, Hbit2.out, HJ4.out, HR4.out⟩
        case measure => simp [intOf]; omega
      · gi_wp2
        refine bodyPost_ret (results_none rfl _ _ _) rfl ?_
        exact ⟨⟨_, rfl⟩, .inr ⟨pre ++ [x], ⟨restV bs M on nx, by rw [List.map_append, List.map_singleton, Hx1.out, List.append_assoc]; exact Hnx2.out⟩, hJx3⟩⟩
    · have hrest := restV_end bs M on k (by omega)
      have Hfin : Hid (pre.map (·.1) = runsV bs M on) := Lib.hid (by rw [← Hpre.out, hrest, List.append_nil])
      clear hrest hbit
      gi_wp2
      go_end0
      exact ⟨⟨_, rfl⟩, .inl ⟨pre, Hfin.out, HJs.out⟩⟩
end Go.Proofs.YthognmkjoekilaaDoor

/- A range over a function whose assignment makes memory in each round (a loop variable that has a block of its own): the law, from the library's laws of one round and of the statement. -/
namespace Go.Proofs.YthognmkjoekilaaDoor
set_option linter.unusedVariables false
open Go.RowKit
section
variable {F : Fence} {n : Nat} {P : Program} {α : Type}

/-- The two blocks of the statement: its record, and the block of the rounds' deferred calls. -/
def Books (D : Nat) (r : Loop) (W : World) : Prop := W.heap[D + 1]? = some (.loop r) ∧ W.heap[D]? = some (.deferred (some []))
theorem Books.grown {D : Nat} {r : Loop} {W W' : World} {row : Option Nat} (h : Books D r W) (hg : W.grownBy W' row) (hr : ∀ k, row = some k → ∃ o : Obj, W.heap[k]? = some o ∧ o.isWalk = true) : Books D r W' :=
  ⟨(grownBy_keeps hg hr h.1 rfl).trans h.1, (grownBy_keeps hg hr h.2 rfl).trans h.2⟩
theorem Books.keeps {D : Nat} {r : Loop} {W W' : World} (h : Books D r W) (hk : KeepsFrom D W W') : Books D r W' :=
  ⟨hk.same _ _ (by omega) h.1 rfl, hk.same _ _ (Nat.le_refl _) h.2 rfl⟩
theorem Books.put {D : Nat} {r : Loop} {W : World} (h : Books D r W) (r' : Loop) : Books D r' (W.putObj (D + 1) (.loop r')) :=
  ⟨World.putObj_heap_same (Array.getElem?_eq_some_iff.1 h.1).1, (World.putObj_heap_other (by omega)).trans h.2⟩
theorem Books.not_cells {D : Nat} {A : World} {B : Nat} {row : Option Nat} (hB : D ≤ B) (hr : ∀ k, row = some k → B ≤ k ∧ ∃ o : Obj, A.heap[k]? = some o ∧ o.isWalk = true) : ∀ k, row = some k → D ≤ k ∧ ∃ o : Obj, A.heap[k]? = some o ∧ o.isCells = false := by
  intro k e
  obtain ⟨h1, o, ho, hw⟩ := hr k e
  exact ⟨by omega, o, ho, Obj.not_cells_of_walk hw⟩

/-- How a round ends, told by the jump that it leaves. -/
theorem endRound_books {D : Nat} {r : Loop} {W : World} (h : Books D r W) (hs : r.state = .busy) (jump : Option Code) :
    (Instr.endRound (D + 1) jump).run P W = .ok (.bool jump.isNone) (W.putObj (D + 1) (.loop { r with state := if jump.isNone then .ready else .done, pending := jump })) := by
  obtain ⟨st, pe, f, t, p, asg, bd, df⟩ := r
  obtain rfl : st = .busy := hs
  exact run_endRound (P := P) jump h.1

set_option maxHeartbeats 2000000 in
theorem wpIn_rangeFunc_made {g : Operand} {ps : Array Tmp} {assign body : Code} {Q : Exit → Act → World → Prop} {a : Act} {w : World}
    (hro : F.round = none) (h1 : 1 ≤ n) {gf : Nat} {lb : Array Value} (hg : a.eval g = .func (.func gf) #[] lb) (hFg : F.fn gf) (eg : ∀ args w, (callFunc gf args).run P w = .ok (.enter gf args) w)
    {encs : α → Array Value} {Kp : World → World → Prop} {S Sp : List α → Prop} {N : Nat} {w0 : World} (hseq : SeqStopsK F (n - 1) P gf lb encs Kp S Sp N w0)
    (hKt : ∀ {A B C : World}, Kp A B → Kp B C → Kp A C) (hKb : ∀ (W : World) (l : Nat) (o o' : Obj), w.heap.size ≤ l → W.heap[l]? = some o → o.isCells = false → o.isWalk = false → Kp W (W.putObj l o')) (hb0 : Below w0.heap.size w0 w) (hps : ∀ x, (encs x).size = ps.size)
    (I : List α → World → Prop) (Ix : Code → List α → World → Prop) (A : List α → α → Act → World → Prop) (hI : OwnFrom w.heap.size I) (hIx : ∀ c, OwnFrom w.heap.size (Ix c)) (hA : ∀ pre x, OwnFrom w.heap.size (A pre x)) (h0 : I [] w)
    (hassign : ∀ (l : Nat) (pre : List α) (x : α) (W : World), I pre W → pre.length < N →
      assign.wpIn (F.inRound l) (n - 1 - 1) P (Exit.then (fun b W' => KeepsFrom w.heap.size W W' ∧ Kp W W' ∧ A pre x b W') (fun _ _ _ => False)) { tmps := (ps.zip (encs x)).foldl (fun t (p, v) => t.setIfInBounds p v) a.tmps, defers := [] } W)
    (hbody : ∀ (l : Nat) (pre : List α) (x : α) (b : Act) (W : World), A pre x b W → body.wpIn (F.inRound l) (n - 1 - 1) P (ownPostG w.heap.size Kp I Ix (pre ++ [x]) W) b W)
    (hdone : ∀ (D : Nat) (xs : List α) (W : World), w.heap.size ≤ D → S xs → I xs W → W.heap[D]? = some (.deferred (some [])) → Q .normal { a with defers := { target := .collected D, args := #[] } :: a.defers } W)
    (hstop : ∀ (D : Nat) (c : Code) (pre : List α) (W : World), w.heap.size ≤ D → Sp pre → Ix c pre W → W.heap[D]? = some (.deferred (some [])) → c.wpIn F n P Q { a with defers := { target := .collected D, args := #[] } :: a.defers } W) :
    (Code.rangeFunc g ps assign body).wpIn F n P Q a w := by
  refine wpIn_rangeFunc fun fn hfn => ?_
  rw [hro]
  obtain ⟨D, hD⟩ : ∃ D, w.heap.size = D := ⟨_, rfl⟩
  obtain ⟨r0, hr0⟩ : ∃ r : Loop, r = { state := .ready, pending := none, fn, tmps := a.tmps, params := ps, assign, body, defers := D } := ⟨_, rfl⟩
  obtain ⟨W1, hW1⟩ : ∃ W1, W1 = (w.alloc (.deferred (some []))).alloc (.loop r0) := ⟨_, rfl⟩
  have hsz : W1.heap.size = D + 2 := by rw [hW1]; simp [hD]
  have hbk : Books D r0 W1 := by
    rw [hW1]
    constructor
    · have := World.alloc_heap_new (w.alloc (.deferred (some []))) (.loop r0)
      rwa [World.size_alloc, hD] at this
    · have h5 := Below.heap_alloc (w.alloc (.deferred (some []))) (.loop r0) D (by simp [hD])
      have h6 := World.alloc_heap_new w (.deferred (some []))
      rw [hD] at h6
      exact h5.trans h6
  have hI1 : I [] W1 := by rw [hW1]; exact hI.alloc _ (hI.alloc _ h0)
  have hb1 : Below w0.heap.size w0 W1 := by
    rw [hW1]; exact hb0.trans ((((Below.refl _ w).alloc (Nat.le_refl _) _).alloc (by simp) _).mono hb0.size)
  have hcall := hseq (D + 1) (fun pre W => I pre W ∧ Books D r0 W) (fun pre W => ∃ c, Ix c pre W ∧ Books D { r0 with state := .done, pending := some c } W) W1 hb1
    (fun s X Y row hs hgr hr => ⟨hI s X Y row hs.1 hgr (Books.not_cells (by omega) hr), hs.2.grown hgr (fun k e => (hr k e).2)⟩)
    (fun s X Y row ⟨c, hc, hk⟩ hgr hr => ⟨c, hIx c s X Y row hc hgr (Books.not_cells (by omega) hr), hk.grown hgr (fun k e => (hr k e).2)⟩)
  subst hr0
  subst hD
  refine ⟨w.heap.size + 1, [{ target := .collected w.heap.size, args := #[] }], W1, { target := .fn (.func gf) lb, args := #[.func (.yield (w.heap.size + 1)) #[] #[]] }, W1, gf, #[.func (.yield (w.heap.size + 1)) #[] #[]] ++ lb, W1, ?_, ?_, ?_, ?_, fun _ => h1, ?_⟩
  · have := run_enterLoop_outer (P := P) (w := w) fn a.tmps ps assign body
    rw [hW1]; exact this
  · simp only [resolve, hg]
    simp [go_sem]
  · intro f' hf'
    simp [Target.leads] at hf'
    rw [← hf']; exact hFg
  · simp [invoke, go_sem, eg]
  · refine (hcall ?_ ⟨hI1, hbk⟩).mono ?_
    · rintro pre x W ⟨hi, hk⟩ hlen
      have hy := run_yield (P := P) (args := encs x) hk.1 (hps x)
      refine ⟨_, _, _, _, hy, ?_⟩
      refine roundIn_of_wpIn hfn (wpIn_mono (hassign _ pre x W hi hlen) ?_)
      rintro ex b W2 hp
      cases ex with
      | normal =>
        obtain ⟨k1, k2, k3⟩ := hp
        have hk2 := hk.keeps k1
        refine ⟨_, run_beginRound hk2.1 rfl, ?_⟩
        have hb2 : Books w.heap.size { ({ state := .ready, pending := none, fn := fn, tmps := a.tmps, params := ps, assign := assign, body := body, defers := w.heap.size } : Loop) with state := .busy } (W2.putObj (w.heap.size + 1) (.loop { ({ state := .ready, pending := none, fn := fn, tmps := a.tmps, params := ps, assign := assign, body := body, defers := w.heap.size } : Loop) with state := .busy })) := hk2.put _
        have hA2 := (hA pre x).putObj (o' := .loop { ({ state := .ready, pending := none, fn := fn, tmps := a.tmps, params := ps, assign := assign, body := body, defers := w.heap.size } : Loop) with state := .busy }) k3 (by omega) hk2.1 rfl
        have hp2 : Kp W2 (W2.putObj (w.heap.size + 1) (.loop { ({ state := .ready, pending := none, fn := fn, tmps := a.tmps, params := ps, assign := assign, body := body, defers := w.heap.size } : Loop) with state := .busy })) := hKb _ _ _ _ (by omega) hk2.1 rfl rfl
        refine wpIn_mono (hbody _ pre x b _ hA2) ?_
        have leave : ∀ (jump : Option Code) (W3 : World), KeepsFrom w.heap.size (W2.putObj (w.heap.size + 1) (.loop { ({ state := .ready, pending := none, fn := fn, tmps := a.tmps, params := ps, assign := assign, body := body, defers := w.heap.size } : Loop) with state := .busy })) W3 →
            (Instr.endRound (w.heap.size + 1) jump).run P W3 = .ok (.bool jump.isNone) (W3.putObj (w.heap.size + 1) (.loop { ({ state := .ready, pending := none, fn := fn, tmps := a.tmps, params := ps, assign := assign, body := body, defers := w.heap.size } : Loop) with state := if jump.isNone then .ready else .done, pending := jump })) ∧ Books w.heap.size { ({ state := .ready, pending := none, fn := fn, tmps := a.tmps, params := ps, assign := assign, body := body, defers := w.heap.size } : Loop) with state := .busy } W3 := by
          intro jump W3 hkf
          have hb3 := hb2.keeps hkf
          exact ⟨endRound_books hb3 rfl jump, hb3⟩
        rintro e3 a3 W3 hp3
        cases e3 with
        | normal =>
          obtain ⟨j1, j2, j3⟩ := hp3
          obtain ⟨hr3, hb3⟩ := leave none W3 j1
          exact ⟨_, _, hr3, .inl ⟨rfl, ⟨hI.putObj _ j3 (by omega) hb3.1 rfl, hb3.put _⟩, hKt k2 (hKt (hKt hp2 j2) (hKb _ _ _ _ (by omega) hb3.1 rfl rfl))⟩⟩
        | ret =>
          obtain ⟨hr3, hb3⟩ := leave (some .ret) W3 hp3.1
          exact ⟨_, _, hr3, .inr ⟨rfl, .ret, (hIx _).putObj _ hp3.2 (by omega) hb3.1 rfl, hb3.put _⟩⟩
        | exit id =>
          obtain ⟨hr3, hb3⟩ := leave (some (.exit id)) W3 hp3.1
          exact ⟨_, _, hr3, .inr ⟨rfl, .exit id, (hIx _).putObj _ hp3.2 (by omega) hb3.1 rfl, hb3.put _⟩⟩
        | goto t =>
          obtain ⟨hr3, hb3⟩ := leave (some (.goto t)) W3 hp3.1
          exact ⟨_, _, hr3, .inr ⟨rfl, .goto t, (hIx _).putObj _ hp3.2 (by omega) hb3.1 rfl, hb3.put _⟩⟩
        | panic ch => exact hp3.elim
        | outgrown => exact hp3.elim
      | ret => exact hp.elim
      | exit id => exact hp.elim
      | goto t => exact hp.elim
      | panic ch => exact hp.elim
      | outgrown => exact hp.elim
    · rintro e W2 ⟨⟨v, rfl⟩, (⟨xs, hS, hi, hk⟩ | ⟨pre, hSp, c, hi, hk⟩)⟩
      · exact ⟨none, _, by have := run_endLoop (P := P) hk.1 (by simp); exact this, hdone _ xs _ (by omega) hS (hI.putObj _ hi (by omega) hk.1 rfl) ((World.putObj_heap_other (by omega)).trans hk.2)⟩
      · exact ⟨some c, _, by have := run_endLoop (P := P) hk.1 (by simp); exact this, hstop _ c pre _ (by omega) hSp ((hIx c).putObj _ hi (by omega) hk.1 rfl) ((World.putObj_heap_other (by omega)).trans hk.2)⟩
end
end Go.Proofs.YthognmkjoekilaaDoor

/- slices.Collect of the runs, and Runs. -/
namespace Go.Proofs.YthognmkjoekilaaDoor
set_option linter.unusedVariables false
open Go.RowKit Go.Shelf
attribute [local go_sem] Oper.semAt_some

theorem Tryd.infoR : (Tryd.prog.info? 60).map (fun i => (i.zero, i.size, i.bytes)) = some (some (.agg #[.int .i64 0, .int .i64 0]), 2, 16) := by kernel_rfl
theorem news2 (W : World) (u v : Value) (t : TypeId) : ∀ j x, [u, v][j]? = some x → (W.alloc (.cells #[u, v] t)).cell? ((⟨W.heap.size, 0, none⟩ : Addr).add j) = some x := by
  intro j x hj
  have h : ∀ k, (W.alloc (.cells #[u, v] t)).cell? ⟨W.heap.size, k, none⟩ = #[u, v][k]? := fun k => World.cell?_alloc_mark W _ _ (0, 0) k
  match j with
  | 0 => simp at hj; subst hj; exact h 0
  | 1 => simp at hj; subst hj; exact h 1
  | n + 2 => simp at hj
theorem runsF_len (bs : List Int) (N : Nat) (on : Bool) : ∀ n a, (a < N → bitV bs a = on) → (runsF bs N on n a).length ≤ N - a := by
  intro n
  induction n with
  | zero => intro a _; simp [runsF]
  | succ n ih =>
    intro a hb
    unfold runsF
    by_cases h : a < N
    · rw [if_pos h]
      obtain ⟨s1, s2, s3, s4⟩ := run_step bs N on a h (hb h)
      have j4 := (seekV_spec bs N on (seekV bs N (!on) a) s2).2.2.2
      have := ih _ j4
      rw [List.length_cons]
      omega
    · rw [if_neg h]; simp
theorem runsV_len (bs : List Int) (N : Nat) (on : Bool) : (runsV bs N on).length ≤ N := by
  have := runsF_len bs N on (N + 1) (seekV bs N on 0) (seekV_spec bs N on 0 (Nat.zero_le _)).2.2.2
  unfold runsV
  omega
set_option maxRecDepth 100000 in
set_option maxHeartbeats 4000000 in
theorem append_any (g h : Nat) (M : Nat) (a : Option Addr) (l c : Nat) (bs : List Int) (on : Bool) (w : World) (hR : RunsAt w g h M a l c bs on) (hv : validB (M : Int) bs = true) :
    Calls Tryd.prog 91 #[.slice none 0 0, .func (.func 92) #[] #[.pointer (some ⟨g, 0, none⟩), .pointer (some ⟨h, 0, none⟩)]] w fun e w' => ∃ v, e = .returned v ∧ w'.ownsRow w.heap.size 60 2 v (runsV bs M on).length (rangeCells (runsV bs M on)) ∧ Below w.heap.size w w' := by
  have HI := Lib.hid (info_parts Tryd.infoR)
  have hM6 : M ≤ 65536 := by have := (validB_iff (M : Int) bs).mp hv; omega
  have hgl : g < w.heap.size := hR.b.lt
  have hhl : h < w.heap.size := hR.o.lt
  obtain ⟨W0, hW0⟩ : ∃ W0, W0 = w.alloc (.cells #[.slice none 0 0] 54) := ⟨_, rfl⟩
  have hb0 : Below w.heap.size w W0 := by rw [hW0]; exact (Below.refl _ w).alloc (Nat.le_refl _) _
  have hX0 : Boxed W0 w.heap.size 54 (.slice none 0 0) := by rw [hW0]; exact Boxed.new _ _ _
  have hs0 : W0.heap.size = w.heap.size + 1 := by rw [hW0]; simp
  have hR0 := hR.below hb0
  have HW := Lib.hid hW0
  have Hb0 := Lib.hid hb0
  have HX0 := Lib.hid hX0
  have HR0 := Lib.hid hR0
  have HRw := Lib.hid hR
  have Hv := Lib.hid hv
  have kp : ∀ W W', Below w.heap.size w W → Below w.heap.size W W' → runsKp g h M a l c bs on W W' := fun W W' k1 k2 _ => HRw.out.below (k1.trans k2)
  clear hW0 hb0 hX0 hR0 hR hv
  refine (callsIn_wide (n := 9)).1 ?_
  refine callsIn_of_wp_marks Tryd.func91 rfl trivial ?_ rfl
  simp only [Tryd.ntmps91, List.size_toArray, List.length_cons, List.length_nil, Nat.reduceAdd, Nat.reduceSub, Array.replicate_succ, Array.replicate_zero, List.push_toArray, List.append_toArray, List.nil_append, List.cons_append]
  gi_wp2_with fail
  rw [← HW.out]
  refine wpIn_rangeFunc_made rfl (by omega) (gf := 92) (lb := #[.pointer (some ⟨g, 0, none⟩), .pointer (some ⟨h, 0, none⟩)]) rfl trivial (enters_of Tryd.func92 (by kernel_rfl) rfl)
    (runs1_stops _ (by omega) g h M M a l c bs on W0 HR0.out Hv.out rfl _ rfl)
    (fun h k hx => k (h hx)) ?kb (Below.refl _ _) (fun _ => rfl)
    (fun (pre : List RunNo) (W : World) => (∃ u, Boxed W w.heap.size 54 u ∧ W.ownsRow w.heap.size 60 2 u pre.length (rangeCells (pre.map (·.1))) ∧ True) ∧ Below w.heap.size w W)
    (fun _ _ _ => False)
    (fun pre x b W => ∃ B5, b = { tmps := #[.slice none 0 0, .func (.func 92) #[] #[.pointer (some ⟨g, 0, none⟩), .pointer (some ⟨h, 0, none⟩)], .pointer (some ⟨w.heap.size, 0, none⟩), undef, .slice none 0 0, .pointer (some ⟨B5, 0, none⟩), .func (.func 92) #[] #[.pointer (some ⟨g, 0, none⟩), .pointer (some ⟨h, 0, none⟩)], .agg #[.int .i64 (x.1.1 : Int), .int .i64 (x.1.2 : Int)], undef, undef, undef, undef, undef], defers := [] } ∧ Blk W B5 60 #[.int .i64 (x.1.1 : Int), .int .i64 (x.1.2 : Int)] ∧ pre.length < (runsV bs M on).length ∧ (∃ u, Boxed W w.heap.size 54 u ∧ W.ownsRow w.heap.size 60 2 u pre.length (rangeCells (pre.map (·.1))) ∧ True) ∧ Below w.heap.size w W)
    ?own (fun _ _ _ _ _ hs _ _ => hs) ?ownA ?start ?assign ?body ?done ?stop
  case kb =>
    intro W l o o' hl ho hc _ hx
    exact ⟨(World.putObj_heap_other (by intro e; subst e; have := ho.symm.trans hx.b; cases this; cases hc)).trans hx.b, (World.putObj_heap_other (by intro e; subst e; have := ho.symm.trans hx.o; cases this; cases hc)).trans hx.o, (rd_own (β := Unit) a _ c bs) () W _ (some l) hx.r (grownBy_putObj' W l o') (fun k e => by cases e; exact ⟨o, ho, hc⟩)⟩
  case own => exact OwnFrom.and (Own.from (holdsRow_own w.heap.size w.heap.size 54 60 2 (fun pre : List RunNo => pre.length) (fun pre : List RunNo => rangeCells (pre.map (·.1))) (fun _ _ => True)) _) (ownFrom_below (Nat.le_refl _) (by omega))
  case ownA =>
    rintro pre x b X Y row ⟨B5, hb, hB5, hlt, hI⟩ hg hrow
    refine ⟨B5, hb, (blk_own (β := Unit) B5 60 (fun _ => #[.int .i64 (x.1.1 : Int), .int .i64 (x.1.2 : Int)])) () X Y row hB5 hg (fun k e => (hrow k e).2), hlt, ?_⟩
    exact (OwnFrom.and (Own.from (holdsRow_own w.heap.size w.heap.size 54 60 2 (fun pre : List RunNo => pre.length) (fun pre : List RunNo => rangeCells (pre.map (·.1))) (fun _ _ => True)) _) (ownFrom_below (Nat.le_refl _) (by omega))) pre X Y row hI hg hrow
  case start => exact ⟨⟨_, HX0.out, World.ownsRow_nil _ _ _ _, trivial⟩, Hb0.out⟩
  case assign =>
    rintro ln pre x W ⟨⟨u, hv, hrow, _⟩, hB⟩ hlt
    dsimp only [runEnc]
    gi_wp2_with fail
    have hbA : Below W.heap.size W (W.alloc (.cells #[.int .i64 (x.1.1 : Int), .int .i64 (x.1.2 : Int)] 60)) := (Below.refl _ W).alloc (Nat.le_refl _) _
    exact ⟨(KeepsOthers.alloc W _).from _, kp _ _ hB (hbA.mono hB.size), _, rfl, heap_new W _, hlt, ⟨u, hv.alloc _, hrow.alloc _, trivial⟩, hB.trans (hbA.mono hB.size)⟩
  case body =>
    rintro ln pre x b W ⟨B5, rfl, hB5, hlt, ⟨u, hv, hrow, _⟩, hB⟩
    have hc := hv.cell
    have r0 : W.cell? ⟨B5, 0, none⟩ = some (.int .i64 (x.1.1 : Int)) := hB5.cell 0
    have r1 : W.cell? ⟨B5, 1, none⟩ = some (.int .i64 (x.1.2 : Int)) := hB5.cell 1
    have hlen := runsV_len bs M on
    gi_wp2_with (gi_at_builtin; obtain ⟨i0, hi, hz0, hz1, hz2⟩ := HI.out; refine wpListIn_append_own _ rfl _ _ 54 rfl w.heap.size 60 i0 (.agg #[.int .i64 0, .int .i64 0]) 2 16 Tryd.underlying54 hi hz0 hz1 hz2 rfl (by decide) _ _ _ rfl (hrow.alloc _) ⟨W.heap.size, 0, none⟩ 1 1 [.int .i64 (x.1.1 : Int), .int .i64 (x.1.2 : Int)] rfl rfl (news2 _ _ _ _) (by simp [Value.oneCell']) (by unfold maxLen; omega) (by omega) (by have := hB.size; simp; omega) ?_; clear hi hz0 hz1 hz2; intro v' w1 hown' hgrow _; obtain ⟨g', cap', rfl⟩ := ownsRow_succ hown'; obtain ⟨hv1, hv2, hr2, hk2, hb2⟩ := hv.appended (by decide) hrow hB.size (Nat.le_refl _) hown' hgrow; have hc1 := hv1.cell; have hf1 := hv1.frozen)
    exact ⟨hk2.from _, kp _ _ hB hb2, ⟨_, hv2, by simpa [rangeCells] using hr2, trivial⟩, hB.trans hb2⟩
  case done =>
    rintro D xs W hD hS ⟨⟨u, hv, hrow, _⟩, hB⟩ hK
    have hc := hv.cell
    have hlx : xs.length = (runsV bs M on).length := by rw [← hS, List.length_map]
    rw [hS, hlx] at hrow
    gi_wp2
    refine ⟨by simp, .inl ⟨_, _, rfl, run_takeDeferred hK, ?_⟩⟩
    exact ⟨_, results_tmp rfl _ _ _, u, rfl, ownsRow_putObj hrow _ hK rfl, hB.trans (belowK_b (w := w) (Nat.le_refl _) W D _ _ (by omega) hK rfl rfl)⟩
  case stop =>
    rintro D c pre W _ _ h _
    exact h.elim
end Go.Proofs.YthognmkjoekilaaDoor

/- Runs: all runs of a bitmap. -/
namespace Go.Proofs.YthognmkjoekilaaDoor
set_option linter.unusedVariables false
open Go.RowKit Go.Shelf

theorem runsF_bd (bs : List Int) (N : Nat) (on : Bool) : ∀ n a, (a < N → bitV bs a = on) → ∀ r ∈ runsF bs N on n a, r.1 + r.2 ≤ N ∧ 1 ≤ r.2 ∧ a ≤ r.1 := by
  intro n
  induction n with
  | zero => intro a _ r hr; simp [runsF] at hr
  | succ n ih =>
    intro a hb r hr
    unfold runsF at hr
    by_cases h : a < N
    · rw [if_pos h] at hr
      obtain ⟨s1, s2, s3, s4⟩ := run_step bs N on a h (hb h)
      have j4 := (seekV_spec bs N on (seekV bs N (!on) a) s2).2.2.2
      rcases List.mem_cons.mp hr with rfl | hr
      · simp only; omega
      · have := ih _ j4 r hr
        omega
    · rw [if_neg h] at hr; simp at hr
theorem runsV_bd (bs : List Int) (N : Nat) (on : Bool) : ∀ r ∈ runsV bs N on, r.1 + r.2 ≤ N ∧ 1 ≤ r.2 := fun r hr => by
  have := runsF_bd bs N on (N + 1) _ (seekV_spec bs N on 0 (Nat.zero_le _)).2.2.2 r hr
  omega
theorem row_slice {W : World} {base : Nat} {e : TypeId} {size : Nat} {v : Value} {n : Nat} {xs : List Value} (h : W.ownsRow base e size v n xs) : ∃ a c, v = .slice a n c := by
  rcases h.2 with ⟨rfl, h0⟩ | ⟨g, cap, cur, rfl, -⟩
  · exact ⟨none, 0, by rw [h0]⟩
  · exact ⟨_, cap, rfl⟩
section
variable (g h : Nat) (M : Nat) (a : Option Addr) (l c : Nat) (bs : List Int) (on : Bool) (w : World) (hR : RunsAt w g h M a l c bs on) (hv : validB (M : Int) bs = true)
include hR hv
set_option maxRecDepth 100000 in
set_option maxHeartbeats 1000000 in
theorem collect_any :
    Calls Tryd.prog 75 #[.func (.func 92) #[] #[.pointer (some ⟨g, 0, none⟩), .pointer (some ⟨h, 0, none⟩)]] w fun e w' => ∃ a' l' c', e = .returned (.slice a' l' c') ∧ OwnR w' w.heap.size (.slice a' l' c') (runsV bs M on) ∧ Below w.heap.size w w' := by
  have C := Lib.hid (append_any g h M a l c bs on w hR hv)
  have hM6 : M ≤ 65536 := by have := (validB_iff (M : Int) bs).mp hv; omega
  clear hR hv
  go_enter Tryd.func75, Tryd.ntmps75
  go_wp2_with fail
  refine C.out.mono ?_
  rintro e w1 ⟨v, rfl, hrow, hb⟩
  obtain ⟨a', c', rfl⟩ := row_slice hrow
  have HR := Lib.hid hrow
  have Hb := Lib.hid hb
  clear C hrow hb
  go_wp2_with fail
  refine bodyPost_ret (results_tmp rfl _ _ _) rfl ?_
  exact ⟨a', _, c', rfl, ⟨HR.out, fun r hr => by have := runsV_bd bs M on r hr; omega⟩, Hb.out⟩
end
section
variable (g0 g1 : Nat) (N : Int) (a : Option Addr) (l c : Nat) (bs : List Int) (on : Bool) (W : World) (hB : Blk W g0 24 #[.int .i64 N, .slice a l c]) (h1 : Blk W g1 4 #[.bool on]) (hr : Rd W a l c bs)
include hB h1 hr
set_option maxRecDepth 100000 in
set_option maxHeartbeats 1000000 in
theorem runs1_bad (hN1 : -9223372036854775808 ≤ N) (hN2 : N ≤ 9223372036854775807) (hv : validB N bs = false) :
    Calls Tryd.prog 74 #[.pointer (some ⟨g0, 0, none⟩), .pointer (some ⟨g1, 0, none⟩)] W fun e w' => e = pan 9 ∧ Below W.heap.size W w' := by
  have q0 : W.cell? ⟨g0, 0, none⟩ = some (.int .i64 N) := hB.cell 0
  have q1 : W.cell? ⟨g0, 1, none⟩ = some (.slice a l c) := hB.cell 1
  have q2 := h1.boxed.cell
  have C := Lib.hid (needValid_no N a l c bs W hr hN1 hN2 hv)
  clear hB h1 hr hv
  go_enter Tryd.func74, Tryd.ntmps74
  go_wp2_with fail
  refine C.out.mono ?_
  rintro e w1 ⟨rfl, hb⟩
  exact ⟨rfl, rfl, hb⟩
set_option maxRecDepth 100000 in
set_option maxHeartbeats 1000000 in
theorem runs1_ok (M : Nat) (hM : N = (M : Int)) (hv : validB N bs = true) :
    Calls Tryd.prog 74 #[.pointer (some ⟨g0, 0, none⟩), .pointer (some ⟨g1, 0, none⟩)] W fun e w' => ∃ a' l' c', e = .returned (.slice a' l' c') ∧ OwnR w' W.heap.size (.slice a' l' c') (runsV bs M on) ∧ Below W.heap.size W w' := by
  subst hM
  have hM6 : M ≤ 65536 := by have := (validB_iff (M : Int) bs).mp hv; omega
  have q0 : W.cell? ⟨g0, 0, none⟩ = some (.int .i64 (M : Int)) := hB.cell 0
  have q1 : W.cell? ⟨g0, 1, none⟩ = some (.slice a l c) := hB.cell 1
  have C := Lib.hid (needValid_yes M a l c bs W hr (by omega) (by omega) hv)
  have HB := Lib.hid hB
  have H1 := Lib.hid h1
  have HR := Lib.hid hr
  have Hv := Lib.hid hv
  clear hB h1 hr hv
  go_enter Tryd.func74, Tryd.ntmps74
  go_wp2_with fail
  refine C.out.mono ?_
  rintro e w1 ⟨rfl, hb1⟩
  have hB1 := HB.out.below hb1 HB.out.lt
  have p0 : w1.cell? ⟨g0, 0, none⟩ = some (.int .i64 (M : Int)) := hB1.cell 0
  have p1 : w1.cell? ⟨g0, 1, none⟩ = some (.slice a l c) := hB1.cell 1
  have p2 := (H1.out.below hb1 H1.out.lt).boxed.cell
  have HR1 := Lib.hid (HR.out.below hb1 (Nat.le_refl _))
  have Hb1 := Lib.hid hb1
  clear hb1 hB1 C HB H1 HR q0 q1
  go_wp2_with fail
  refine (runs_any M a l c on w1).mono ?_
  rintro e w2 ⟨rfl, hw2⟩
  have hb2 : Below w1.heap.size w1 w2 := by rw [hw2]; exact ((Below.refl _ w1).alloc (Nat.le_refl _) _).alloc (by simp) _
  have hRA : RunsAt w2 w1.heap.size (w1.heap.size + 1) M a l c bs on := by
    refine ⟨?_, ?_, HR1.out.below hb2 (Nat.le_refl _)⟩
    · rw [hw2]; exact Blk.below (heap_new w1 _ : Blk (w1.alloc _) _ _ _) ((Below.refl _ _).alloc (Nat.le_refl _) _) (by simp)
    · rw [hw2]; have := Boxed.new (w1.alloc (.cells #[.int .i64 (M : Int), .slice a l c] 24)) 4 (.bool on); rw [World.size_alloc] at this; exact this
  have HRA := Lib.hid hRA
  have Hb2 := Lib.hid hb2
  clear hw2 hb2 hRA p0 p1 p2 HR1
  go_wp2_with fail
  refine (collect_any _ _ M a l c bs on w2 HRA.out Hv.out).mono ?_
  rintro e w3 ⟨a', l', c', rfl, hO, hb3⟩
  have HO := Lib.hid (hO.mono (B' := W.heap.size) (by have := Hb1.out.size; have := Hb2.out.size; omega))
  have Hb3 := Lib.hid (Hb1.out.trans ((Hb2.out.trans (hb3.mono Hb2.out.size)).mono Hb1.out.size))
  clear hO hb3
  go_wp2_with fail
  refine bodyPost_ret (results_tmp rfl _ _ _) rfl ?_
  exact ⟨a', l', c', rfl, HO.out, Hb3.out⟩
end
end Go.Proofs.YthognmkjoekilaaDoor

/- next: the least place from near on. -/
namespace Go.Proofs.YthognmkjoekilaaDoor
set_option linter.unusedVariables false
open Go.RowKit Go.Shelf
attribute [local go_sem] Oper.semAt_some

/-- A run that has room for many bits from near on. -/
def fitB (many : Int) (near : Nat) (r : Nat × Nat) : Bool := decide (many ≤ (r.1 : Int) + (r.2 : Int) - max (r.1 : Int) (near : Int))
/-- Where next finds a place. -/
def nextV (bs : List Int) (M : Nat) (many : Int) (near : Nat) : Option Nat := ((runsV bs M false).find? (fitB many near)).map fun r => max r.1 near
theorem find_first {p : Nat × Nat → Bool} {L l : List (Nat × Nat)} {x : Nat × Nat} (h : (l ++ [x]) <+: L) (hl : ∀ r ∈ l, p r = false) (hx : p x = true) : L.find? p = some x := by
  obtain ⟨t, rfl⟩ := h
  rw [List.find?_append, List.find?_append]
  have : l.find? p = none := List.find?_eq_none.mpr (fun r hr => by rw [hl r hr]; simp)
  rw [this]
  simp [List.find?, hx]
/-- The boxes of next. -/
theorem next_boxes (N : Int) (a : Option Addr) (l c : Nat) (many near : Int) (w : World) : ∃ W0, ((((w.alloc (.cells #[.int .i64 N, .slice a l c] 24)).alloc (.cells #[.int .i64 many] 3)).alloc (.cells #[.int .i64 near] 3)).alloc (.cells #[.int .i64 0] 3)).alloc (.cells #[.bool false] 4) = W0 ∧
    Blk W0 w.heap.size 24 #[.int .i64 N, .slice a l c] ∧ Boxed W0 (w.heap.size + 1) 3 (.int .i64 many) ∧ Boxed W0 (w.heap.size + 2) 3 (.int .i64 near) ∧ Boxed W0 (w.heap.size + 3) 3 (.int .i64 0) ∧ Boxed W0 (w.heap.size + 4) 4 (.bool false) ∧ Below w.heap.size w W0 ∧ W0.heap.size = w.heap.size + 5 := by
  refine ⟨_, rfl, ?_, ?_, ?_, ?_, ?_, ?_, by simp⟩
  · have h0 := heap_new w (.cells #[.int .i64 N, .slice a l c] 24)
    simp only [Blk, Boxed]
    rw [Below.heap_alloc _ _ _ (by first | (simp; done) | (simp; omega)), Below.heap_alloc _ _ _ (by first | (simp; done) | (simp; omega)), Below.heap_alloc _ _ _ (by first | (simp; done) | (simp; omega)), Below.heap_alloc _ _ _ (by first | (simp; done) | (simp; omega))]
    exact h0
  · have h0 := heap_new (w.alloc (.cells #[.int .i64 N, .slice a l c] 24)) (.cells #[.int .i64 many] 3)
    simp only [World.size_alloc] at h0
    simp only [Boxed]
    rw [Below.heap_alloc _ _ _ (by first | (simp; done) | (simp; omega)), Below.heap_alloc _ _ _ (by first | (simp; done) | (simp; omega)), Below.heap_alloc _ _ _ (by first | (simp; done) | (simp; omega))]
    exact h0
  · have h0 := heap_new ((w.alloc (.cells #[.int .i64 N, .slice a l c] 24)).alloc (.cells #[.int .i64 many] 3)) (.cells #[.int .i64 near] 3)
    simp only [World.size_alloc] at h0
    simp only [Boxed]
    rw [Below.heap_alloc _ _ _ (by first | (simp; done) | (simp; omega)), Below.heap_alloc _ _ _ (by first | (simp; done) | (simp; omega))]
    exact h0
  · have h0 := heap_new (((w.alloc (.cells #[.int .i64 N, .slice a l c] 24)).alloc (.cells #[.int .i64 many] 3)).alloc (.cells #[.int .i64 near] 3)) (.cells #[.int .i64 0] 3)
    simp only [World.size_alloc] at h0
    simp only [Boxed]
    rw [Below.heap_alloc _ _ _ (by first | (simp; done) | (simp; omega))]
    exact h0
  · have h0 := heap_new ((((w.alloc (.cells #[.int .i64 N, .slice a l c] 24)).alloc (.cells #[.int .i64 many] 3)).alloc (.cells #[.int .i64 near] 3)).alloc (.cells #[.int .i64 0] 3)) (.cells #[.bool false] 4)
    simp only [World.size_alloc] at h0
    exact h0
  · exact ((((((Below.refl _ w).alloc (Nat.le_refl _) _).alloc (by simp) _).alloc (by first | (simp; done) | (simp; omega)) _).alloc (by first | (simp; done) | (simp; omega)) _).alloc (by first | (simp; done) | (simp; omega)) _)
set_option maxRecDepth 100000 in
set_option maxHeartbeats 4000000 in
theorem next_any (M : Nat) (a : Option Addr) (l c : Nat) (bs : List Int) (many : Int) (near : Nat) (w : World) (hr : Rd w a l c bs) (hv : validB (M : Int) bs = true) (hn : near ≤ M) :
    Calls Tryd.prog 102 #[.agg #[.int .i64 (M : Int), .slice a l c], .int .i64 many, .int .i64 (near : Int)] w fun e w' => e = .returned (.tuple #[.int .i64 ((nextV bs M many near).getD 0 : Nat), .bool (nextV bs M many near).isSome]) ∧ Below w.heap.size w w' := by
  have hM6 : M ≤ 65536 := by have := (validB_iff (M : Int) bs).mp hv; omega
  obtain ⟨W0, hW0, hB, x1, x2, x3, x4, hb0, hs0⟩ := next_boxes (M : Int) a l c many near w
  obtain ⟨res, hres⟩ : ∃ r, r = nextV bs M many near := ⟨_, rfl⟩
  rw [← hres]
  have q0 : W0.cell? ⟨w.heap.size, 0, none⟩ = some (.int .i64 (M : Int)) := hB.cell 0
  have q1 : W0.cell? ⟨w.heap.size, 1, none⟩ = some (.slice a l c) := hB.cell 1
  have HW := Lib.hid hW0
  have Hb0 := Lib.hid hb0
  have HX := Lib.hid (And.intro x1 (And.intro x2 (And.intro x3 x4)))
  have HR := Lib.hid (hr.below hb0 (Nat.le_refl _))
  have Hv := Lib.hid hv
  have Hres := Lib.hid hres
  have Hs0 := Lib.hid hs0
  clear hW0 hB x1 x2 x3 x4 hb0 hr hv hres hs0
  refine (callsIn_wide (n := 9)).1 ?_
  refine callsIn_of_wp_marks Tryd.func102 rfl trivial ?_ rfl
  simp only [Tryd.ntmps102, List.size_toArray, List.length_cons, List.length_nil, Nat.reduceAdd, Nat.reduceSub, Array.replicate_succ, Array.replicate_zero, List.push_toArray, List.append_toArray, List.nil_append, List.cons_append]
  gi_upto_region 1 with fail
  rw [HW.out]
  gi_wp2_with fail
  refine ⟨trivial, ?_⟩
  refine (callsIn_wide.2 (runs_any M a l c false W0)).mono ?_
  rintro e1 w3 ⟨rfl, hw3⟩
  have hb3 : Below W0.heap.size W0 w3 := by rw [hw3]; exact ((Below.refl _ W0).alloc (Nat.le_refl _) _).alloc (by simp) _
  have hRA : RunsAt w3 W0.heap.size (W0.heap.size + 1) M a l c bs false := by
    refine ⟨?_, ?_, HR.out.below hb3 (Nat.le_refl _)⟩
    · rw [hw3]; exact Blk.below (heap_new W0 _ : Blk (W0.alloc _) _ _ _) ((Below.refl _ _).alloc (Nat.le_refl _) _) (by simp)
    · rw [hw3]; have := Boxed.new (W0.alloc (.cells #[.int .i64 (M : Int), .slice a l c] 24)) 4 (.bool false); rw [World.size_alloc] at this; exact this
  have HRA := Lib.hid hRA
  have hs3 : w.heap.size + 5 ≤ w3.heap.size := by have := hb3.size; have := Hs0.out; omega
  have Hb3 := Lib.hid (Hb0.out.trans (hb3.mono Hb0.out.size))
  have HX1 : Hid (Boxed w3 (w.heap.size + 1) 3 (.int .i64 many)) := Lib.hid ((hb3.block _ HX.out.1.lt).trans HX.out.1)
  have HX2 : Hid (Boxed w3 (w.heap.size + 2) 3 (.int .i64 (near : Int))) := Lib.hid ((hb3.block _ HX.out.2.1.lt).trans HX.out.2.1)
  have HX3 : Hid (Boxed w3 (w.heap.size + 3) 3 (.int .i64 0)) := Lib.hid ((hb3.block _ HX.out.2.2.1.lt).trans HX.out.2.2.1)
  have HX4 : Hid (Boxed w3 (w.heap.size + 4) 4 (.bool false)) := Lib.hid ((hb3.block _ HX.out.2.2.2.lt).trans HX.out.2.2.2)
  clear hw3 hb3 hRA HX q0 q1 HR Hb0 HW
  gi_wp2_with fail
  refine wpIn_rangeFunc_made rfl (by omega) (gf := 92) (lb := #[.pointer (some ⟨W0.heap.size, 0, none⟩), .pointer (some ⟨W0.heap.size + 1, 0, none⟩)]) rfl trivial (enters_of Tryd.func92 (by kernel_rfl) rfl)
    (runs1_stops _ (by omega) _ _ M M a l c bs false w3 HRA.out Hv.out rfl _ rfl)
    (fun h k hx => k (h hx)) ?kb (Below.refl _ _) (fun _ => rfl)
    (fun (pre : List RunNo) (W : World) => (∀ r ∈ pre.map (·.1), fitB many near r = false) ∧ Below w3.heap.size w3 W)
    (fun cc (pre : List RunNo) (W : World) => (cc = .ret ∧ ∃ (l1 : List (Nat × Nat)) (x : Nat × Nat), pre.map (·.1) = l1 ++ [x] ∧ (∀ r ∈ l1, fitB many near r = false) ∧ fitB many near x = true ∧ Boxed W (w.heap.size + 3) 3 (.int .i64 ((max x.1 near : Nat) : Int)) ∧ Boxed W (w.heap.size + 4) 4 (.bool true)) ∧ Below w.heap.size w W)
    (fun pre x b W => ∃ B5, b = { tmps := #[.agg #[.int .i64 (M : Int), .slice a l c], .int .i64 many, .int .i64 (near : Int), .pointer (some ⟨w.heap.size, 0, none⟩), .pointer (some ⟨w.heap.size + 1, 0, none⟩), .pointer (some ⟨w.heap.size + 2, 0, none⟩), .pointer (some ⟨w.heap.size + 3, 0, none⟩), .pointer (some ⟨w.heap.size + 4, 0, none⟩), .pointer (some ⟨B5, 0, none⟩), undef, .agg #[.int .i64 (M : Int), .slice a l c], .func (.func 92) #[] #[.pointer (some ⟨W0.heap.size, 0, none⟩), .pointer (some ⟨W0.heap.size + 1, 0, none⟩)], .agg #[.int .i64 (x.1.1 : Int), .int .i64 (x.1.2 : Int)], undef, undef, undef, undef, undef, undef, undef, undef, undef, undef, undef, undef, undef, undef], defers := [] } ∧ Blk W B5 60 #[.int .i64 (x.1.1 : Int), .int .i64 (x.1.2 : Int)] ∧ (∀ r ∈ pre.map (·.1), fitB many near r = false) ∧ Below w3.heap.size w3 W)
    ?own ?ownx ?ownA ?start ?assign ?body ?done ?stop
  case kb =>
    intro W l o o' hl ho hc _ hx
    exact ⟨(World.putObj_heap_other (by intro e; subst e; have := ho.symm.trans hx.b; cases this; cases hc)).trans hx.b, (World.putObj_heap_other (by intro e; subst e; have := ho.symm.trans hx.o; cases this; cases hc)).trans hx.o, (rd_own (β := Unit) a _ c bs) () W _ (some l) hx.r (grownBy_putObj' W l o') (fun k e => by cases e; exact ⟨o, ho, hc⟩)⟩
  case own => exact OwnFrom.and (fun _ _ _ _ hs _ _ => hs) (ownFrom_below (Nat.le_refl _) (Nat.le_refl _))
  case ownx =>
    intro cc
    refine OwnFrom.and ?_ (ownFrom_below (by omega) (by omega))
    rintro pre X Y row ⟨hc, l1, x, e1, e2, e3, hx3, hx4⟩ hg hrow
    exact ⟨hc, l1, x, e1, e2, e3, (boxed_own _ _ (fun _ : Unit => _)) () X Y row hx3 hg (fun k e => (hrow k e).2), (boxed_own _ _ (fun _ : Unit => _)) () X Y row hx4 hg (fun k e => (hrow k e).2)⟩
  case ownA =>
    rintro pre x b X Y row ⟨B5, hb, hB5, hI⟩ hg hrow
    refine ⟨B5, hb, (blk_own (β := Unit) B5 60 (fun _ => #[.int .i64 (x.1.1 : Int), .int .i64 (x.1.2 : Int)])) () X Y row hB5 hg (fun k e => (hrow k e).2), ?_⟩
    exact ⟨hI.1, (ownFrom_below (β := Unit) (Nat.le_refl _) (Nat.le_refl _)) () X Y row hI.2 hg hrow⟩
  case start => exact ⟨by simp, Below.refl _ _⟩
  case assign =>
    rintro ln pre x W ⟨hp, hB⟩ hlt
    dsimp only [runEnc]
    gi_wp2_with fail
    have hbA : Below W.heap.size W (W.alloc (.cells #[.int .i64 (x.1.1 : Int), .int .i64 (x.1.2 : Int)] 60)) := (Below.refl _ W).alloc (Nat.le_refl _) _
    exact ⟨(KeepsOthers.alloc W _).from _, fun hx => hx.below hbA, _, rfl, heap_new W _, hp, hB.trans (hbA.mono hB.size)⟩
  case body =>
    rintro ln pre x b W ⟨B5, rfl, hB5, hp, hB⟩
    obtain ⟨⟨ra, rm⟩, hx1, hx2⟩ := x
    dsimp only at hx1 hx2 hB5 ⊢
    have r0 : W.cell? ⟨B5, 0, none⟩ = some (.int .i64 (ra : Int)) := hB5.cell 0
    have r1 : W.cell? ⟨B5, 1, none⟩ = some (.int .i64 (rm : Int)) := hB5.cell 1
    have y1 := (show Boxed W (w.heap.size + 1) 3 (.int .i64 many) from (hB.block _ HX1.out.lt).trans HX1.out).cell
    have y2 := (show Boxed W (w.heap.size + 2) 3 (.int .i64 (near : Int)) from (hB.block _ HX2.out.lt).trans HX2.out).cell
    have z3 : Boxed W (w.heap.size + 3) 3 (.int .i64 0) := (hB.block _ HX3.out.lt).trans HX3.out
    have z4 : Boxed W (w.heap.size + 4) 4 (.bool false) := (hB.block _ HX4.out.lt).trans HX4.out
    have y3 := z3.cell
    have y4 := z4.cell
    have f3 := z3.frozen
    have f4 := z4.frozen
    obtain ⟨mx, hmx⟩ : ∃ m, m = max ra near := ⟨_, rfl⟩
    have em : max (ra : Int) (near : Int) = (mx : Int) := by omega
    have hmx6 : mx ≤ 65536 := by omega
    have Hz3 := Lib.hid z3
    have Hz4 := Lib.hid z4
    have HBB := Lib.hid hB
    have Hp := Lib.hid hp
    have Hmx := Lib.hid hmx
    clear z3 z4 hB hp hB5 hmx HX1 HX2 HX3 HX4 HRA
    by_cases hf : many ≤ (ra : Int) + (rm : Int) - (mx : Int)
    · have hfd : fitB many near (ra, rm) = true := by unfold fitB; simp only; rw [em]; exact decide_eq_true hf
      have Hfd := Lib.hid hfd
      clear hfd
      gi_wp2_with fail
      have k3 : Boxed (W.setCell ⟨w.heap.size + 3, 0, none⟩ (.int .i64 (mx : Int))) (w.heap.size + 3) 3 (.int .i64 (mx : Int)) := Hz3.out.set _
      have k4 : Boxed (W.setCell ⟨w.heap.size + 3, 0, none⟩ (.int .i64 (mx : Int))) (w.heap.size + 4) 4 (.bool false) := (heap_setCell_other W ⟨w.heap.size + 3, 0, none⟩ (w.heap.size + 4) _ (by simp)).trans Hz4.out
      have j4 := k4.set (.bool true)
      have j3 : Boxed ((W.setCell ⟨w.heap.size + 3, 0, none⟩ (.int .i64 (mx : Int))).setCell ⟨w.heap.size + 4, 0, none⟩ (.bool true)) (w.heap.size + 3) 3 (.int .i64 (mx : Int)) := (heap_setCell_other _ ⟨w.heap.size + 4, 0, none⟩ (w.heap.size + 3) _ (by simp)).trans k3
      have hkk : KeepsOthers W ((W.setCell ⟨w.heap.size + 3, 0, none⟩ (.int .i64 (mx : Int))).setCell ⟨w.heap.size + 4, 0, none⟩ (.bool true)) := (KeepsOthers.setCell _ _ _).trans (KeepsOthers.setCell _ _ _)
      refine ⟨hkk.from _, ⟨rfl, pre.map (·.1), (ra, rm), by rw [List.map_append]; rfl, Hp.out, Hfd.out, by simp only; rw [← Hmx.out]; exact j3, j4⟩, ?_⟩
      exact ((Hb3.out.trans (HBB.out.mono (by omega))).setCell (by simp) _).setCell (by simp) _
    · have hfd : fitB many near (ra, rm) = false := by unfold fitB; simp only; rw [em]; exact decide_eq_false hf
      have Hfd := Lib.hid hfd
      have hff : (many ≤ (ra : Int) + (rm : Int) - (mx : Int)) = False := eq_false hf
      have hfg : decide (many ≤ (ra : Int) + (rm : Int) - (mx : Int)) = false := decide_eq_false hf
      clear hfd hf
      gi_wp2_with fail
      refine ⟨(KeepsOthers.refl _).from _, fun h => h, fun r hr => ?_, HBB.out⟩
      rw [List.map_append, List.mem_append] at hr
      rcases hr with hr | hr
      · exact Hp.out r hr
      · have : r = (ra, rm) := by simpa using hr
        rw [this]; exact Hfd.out
  case done =>
    rintro D xs W hD hS ⟨hp, hB⟩ hK
    rw [hS] at hp
    have hr0 : res = none := by
      rw [Hres.out]
      unfold nextV
      rw [List.find?_eq_none.mpr (fun r hr => by rw [hp r hr]; simp)]
      rfl
    have z3 : Boxed W (w.heap.size + 3) 3 (.int .i64 0) := (hB.block _ HX3.out.lt).trans HX3.out
    have z4 : Boxed W (w.heap.size + 4) 4 (.bool false) := (hB.block _ HX4.out.lt).trans HX4.out
    have y3 := z3.cell
    have y4 := z4.cell
    have f3 := z3.frozen
    have f4 := z4.frozen
    have Hz := Lib.hid (And.intro z3 z4)
    have HK := Lib.hid hK
    have Hb := Lib.hid (Hb3.out.trans (hB.mono (by omega)))
    have Hr0 := Lib.hid hr0
    clear hp hB hK hS z3 z4 hr0 HX1 HX2 HX3 HX4 HRA
    gi_wp2_with fail
    have k3 : Boxed (W.setCell ⟨w.heap.size + 3, 0, none⟩ (.int .i64 0)) (w.heap.size + 3) 3 (.int .i64 0) := Hz.out.1.set _
    have k4 : Boxed (W.setCell ⟨w.heap.size + 3, 0, none⟩ (.int .i64 0)) (w.heap.size + 4) 4 (.bool false) := (heap_setCell_other W ⟨w.heap.size + 3, 0, none⟩ (w.heap.size + 4) _ (by simp)).trans Hz.out.2
    have j4 := k4.set (.bool false)
    have j3 : Boxed ((W.setCell ⟨w.heap.size + 3, 0, none⟩ (.int .i64 0)).setCell ⟨w.heap.size + 4, 0, none⟩ (.bool false)) (w.heap.size + 3) 3 (.int .i64 0) := (heap_setCell_other _ ⟨w.heap.size + 4, 0, none⟩ (w.heap.size + 3) _ (by simp)).trans k3
    have hb4 : Below w.heap.size w ((W.setCell ⟨w.heap.size + 3, 0, none⟩ (.int .i64 0)).setCell ⟨w.heap.size + 4, 0, none⟩ (.bool false)) := (Hb.out.setCell (by simp) _).setCell (by simp) _
    have hk4 : ((W.setCell ⟨w.heap.size + 3, 0, none⟩ (.int .i64 0)).setCell ⟨w.heap.size + 4, 0, none⟩ (.bool false)).heap[D]? = some (.deferred (some [])) := (heap_setCell_other _ _ D _ (by simp; omega)).trans ((heap_setCell_other _ _ D _ (by simp; omega)).trans HK.out)
    clear y3 y4 f3 f4 k3 k4
    generalize (W.setCell ⟨w.heap.size + 3, 0, none⟩ (.int .i64 0)).setCell ⟨w.heap.size + 4, 0, none⟩ (.bool false) = w4 at *
    refine ⟨by simp, .inl ⟨_, _, rfl, run_takeDeferred hk4, ?_⟩⟩
    have u3 := (show Boxed (w4.putObj D (.deferred none)) (w.heap.size + 3) 3 (.int .i64 0) from (World.putObj_heap_other (by omega)).trans j3).cell
    have u4 := (show Boxed (w4.putObj D (.deferred none)) (w.heap.size + 4) 4 (.bool false) from (World.putObj_heap_other (by omega)).trans j4).cell
    have HZ : Hid (Below w.heap.size w (w4.putObj D (.deferred none))) := Lib.hid (hb4.trans (belowK_b (w := w) (Nat.le_refl _) w4 D _ _ (by omega) hk4 rfl rfl))
    clear j3 j4 hb4 hk4
    simp [LeavesInM, LeavesIn, results, Tryd.results102, go_sem, u3, u4, Hr0.out]
    exact HZ.out
  case stop =>
    rintro D cc pre W hD hSp ⟨⟨rfl, l1, x, e1, e2, e3, hx3, hx4⟩, hb⟩ hK
    have hr0 : res = some (max x.1 near) := by
      rw [Hres.out]
      unfold nextV
      rw [e1] at hSp
      rw [find_first hSp e2 e3]
      rfl
    have Hr0 := Lib.hid hr0
    have HX3' := Lib.hid hx3
    have HX4' := Lib.hid hx4
    have Hb := Lib.hid hb
    have HK := Lib.hid hK
    clear hr0 hx3 hx4 hb hK hSp e1 e2 e3 HX1 HX2 HX3 HX4 HRA
    gi_wp2_with fail
    refine ⟨by simp, .inl ⟨_, _, rfl, run_takeDeferred HK.out, ?_⟩⟩
    have u3 := (show Boxed (W.putObj D (.deferred none)) (w.heap.size + 3) 3 (.int .i64 ((max x.1 near : Nat) : Int)) from (World.putObj_heap_other (by omega)).trans HX3'.out).cell
    have u4 := (show Boxed (W.putObj D (.deferred none)) (w.heap.size + 4) 4 (.bool true) from (World.putObj_heap_other (by omega)).trans HX4'.out).cell
    have HZ : Hid (Below w.heap.size w (W.putObj D (.deferred none))) := Lib.hid (Hb.out.trans (belowK_b (w := w) (Nat.le_refl _) W D _ _ (by omega) HK.out rfl rfl))
    obtain ⟨mx, hmx⟩ : ∃ m, m = max x.1 near := ⟨_, rfl⟩
    rw [← hmx] at u3 Hr0
    simp [LeavesInM, LeavesIn, results, Tryd.results102, go_sem, u3, u4, Hr0.out]
    exact HZ.out
end Go.Proofs.YthognmkjoekilaaDoor

/- ways: the table of ways to find a place. -/
namespace Go.Proofs.YthognmkjoekilaaDoor
set_option linter.unusedVariables false
open Go.RowKit Go.Shelf

set_option maxRecDepth 100000 in
set_option maxHeartbeats 1000000 in
theorem ways1_any (M : Nat) (a : Option Addr) (l c : Nat) (bs : List Int) (many near : Int) (w : World) (hr : Rd w a l c bs) (hv : validB (M : Int) bs = true) :
    Calls Tryd.prog 101 #[.agg #[.int .i64 (M : Int), .slice a l c], .int .i64 many, .int .i64 near] w fun e w' => e = .returned (.tuple #[.int .i64 ((nextV bs M many 0).getD 0 : Nat), .bool (nextV bs M many 0).isSome]) ∧ Below w.heap.size w w' := by
  obtain ⟨W0, hW0⟩ : ∃ W0, w.alloc (.cells #[.int .i64 (M : Int), .slice a l c] 24) = W0 := ⟨_, rfl⟩
  have hb0 : Below w.heap.size w W0 := by rw [← hW0]; exact (Below.refl _ w).alloc (Nat.le_refl _) _
  have hB : Blk W0 w.heap.size 24 #[.int .i64 (M : Int), .slice a l c] := by rw [← hW0]; exact heap_new w _
  have q0 : W0.cell? ⟨w.heap.size, 0, none⟩ = some (.int .i64 (M : Int)) := hB.cell 0
  have q1 : W0.cell? ⟨w.heap.size, 1, none⟩ = some (.slice a l c) := hB.cell 1
  have C := Lib.hid (next_any M a l c bs many 0 W0 (hr.below hb0 (Nat.le_refl _)) hv (Nat.zero_le _))
  obtain ⟨r, hr'⟩ : ∃ r, r = nextV bs M many 0 := ⟨_, rfl⟩
  rw [← hr'] at C ⊢
  have HW := Lib.hid hW0
  have Hb := Lib.hid hb0
  clear hW0 hB hb0 hr hv hr'
  go_enter Tryd.func101, Tryd.ntmps101
  go_upto_region 1 with fail
  rw [HW.out]
  go_wp2_with fail
  refine C.out.mono ?_
  rintro e w1 ⟨rfl, hb1⟩
  have HZ := Lib.hid (Hb.out.trans (hb1.mono Hb.out.size))
  clear hb1 C
  go_wp2_with fail
  go_ret2
  exact ⟨rfl, HZ.out⟩
theorem wpList_store_new {P : Program} {w : World} {ops : Array Oper} {rest : List Oper} {o : Oper} {a : Act} {Q : Exit → Act → World → Prop} (hgd : o.guard = none) (ty : TypeId) (x y : Operand) (ho : o.op = .store ty x y)
    (cells : Array Value) (hx : a.eval x = .pointer (some ⟨w.heap.size, 0, none⟩)) (hy : a.eval y = .agg cells)
    (t : TypeId) (old : Array Value) (hi : (P.info? ty).map (·.size) = some cells.size) (hold : old.size = cells.size) (h1 : cells.all (·.oneCell') = true)
    (h : wpList P ops Q rest (a.put o.dst undef) (w.alloc (.cells cells t))) : wpList P ops Q (o :: rest) a (w.alloc (.cells old t)) :=
  wpList_plain hgd fun _ hK => wp_store_row ty x y ho w.heap.size cells hx hy t old (heap_alloc_last w _) hi hold h1 (by rw [World.setRow_alloc_new]; exact hK _ _ h)

theorem wpList_store_newAt {P : Program} {w : World} {ops : Array Oper} {rest : List Oper} {o : Oper} {a : Act} {Q : Exit → Act → World → Prop} (hgd : o.guard = none) (ty : TypeId) (x y : Operand) (ho : o.op = .store ty x y)
    (cells : Array Value) (g : Nat) (hN : w.heap.size = g) (hx : a.eval x = .pointer (some ⟨g, 0, none⟩)) (hy : a.eval y = .agg cells)
    (t : TypeId) (old : Array Value) (hi : (P.info? ty).map (·.size) = some cells.size) (hold : old.size = cells.size) (h1 : cells.all (·.oneCell') = true)
    (h : wpList P ops Q rest (a.put o.dst undef) (w.alloc (.cells cells t))) : wpList P ops Q (o :: rest) a (w.alloc (.cells old t)) := by
  subst hN
  exact wpList_store_new hgd ty x y ho cells hx hy t old hi hold h1 h

/-- The table. -/
def wayTab : Array Value := #[.nilFunc, .int .i64 0, .func (.func 101) #[] #[], .int .i64 0, .func (.func 103) #[] #[], .int .i64 0, .func (.func 102) #[] #[], .int .i64 1]
theorem Tryd.sizeWays : (Tryd.prog.info? 110).map (·.size) = some wayTab.size := by kernel_rfl
set_option maxRecDepth 100000 in
set_option maxHeartbeats 2000000 in
theorem ways_any (w : World) : Calls Tryd.prog 94 #[] w fun e w' => e = .returned (.agg wayTab) ∧ w.alloc (.cells wayTab 110) = w' := by
  go_enter Tryd.func94, Tryd.ntmps94
  go_wp2_with (first
    | (refine wpList_store_new (by rfl) 110 (.tmp 0) (.tmp 4) rfl wayTab rfl rfl 110 _ Tryd.sizeWays (by kernel_rfl) (by kernel_rfl) ?_))
  refine bodyPost_ret (v := .agg wayTab) ?_ rfl ⟨rfl, rfl⟩
  exact results_cell_row rfl _ _ w.heap.size 110 wayTab (0, 0) _ rfl (heap_alloc_last w _) Tryd.underlying110 rfl Tryd.sizeWays
end Go.Proofs.YthognmkjoekilaaDoor

/- find: a place, by one way after another. -/
namespace Go.Proofs.YthognmkjoekilaaDoor
set_option linter.unusedVariables false
open Go.RowKit Go.Shelf

/-- The place that find answers, where best would answer bst. -/
def findV (bs : List Int) (M : Nat) (many : Int) (near : Nat) (bst : Option Nat) (how : Nat) : Option Nat :=
  if how = 3 then (match nextV bs M many near with | some x => some x | none => nextV bs M many 0) else if how = 1 then nextV bs M many 0 else bst
set_option maxRecDepth 100000 in
set_option maxHeartbeats 4000000 in
theorem find_any (M : Nat) (a : Option Addr) (l c : Nat) (bs : List Int) (many : Int) (near how : Nat) (bst : Option Nat) (w : World) (hr : Rd w a l c bs) (hv : validB (M : Int) bs = true) (hn_near : near ≤ M) (h1 : 1 ≤ how) (h3 : how ≤ 3)
    (hbest : how = 2 → ∀ W, Below w.heap.size w W → Calls Tryd.prog 103 #[.agg #[.int .i64 (M : Int), .slice a l c], .int .i64 many, .int .i64 (near : Int)] W fun e w' => e = .returned (.tuple #[.int .i64 (bst.getD 0 : Nat), .bool bst.isSome]) ∧ Below W.heap.size W w') :
    Calls Tryd.prog 79 #[.agg #[.int .i64 (M : Int), .slice a l c], .int .i64 many, .int .i64 (how : Int), .int .i64 (near : Int)] w fun e w' => e = .returned (.tuple #[.int .i64 ((findV bs M many near bst how).getD 0 : Nat), .bool (findV bs M many near bst how).isSome]) ∧ Below w.heap.size w w' := by
  obtain ⟨W0, hW0⟩ : ∃ W0, w.alloc (.cells #[.int .i64 (M : Int), .slice a l c] 24) = W0 := ⟨_, rfl⟩
  have hb0 : Below w.heap.size w W0 := by rw [← hW0]; exact (Below.refl _ w).alloc (Nat.le_refl _) _
  have hB0 : Blk W0 w.heap.size 24 #[.int .i64 (M : Int), .slice a l c] := by rw [← hW0]; exact heap_new w _
  have hs0 : W0.heap.size = w.heap.size + 1 := by rw [← hW0]; simp
  obtain ⟨V, hV⟩ : ∃ V, V = (W0.alloc (.cells wayTab 110)).alloc (.cells wayTab 110) := ⟨_, rfl⟩
  have hbV : Below W0.heap.size W0 V := by rw [hV]; exact ((Below.refl _ W0).alloc (Nat.le_refl _) _).alloc (by simp) _
  have hTV : Blk V (w.heap.size + 2) 110 wayTab := by
    rw [hV]; have := heap_new (W0.alloc (.cells wayTab 110)) (.cells wayTab 110); rw [World.size_alloc, hs0] at this; exact this
  have hbwV := hb0.trans (hbV.mono (by omega))
  have HW := Lib.hid hW0
  have HV := Lib.hid hV
  have HbwV := Lib.hid hbwV
  have HBV := Lib.hid (hB0.below hbV hB0.lt)
  have HTV := Lib.hid hTV
  have HRw := Lib.hid hr
  have Hv := Lib.hid hv
  have Hbest := Lib.hid hbest
  have Hs0 := Lib.hid hs0
  obtain ⟨res, hres⟩ : ∃ r, r = findV bs M many near bst how := ⟨_, rfl⟩
  rw [← hres]
  have Hres := Lib.hid hres
  clear hW0 hb0 hB0 hs0 hV hbV hTV hbwV hr hv hbest hres
  go_enter Tryd.func79, Tryd.ntmps79
  go_upto_region 1 with fail
  rw [HW.out]
  go_wp2_with (first
    | (go_at_call 94; refine (ways_any _).mono ?_; rintro e w1 ⟨rfl, rfl⟩)
    | (refine wpList_store_newAt (by rfl) 110 (.tmp 10) (.tmp 11) rfl wayTab (W0.heap.size + 1) (by simp) rfl rfl 110 _ Tryd.sizeWays (by kernel_rfl) (by kernel_rfl) ?_))
  rw [← HV.out, Hs0.out]
  simp only [Act.put]
  rw [show w.heap.size + 1 + 1 = w.heap.size + 2 from rfl]
  go_loopw [2, 8, 9] (fun h x f wr => ∃ (hn : Nat) (r : Option Nat), h = .int .i64 (hn : Int) ∧ x = .int .i64 (r.getD 0 : Nat) ∧ f = .bool r.isSome ∧ Below V.heap.size V wr ∧ ((hn = how ∧ r = none) ∨ (hn = 0 ∧ r = res) ∨ (hn = 1 ∧ how = 3 ∧ r = nextV bs M many near))) (fun h _ _ _ => (intOf h).toNat)
  case atStart => exact ⟨how, none, rfl, rfl, rfl, Below.refl _ _, .inl ⟨rfl, rfl⟩⟩
  case round =>
    obtain ⟨hn, r, rfl, rfl, rfl, hbr, hst⟩ := hrel
    have HVr := Lib.hid hbr
    have HT := Lib.hid (HTV.out.below hbr HTV.out.lt)
    have HB := Lib.hid (HBV.out.below hbr HBV.out.lt)
    have hbw := HbwV.out.trans (hbr.mono HbwV.out.size)
    have HRr := Lib.hid (HRw.out.below hbw (Nat.le_refl _))
    have Hbw := Lib.hid hbw
    clear hbr hbw HTV HBV HW HV
    have hres1 : how = 1 → res = nextV bs M many 0 := fun h => by rw [Hres.out]; unfold findV; rw [if_neg (by omega), if_pos h]
    have hres2 : how = 2 → res = bst := fun h => by rw [Hres.out]; unfold findV; rw [if_neg (by omega), if_neg (by omega)]
    have hres3 : how = 3 → nextV bs M many near = none → res = nextV bs M many 0 := fun h h0 => by rw [Hres.out]; unfold findV; rw [if_pos h, h0]
    have hres4 : how = 3 → ∀ x, nextV bs M many near = some x → res = some x := fun h x h0 => by rw [Hres.out]; unfold findV; rw [if_pos h, h0]
    have Hr1 := Lib.hid (And.intro hres1 (And.intro hres2 (And.intro hres3 hres4)))
    have Hst := Lib.hid hst
    clear hres1 hres2 hres3 hres4 hst
    by_cases hgo : hn ≠ 0 ∧ r = none
    · obtain ⟨hn0, rfl⟩ := hgo
      have hcase : hn = 1 ∨ hn = 2 ∨ hn = 3 := by rcases Hst.out with ⟨h, -⟩ | ⟨h, -⟩ | ⟨h, -⟩ <;> omega
      rcases hcase with rfl | rfl | rfl
      · have hfin : nextV bs M many 0 = res := by
          rcases Hst.out with ⟨h, -⟩ | ⟨h, -⟩ | ⟨-, h, h'⟩
          · exact (Hr1.out.1 h.symm).symm
          · omega
          · exact (Hr1.out.2.2.1 h h'.symm).symm
        have Hfin := Lib.hid hfin
        clear hfin hn0
        simp only [Option.getD_none, Option.isSome_none]
        go_wp2_with fail
        refine wp_region_held_drew (S := Below wr.heap.size wr) (by kernel_rfl) (Below.refl _ _).drew (fun _ => ?_)
        have HS : Hid (Below wr.heap.size wr wr.drew) := Lib.hid (Below.refl _ _).drew
        refine wpAnyH_take (i := 0) (v := .int .i64 1) rfl (by kernel_rfl) (by kernel_rfl) (by kernel_rfl) (fun _ _ _ h => h) (Or.inl ⟨by rfl, ?_⟩) HS.out ?_
        · intro u hu; go_simp
        go_simp
        refine wpAnyH_take (i := 1) (v := .pointer (some ⟨w.heap.size + 2, 2, none⟩)) rfl (by kernel_rfl) (by kernel_rfl) (by kernel_rfl) (fun _ _ _ h => h) (Or.inl ⟨by rfl, ?_⟩) HS.out ?_
        · intro u hu; go_simp
        go_simp
        refine wpAnyH_take (i := 2) (v := .pointer (some ⟨w.heap.size + 2, 2, none⟩)) rfl (by kernel_rfl) (by kernel_rfl) (by kernel_rfl) (fun _ _ _ h => h) (Or.inl ⟨by rfl, ?_⟩) HS.out ?_
        · intro u hu; go_simp
        go_simp
        refine wpAnyH_take (i := 3) (v := .func (.func 101) #[] #[]) rfl (by kernel_rfl) (by kernel_rfl) (by kernel_rfl) (fun _ _ _ h => h) (Or.inl ⟨by rfl, ?_⟩) HS.out ?_
        · intro u hu; have : u.cell? ⟨w.heap.size + 2, 2, none⟩ = some (.func (.func 101) #[] #[]) := (HT.out.below hu HT.out.lt).cell 2; go_simp
        go_simp
        refine wpAnyH_take (i := 4) (v := .agg #[.int .i64 (M : Int), .slice a l c]) rfl (by kernel_rfl) (by kernel_rfl) (by kernel_rfl) (fun _ _ _ h => h) (Or.inl ⟨by rfl, ?_⟩) HS.out ?_
        · intro u hu; have : u.cell? ⟨w.heap.size, 0, none⟩ = some (.int .i64 (M : Int)) := (HB.out.below hu HB.out.lt).cell 0; have : u.cell? ⟨w.heap.size, 1, none⟩ = some (.slice a l c) := (HB.out.below hu HB.out.lt).cell 1; go_simp
        go_simp
        refine wpAnyH_take (i := 5) (v := .int .i64 many) rfl (by kernel_rfl) (by kernel_rfl) (by kernel_rfl) (fun _ _ _ h => h) (Or.inl ⟨by rfl, ?_⟩) HS.out ?_
        · intro u hu; go_simp
        go_simp
        refine wpAnyH_take (i := 6) (v := .int .i64 (near : Int)) rfl (by kernel_rfl) (by kernel_rfl) (by kernel_rfl) (fun _ _ _ h => h) (Or.inl ⟨by rfl, ?_⟩) HS.out ?_
        · intro u hu; go_simp
        go_simp
        refine wpAnyH_ready (rs := [7]) (by kernel_rfl) (by simp) ?_
        refine AllReadyH.cons rfl (fun K hK => ?_) AllReadyH.nil
        go_simp
        refine (ways1_any M a l c bs many near wr.drew (HRr.out.drew) Hv.out).mono ?_
        rintro e u ⟨rfl, hb⟩
        have HS2 : Hid (Below wr.heap.size wr u) := Lib.hid (HS.out.trans (hb.mono HS.out.size))
        clear HS hb
        have HS := HS2
        clear HS2
        refine hK.out _ _ HS.out (fun _ => ?_)
        clear hK K
        refine wpAnyH_take (i := 8) (v := .tuple #[.int .i64 ((nextV bs M many 0).getD 0 : Nat), .bool (nextV bs M many 0).isSome]) rfl (by kernel_rfl) (by kernel_rfl) (by kernel_rfl) (fun _ _ _ h => h) (Or.inl ⟨by rfl, ?_⟩) HS.out ?_
        · intro u hu; go_simp
        go_simp
        refine wpAnyH_take (i := 9) (v := .int .i64 ((nextV bs M many 0).getD 0 : Nat)) rfl (by kernel_rfl) (by kernel_rfl) (by kernel_rfl) (fun _ _ _ h => h) (Or.inl ⟨by rfl, ?_⟩) HS.out ?_
        · intro u hu; go_simp
        go_simp
        refine wpAnyH_take (i := 10) (v := .bool (nextV bs M many 0).isSome) rfl (by kernel_rfl) (by kernel_rfl) (by kernel_rfl) (fun _ _ _ h => h) (Or.inl ⟨by rfl, ?_⟩) HS.out ?_
        · intro u hu; go_simp
        go_simp
        refine wpAnyH_ready (rs := [11]) (by kernel_rfl) (by simp) ?_
        refine AllReadyH.cons rfl (fun K hK => ?_) AllReadyH.nil
        go_simp
        refine hK.out _ _ HS.out (fun _ => ?_)
        clear hK K
        refine wpAnyH_ready (rs := [12]) (by kernel_rfl) (by simp) ?_
        refine AllReadyH.cons rfl (fun K hK => ?_) AllReadyH.nil
        go_simp
        refine hK.out _ _ HS.out (fun _ => ?_)
        clear hK K
        refine wpAnyH_done (by kernel_rfl) ?_ _
        have t1 : u.cell? ⟨w.heap.size + 2, 3, none⟩ = some (.int .i64 0) := (HT.out.below HS.out HT.out.lt).cell 3
        have HZ := Lib.hid (HVr.out.trans (HS.out.mono HVr.out.size))
        clear HS HT HB HVr
        go_wp2_with fail
        go_roundw
        case rel => exact ⟨0, nextV bs M many 0, rfl, rfl, rfl, HZ.out, .inr (.inl ⟨rfl, Hfin.out⟩)⟩
        case measure => decide
      · have hh2 : how = 2 := by rcases Hst.out with ⟨h, -⟩ | ⟨h, -⟩ | ⟨h, -⟩ <;> omega
        have hfin : bst = res := (Hr1.out.2.1 hh2).symm
        have Hfin := Lib.hid hfin
        clear hfin hn0
        simp only [Option.getD_none, Option.isSome_none]
        go_wp2_with fail
        refine wp_region_held_drew (S := Below wr.heap.size wr) (by kernel_rfl) (Below.refl _ _).drew (fun _ => ?_)
        have HS : Hid (Below wr.heap.size wr wr.drew) := Lib.hid (Below.refl _ _).drew
        refine wpAnyH_take (i := 0) (v := .int .i64 2) rfl (by kernel_rfl) (by kernel_rfl) (by kernel_rfl) (fun _ _ _ h => h) (Or.inl ⟨by rfl, ?_⟩) HS.out ?_
        · intro u hu; go_simp
        go_simp
        refine wpAnyH_take (i := 1) (v := .pointer (some ⟨w.heap.size + 2, 4, none⟩)) rfl (by kernel_rfl) (by kernel_rfl) (by kernel_rfl) (fun _ _ _ h => h) (Or.inl ⟨by rfl, ?_⟩) HS.out ?_
        · intro u hu; go_simp
        go_simp
        refine wpAnyH_take (i := 2) (v := .pointer (some ⟨w.heap.size + 2, 4, none⟩)) rfl (by kernel_rfl) (by kernel_rfl) (by kernel_rfl) (fun _ _ _ h => h) (Or.inl ⟨by rfl, ?_⟩) HS.out ?_
        · intro u hu; go_simp
        go_simp
        refine wpAnyH_take (i := 3) (v := .func (.func 103) #[] #[]) rfl (by kernel_rfl) (by kernel_rfl) (by kernel_rfl) (fun _ _ _ h => h) (Or.inl ⟨by rfl, ?_⟩) HS.out ?_
        · intro u hu; have : u.cell? ⟨w.heap.size + 2, 4, none⟩ = some (.func (.func 103) #[] #[]) := (HT.out.below hu HT.out.lt).cell 4; go_simp
        go_simp
        refine wpAnyH_take (i := 4) (v := .agg #[.int .i64 (M : Int), .slice a l c]) rfl (by kernel_rfl) (by kernel_rfl) (by kernel_rfl) (fun _ _ _ h => h) (Or.inl ⟨by rfl, ?_⟩) HS.out ?_
        · intro u hu; have : u.cell? ⟨w.heap.size, 0, none⟩ = some (.int .i64 (M : Int)) := (HB.out.below hu HB.out.lt).cell 0; have : u.cell? ⟨w.heap.size, 1, none⟩ = some (.slice a l c) := (HB.out.below hu HB.out.lt).cell 1; go_simp
        go_simp
        refine wpAnyH_take (i := 5) (v := .int .i64 many) rfl (by kernel_rfl) (by kernel_rfl) (by kernel_rfl) (fun _ _ _ h => h) (Or.inl ⟨by rfl, ?_⟩) HS.out ?_
        · intro u hu; go_simp
        go_simp
        refine wpAnyH_take (i := 6) (v := .int .i64 (near : Int)) rfl (by kernel_rfl) (by kernel_rfl) (by kernel_rfl) (fun _ _ _ h => h) (Or.inl ⟨by rfl, ?_⟩) HS.out ?_
        · intro u hu; go_simp
        go_simp
        refine wpAnyH_ready (rs := [7]) (by kernel_rfl) (by simp) ?_
        refine AllReadyH.cons rfl (fun K hK => ?_) AllReadyH.nil
        go_simp
        refine (Hbest.out hh2 wr.drew (Hbw.out.drew)).mono ?_
        rintro e u ⟨rfl, hb⟩
        have HS2 : Hid (Below wr.heap.size wr u) := Lib.hid (HS.out.trans (hb.mono HS.out.size))
        clear HS hb
        have HS := HS2
        clear HS2
        refine hK.out _ _ HS.out (fun _ => ?_)
        clear hK K
        refine wpAnyH_take (i := 8) (v := .tuple #[.int .i64 ((bst).getD 0 : Nat), .bool (bst).isSome]) rfl (by kernel_rfl) (by kernel_rfl) (by kernel_rfl) (fun _ _ _ h => h) (Or.inl ⟨by rfl, ?_⟩) HS.out ?_
        · intro u hu; go_simp
        go_simp
        refine wpAnyH_take (i := 9) (v := .int .i64 ((bst).getD 0 : Nat)) rfl (by kernel_rfl) (by kernel_rfl) (by kernel_rfl) (fun _ _ _ h => h) (Or.inl ⟨by rfl, ?_⟩) HS.out ?_
        · intro u hu; go_simp
        go_simp
        refine wpAnyH_take (i := 10) (v := .bool (bst).isSome) rfl (by kernel_rfl) (by kernel_rfl) (by kernel_rfl) (fun _ _ _ h => h) (Or.inl ⟨by rfl, ?_⟩) HS.out ?_
        · intro u hu; go_simp
        go_simp
        refine wpAnyH_ready (rs := [11]) (by kernel_rfl) (by simp) ?_
        refine AllReadyH.cons rfl (fun K hK => ?_) AllReadyH.nil
        go_simp
        refine hK.out _ _ HS.out (fun _ => ?_)
        clear hK K
        refine wpAnyH_ready (rs := [12]) (by kernel_rfl) (by simp) ?_
        refine AllReadyH.cons rfl (fun K hK => ?_) AllReadyH.nil
        go_simp
        refine hK.out _ _ HS.out (fun _ => ?_)
        clear hK K
        refine wpAnyH_done (by kernel_rfl) ?_ _
        have t1 : u.cell? ⟨w.heap.size + 2, 5, none⟩ = some (.int .i64 0) := (HT.out.below HS.out HT.out.lt).cell 5
        have HZ := Lib.hid (HVr.out.trans (HS.out.mono HVr.out.size))
        clear HS HT HB HVr
        go_wp2_with fail
        go_roundw
        case rel => exact ⟨0, bst, rfl, rfl, rfl, HZ.out, .inr (.inl ⟨rfl, Hfin.out⟩)⟩
        case measure => decide
      · have hh3 : how = 3 := by rcases Hst.out with ⟨h, -⟩ | ⟨h, -⟩ | ⟨h, -⟩ <;> omega
        clear hn0
        simp only [Option.getD_none, Option.isSome_none]
        go_wp2_with fail
        refine wp_region_held_drew (S := Below wr.heap.size wr) (by kernel_rfl) (Below.refl _ _).drew (fun _ => ?_)
        have HS : Hid (Below wr.heap.size wr wr.drew) := Lib.hid (Below.refl _ _).drew
        refine wpAnyH_take (i := 0) (v := .int .i64 3) rfl (by kernel_rfl) (by kernel_rfl) (by kernel_rfl) (fun _ _ _ h => h) (Or.inl ⟨by rfl, ?_⟩) HS.out ?_
        · intro u hu; go_simp
        go_simp
        refine wpAnyH_take (i := 1) (v := .pointer (some ⟨w.heap.size + 2, 6, none⟩)) rfl (by kernel_rfl) (by kernel_rfl) (by kernel_rfl) (fun _ _ _ h => h) (Or.inl ⟨by rfl, ?_⟩) HS.out ?_
        · intro u hu; go_simp
        go_simp
        refine wpAnyH_take (i := 2) (v := .pointer (some ⟨w.heap.size + 2, 6, none⟩)) rfl (by kernel_rfl) (by kernel_rfl) (by kernel_rfl) (fun _ _ _ h => h) (Or.inl ⟨by rfl, ?_⟩) HS.out ?_
        · intro u hu; go_simp
        go_simp
        refine wpAnyH_take (i := 3) (v := .func (.func 102) #[] #[]) rfl (by kernel_rfl) (by kernel_rfl) (by kernel_rfl) (fun _ _ _ h => h) (Or.inl ⟨by rfl, ?_⟩) HS.out ?_
        · intro u hu; have : u.cell? ⟨w.heap.size + 2, 6, none⟩ = some (.func (.func 102) #[] #[]) := (HT.out.below hu HT.out.lt).cell 6; go_simp
        go_simp
        refine wpAnyH_take (i := 4) (v := .agg #[.int .i64 (M : Int), .slice a l c]) rfl (by kernel_rfl) (by kernel_rfl) (by kernel_rfl) (fun _ _ _ h => h) (Or.inl ⟨by rfl, ?_⟩) HS.out ?_
        · intro u hu; have : u.cell? ⟨w.heap.size, 0, none⟩ = some (.int .i64 (M : Int)) := (HB.out.below hu HB.out.lt).cell 0; have : u.cell? ⟨w.heap.size, 1, none⟩ = some (.slice a l c) := (HB.out.below hu HB.out.lt).cell 1; go_simp
        go_simp
        refine wpAnyH_take (i := 5) (v := .int .i64 many) rfl (by kernel_rfl) (by kernel_rfl) (by kernel_rfl) (fun _ _ _ h => h) (Or.inl ⟨by rfl, ?_⟩) HS.out ?_
        · intro u hu; go_simp
        go_simp
        refine wpAnyH_take (i := 6) (v := .int .i64 (near : Int)) rfl (by kernel_rfl) (by kernel_rfl) (by kernel_rfl) (fun _ _ _ h => h) (Or.inl ⟨by rfl, ?_⟩) HS.out ?_
        · intro u hu; go_simp
        go_simp
        refine wpAnyH_ready (rs := [7]) (by kernel_rfl) (by simp) ?_
        refine AllReadyH.cons rfl (fun K hK => ?_) AllReadyH.nil
        go_simp
        refine (next_any M a l c bs many near wr.drew (HRr.out.drew) Hv.out hn_near).mono ?_
        rintro e u ⟨rfl, hb⟩
        have HS2 : Hid (Below wr.heap.size wr u) := Lib.hid (HS.out.trans (hb.mono HS.out.size))
        clear HS hb
        have HS := HS2
        clear HS2
        refine hK.out _ _ HS.out (fun _ => ?_)
        clear hK K
        refine wpAnyH_take (i := 8) (v := .tuple #[.int .i64 ((nextV bs M many near).getD 0 : Nat), .bool (nextV bs M many near).isSome]) rfl (by kernel_rfl) (by kernel_rfl) (by kernel_rfl) (fun _ _ _ h => h) (Or.inl ⟨by rfl, ?_⟩) HS.out ?_
        · intro u hu; go_simp
        go_simp
        refine wpAnyH_take (i := 9) (v := .int .i64 ((nextV bs M many near).getD 0 : Nat)) rfl (by kernel_rfl) (by kernel_rfl) (by kernel_rfl) (fun _ _ _ h => h) (Or.inl ⟨by rfl, ?_⟩) HS.out ?_
        · intro u hu; go_simp
        go_simp
        refine wpAnyH_take (i := 10) (v := .bool (nextV bs M many near).isSome) rfl (by kernel_rfl) (by kernel_rfl) (by kernel_rfl) (fun _ _ _ h => h) (Or.inl ⟨by rfl, ?_⟩) HS.out ?_
        · intro u hu; go_simp
        go_simp
        refine wpAnyH_ready (rs := [11]) (by kernel_rfl) (by simp) ?_
        refine AllReadyH.cons rfl (fun K hK => ?_) AllReadyH.nil
        go_simp
        refine hK.out _ _ HS.out (fun _ => ?_)
        clear hK K
        refine wpAnyH_ready (rs := [12]) (by kernel_rfl) (by simp) ?_
        refine AllReadyH.cons rfl (fun K hK => ?_) AllReadyH.nil
        go_simp
        refine hK.out _ _ HS.out (fun _ => ?_)
        clear hK K
        refine wpAnyH_done (by kernel_rfl) ?_ _
        have t1 : u.cell? ⟨w.heap.size + 2, 7, none⟩ = some (.int .i64 1) := (HT.out.below HS.out HT.out.lt).cell 7
        have HZ := Lib.hid (HVr.out.trans (HS.out.mono HVr.out.size))
        clear HS HT HB HVr
        go_wp2_with fail
        go_roundw
        case rel => exact ⟨1, nextV bs M many near, rfl, rfl, rfl, HZ.out, .inr (.inr ⟨rfl, hh3, rfl⟩)⟩
        case measure => decide
    · have hrr : r = res := by
        rcases Hst.out with ⟨h, h'⟩ | ⟨h, h'⟩ | ⟨h, h', h''⟩
        · exact absurd ⟨by omega, h'⟩ hgo
        · exact h'
        · cases hrc : r with
          | none => exact absurd ⟨by omega, hrc⟩ hgo
          | some x => exact (Hr1.out.2.2.2 h' x (by rw [← h'', hrc])).symm
      rw [hrr]
      have Hrr := Lib.hid hrr
      have hstop : hn = 0 ∨ r.isSome = true := by
        by_cases h0 : hn = 0
        · exact .inl h0
        · refine .inr ?_
          cases hrc : r with
          | none => exact absurd ⟨h0, hrc⟩ hgo
          | some x => rfl
      rw [hrr] at hstop
      clear hgo hrr Hst HT HB HRr
      obtain ⟨x0, hx0⟩ : ∃ x, x = res.getD 0 := ⟨_, rfl⟩
      obtain ⟨f0, hf0⟩ : ∃ f, f = res.isSome := ⟨_, rfl⟩
      rw [← hf0] at hstop ⊢
      rw [← hx0]
      have Hx0 := Lib.hid hx0
      have Hf0 := Lib.hid hf0
      clear hx0 hf0
      by_cases h0 : hn = 0
      · subst h0
        go_wp2_with fail
        go_ret2
        exact ⟨by rw [← Hx0.out, ← Hf0.out]; rfl, Hbw.out⟩
      · have hf1 : f0 = true := by rcases hstop with h | h; exact absurd h h0; exact h
        subst hf1
        have hgt : (0 : Int) < (hn : Int) := by omega
        clear hstop h0
        go_wp2_with fail
        go_ret2
        exact ⟨by rw [← Hx0.out, ← Hf0.out]; rfl, Hbw.out⟩
end Go.Proofs.YthognmkjoekilaaDoor

/- Find: a place of many clear bits. -/
namespace Go.Proofs.YthognmkjoekilaaDoor
set_option linter.unusedVariables false
open Go.RowKit Go.Shelf

set_option maxRecDepth 100000 in
set_option maxHeartbeats 2000000 in
theorem find1_bad (g0 g1 g2 g3 : Nat) (N : Int) (a : Option Addr) (l c : Nat) (bs : List Int) (many : Int) (near : Int) (how : Int) (W : World) (hB : Blk W g0 24 #[.int .i64 N, .slice a l c]) (h1 : Blk W g1 3 #[.int .i64 many]) (h2 : Blk W g2 3 #[.int .i64 near]) (h3 : Blk W g3 3 #[.int .i64 how]) (hr : Rd W a l c bs) (hN1 : -9223372036854775808 ≤ N) (hN2 : N ≤ 9223372036854775807) (hv : validB N bs = false) :
    Calls Tryd.prog 77 #[.pointer (some ⟨g0, 0, none⟩), .pointer (some ⟨g1, 0, none⟩), .pointer (some ⟨g2, 0, none⟩), .pointer (some ⟨g3, 0, none⟩)] W fun e w' => e = pan 9 ∧ Below W.heap.size W w' := by
  have q0 : W.cell? ⟨g0, 0, none⟩ = some (.int .i64 N) := hB.cell 0
  have q1 : W.cell? ⟨g0, 1, none⟩ = some (.slice a l c) := hB.cell 1
  have q2 := h1.boxed.cell
  have q3 := h2.boxed.cell
  have q4 := h3.boxed.cell
  have C := Lib.hid (needPlace_bad N a l c bs W hr hN1 hN2 many near hv)
  clear hB h1 h2 h3 hr hv
  go_enter Tryd.func77, Tryd.ntmps77
  go_wp2_with fail
  refine C.out.mono ?_
  rintro e w2 ⟨rfl, hb⟩
  exact ⟨rfl, rfl, hb⟩
set_option maxRecDepth 100000 in
set_option maxHeartbeats 2000000 in
theorem find1_rng (g0 g1 g2 g3 : Nat) (N : Int) (a : Option Addr) (l c : Nat) (bs : List Int) (many : Int) (near : Int) (how : Int) (W : World) (hB : Blk W g0 24 #[.int .i64 N, .slice a l c]) (h1 : Blk W g1 3 #[.int .i64 many]) (h2 : Blk W g2 3 #[.int .i64 near]) (h3 : Blk W g3 3 #[.int .i64 how]) (hr : Rd W a l c bs) (hN1 : -9223372036854775808 ≤ N) (hN2 : N ≤ 9223372036854775807) (hv : validB N bs = true) (hc : ¬ (1 ≤ many ∧ 0 ≤ near ∧ near ≤ N)) :
    Calls Tryd.prog 77 #[.pointer (some ⟨g0, 0, none⟩), .pointer (some ⟨g1, 0, none⟩), .pointer (some ⟨g2, 0, none⟩), .pointer (some ⟨g3, 0, none⟩)] W fun e w' => e = pan 1 ∧ Below W.heap.size W w' := by
  have q0 : W.cell? ⟨g0, 0, none⟩ = some (.int .i64 N) := hB.cell 0
  have q1 : W.cell? ⟨g0, 1, none⟩ = some (.slice a l c) := hB.cell 1
  have q2 := h1.boxed.cell
  have q3 := h2.boxed.cell
  have q4 := h3.boxed.cell
  have C := Lib.hid (needPlace_no N a l c bs W hr hN1 hN2 many near hv hc)
  clear hB h1 h2 h3 hr hv hc
  go_enter Tryd.func77, Tryd.ntmps77
  go_wp2_with fail
  refine C.out.mono ?_
  rintro e w2 ⟨rfl, hb⟩
  exact ⟨rfl, rfl, hb⟩
set_option maxRecDepth 100000 in
set_option maxHeartbeats 2000000 in
theorem find1_how (g0 g1 g2 g3 : Nat) (M : Nat) (a : Option Addr) (l c : Nat) (bs : List Int) (many : Int) (near : Nat) (how : Int) (W : World) (hB : Blk W g0 24 #[.int .i64 (M : Int), .slice a l c]) (h1 : Blk W g1 3 #[.int .i64 many]) (h2 : Blk W g2 3 #[.int .i64 (near : Int)]) (h3 : Blk W g3 3 #[.int .i64 how]) (hr : Rd W a l c bs) (hv : validB (M : Int) bs = true) (hm1 : 1 ≤ many) (hnear : near ≤ M) (hc : ¬ (1 ≤ how ∧ how ≤ 3)) :
    Calls Tryd.prog 77 #[.pointer (some ⟨g0, 0, none⟩), .pointer (some ⟨g1, 0, none⟩), .pointer (some ⟨g2, 0, none⟩), .pointer (some ⟨g3, 0, none⟩)] W fun e w' => e = pan 1 ∧ Below W.heap.size W w' := by
  have q0 : W.cell? ⟨g0, 0, none⟩ = some (.int .i64 (M : Int)) := hB.cell 0
  have q1 : W.cell? ⟨g0, 1, none⟩ = some (.slice a l c) := hB.cell 1
  have q2 := h1.boxed.cell
  have q3 := h2.boxed.cell
  have q4 := h3.boxed.cell
  have hM6 : (M : Int) ≤ 65536 := by have := (validB_iff (M : Int) bs).mp hv; omega
  have C := Lib.hid (needPlace_yes M a l c bs W hr (by omega) (by omega) many near hv ⟨hm1, by omega, by omega⟩)
  have HB := Lib.hid hB
  have H1 := Lib.hid h1
  have H2 := Lib.hid h2
  have H3 := Lib.hid h3
  have HR := Lib.hid hr
  have Hv := Lib.hid hv
  clear hB h1 h2 h3 hr hv
  go_enter Tryd.func77, Tryd.ntmps77
  go_wp2_with fail
  refine C.out.mono ?_
  rintro e w1 ⟨rfl, hb1⟩
  have hB1 := HB.out.below hb1 HB.out.lt
  have p0 : w1.cell? ⟨g0, 0, none⟩ = some (.int .i64 (M : Int)) := hB1.cell 0
  have p1 : w1.cell? ⟨g0, 1, none⟩ = some (.slice a l c) := hB1.cell 1
  have p2 := (H1.out.below hb1 H1.out.lt).boxed.cell
  have p3 := (H2.out.below hb1 H2.out.lt).boxed.cell
  have p4 := (H3.out.below hb1 H3.out.lt).boxed.cell
  have HR1 := Lib.hid (HR.out.below hb1 (Nat.le_refl _))
  have Hb1 := Lib.hid hb1
  clear hb1 hB1 C HB H1 H2 H3 HR q0 q1 q2 q3 q4
  by_cases c1 : 1 ≤ how
  · have c2 : (how ≤ 3) = False := eq_false (fun h => hc ⟨c1, h⟩)
    have c3 : decide (how ≤ 3) = false := by simp [c2]
    clear hc
    go_wp2_with fail
    refine (need_no _ _).mono ?_
    rintro e w2 ⟨rfl, rfl⟩
    exact ⟨rfl, rfl, Hb1.out⟩
  · clear hc
    go_wp2_with fail
    refine (need_no _ _).mono ?_
    rintro e w2 ⟨rfl, rfl⟩
    exact ⟨rfl, rfl, Hb1.out⟩
set_option maxRecDepth 100000 in
set_option maxHeartbeats 2000000 in
theorem find1_none (g0 g1 g2 g3 : Nat) (M : Nat) (a : Option Addr) (l c : Nat) (bs : List Int) (many : Int) (near : Nat) (how : Nat) (W : World) (hB : Blk W g0 24 #[.int .i64 (M : Int), .slice a l c]) (h1 : Blk W g1 3 #[.int .i64 many]) (h2 : Blk W g2 3 #[.int .i64 (near : Int)]) (h3 : Blk W g3 3 #[.int .i64 (how : Int)]) (hr : Rd W a l c bs) (hv : validB (M : Int) bs = true) (hm1 : 1 ≤ many) (hnear : near ≤ M) (bst : Option Nat) (hh1 : 1 ≤ how) (hh3 : how ≤ 3)
    (hbest : how = 2 → ∀ V, Below W.heap.size W V → Calls Tryd.prog 103 #[.agg #[.int .i64 (M : Int), .slice a l c], .int .i64 many, .int .i64 (near : Int)] V fun e w' => e = .returned (.tuple #[.int .i64 (bst.getD 0 : Nat), .bool bst.isSome]) ∧ Below V.heap.size V w') (hf : findV bs M many near bst how = none) :
    Calls Tryd.prog 77 #[.pointer (some ⟨g0, 0, none⟩), .pointer (some ⟨g1, 0, none⟩), .pointer (some ⟨g2, 0, none⟩), .pointer (some ⟨g3, 0, none⟩)] W fun e w' => e = pan 3 ∧ Below W.heap.size W w' := by
  have q0 : W.cell? ⟨g0, 0, none⟩ = some (.int .i64 (M : Int)) := hB.cell 0
  have q1 : W.cell? ⟨g0, 1, none⟩ = some (.slice a l c) := hB.cell 1
  have q2 := h1.boxed.cell
  have q3 := h2.boxed.cell
  have q4 := h3.boxed.cell
  have hM6 : (M : Int) ≤ 65536 := by have := (validB_iff (M : Int) bs).mp hv; omega
  have C := Lib.hid (needPlace_yes M a l c bs W hr (by omega) (by omega) many near hv ⟨hm1, by omega, by omega⟩)
  have HB := Lib.hid hB
  have H1 := Lib.hid h1
  have H2 := Lib.hid h2
  have H3 := Lib.hid h3
  have HR := Lib.hid hr
  have Hv := Lib.hid hv
  clear hB h1 h2 h3 hr hv
  go_enter Tryd.func77, Tryd.ntmps77
  go_wp2_with fail
  refine C.out.mono ?_
  rintro e w1 ⟨rfl, hb1⟩
  have hB1 := HB.out.below hb1 HB.out.lt
  have p0 : w1.cell? ⟨g0, 0, none⟩ = some (.int .i64 (M : Int)) := hB1.cell 0
  have p1 : w1.cell? ⟨g0, 1, none⟩ = some (.slice a l c) := hB1.cell 1
  have p2 := (H1.out.below hb1 H1.out.lt).boxed.cell
  have p3 := (H2.out.below hb1 H2.out.lt).boxed.cell
  have p4 := (H3.out.below hb1 H3.out.lt).boxed.cell
  have HR1 := Lib.hid (HR.out.below hb1 (Nat.le_refl _))
  have Hb1 := Lib.hid hb1
  clear hb1 hB1 C HB H1 H2 H3 HR q0 q1 q2 q3 q4
  have hg1 : (1 : Int) ≤ (how : Int) := by omega
  have hg3 : (how : Int) ≤ 3 := by omega
  have C2 := find_any M a l c bs many near how bst w1 HR1.out Hv.out hnear hh1 hh3 (fun h V hV => hbest h V (Hb1.out.trans (hV.mono Hb1.out.size)))
  rw [hf] at C2
  have HC2 := Lib.hid C2
  clear C2 hf hbest
  go_wp2_with fail
  refine (need_yes _ _).mono ?_
  rintro e w2 ⟨rfl, rfl⟩
  go_wp2_with fail
  refine HC2.out.mono ?_
  rintro e w2 ⟨rfl, hb2⟩
  have HZ := Lib.hid (Hb1.out.trans (hb2.mono Hb1.out.size))
  clear hb2 HC2 p0 p1 p2 p3 p4
  simp only [Option.getD_none, Option.isSome_none, Option.getD_some, Option.isSome_some]
  go_wp2_with fail
  refine (need_no _ _).mono ?_
  rintro e w3 ⟨rfl, rfl⟩
  exact ⟨rfl, rfl, HZ.out⟩
set_option maxRecDepth 100000 in
set_option maxHeartbeats 2000000 in
theorem find1_ok (g0 g1 g2 g3 : Nat) (M : Nat) (a : Option Addr) (l c : Nat) (bs : List Int) (many : Int) (near : Nat) (how : Nat) (W : World) (hB : Blk W g0 24 #[.int .i64 (M : Int), .slice a l c]) (h1 : Blk W g1 3 #[.int .i64 many]) (h2 : Blk W g2 3 #[.int .i64 (near : Int)]) (h3 : Blk W g3 3 #[.int .i64 (how : Int)]) (hr : Rd W a l c bs) (hv : validB (M : Int) bs = true) (hm1 : 1 ≤ many) (hnear : near ≤ M) (bst : Option Nat) (hh1 : 1 ≤ how) (hh3 : how ≤ 3)
    (hbest : how = 2 → ∀ V, Below W.heap.size W V → Calls Tryd.prog 103 #[.agg #[.int .i64 (M : Int), .slice a l c], .int .i64 many, .int .i64 (near : Int)] V fun e w' => e = .returned (.tuple #[.int .i64 (bst.getD 0 : Nat), .bool bst.isSome]) ∧ Below V.heap.size V w') (x : Nat) (hf : findV bs M many near bst how = some x) :
    Calls Tryd.prog 77 #[.pointer (some ⟨g0, 0, none⟩), .pointer (some ⟨g1, 0, none⟩), .pointer (some ⟨g2, 0, none⟩), .pointer (some ⟨g3, 0, none⟩)] W fun e w' => e = .returned (.int .i64 (x : Int)) ∧ Below W.heap.size W w' := by
  have q0 : W.cell? ⟨g0, 0, none⟩ = some (.int .i64 (M : Int)) := hB.cell 0
  have q1 : W.cell? ⟨g0, 1, none⟩ = some (.slice a l c) := hB.cell 1
  have q2 := h1.boxed.cell
  have q3 := h2.boxed.cell
  have q4 := h3.boxed.cell
  have hM6 : (M : Int) ≤ 65536 := by have := (validB_iff (M : Int) bs).mp hv; omega
  have C := Lib.hid (needPlace_yes M a l c bs W hr (by omega) (by omega) many near hv ⟨hm1, by omega, by omega⟩)
  have HB := Lib.hid hB
  have H1 := Lib.hid h1
  have H2 := Lib.hid h2
  have H3 := Lib.hid h3
  have HR := Lib.hid hr
  have Hv := Lib.hid hv
  clear hB h1 h2 h3 hr hv
  go_enter Tryd.func77, Tryd.ntmps77
  go_wp2_with fail
  refine C.out.mono ?_
  rintro e w1 ⟨rfl, hb1⟩
  have hB1 := HB.out.below hb1 HB.out.lt
  have p0 : w1.cell? ⟨g0, 0, none⟩ = some (.int .i64 (M : Int)) := hB1.cell 0
  have p1 : w1.cell? ⟨g0, 1, none⟩ = some (.slice a l c) := hB1.cell 1
  have p2 := (H1.out.below hb1 H1.out.lt).boxed.cell
  have p3 := (H2.out.below hb1 H2.out.lt).boxed.cell
  have p4 := (H3.out.below hb1 H3.out.lt).boxed.cell
  have HR1 := Lib.hid (HR.out.below hb1 (Nat.le_refl _))
  have Hb1 := Lib.hid hb1
  clear hb1 hB1 C HB H1 H2 H3 HR q0 q1 q2 q3 q4
  have hg1 : (1 : Int) ≤ (how : Int) := by omega
  have hg3 : (how : Int) ≤ 3 := by omega
  have C2 := find_any M a l c bs many near how bst w1 HR1.out Hv.out hnear hh1 hh3 (fun h V hV => hbest h V (Hb1.out.trans (hV.mono Hb1.out.size)))
  rw [hf] at C2
  have HC2 := Lib.hid C2
  clear C2 hf hbest
  go_wp2_with fail
  refine (need_yes _ _).mono ?_
  rintro e w2 ⟨rfl, rfl⟩
  go_wp2_with fail
  refine HC2.out.mono ?_
  rintro e w2 ⟨rfl, hb2⟩
  have HZ := Lib.hid (Hb1.out.trans (hb2.mono Hb1.out.size))
  clear hb2 HC2 p0 p1 p2 p3 p4
  simp only [Option.getD_none, Option.isSome_none, Option.getD_some, Option.isSome_some]
  go_wp2_with fail
  refine (need_yes _ _).mono ?_
  rintro e w3 ⟨rfl, rfl⟩
  go_wp2_with fail
  refine bodyPost_ret (results_tmp rfl _ _ _) rfl ?_
  exact ⟨rfl, HZ.out⟩
end Go.Proofs.YthognmkjoekilaaDoor

/- join: what a function answers of each two bytes. -/
namespace Go.Proofs.YthognmkjoekilaaDoor
set_option linter.unusedVariables false
open Go.RowKit Go.Shelf

/-- The first k bytes joined, the others clear. -/
def joinN (φ : Int → Int → Int) (xs ys : List Int) (n k : Nat) : List Int := (List.range n).map fun i => if i < k then φ (xs.getD i 0) (ys.getD i 0) else 0
theorem joinN_len (φ : Int → Int → Int) (xs ys : List Int) (n k : Nat) : (joinN φ xs ys n k).length = n := by simp [joinN]
theorem joinN_zero (φ : Int → Int → Int) (xs ys : List Int) (n : Nat) : joinN φ xs ys n 0 = List.replicate n 0 := by
  apply List.ext_getElem (by simp [joinN])
  intro i h1 h2
  simp [joinN]
theorem joinN_next (φ : Int → Int → Int) (xs ys : List Int) (n k : Nat) (hk : k < n) : joinN φ xs ys n (k + 1) = (joinN φ xs ys n k).set k (φ (xs.getD k 0) (ys.getD k 0)) := by
  apply List.ext_getElem (by simp [joinN])
  intro i h1 h2
  rw [List.getElem_set]
  simp only [joinN, List.getElem_map, List.getElem_range]
  by_cases hik : k = i
  · subst hik; simp
  · rw [if_neg hik]
    by_cases h3 : i < k
    · rw [if_pos (by omega), if_pos h3]
    · rw [if_neg (by omega), if_neg h3]
set_option maxRecDepth 100000 in
set_option maxHeartbeats 4000000 in
theorem join_any (φ : Int → Int → Int) (f : FuncId) (a b : Option Addr) (n ca m cb : Nat) (xs ys : List Int) (w : World) (hx : Rd w a n ca xs) (hy : Rd w b m cb ys) (hnm : n ≤ m) (hn9 : n ≤ 9000)
    (hent : ∀ (args : Array Value) (w : World), (callFunc f args).run Tryd.prog w = .ok (.enter f args) w)
    (hf : ∀ x y, (0 ≤ x ∧ x ≤ 255) → (0 ≤ y ∧ y ≤ 255) → ∀ W, Calls Tryd.prog f #[.int .u8 x, .int .u8 y] W fun e w' => e = .returned (.int .u8 (φ x y)) ∧ W = w')
    (hφ : ∀ x y, (0 ≤ x ∧ x ≤ 255) → (0 ≤ y ∧ y ≤ 255) → 0 ≤ φ x y ∧ φ x y ≤ 255) :
    Calls Tryd.prog 71 #[.slice a n ca, .slice b m cb, .func (.func f) #[] #[]] w fun e w' => ∃ a', e = .returned (.slice (some a') n n) ∧ Own w' w.heap.size (.slice (some a') n n) (joinN φ xs ys n n) ∧ Below w.heap.size w w' := by
  obtain ⟨w1, hmk, ho, hb⟩ := make_bytes n hn9 w w.heap.size (Nat.le_refl _)
  rw [← joinN_zero φ xs ys n] at ho
  have hc := hx.hc
  have hm := hx.hm
  have hc2 := hy.hc
  have hm2 := hy.hm
  unfold maxLen at hm hm2
  have HX := Lib.hid hx
  have HY := Lib.hid hy
  have HO := Lib.hid ho
  have Hb := Lib.hid hb
  clear hx hy ho hb
  go_enter Tryd.func71, Tryd.ntmps71
  go_wp2_with fail
  go_loopw [14] (fun p wr => ∃ k : Nat, p = .int .i64 (k : Int) ∧ k ≤ n ∧ Own wr w.heap.size (.slice (some ⟨w.heap.size, 0, none⟩) n n) (joinN φ xs ys n k) ∧ Below w.heap.size w wr) (fun p _ => n - (intOf p).toNat)
  case atStart => exact ⟨0, rfl, Nat.zero_le _, HO.out, Hb.out⟩
  case round =>
    obtain ⟨k, rfl, hk, hOr, hbr⟩ := hrel
    have HOr := Lib.hid hOr
    have Hbr := Lib.hid hbr
    clear hOr hbr HO Hb
    by_cases hlt : k < n
    · obtain ⟨ba, oa, rfl, hcx⟩ := HX.out.hr (by omega)
      obtain ⟨bb, ob, rfl, hcy⟩ := HY.out.hr (by omega)
      have hcx := hcx k hlt
      have hcy := hcy k (by omega)
      have hbal := World.block_lt_of_cell? w _ hcx
      have hbbl := World.block_lt_of_cell? w _ hcy
      have hXb := HX.out.hb _ (getD_mem (bs := xs) (i := k) (by have := HX.out.hl; omega))
      have hYb := HY.out.hb _ (getD_mem (bs := ys) (i := k) (by have := HY.out.hl; omega))
      have hnext := joinN_next φ xs ys n k hlt
      have hcell : ∃ v, wr.cell? ⟨w.heap.size, k, none⟩ = some v := by
        have h1 := HOr.out.1
        rw [joinN_len] at h1
        refine ⟨.int .u8 ((joinN φ xs ys n k)[k]'(by rw [joinN_len]; exact hlt)), ?_⟩
        rw [h1.cellAt k (by omega), List.getElem?_map, List.getElem?_eq_getElem (by rw [joinN_len]; exact hlt)]
        rfl
      have hfro : wr.frozen? ⟨w.heap.size, k, none⟩ = false := by have h1 := HOr.out.1; rw [joinN_len] at h1; exact h1.frozenAt k
      obtain ⟨v0, hcell⟩ := hcell
      have hcell9 : wr.drew.cell? ⟨w.heap.size, k, none⟩ = some v0 := hcell
      have hfro9 : wr.drew.frozen? ⟨w.heap.size, k, none⟩ = false := hfro
      obtain ⟨X, hXv⟩ : ∃ X, X = xs.getD k 0 := ⟨_, rfl⟩
      obtain ⟨Y, hYv⟩ : ∃ Y, Y = ys.getD k 0 := ⟨_, rfl⟩
      rw [← hXv] at hXb hcx hnext
      rw [← hYv] at hYb hcy hnext
      have hki : (k : Int) < (n : Int) := by omega
      have hki2 : (k : Int) < (m : Int) := by omega
      have Hnext := Lib.hid hnext
      have hφb := Lib.hid (hφ X Y hXb hYb)
      clear hnext hXv hYv hcell hfro hmk
      · go_wp2_with fail
        refine wp_region_held_drew (S := Below w.heap.size w) (by kernel_rfl) (Hbr.out.drew) (fun _ => ?_)
        have HS : Hid (Below w.heap.size w wr.drew) := Lib.hid Hbr.out.drew
        refine wpAnyH_take (i := 0) (v := .slice (some ⟨w.heap.size, 0, none⟩) n n) rfl (by kernel_rfl) (by kernel_rfl) (by kernel_rfl) (fun _ _ _ h => h) (Or.inl ⟨by rfl, ?_⟩) HS.out ?_
        · intro u hu; go_simp
        go_simp
        refine wpAnyH_take (i := 1) (v := .int .i64 (k : Int)) rfl (by kernel_rfl) (by kernel_rfl) (by kernel_rfl) (fun _ _ _ h => h) (Or.inl ⟨by rfl, ?_⟩) HS.out ?_
        · intro u hu; go_simp
        go_simp
        refine wpAnyH_take (i := 2) (v := .func (.func f) #[] #[]) rfl (by kernel_rfl) (by kernel_rfl) (by kernel_rfl) (fun _ _ _ h => h) (Or.inl ⟨by rfl, ?_⟩) HS.out ?_
        · intro u hu; go_simp
        go_simp
        refine wpAnyH_take (i := 3) (v := .slice (some ⟨ba, oa, none⟩) n ca) rfl (by kernel_rfl) (by kernel_rfl) (by kernel_rfl) (fun _ _ _ h => h) (Or.inl ⟨by rfl, ?_⟩) HS.out ?_
        · intro u hu; go_simp
        go_simp
        refine wpAnyH_take (i := 4) (v := .int .i64 (k : Int)) rfl (by kernel_rfl) (by kernel_rfl) (by kernel_rfl) (fun _ _ _ h => h) (Or.inl ⟨by rfl, ?_⟩) HS.out ?_
        · intro u hu; go_simp
        go_simp
        refine wpAnyH_take (i := 5) (v := .pointer (some ⟨ba, oa + k, none⟩)) rfl (by kernel_rfl) (by kernel_rfl) (by kernel_rfl) (fun _ _ _ h => h) (Or.inl ⟨by rfl, ?_⟩) HS.out ?_
        · intro u hu; go_simp
        go_simp
        refine wpAnyH_take (i := 6) (v := .int .u8 X) rfl (by kernel_rfl) (by kernel_rfl) (by kernel_rfl) (fun _ _ _ h => h) (Or.inl ⟨by rfl, ?_⟩) HS.out ?_
        · intro u hu; have := (hu.cell (p := ⟨ba, oa + k, none⟩) hbal).trans hcx; go_simp
        go_simp
        refine wpAnyH_take (i := 7) (v := .slice (some ⟨bb, ob, none⟩) m cb) rfl (by kernel_rfl) (by kernel_rfl) (by kernel_rfl) (fun _ _ _ h => h) (Or.inl ⟨by rfl, ?_⟩) HS.out ?_
        · intro u hu; go_simp
        go_simp
        refine wpAnyH_take (i := 8) (v := .int .i64 (k : Int)) rfl (by kernel_rfl) (by kernel_rfl) (by kernel_rfl) (fun _ _ _ h => h) (Or.inl ⟨by rfl, ?_⟩) HS.out ?_
        · intro u hu; go_simp
        go_simp
        refine wpAnyH_take (i := 9) (v := .pointer (some ⟨bb, ob + k, none⟩)) rfl (by kernel_rfl) (by kernel_rfl) (by kernel_rfl) (fun _ _ _ h => h) (Or.inl ⟨by rfl, ?_⟩) HS.out ?_
        · intro u hu; go_simp
        go_simp
        refine wpAnyH_take (i := 10) (v := .int .u8 Y) rfl (by kernel_rfl) (by kernel_rfl) (by kernel_rfl) (fun _ _ _ h => h) (Or.inl ⟨by rfl, ?_⟩) HS.out ?_
        · intro u hu; have := (hu.cell (p := ⟨bb, ob + k, none⟩) hbbl).trans hcy; go_simp
        go_simp
        refine wpAnyH_ready (rs := [11]) (by kernel_rfl) (by simp) ?_
        refine AllReadyH.cons rfl (fun K hK => ?_) AllReadyH.nil
        go_simp
        refine (hf X Y hXb hYb wr.drew).mono ?_
        rintro e u ⟨rfl, rfl⟩
        refine hK.out _ _ HS.out (fun _ => ?_)
        clear hK K
        refine wpAnyH_take (i := 12) (v := .pointer (some ⟨w.heap.size, k, none⟩)) rfl (by kernel_rfl) (by kernel_rfl) (by kernel_rfl) (fun _ _ _ h => h) (Or.inl ⟨by rfl, ?_⟩) HS.out ?_
        · intro u hu; go_simp
        go_simp
        refine wpAnyH_ready (rs := [13]) (by kernel_rfl) (by simp) ?_
        refine AllReadyH.cons rfl (fun K hK => ?_) AllReadyH.nil
        go_simp
        have HS2 : Hid (Below w.heap.size w (wr.drew.setCell ⟨w.heap.size, k, none⟩ (.int .u8 (φ X Y)))) := Lib.hid (HS.out.setCell (Nat.le_refl _) _)
        refine hK.out _ _ HS2.out (fun _ => ?_)
        clear hK K
        refine wpAnyH_done (by kernel_rfl) ?_ _
        have hst := (show Own wr.drew w.heap.size (.slice (some ⟨w.heap.size, 0, none⟩) n n) (joinN φ xs ys n k) from HOr.out).stored (by rw [joinN_len]) k (φ X Y) hφb.out
        rw [← Hnext.out] at hst
        have HOn := Lib.hid hst
        have HS := Lib.hid HS2.out
        clear HS2 hst hcell9 hfro9 HOr Hbr
        go_wp2_with fail
        go_roundw
        case rel => exact ⟨k + 1, by go_num, by omega, HOn.out, HS.out⟩
        case measure => simp [intOf]; omega
    · obtain rfl : k = n := by omega
      clear hmk
      go_wp2_with fail
      refine bodyPost_ret (results_tmp rfl _ _ _) rfl ?_
      exact ⟨_, rfl, HOr.out, Hbr.out⟩
end Go.Proofs.YthognmkjoekilaaDoor

/- Not: the bits that are clear. -/
namespace Go.Proofs.YthognmkjoekilaaDoor
set_option linter.unusedVariables false
open Go.RowKit Go.Shelf

/-- The bits of one byte that another one has not. -/
def anF (x y : Int) : Int := ((x.toNat &&& (255 - y.toNat) : Nat) : Int)
theorem anF_bd (x y : Int) (hx : 0 ≤ x ∧ x ≤ 255) (hy : 0 ≤ y ∧ y ≤ 255) : 0 ≤ anF x y ∧ anF x y ≤ 255 := by
  unfold anF
  have := Nat.and_le_left (n := x.toNat) (m := 255 - y.toNat)
  omega
theorem anF_eq (x y : Int) (hx : 0 ≤ x ∧ x ≤ 255) (hy : 0 ≤ y ∧ y ≤ 255) : bits .andNot .u8 x y = anF x y := by
  have := u8_andNot_nat x.toNat y.toNat (by omega) (by omega)
  rw [show ((x.toNat : Nat) : Int) = x by omega, show ((y.toNat : Nat) : Int) = y by omega] at this
  exact this
set_option maxRecDepth 100000 in
theorem an_any (x y : Int) (hx : 0 ≤ x ∧ x ≤ 255) (hy : 0 ≤ y ∧ y ≤ 255) (W : World) : Calls Tryd.prog 72 #[.int .u8 x, .int .u8 y] W fun e w' => e = .returned (.int .u8 (anF x y)) ∧ W = w' := by
  have he := anF_eq x y hx hy
  obtain ⟨z, hz⟩ : ∃ z, z = anF x y := ⟨_, rfl⟩
  rw [← hz] at he ⊢
  clear hz
  go_enter Tryd.func72, Tryd.ntmps72
  go_wp2
  go_ret
  exact ⟨rfl, rfl⟩
/-- The bytes of the bits that are clear. -/
def notV (M m : Nat) (bs : List Int) : List Int := joinN anF (fillV (List.replicate m 0) 0 M true) bs m m
set_option maxRecDepth 100000 in
set_option maxHeartbeats 1000000 in
theorem not1_bad (g0 : Nat) (N : Int) (a : Option Addr) (l c : Nat) (bs : List Int) (W : World) (hB : Blk W g0 24 #[.int .i64 N, .slice a l c]) (hr : Rd W a l c bs) (hN1 : -9223372036854775808 ≤ N) (hN2 : N ≤ 9223372036854775807) (hv : validB N bs = false) :
    Calls Tryd.prog 70 #[.pointer (some ⟨g0, 0, none⟩)] W fun e w' => e = pan 9 ∧ Below W.heap.size W w' := by
  obtain ⟨W0, hW0, hRes, hb0, hs0⟩ := lit_box W
  have q0 : W0.cell? ⟨g0, 0, none⟩ = some (.int .i64 N) := (hB.below hb0 hB.lt).cell 0
  have q1 : W0.cell? ⟨g0, 1, none⟩ = some (.slice a l c) := (hB.below hb0 hB.lt).cell 1
  have HW := Lib.hid hW0
  have Hb := Lib.hid hb0
  have C := Lib.hid (needValid_no N a l c bs W0 (hr.below hb0 (Nat.le_refl _)) hN1 hN2 hv)
  clear hW0 hRes hb0 hs0 hB hr hv
  go_enter Tryd.func70, Tryd.ntmps70
  go_upto_region 1 with fail
  rw [HW.out]
  go_wp2_with fail
  refine C.out.mono ?_
  rintro e w2 ⟨rfl, hb⟩
  exact ⟨rfl, rfl, Hb.out.trans (hb.mono Hb.out.size)⟩
set_option maxRecDepth 100000 in
set_option maxHeartbeats 4000000 in
theorem not1_ok (g0 : Nat) (M : Nat) (a : Option Addr) (l c : Nat) (bs : List Int) (W : World) (hB : Blk W g0 24 #[.int .i64 (M : Int), .slice a l c]) (hr : Rd W a l c bs) (hv : validB (M : Int) bs = true) :
    Calls Tryd.prog 70 #[.pointer (some ⟨g0, 0, none⟩)] W fun e w' => ∃ a' l' c', e = .returned (.agg #[.int .i64 (M : Int), .slice a' l' c']) ∧ Own w' W.heap.size (.slice a' l' c') (notV M l bs) ∧ Below W.heap.size W w' := by
  obtain ⟨v1, v2, v3, -⟩ := (validB_iff (M : Int) bs).mp hv
  have hl := hr.hl
  have hm : ((M : Int) + 7) / 8 = (l : Int) := by omega
  have hl9 : l ≤ 9000 := by omega
  have hM8 : M ≤ 8 * l := by omega
  obtain ⟨W0, hW0, hRes, hb0, hs0⟩ := lit_box W
  have q0 : W0.cell? ⟨g0, 0, none⟩ = some (.int .i64 (M : Int)) := (hB.below hb0 hB.lt).cell 0
  have q1 : W0.cell? ⟨g0, 1, none⟩ = some (.slice a l c) := (hB.below hb0 hB.lt).cell 1
  have HW := Lib.hid hW0
  have Hb := Lib.hid hb0
  have C := Lib.hid (needValid_yes M a l c bs W0 (hr.below hb0 (Nat.le_refl _)) (by omega) (by omega) hv)
  have HR := Lib.hid (hr.below hb0 (Nat.le_refl _))
  have HB := Lib.hid (hB.below hb0 hB.lt)
  have HRes := Lib.hid hRes
  have Hs0 := Lib.hid hs0
  have hg0 : g0 < W.heap.size := hB.lt
  have HE := Lib.hid (fun w => empty_any (M : Int) l w v1 v2 hm)
  clear hW0 hRes hb0 hs0 hB hr hv v1 v2 v3 hm
  go_enter Tryd.func70, Tryd.ntmps70
  go_upto_region 1 with fail
  rw [HW.out]
  go_wp2_with fail
  refine C.out.mono ?_
  rintro e1 w1 ⟨rfl, hb1⟩
  have HR1 := Lib.hid (HR.out.below hb1 (Nat.le_refl _))
  have hB1 := HB.out.below hb1 HB.out.lt
  have HB1 := Lib.hid hB1
  have HRes1 := Lib.hid (HRes.out.below hb1 HRes.out.lt)
  have p0 : w1.cell? ⟨g0, 0, none⟩ = some (.int .i64 (M : Int)) := hB1.cell 0
  have Hb1 := Lib.hid (Hb.out.trans (hb1.mono Hb.out.size))
  have hs1 : W.heap.size + 1 ≤ w1.heap.size := by have := hb1.size; have := Hs0.out; omega
  clear hb1 hB1 C HW Hb HB HR HRes q0 q1
  go_wp2_with fail
  refine (HE.out w1).mono ?_
  rintro e2 w2 ⟨a2, rfl, ho, hb2⟩
  obtain ⟨V, hV⟩ : ∃ V, V = w2.alloc (.cells #[.int .i64 (M : Int), .slice (some a2) l l] 24) := ⟨_, rfl⟩
  have hbV : Below w2.heap.size w2 V := by rw [hV]; exact (Below.refl _ w2).alloc (Nat.le_refl _) _
  have hBV : Blk V w2.heap.size 24 #[.int .i64 (M : Int), .slice (some a2) l l] := by rw [hV]; exact heap_new w2 _
  have hs2 := hb2.size
  have hb2V : Below w1.heap.size w1 V := hb2.trans (hbV.mono hb2.size)
  have hOV := ho.below hbV (Nat.le_refl _)
  have hsV : w2.heap.size < V.heap.size := hBV.lt
  have hrow : ∀ x, (some a2 : Option Addr) = some x → x.block ≠ w2.heap.size := by
    intro x hx
    cases hx
    rcases ho.1.2 with ⟨h1, _⟩ | ⟨g', cap', cur, h1, _, h2, _⟩
    · cases h1
    · have hx2 := (Value.slice.inj h1).1
      have hlt2 := (Array.getElem?_eq_some_iff.1 h2).1
      simp only [Option.some.injEq] at hx2
      subst hx2
      simp only
      omega
  have HOV := Lib.hid hOV
  have HBV := Lib.hid hBV
  have HbV := Lib.hid (Hb1.out.trans (hb2V.mono (by omega)))
  have HResV := Lib.hid (HRes1.out.below hb2V (by omega))
  have HB0V := Lib.hid (HB1.out.below hb2V (by omega))
  have u0 : V.cell? ⟨w2.heap.size, 0, none⟩ = some (.int .i64 (M : Int)) := hBV.cell 0
  have u1 : V.cell? ⟨w2.heap.size, 1, none⟩ = some (.slice (some a2) l l) := hBV.cell 1
  have u2 : V.cell? ⟨g0, 0, none⟩ = some (.int .i64 (M : Int)) := HB0V.out.cell 0
  have HV := Lib.hid hV
  have Hrow := Lib.hid hrow
  have Hb2V := Lib.hid hb2V
  clear ho hb2 hbV hBV hb2V hOV hV hrow HB1 HRes1 p0 HE
  go_upto_region 3 with fail
  rw [← HV.out]
  go_wp2_with fail
  have C2 := fill_any M w1.heap.size l (some a2) (List.replicate l 0) l 0 M M true V (by simp) HOV.out (by omega) hM8 hl9 (by omega)
  refine C2.mono ?_
  clear C2
  rintro e3 w3 ⟨rfl, hO3, hF⟩
  have hT3 : Blk w3 w2.heap.size 24 #[.int .i64 (M : Int), .slice (some a2) l l] := (hF.others _ hsV Hrow.out).trans HBV.out
  have hR3 : Blk w3 W.heap.size 24 #[.int .i64 0, .slice none 0 0] := HResV.out.below hF.below (by omega)
  have hB3 : Blk w3 g0 24 #[.int .i64 (M : Int), .slice a l c] := HB0V.out.below hF.below (by omega)
  have hRR := HR1.out.below (Hb2V.out.trans hF.below) (Nat.le_refl _)
  obtain ⟨ax, cx, hex, hA3⟩ := hO3.rdz (m := l) (by rw [fillV_len]; simp)
  have hax : ax = some a2 := (Value.slice.inj hex).1.symm
  have hcx : cx = l := (Value.slice.inj hex).2.2.symm
  rw [hax, hcx] at hA3
  have HR3 := Lib.hid hR3
  have HT3 := Lib.hid hT3
  have HB3 := Lib.hid hB3
  have HRR := Lib.hid hRR
  have HA3 := Lib.hid hA3
  have Hb3 := Lib.hid (HbV.out.trans (hF.below.mono (by omega)))
  have hs3 : W.heap.size + 1 ≤ w3.heap.size := by have := hR3.lt; omega
  have hw2 : w1.heap.size ≤ w2.heap.size := hs2
  clear hR3 hT3 hB3 hRR hA3 hF hO3 hex hax hcx HResV HBV HOV HbV HB0V HR1 Hb2V HV Hrow Hb1 u0 u1 u2
  go_upto_region 4 with fail
  refine wp_region_held_drew (S := But W.heap.size w3) (by kernel_rfl) (But.refl _ _).drew (fun _ => ?_)
  have HS : Hid (But W.heap.size w3 w3.drew) := Lib.hid (But.refl _ _).drew
  refine wpAnyH_take (i := 0) (v := .pointer (some ⟨g0, 0, none⟩)) rfl (by kernel_rfl) (by kernel_rfl) (by kernel_rfl) (fun _ _ _ h => h) (Or.inl ⟨by rfl, ?_⟩) HS.out ?_
  · intro u hu; go_simp
  go_simp
  refine wpAnyH_take (i := 1) (v := .int .i64 (M : Int)) rfl (by kernel_rfl) (by kernel_rfl) (by kernel_rfl) (fun _ _ _ h => h) (Or.inl ⟨by rfl, ?_⟩) HS.out ?_
  · intro u hu; have : u.cell? ⟨g0, 0, none⟩ = some (.int .i64 (M : Int)) := (hu.blk HB3.out (by omega)).cell 0; go_simp
  go_simp
  refine wpAnyH_take (i := 2) (v := .pointer (some ⟨w2.heap.size, 1, none⟩)) rfl (by kernel_rfl) (by kernel_rfl) (by kernel_rfl) (fun _ _ _ h => h) (Or.inl ⟨by rfl, ?_⟩) HS.out ?_
  · intro u hu; go_simp
  go_simp
  refine wpAnyH_take (i := 3) (v := .slice (some a2) l l) rfl (by kernel_rfl) (by kernel_rfl) (by kernel_rfl) (fun _ _ _ h => h) (Or.inl ⟨by rfl, ?_⟩) HS.out ?_
  · intro u hu; have : u.cell? ⟨w2.heap.size, 1, none⟩ = some (.slice (some a2) l l) := (hu.blk HT3.out (by omega)).cell 1; go_simp
  go_simp
  refine wpAnyH_take (i := 4) (v := .pointer (some ⟨g0, 1, none⟩)) rfl (by kernel_rfl) (by kernel_rfl) (by kernel_rfl) (fun _ _ _ h => h) (Or.inl ⟨by rfl, ?_⟩) HS.out ?_
  · intro u hu; go_simp
  go_simp
  refine wpAnyH_take (i := 5) (v := .slice a l c) rfl (by kernel_rfl) (by kernel_rfl) (by kernel_rfl) (fun _ _ _ h => h) (Or.inl ⟨by rfl, ?_⟩) HS.out ?_
  · intro u hu; have : u.cell? ⟨g0, 1, none⟩ = some (.slice a l c) := (hu.blk HB3.out (by omega)).cell 1; go_simp
  go_simp
  refine wpAnyH_ready (rs := [6]) (by kernel_rfl) (by simp) ?_
  refine AllReadyH.cons rfl (fun K hK => ?_) AllReadyH.nil
  go_simp
  refine (join_any anF 72 (some a2) a l l l c _ bs w3.drew HA3.out.drew HRR.out.drew (Nat.le_refl _) hl9 (enters_of Tryd.func72 (by kernel_rfl) rfl) (fun x y hx hy W => an_any x y hx hy W) anF_bd).mono ?_
  rintro e u ⟨ar, rfl, ho, hb⟩
  have HS2 : Hid (But W.heap.size w3 u) := Lib.hid (HS.out.trans (But.of_below hb (by have := HS.out.size; omega)))
  have HO : Hid (Own u w3.drew.heap.size (.slice (some ar) l l) (notV M l bs)) := Lib.hid ho
  have hres : Blk u W.heap.size 24 #[.int .i64 0, .slice none 0 0] := (hb.block _ (show W.heap.size < w3.drew.heap.size by have := HS.out.size; omega)).trans HR3.out
  have HRu := Lib.hid hres
  clear HS ho hb hres
  have HS := HS2
  clear HS2
  refine hK.out _ _ HS.out (fun _ => ?_)
  clear hK K
  refine wpAnyH_take (i := 7) (v := .agg #[.int .i64 (M : Int), .slice (some ar) l l]) rfl (by kernel_rfl) (by kernel_rfl) (by kernel_rfl) (fun _ _ _ h => h) (Or.inl ⟨by rfl, ?_⟩) HS.out ?_
  · intro u hu; go_simp
  go_simp
  have f0 := HRu.out.frozen 0
  have f1 := HRu.out.frozen 1
  have k0 : u.cell? ⟨W.heap.size, 0, none⟩ = some (.int .i64 0) := HRu.out.cell 0
  have k1 : u.cell? ⟨W.heap.size, 1, none⟩ = some (.slice none 0 0) := HRu.out.cell 1
  refine wpAnyH_ready (rs := [8]) (by kernel_rfl) (by simp) ?_
  refine AllReadyH.cons rfl (fun K hK => ?_) AllReadyH.nil
  go_simp
  rw [cells2 HRu.out]
  obtain ⟨V2, hV, rV, bV, sV, oV⟩ := filled HRu.out #[.int .i64 (M : Int), .slice (some ar) l l]
  rw [hV]
  clear f0 f1 k0 k1
  have HS2 : Hid (But W.heap.size w3 V2) := Lib.hid (HS.out.trans ⟨bV, fun k hk hne => oV k hne⟩)
  refine hK.out _ _ HS2.out (fun _ => ?_)
  clear hK K
  refine wpAnyH_done (by kernel_rfl) ?_ _
  have z0 : V2.cell? ⟨W.heap.size, 0, none⟩ = some (.int .i64 (M : Int)) := (show Blk V2 _ 24 _ from rV).cell 0
  have z1 : V2.cell? ⟨W.heap.size, 1, none⟩ = some (.slice (some ar) l l) := (show Blk V2 _ 24 _ from rV).cell 1
  have HZ : Hid (Own V2 W.heap.size (.slice (some ar) l l) (notV M l bs) ∧ Below W.heap.size W V2) := Lib.hid ⟨(HO.out.other oV (by show W.heap.size < w3.heap.size; omega)).mono (by show W.heap.size ≤ w3.heap.size; omega), Hb3.out.trans HS2.out.below⟩
  clear HS HS2 HO HRu rV bV sV oV hV HR3 HB3 HT3 HA3 HRR
  go_wp2_with fail
  simp [bodyPost, results, Tryd.results70, go_sem, z0, z1]
  exact ⟨_, _, _, ⟨rfl, rfl, rfl⟩, HZ.out.1, HZ.out.2⟩
end Go.Proofs.YthognmkjoekilaaDoor

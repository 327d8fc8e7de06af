/- Var answers as the chapter says. -/
import Derived.RangeFuncNested
import Derived.RangeFuncBound
import Derived.RangeFuncCalls
import Derived.RangeFuncLeaves
import Derived.RangeFuncBox
import Derived.Shelf.Abstract
import Derived.Shelf.RegionOpen
import Derived.WalkKit
import Derived.OwnWalkIn
import Derived.TacticsInMore
import Derived.LoopNIn
import Derived.LoopIn
import Derived.Maps.AppendAt
import Derived.Test.YtmfijcniaehooaaWfixed
namespace Go.Proofs.Ytmfijcniaehooaa
set_option linter.unusedVariables false
open Go.RowKit Go.Shelf
attribute [local go_sem] Oper.semAt_some

/-- The groups of a number, at most f + 1 of them. -/
def varL : Nat → Int → List Int
  | 0, n => [n]
  | f + 1, n => if 128 ≤ n then (128 + n % 128) :: varL f (n / 128) else [n]
/-- The variable number n, from 0 on. -/
def varB (n : Int) : List Int := varL 8 n

theorem varL_len (f : Nat) : ∀ n, 1 ≤ (varL f n).length ∧ (varL f n).length ≤ f + 1 := by
  induction f with
  | zero => intro n; simp [varL]
  | succ f ih =>
    intro n
    simp only [varL]
    split
    · have := ih (n / 128); simp; omega
    · simp
theorem varB_len (n : Int) : 1 ≤ (varB n).length ∧ (varB n).length ≤ 9 := varL_len 8 n
theorem varL_bd (f : Nat) : ∀ n, 0 ≤ n → n < 128 ^ (f + 1) → ∀ x ∈ varL f n, 0 ≤ x ∧ x ≤ 255 := by
  induction f with
  | zero => intro n h0 h1 x hx; simp [varL] at hx; subst hx; simp at h1; omega
  | succ f ih =>
    intro n h0 h1 x hx
    simp only [varL] at hx
    split at hx
    · rcases List.mem_cons.1 hx with rfl | hx
      · omega
      · exact ih (n / 128) (by omega) (by rw [Int.pow_succ] at h1; omega) x hx
    · simp at hx; subst hx; omega
theorem varB_bd (n : Int) (h0 : 0 ≤ n) (h1 : n ≤ 9223372036854775807) : ∀ x ∈ varB n, 0 ≤ x ∧ x ≤ 255 :=
  varL_bd 8 n h0 (by have : (128 : Int) ^ (8 + 1) = 9223372036854775808 := by decide
                     omega)

set_option maxRecDepth 100000 in
set_option maxHeartbeats 1000000 in
theorem groups1_in (F : Fence) (n : Nat) (h6 : F.fn 85) (hro : F.round = none) (hn : 1 ≤ n) (l Bn n₀ : Nat) (v : Int) (hv0 : 0 ≤ v) (hv1 : v ≤ 9223372036854775807) (J Jx : List Int → World → Prop)
    (hY : ∀ pre x W, J pre W → pre.length < (varB v).length → YieldAt F (n - 1) Try.prog l #[.int .u8 x] W fun e W' =>
      (e = .returned (.bool true) ∧ J (pre ++ [x]) W' ∧ Below n₀ W W') ∨ (e = .returned (.bool false) ∧ Jx (pre ++ [x]) W'))
    (W : World) (hBn : W.cell? ⟨Bn, 0, none⟩ = some (.int .i64 v)) (h0 : J [] W) :
    CallsIn F n Try.prog 85 #[.func (.yield l) #[] #[], .pointer (some ⟨Bn, 0, none⟩)] W fun e W' => (∃ v, e = .returned v) ∧
      ((∃ ys, ys = varB v ∧ J ys W') ∨ (∃ pre, pre <+: varB v ∧ Jx pre W')) := by
  refine callsIn_of_wp Try.func85 rfl h6 ?_ hro
  simp only [Try.ntmps85, List.size_toArray, List.length_cons, List.length_nil, Nat.reduceAdd, Nat.reduceSub, Array.replicate_succ, Array.replicate_zero, List.push_toArray, List.append_toArray, List.nil_append, List.cons_append]
  gi_wp2
  gi_loopw [3] (fun p wr => ∃ (pre : List Int) (f : Nat) (r : Int), p = .int .i64 r ∧ 0 ≤ r ∧ r < 128 ^ (f + 1) ∧ r ≤ 9223372036854775807 ∧ varB v = pre ++ varL f r ∧ J pre wr)
    (fun p _ => (intOf p).toNat)
  case atStart =>
    exact ⟨[], 8, v, rfl, hv0, by have : (128 : Int) ^ (8 + 1) = 9223372036854775808 := by decide
                                  omega, hv1, rfl, h0⟩
  case round =>
    obtain ⟨pre, f, r, rfl, hr0, hr1, hr2, hx, hJs⟩ := hrel
    by_cases hbig : 128 ≤ r
    · obtain ⟨f, rfl⟩ : ∃ f', f = f' + 1 := by
        cases f with
        | zero => simp at hr1; omega
        | succ f => exact ⟨f, rfl⟩
      have hl := varL_len f (r / 128)
      have hstep : varL (f + 1) r = (128 + r % 128) :: varL f (r / 128) := by rw [varL, if_pos hbig]
      have hx' : varB v = (pre ++ [128 + r % 128]) ++ varL f (r / 128) := by rw [hx, hstep]; simp
      obtain ⟨fn, tmps, assign, body, hy, hR⟩ := hY pre (128 + r % 128) wr hJs (by rw [hx']; simp)
      have Hx := Lib.hid hx'
      have Hp : Hid (r / 128 < 128 ^ (f + 1)) := Lib.hid (by rw [Int.pow_succ] at hr1; omega)
      clear hx hx' hstep hr1 hl
      gi_wp2
      refine hR.mono ?_
      rintro e W3 (⟨rfl, hJ3, hk3⟩ | ⟨rfl, hJx3⟩)
      · gi_wp2
        go_roundw
        case rel => exact ⟨pre ++ [128 + r % 128], f, r / 128, rfl, by omega, Hp.out, by omega, Hx.out, hJ3⟩
        case measure => simp [intOf]; omega
      · gi_wp2
        refine bodyPost_ret (results_none rfl _ _ _) rfl ?_
        exact ⟨⟨_, rfl⟩, .inr ⟨pre ++ [128 + r % 128], ⟨_, Hx.out.symm⟩, hJx3⟩⟩
    · have hx' : varB v = pre ++ [r] := by
        rw [hx]; cases f with
        | zero => rfl
        | succ f => rw [varL, if_neg hbig]
      obtain ⟨fn, tmps, assign, body, hy, hR⟩ := hY pre r wr hJs (by rw [hx']; simp)
      have Hx := Lib.hid hx'
      clear hx hx' hr1
      gi_wp2
      refine hR.mono ?_
      rintro e W3 (⟨rfl, hJ3, hk3⟩ | ⟨rfl, hJx3⟩)
      · gi_wp2
        go_end0
        exact ⟨⟨_, rfl⟩, .inl ⟨pre ++ [r], Hx.out.symm, hJ3⟩⟩
      · gi_wp2
        go_end0
        exact ⟨⟨_, rfl⟩, .inr ⟨pre ++ [r], ⟨[], by rw [Hx.out]; simp⟩, hJx3⟩⟩

set_option maxHeartbeats 1000000 in
theorem groups_in (F : Fence) (n : Nat) (h5 : F.fn 68) (hro : F.round = none) (v : Int) (w : World) :
    CallsIn F n Try.prog 68 #[.int .i64 v] w fun e w' => e = .returned (.func (.func 85) #[] #[.pointer (some ⟨w.heap.size, 0, none⟩)]) ∧ w' = w.alloc (.cells #[.int .i64 v] 3) := by
  refine callsIn_of_wp Try.func68 rfl h5 ?_ hro
  simp only [Try.ntmps68, List.size_toArray, List.length_cons, List.length_nil, Nat.reduceAdd, Nat.reduceSub, Array.replicate_succ, Array.replicate_zero, List.push_toArray, List.append_toArray, List.nil_append, List.cons_append]
  gi_wp2
  go_ret
  exact ⟨rfl, rfl⟩

theorem groups_stops (F : Fence) (n : Nat) (h6 : F.fn 85) (hro : F.round = none) (hn : 1 ≤ n) (Bn n₀ : Nat) (v : Int) (hv0 : 0 ≤ v) (hv1 : v ≤ 9223372036854775807) (w : World) (hBn : Bn < w.heap.size)
    (hc : w.cell? ⟨Bn, 0, none⟩ = some (.int .i64 v)) :
    SeqStopsK F n Try.prog 85 #[.pointer (some ⟨Bn, 0, none⟩)] (fun x : Int => #[Value.int .u8 x]) (Below n₀) (fun ys => ys = varB v) (fun pre => pre <+: varB v) (varB v).length w := fun l J Jx W hW _ _ hY h0 =>
  groups1_in F n h6 hro hn l Bn n₀ v hv0 hv1 J Jx hY W ((hW.cell (p := ⟨Bn, 0, none⟩) hBn).trans hc) h0

set_option maxRecDepth 100000 in
set_option maxHeartbeats 2000000 in
theorem var_in (F : Fence) (n : Nat) (h3 : F.fn 25) (h4 : F.fn 68) (h5 : F.fn 85) (hro : F.round = none) (hn : 3 ≤ n) (v : Int) (hv0 : 0 ≤ v) (hv1 : v ≤ 9223372036854775807) (w : World) :
    CallsIn F n Try.prog 25 #[.int .i64 v] w fun e W' => ∃ u, e = .returned (.tuple #[u, .int .i64 0]) ∧ W'.ownsRow w.heap.size 5 1 u (varB v).length ((varB v).map (Value.int .u8)) ∧ Below w.heap.size w W' := by
  have h1 : 1 ≤ n := by omega
  have HI := Lib.hid (info_parts Try.infoB)
  have hvl := (varB_len v).2
  refine callsIn_of_wp_marks Try.func25 rfl h3 ?_ hro
  simp only [Try.ntmps25, List.size_toArray, List.length_cons, List.length_nil, Nat.reduceAdd, Nat.reduceSub, Array.replicate_succ, Array.replicate_zero, List.push_toArray, List.append_toArray, List.nil_append, List.cons_append]
  gi_wp2_with (gi_at_call 68; refine (groups_in F (n - 1) h4 hro _ _).mono ?_; rintro e w' ⟨rfl, rfl⟩)
  have bO := Boxed.new w 22 (.slice none 0 0)
  have bN := Boxed.new (w.alloc (.cells #[.slice none 0 0] 22)) 3 (.int .i64 v)
  rw [World.size_alloc] at bN
  have hB0 : Below w.heap.size w ((w.alloc (.cells #[.slice none 0 0] 22)).alloc (.cells #[.int .i64 v] 3)) := ((Below.refl _ w).alloc (Nat.le_refl _) _).alloc (by simp) _
  refine wpIn_rangeFunc_ownG hro h1 (gf := 85) (lb := #[.pointer (some ⟨w.heap.size + 1, 0, none⟩)]) rfl h5 (enters_of Try.func85 (by kernel_rfl) rfl)
    (groups_stops F (n - 1) h5 hro (by omega) (w.heap.size + 1) w.heap.size v hv0 hv1 _ (by simp) bN.cell) belowK_t (belowK_b (by simp; omega)) (Below.refl _ _) (fun _ => rfl)
    (fun (pre : List Int) (W : World) => (∃ u, Boxed W w.heap.size 22 u ∧ W.ownsRow w.heap.size 5 1 u pre.length (pre.map (Value.int .u8)) ∧ True) ∧ Below w.heap.size w W)
    (fun _ _ _ => False)
    (OwnFrom.and (Own.from (holdsRow_own w.heap.size w.heap.size 22 5 1 (fun pre : List Int => pre.length) (fun pre : List Int => pre.map (Value.int .u8)) (fun _ _ => True)) _) (ownFrom_below (Nat.le_refl _) (by simp; omega)))
    (fun _ _ _ _ _ hs _ _ => hs)
    ⟨⟨_, bO.alloc _, World.ownsRow_nil _ _ _ _, trivial⟩, hB0⟩
    (fun x => { tmps := #[.int .i64 v, undef, .slice none 0 0, .int .i64 0, .pointer (some ⟨w.heap.size, 0, none⟩), .int .u8 x, .int .i64 v, .bool (decide (v < 0)), .int .i64 v, .func (.func 85) #[] #[.pointer (some ⟨w.heap.size + 1, 0, none⟩)], .int .u8 x, undef, undef, undef, undef, undef], defers := [] }) ?assign ?body ?done ?stop
  case assign =>
    intro l x W K hK
    gi_wp2
    exact hK
  case body =>
    rintro l pre x W ⟨⟨u, hv, hrow, _⟩, hB⟩ hlt
    have hc := hv.cell
    gi_wp2_with (gi_at_builtin; obtain ⟨i0, hi, hz0, hz1, hz2⟩ := HI.out; refine wpListIn_append_own _ rfl _ _ 22 rfl w.heap.size 5 i0 (.int .u8 0) 1 1 Try.underlying22 hi hz0 hz1 hz2 rfl (by decide) _ _ _ rfl (hrow.alloc _) ⟨W.heap.size, 0, none⟩ 1 1 [.int .u8 x] rfl rfl (cell_one_new _ _ _) (by simp [Value.oneCell']) (by unfold maxLen; omega) (by omega) (by have := hB.size; simp; omega) ?_; clear hi hz0 hz1 hz2; intro v' w1 hown' hgrow _; obtain ⟨g', cap', rfl⟩ := ownsRow_succ hown'; obtain ⟨hv1, hv2, hr2, hk2, hb2⟩ := hv.appended (by decide) hrow hB.size (Nat.le_refl _) hown' hgrow; have hc1 := hv1.cell; have hf1 := hv1.frozen)
    exact ⟨hk2.from _, hb2, ⟨_, hv2, by simpa using hr2, trivial⟩, hB.trans hb2⟩
  case done =>
    rintro D ys W hD rfl ⟨⟨u, hv, hrow, _⟩, hB⟩ hK
    have hc := hv.cell
    gi_wp2
    refine ⟨by simp, .inl ⟨_, _, rfl, run_takeDeferred hK, ?_⟩⟩
    exact ⟨_, results_tmp2 rfl _ _ _, u, rfl, ownsRow_putObj hrow _ hK rfl, hB.trans (belowK_b (w := w) (Nat.le_refl _) W D _ _ (by simp at hD; omega) hK rfl rfl)⟩
  case stop =>
    rintro D c pre W _ _ h _
    exact h.elim

/-- The error and the bytes of Var. -/
def varE (n : Int) : Int := if n < 0 then 24 else 0
def varV (n : Int) : List Int := if n < 0 then [] else varB n
set_option maxHeartbeats 400000 in
theorem var_any (n : Int) (w : World) (h2 : n ≤ 9223372036854775807) :
    Calls Try.prog 25 #[.int .i64 n] w fun e w' =>
      ∃ v, e = .returned (.tuple #[v, .int .i64 (varE n)]) ∧ Own w' w.heap.size v (varV n) ∧ Below w.heap.size w w' := by
  by_cases h : n < 0
  · have hE : varE n = 24 := by unfold varE; rw [if_pos h]
    have hV : varV n = [] := by unfold varV; rw [if_pos h]
    rw [hE, hV]
    clear hE hV
    go_enter Try.func25, Try.ntmps25
    go_wp2
    go_ret2
    exact ⟨_, rfl, Own.nil _ _, Below.refl _ _⟩
  · have hE : varE n = 0 := by unfold varE; rw [if_neg h]
    have hV : varV n = varB n := by unfold varV; rw [if_neg h]
    rw [hE, hV]
    refine (callsIn_wide.1 (var_in Fence.wide 3 trivial trivial trivial rfl (Nat.le_refl _) n (by omega) h2 w)).mono ?_
    rintro e w' ⟨v, rfl, ho, hb⟩
    exact ⟨v, rfl, ⟨ho, varB_bd n (by omega) h2⟩, hb⟩
end Go.Proofs.Ytmfijcniaehooaa

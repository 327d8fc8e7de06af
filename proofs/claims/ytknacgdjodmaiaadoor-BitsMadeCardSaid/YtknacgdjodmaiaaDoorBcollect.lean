/- slices.Collect of the runs, and Runs. -/
import Derived.Test.YtknacgdjodmaiaaDoorBrunsi
import Derived.Test.YtknacgdjodmaiaaDoorBrange
namespace Go.Proofs.YtknacgdjodmaiaaDoor
set_option linter.unusedVariables false
open Go.RowKit Go.Shelf
attribute [local go_sem] Oper.semAt_some

theorem Tryd.infoR : (Tryd.prog.info? 60).map (fun i => (i.zero, i.size, i.bytes)) = some (some (.agg #[.int .i64 0, .int .i64 0]), 2, 16) := by kernel_rfl
theorem news2 (W : World) (u v : Value) (t : TypeId) : ∀ j x, [u, v][j]? = some x → (W.alloc (.cells #[u, v] t)).cell? ((⟨W.heap.size, 0, none⟩ : Addr).add j) = some x := by
  intro j x hj
  have h : ∀ k, (W.alloc (.cells #[u, v] t)).cell? ⟨W.heap.size, k, none⟩ = #[u, v][k]? := fun k => World.cell?_alloc_mark W _ _ (0, 0) k
  match j with
  | 0 => simp at hj; subst hj; exact h 0
  | 1 => simp at hj; subst hj; exact h 1
  | n + 2 => simp at hj
theorem runsF_len (bs : List Int) (N : Nat) (on : Bool) : ∀ n a, (a < N → bitV bs a = on) → (runsF bs N on n a).length ≤ N - a := by
  intro n
  induction n with
  | zero => intro a _; simp [runsF]
  | succ n ih =>
    intro a hb
    unfold runsF
    by_cases h : a < N
    · rw [if_pos h]
      obtain ⟨s1, s2, s3, s4⟩ := run_step bs N on a h (hb h)
      have j4 := (seekV_spec bs N on (seekV bs N (!on) a) s2).2.2.2
      have := ih _ j4
      rw [List.length_cons]
      omega
    · rw [if_neg h]; simp
theorem runsV_len (bs : List Int) (N : Nat) (on : Bool) : (runsV bs N on).length ≤ N := by
  have := runsF_len bs N on (N + 1) (seekV bs N on 0) (seekV_spec bs N on 0 (Nat.zero_le _)).2.2.2
  unfold runsV
  omega
set_option maxRecDepth 100000 in
set_option maxHeartbeats 4000000 in
theorem append_any (g h : Nat) (M : Nat) (a : Option Addr) (l c : Nat) (bs : List Int) (on : Bool) (w : World) (hR : RunsAt w g h M a l c bs on) (hv : validB (M : Int) bs = true) :
    Calls Tryd.prog 91 #[.slice none 0 0, .func (.func 92) #[] #[.pointer (some ⟨g, 0, none⟩), .pointer (some ⟨h, 0, none⟩)]] w fun e w' => ∃ v, e = .returned v ∧ w'.ownsRow w.heap.size 60 2 v (runsV bs M on).length (rangeCells (runsV bs M on)) ∧ Below w.heap.size w w' := by
  have HI := Lib.hid (info_parts Tryd.infoR)
  have hM6 : M ≤ 65536 := by have := (validB_iff (M : Int) bs).mp hv; omega
  have hgl : g < w.heap.size := hR.b.lt
  have hhl : h < w.heap.size := hR.o.lt
  obtain ⟨W0, hW0⟩ : ∃ W0, W0 = w.alloc (.cells #[.slice none 0 0] 54) := ⟨_, rfl⟩
  have hb0 : Below w.heap.size w W0 := by rw [hW0]; exact (Below.refl _ w).alloc (Nat.le_refl _) _
  have hX0 : Boxed W0 w.heap.size 54 (.slice none 0 0) := by rw [hW0]; exact Boxed.new _ _ _
  have hs0 : W0.heap.size = w.heap.size + 1 := by rw [hW0]; simp
  have hR0 := hR.below hb0
  have HW := Lib.hid hW0
  have Hb0 := Lib.hid hb0
  have HX0 := Lib.hid hX0
  have HR0 := Lib.hid hR0
  have HRw := Lib.hid hR
  have Hv := Lib.hid hv
  have kp : ∀ W W', Below w.heap.size w W → Below w.heap.size W W' → runsKp g h M a l c bs on W W' := fun W W' k1 k2 _ => HRw.out.below (k1.trans k2)
  clear hW0 hb0 hX0 hR0 hR hv
  refine (callsIn_wide (n := 9)).1 ?_
  refine callsIn_of_wp_marks Tryd.func91 rfl trivial ?_ rfl
  simp only [Tryd.ntmps91, List.size_toArray, List.length_cons, List.length_nil, Nat.reduceAdd, Nat.reduceSub, Array.replicate_succ, Array.replicate_zero, List.push_toArray, List.append_toArray, List.nil_append, List.cons_append]
  gi_wp2_with fail
  rw [← HW.out]
  refine wpIn_rangeFunc_made rfl (by omega) (gf := 92) (lb := #[.pointer (some ⟨g, 0, none⟩), .pointer (some ⟨h, 0, none⟩)]) rfl trivial (enters_of Tryd.func92 (by kernel_rfl) rfl)
    (runs1_stops _ (by omega) g h M M a l c bs on W0 HR0.out Hv.out rfl _ rfl)
    (fun h k hx => k (h hx)) ?kb (Below.refl _ _) (fun _ => rfl)
    (fun (pre : List RunNo) (W : World) => (∃ u, Boxed W w.heap.size 54 u ∧ W.ownsRow w.heap.size 60 2 u pre.length (rangeCells (pre.map (·.1))) ∧ True) ∧ Below w.heap.size w W)
    (fun _ _ _ => False)
    (fun pre x b W => ∃ B5, b = { tmps := #[.slice none 0 0, .func (.func 92) #[] #[.pointer (some ⟨g, 0, none⟩), .pointer (some ⟨h, 0, none⟩)], .pointer (some ⟨w.heap.size, 0, none⟩), undef, .slice none 0 0, .pointer (some ⟨B5, 0, none⟩), .func (.func 92) #[] #[.pointer (some ⟨g, 0, none⟩), .pointer (some ⟨h, 0, none⟩)], .agg #[.int .i64 (x.1.1 : Int), .int .i64 (x.1.2 : Int)], undef, undef, undef, undef, undef], defers := [] } ∧ Blk W B5 60 #[.int .i64 (x.1.1 : Int), .int .i64 (x.1.2 : Int)] ∧ pre.length < (runsV bs M on).length ∧ (∃ u, Boxed W w.heap.size 54 u ∧ W.ownsRow w.heap.size 60 2 u pre.length (rangeCells (pre.map (·.1))) ∧ True) ∧ Below w.heap.size w W)
    ?own (fun _ _ _ _ _ hs _ _ => hs) ?ownA ?start ?assign ?body ?done ?stop
  case kb =>
    intro W l o o' hl ho hc _ hx
    exact ⟨(World.putObj_heap_other (by intro e; subst e; have := ho.symm.trans hx.b; cases this; cases hc)).trans hx.b, (World.putObj_heap_other (by intro e; subst e; have := ho.symm.trans hx.o; cases this; cases hc)).trans hx.o, (rd_own (β := Unit) a _ c bs) () W _ (some l) hx.r (grownBy_putObj' W l o') (fun k e => by cases e; exact ⟨o, ho, hc⟩)⟩
  case own => exact OwnFrom.and (Own.from (holdsRow_own w.heap.size w.heap.size 54 60 2 (fun pre : List RunNo => pre.length) (fun pre : List RunNo => rangeCells (pre.map (·.1))) (fun _ _ => True)) _) (ownFrom_below (Nat.le_refl _) (by omega))
  case ownA =>
    rintro pre x b X Y row ⟨B5, hb, hB5, hlt, hI⟩ hg hrow
    refine ⟨B5, hb, (blk_own (β := Unit) B5 60 (fun _ => #[.int .i64 (x.1.1 : Int), .int .i64 (x.1.2 : Int)])) () X Y row hB5 hg (fun k e => (hrow k e).2), hlt, ?_⟩
    exact (OwnFrom.and (Own.from (holdsRow_own w.heap.size w.heap.size 54 60 2 (fun pre : List RunNo => pre.length) (fun pre : List RunNo => rangeCells (pre.map (·.1))) (fun _ _ => True)) _) (ownFrom_below (Nat.le_refl _) (by omega))) pre X Y row hI hg hrow
  case start => exact ⟨⟨_, HX0.out, World.ownsRow_nil _ _ _ _, trivial⟩, Hb0.out⟩
  case assign =>
    rintro ln pre x W ⟨⟨u, hv, hrow, _⟩, hB⟩ hlt
    dsimp only [runEnc]
    gi_wp2_with fail
    have hbA : Below W.heap.size W (W.alloc (.cells #[.int .i64 (x.1.1 : Int), .int .i64 (x.1.2 : Int)] 60)) := (Below.refl _ W).alloc (Nat.le_refl _) _
    exact ⟨(KeepsOthers.alloc W _).from _, kp _ _ hB (hbA.mono hB.size), _, rfl, heap_new W _, hlt, ⟨u, hv.alloc _, hrow.alloc _, trivial⟩, hB.trans (hbA.mono hB.size)⟩
  case body =>
    rintro ln pre x b W ⟨B5, rfl, hB5, hlt, ⟨u, hv, hrow, _⟩, hB⟩
    have hc := hv.cell
    have r0 : W.cell? ⟨B5, 0, none⟩ = some (.int .i64 (x.1.1 : Int)) := hB5.cell 0
    have r1 : W.cell? ⟨B5, 1, none⟩ = some (.int .i64 (x.1.2 : Int)) := hB5.cell 1
    have hlen := runsV_len bs M on
    gi_wp2_with (gi_at_builtin; obtain ⟨i0, hi, hz0, hz1, hz2⟩ := HI.out; refine wpListIn_append_own _ rfl _ _ 54 rfl w.heap.size 60 i0 (.agg #[.int .i64 0, .int .i64 0]) 2 16 Tryd.underlying54 hi hz0 hz1 hz2 rfl (by decide) _ _ _ rfl (hrow.alloc _) ⟨W.heap.size, 0, none⟩ 1 1 [.int .i64 (x.1.1 : Int), .int .i64 (x.1.2 : Int)] rfl rfl (news2 _ _ _ _) (by simp [Value.oneCell']) (by unfold maxLen; omega) (by omega) (by have := hB.size; simp; omega) ?_; clear hi hz0 hz1 hz2; intro v' w1 hown' hgrow _; obtain ⟨g', cap', rfl⟩ := ownsRow_succ hown'; obtain ⟨hv1, hv2, hr2, hk2, hb2⟩ := hv.appended (by decide) hrow hB.size (Nat.le_refl _) hown' hgrow; have hc1 := hv1.cell; have hf1 := hv1.frozen)
    exact ⟨hk2.from _, kp _ _ hB hb2, ⟨_, hv2, by simpa [rangeCells] using hr2, trivial⟩, hB.trans hb2⟩
  case done =>
    rintro D xs W hD hS ⟨⟨u, hv, hrow, _⟩, hB⟩ hK
    have hc := hv.cell
    have hlx : xs.length = (runsV bs M on).length := by rw [← hS, List.length_map]
    rw [hS, hlx] at hrow
    gi_wp2
    refine ⟨by simp, .inl ⟨_, _, rfl, run_takeDeferred hK, ?_⟩⟩
    exact ⟨_, results_tmp rfl _ _ _, u, rfl, ownsRow_putObj hrow _ hK rfl, hB.trans (belowK_b (w := w) (Nat.le_refl _) W D _ _ (by omega) hK rfl rfl)⟩
  case stop =>
    rintro D c pre W _ _ h _
    exact h.elim
end Go.Proofs.YtknacgdjodmaiaaDoor

/- next: the least place from near on. -/
import Derived.Test.YtknacgdjodmaiaaDoorBrunsf
namespace Go.Proofs.YtknacgdjodmaiaaDoor
set_option linter.unusedVariables false
open Go.RowKit Go.Shelf
attribute [local go_sem] Oper.semAt_some

/-- A run that has room for many bits from near on. -/
def fitB (many : Int) (near : Nat) (r : Nat × Nat) : Bool := decide (many ≤ (r.1 : Int) + (r.2 : Int) - max (r.1 : Int) (near : Int))
/-- Where next finds a place. -/
def nextV (bs : List Int) (M : Nat) (many : Int) (near : Nat) : Option Nat := ((runsV bs M false).find? (fitB many near)).map fun r => max r.1 near
theorem find_first {p : Nat × Nat → Bool} {L l : List (Nat × Nat)} {x : Nat × Nat} (h : (l ++ [x]) <+: L) (hl : ∀ r ∈ l, p r = false) (hx : p x = true) : L.find? p = some x := by
  obtain ⟨t, rfl⟩ := h
  rw [List.find?_append, List.find?_append]
  have : l.find? p = none := List.find?_eq_none.mpr (fun r hr => by rw [hl r hr]; simp)
  rw [this]
  simp [List.find?, hx]
/-- The boxes of next. -/
theorem next_boxes (N : Int) (a : Option Addr) (l c : Nat) (many near : Int) (w : World) : ∃ W0, ((((w.alloc (.cells #[.int .i64 N, .slice a l c] 24)).alloc (.cells #[.int .i64 many] 3)).alloc (.cells #[.int .i64 near] 3)).alloc (.cells #[.int .i64 0] 3)).alloc (.cells #[.bool false] 4) = W0 ∧
    Blk W0 w.heap.size 24 #[.int .i64 N, .slice a l c] ∧ Boxed W0 (w.heap.size + 1) 3 (.int .i64 many) ∧ Boxed W0 (w.heap.size + 2) 3 (.int .i64 near) ∧ Boxed W0 (w.heap.size + 3) 3 (.int .i64 0) ∧ Boxed W0 (w.heap.size + 4) 4 (.bool false) ∧ Below w.heap.size w W0 ∧ W0.heap.size = w.heap.size + 5 := by
  refine ⟨_, rfl, ?_, ?_, ?_, ?_, ?_, ?_, by simp⟩
  · have h0 := heap_new w (.cells #[.int .i64 N, .slice a l c] 24)
    simp only [Blk, Boxed]
    rw [Below.heap_alloc _ _ _ (by first | (simp; done) | (simp; omega)), Below.heap_alloc _ _ _ (by first | (simp; done) | (simp; omega)), Below.heap_alloc _ _ _ (by first | (simp; done) | (simp; omega)), Below.heap_alloc _ _ _ (by first | (simp; done) | (simp; omega))]
    exact h0
  · have h0 := heap_new (w.alloc (.cells #[.int .i64 N, .slice a l c] 24)) (.cells #[.int .i64 many] 3)
    simp only [World.size_alloc] at h0
    simp only [Boxed]
    rw [Below.heap_alloc _ _ _ (by first | (simp; done) | (simp; omega)), Below.heap_alloc _ _ _ (by first | (simp; done) | (simp; omega)), Below.heap_alloc _ _ _ (by first | (simp; done) | (simp; omega))]
    exact h0
  · have h0 := heap_new ((w.alloc (.cells #[.int .i64 N, .slice a l c] 24)).alloc (.cells #[.int .i64 many] 3)) (.cells #[.int .i64 near] 3)
    simp only [World.size_alloc] at h0
    simp only [Boxed]
    rw [Below.heap_alloc _ _ _ (by first | (simp; done) | (simp; omega)), Below.heap_alloc _ _ _ (by first | (simp; done) | (simp; omega))]
    exact h0
  · have h0 := heap_new (((w.alloc (.cells #[.int .i64 N, .slice a l c] 24)).alloc (.cells #[.int .i64 many] 3)).alloc (.cells #[.int .i64 near] 3)) (.cells #[.int .i64 0] 3)
    simp only [World.size_alloc] at h0
    simp only [Boxed]
    rw [Below.heap_alloc _ _ _ (by first | (simp; done) | (simp; omega))]
    exact h0
  · have h0 := heap_new ((((w.alloc (.cells #[.int .i64 N, .slice a l c] 24)).alloc (.cells #[.int .i64 many] 3)).alloc (.cells #[.int .i64 near] 3)).alloc (.cells #[.int .i64 0] 3)) (.cells #[.bool false] 4)
    simp only [World.size_alloc] at h0
    exact h0
  · exact ((((((Below.refl _ w).alloc (Nat.le_refl _) _).alloc (by simp) _).alloc (by first | (simp; done) | (simp; omega)) _).alloc (by first | (simp; done) | (simp; omega)) _).alloc (by first | (simp; done) | (simp; omega)) _)
set_option maxRecDepth 100000 in
set_option maxHeartbeats 4000000 in
theorem next_any (M : Nat) (a : Option Addr) (l c : Nat) (bs : List Int) (many : Int) (near : Nat) (w : World) (hr : Rd w a l c bs) (hv : validB (M : Int) bs = true) (hn : near ≤ M) :
    Calls Tryd.prog 102 #[.agg #[.int .i64 (M : Int), .slice a l c], .int .i64 many, .int .i64 (near : Int)] w fun e w' => e = .returned (.tuple #[.int .i64 ((nextV bs M many near).getD 0 : Nat), .bool (nextV bs M many near).isSome]) ∧ Below w.heap.size w w' := by
  have hM6 : M ≤ 65536 := by have := (validB_iff (M : Int) bs).mp hv; omega
  obtain ⟨W0, hW0, hB, x1, x2, x3, x4, hb0, hs0⟩ := next_boxes (M : Int) a l c many near w
  obtain ⟨res, hres⟩ : ∃ r, r = nextV bs M many near := ⟨_, rfl⟩
  rw [← hres]
  have q0 : W0.cell? ⟨w.heap.size, 0, none⟩ = some (.int .i64 (M : Int)) := hB.cell 0
  have q1 : W0.cell? ⟨w.heap.size, 1, none⟩ = some (.slice a l c) := hB.cell 1
  have HW := Lib.hid hW0
  have Hb0 := Lib.hid hb0
  have HX := Lib.hid (And.intro x1 (And.intro x2 (And.intro x3 x4)))
  have HR := Lib.hid (hr.below hb0 (Nat.le_refl _))
  have Hv := Lib.hid hv
  have Hres := Lib.hid hres
  have Hs0 := Lib.hid hs0
  clear hW0 hB x1 x2 x3 x4 hb0 hr hv hres hs0
  refine (callsIn_wide (n := 9)).1 ?_
  refine callsIn_of_wp_marks Tryd.func102 rfl trivial ?_ rfl
  simp only [Tryd.ntmps102, List.size_toArray, List.length_cons, List.length_nil, Nat.reduceAdd, Nat.reduceSub, Array.replicate_succ, Array.replicate_zero, List.push_toArray, List.append_toArray, List.nil_append, List.cons_append]
  gi_upto_region 1 with fail
  rw [HW.out]
  gi_wp2_with fail
  refine ⟨trivial, ?_⟩
  refine (callsIn_wide.2 (runs_any M a l c false W0)).mono ?_
  rintro e1 w3 ⟨rfl, hw3⟩
  have hb3 : Below W0.heap.size W0 w3 := by rw [hw3]; exact ((Below.refl _ W0).alloc (Nat.le_refl _) _).alloc (by simp) _
  have hRA : RunsAt w3 W0.heap.size (W0.heap.size + 1) M a l c bs false := by
    refine ⟨?_, ?_, HR.out.below hb3 (Nat.le_refl _)⟩
    · rw [hw3]; exact Blk.below (heap_new W0 _ : Blk (W0.alloc _) _ _ _) ((Below.refl _ _).alloc (Nat.le_refl _) _) (by simp)
    · rw [hw3]; have := Boxed.new (W0.alloc (.cells #[.int .i64 (M : Int), .slice a l c] 24)) 4 (.bool false); rw [World.size_alloc] at this; exact this
  have HRA := Lib.hid hRA
  have hs3 : w.heap.size + 5 ≤ w3.heap.size := by have := hb3.size; have := Hs0.out; omega
  have Hb3 := Lib.hid (Hb0.out.trans (hb3.mono Hb0.out.size))
  have HX1 : Hid (Boxed w3 (w.heap.size + 1) 3 (.int .i64 many)) := Lib.hid ((hb3.block _ HX.out.1.lt).trans HX.out.1)
  have HX2 : Hid (Boxed w3 (w.heap.size + 2) 3 (.int .i64 (near : Int))) := Lib.hid ((hb3.block _ HX.out.2.1.lt).trans HX.out.2.1)
  have HX3 : Hid (Boxed w3 (w.heap.size + 3) 3 (.int .i64 0)) := Lib.hid ((hb3.block _ HX.out.2.2.1.lt).trans HX.out.2.2.1)
  have HX4 : Hid (Boxed w3 (w.heap.size + 4) 4 (.bool false)) := Lib.hid ((hb3.block _ HX.out.2.2.2.lt).trans HX.out.2.2.2)
  clear hw3 hb3 hRA HX q0 q1 HR Hb0 HW
  gi_wp2_with fail
  refine wpIn_rangeFunc_made rfl (by omega) (gf := 92) (lb := #[.pointer (some ⟨W0.heap.size, 0, none⟩), .pointer (some ⟨W0.heap.size + 1, 0, none⟩)]) rfl trivial (enters_of Tryd.func92 (by kernel_rfl) rfl)
    (runs1_stops _ (by omega) _ _ M M a l c bs false w3 HRA.out Hv.out rfl _ rfl)
    (fun h k hx => k (h hx)) ?kb (Below.refl _ _) (fun _ => rfl)
    (fun (pre : List RunNo) (W : World) => (∀ r ∈ pre.map (·.1), fitB many near r = false) ∧ Below w3.heap.size w3 W)
    (fun cc (pre : List RunNo) (W : World) => (cc = .ret ∧ ∃ (l1 : List (Nat × Nat)) (x : Nat × Nat), pre.map (·.1) = l1 ++ [x] ∧ (∀ r ∈ l1, fitB many near r = false) ∧ fitB many near x = true ∧ Boxed W (w.heap.size + 3) 3 (.int .i64 ((max x.1 near : Nat) : Int)) ∧ Boxed W (w.heap.size + 4) 4 (.bool true)) ∧ Below w.heap.size w W)
    (fun pre x b W => ∃ B5, b = { tmps := #[.agg #[.int .i64 (M : Int), .slice a l c], .int .i64 many, .int .i64 (near : Int), .pointer (some ⟨w.heap.size, 0, none⟩), .pointer (some ⟨w.heap.size + 1, 0, none⟩), .pointer (some ⟨w.heap.size + 2, 0, none⟩), .pointer (some ⟨w.heap.size + 3, 0, none⟩), .pointer (some ⟨w.heap.size + 4, 0, none⟩), .pointer (some ⟨B5, 0, none⟩), undef, .agg #[.int .i64 (M : Int), .slice a l c], .func (.func 92) #[] #[.pointer (some ⟨W0.heap.size, 0, none⟩), .pointer (some ⟨W0.heap.size + 1, 0, none⟩)], .agg #[.int .i64 (x.1.1 : Int), .int .i64 (x.1.2 : Int)], undef, undef, undef, undef, undef, undef, undef, undef, undef, undef, undef, undef, undef, undef], defers := [] } ∧ Blk W B5 60 #[.int .i64 (x.1.1 : Int), .int .i64 (x.1.2 : Int)] ∧ (∀ r ∈ pre.map (·.1), fitB many near r = false) ∧ Below w3.heap.size w3 W)
    ?own ?ownx ?ownA ?start ?assign ?body ?done ?stop
  case kb =>
    intro W l o o' hl ho hc _ hx
    exact ⟨(World.putObj_heap_other (by intro e; subst e; have := ho.symm.trans hx.b; cases this; cases hc)).trans hx.b, (World.putObj_heap_other (by intro e; subst e; have := ho.symm.trans hx.o; cases this; cases hc)).trans hx.o, (rd_own (β := Unit) a _ c bs) () W _ (some l) hx.r (grownBy_putObj' W l o') (fun k e => by cases e; exact ⟨o, ho, hc⟩)⟩
  case own => exact OwnFrom.and (fun _ _ _ _ hs _ _ => hs) (ownFrom_below (Nat.le_refl _) (Nat.le_refl _))
  case ownx =>
    intro cc
    refine OwnFrom.and ?_ (ownFrom_below (by omega) (by omega))
    rintro pre X Y row ⟨hc, l1, x, e1, e2, e3, hx3, hx4⟩ hg hrow
    exact ⟨hc, l1, x, e1, e2, e3, (boxed_own _ _ (fun _ : Unit => _)) () X Y row hx3 hg (fun k e => (hrow k e).2), (boxed_own _ _ (fun _ : Unit => _)) () X Y row hx4 hg (fun k e => (hrow k e).2)⟩
  case ownA =>
    rintro pre x b X Y row ⟨B5, hb, hB5, hI⟩ hg hrow
    refine ⟨B5, hb, (blk_own (β := Unit) B5 60 (fun _ => #[.int .i64 (x.1.1 : Int), .int .i64 (x.1.2 : Int)])) () X Y row hB5 hg (fun k e => (hrow k e).2), ?_⟩
    exact ⟨hI.1, (ownFrom_below (β := Unit) (Nat.le_refl _) (Nat.le_refl _)) () X Y row hI.2 hg hrow⟩
  case start => exact ⟨by simp, Below.refl _ _⟩
  case assign =>
    rintro ln pre x W ⟨hp, hB⟩ hlt
    dsimp only [runEnc]
    gi_wp2_with fail
    have hbA : Below W.heap.size W (W.alloc (.cells #[.int .i64 (x.1.1 : Int), .int .i64 (x.1.2 : Int)] 60)) := (Below.refl _ W).alloc (Nat.le_refl _) _
    exact ⟨(KeepsOthers.alloc W _).from _, fun hx => hx.below hbA, _, rfl, heap_new W _, hp, hB.trans (hbA.mono hB.size)⟩
  case body =>
    rintro ln pre x b W ⟨B5, rfl, hB5, hp, hB⟩
    obtain ⟨⟨ra, rm⟩, hx1, hx2⟩ := x
    dsimp only at hx1 hx2 hB5 ⊢
    have r0 : W.cell? ⟨B5, 0, none⟩ = some (.int .i64 (ra : Int)) := hB5.cell 0
    have r1 : W.cell? ⟨B5, 1, none⟩ = some (.int .i64 (rm : Int)) := hB5.cell 1
    have y1 := (show Boxed W (w.heap.size + 1) 3 (.int .i64 many) from (hB.block _ HX1.out.lt).trans HX1.out).cell
    have y2 := (show Boxed W (w.heap.size + 2) 3 (.int .i64 (near : Int)) from (hB.block _ HX2.out.lt).trans HX2.out).cell
    have z3 : Boxed W (w.heap.size + 3) 3 (.int .i64 0) := (hB.block _ HX3.out.lt).trans HX3.out
    have z4 : Boxed W (w.heap.size + 4) 4 (.bool false) := (hB.block _ HX4.out.lt).trans HX4.out
    have y3 := z3.cell
    have y4 := z4.cell
    have f3 := z3.frozen
    have f4 := z4.frozen
    obtain ⟨mx, hmx⟩ : ∃ m, m = max ra near := ⟨_, rfl⟩
    have em : max (ra : Int) (near : Int) = (mx : Int) := by omega
    have hmx6 : mx ≤ 65536 := by omega
    have Hz3 := Lib.hid z3
    have Hz4 := Lib.hid z4
    have HBB := Lib.hid hB
    have Hp := Lib.hid hp
    have Hmx := Lib.hid hmx
    clear z3 z4 hB hp hB5 hmx HX1 HX2 HX3 HX4 HRA
    by_cases hf : many ≤ (ra : Int) + (rm : Int) - (mx : Int)
    · have hfd : fitB many near (ra, rm) = true := by unfold fitB; simp only; rw [em]; exact decide_eq_true hf
      have Hfd := Lib.hid hfd
      clear hfd
      gi_wp2_with fail
      have k3 : Boxed (W.setCell ⟨w.heap.size + 3, 0, none⟩ (.int .i64 (mx : Int))) (w.heap.size + 3) 3 (.int .i64 (mx : Int)) := Hz3.out.set _
      have k4 : Boxed (W.setCell ⟨w.heap.size + 3, 0, none⟩ (.int .i64 (mx : Int))) (w.heap.size + 4) 4 (.bool false) := (heap_setCell_other W ⟨w.heap.size + 3, 0, none⟩ (w.heap.size + 4) _ (by simp)).trans Hz4.out
      have j4 := k4.set (.bool true)
      have j3 : Boxed ((W.setCell ⟨w.heap.size + 3, 0, none⟩ (.int .i64 (mx : Int))).setCell ⟨w.heap.size + 4, 0, none⟩ (.bool true)) (w.heap.size + 3) 3 (.int .i64 (mx : Int)) := (heap_setCell_other _ ⟨w.heap.size + 4, 0, none⟩ (w.heap.size + 3) _ (by simp)).trans k3
      have hkk : KeepsOthers W ((W.setCell ⟨w.heap.size + 3, 0, none⟩ (.int .i64 (mx : Int))).setCell ⟨w.heap.size + 4, 0, none⟩ (.bool true)) := (KeepsOthers.setCell _ _ _).trans (KeepsOthers.setCell _ _ _)
      refine ⟨hkk.from _, ⟨rfl, pre.map (·.1), (ra, rm), by rw [List.map_append]; rfl, Hp.out, Hfd.out, by simp only; rw [← Hmx.out]; exact j3, j4⟩, ?_⟩
      exact ((Hb3.out.trans (HBB.out.mono (by omega))).setCell (by simp) _).setCell (by simp) _
    · have hfd : fitB many near (ra, rm) = false := by unfold fitB; simp only; rw [em]; exact decide_eq_false hf
      have Hfd := Lib.hid hfd
      have hff : (many ≤ (ra : Int) + (rm : Int) - (mx : Int)) = False := eq_false hf
      have hfg : decide (many ≤ (ra : Int) + (rm : Int) - (mx : Int)) = false := decide_eq_false hf
      clear hfd hf
      gi_wp2_with fail
      refine ⟨(KeepsOthers.refl _).from _, fun h => h, fun r hr => ?_, HBB.out⟩
      rw [List.map_append, List.mem_append] at hr
      rcases hr with hr | hr
      · exact Hp.out r hr
      · have : r = (ra, rm) := by simpa using hr
        rw [this]; exact Hfd.out
  case done =>
    rintro D xs W hD hS ⟨hp, hB⟩ hK
    rw [hS] at hp
    have hr0 : res = none := by
      rw [Hres.out]
      unfold nextV
      rw [List.find?_eq_none.mpr (fun r hr => by rw [hp r hr]; simp)]
      rfl
    have z3 : Boxed W (w.heap.size + 3) 3 (.int .i64 0) := (hB.block _ HX3.out.lt).trans HX3.out
    have z4 : Boxed W (w.heap.size + 4) 4 (.bool false) := (hB.block _ HX4.out.lt).trans HX4.out
    have y3 := z3.cell
    have y4 := z4.cell
    have f3 := z3.frozen
    have f4 := z4.frozen
    have Hz := Lib.hid (And.intro z3 z4)
    have HK := Lib.hid hK
    have Hb := Lib.hid (Hb3.out.trans (hB.mono (by omega)))
    have Hr0 := Lib.hid hr0
    clear hp hB hK hS z3 z4 hr0 HX1 HX2 HX3 HX4 HRA
    gi_wp2_with fail
    have k3 : Boxed (W.setCell ⟨w.heap.size + 3, 0, none⟩ (.int .i64 0)) (w.heap.size + 3) 3 (.int .i64 0) := Hz.out.1.set _
    have k4 : Boxed (W.setCell ⟨w.heap.size + 3, 0, none⟩ (.int .i64 0)) (w.heap.size + 4) 4 (.bool false) := (heap_setCell_other W ⟨w.heap.size + 3, 0, none⟩ (w.heap.size + 4) _ (by simp)).trans Hz.out.2
    have j4 := k4.set (.bool false)
    have j3 : Boxed ((W.setCell ⟨w.heap.size + 3, 0, none⟩ (.int .i64 0)).setCell ⟨w.heap.size + 4, 0, none⟩ (.bool false)) (w.heap.size + 3) 3 (.int .i64 0) := (heap_setCell_other _ ⟨w.heap.size + 4, 0, none⟩ (w.heap.size + 3) _ (by simp)).trans k3
    have hb4 : Below w.heap.size w ((W.setCell ⟨w.heap.size + 3, 0, none⟩ (.int .i64 0)).setCell ⟨w.heap.size + 4, 0, none⟩ (.bool false)) := (Hb.out.setCell (by simp) _).setCell (by simp) _
    have hk4 : ((W.setCell ⟨w.heap.size + 3, 0, none⟩ (.int .i64 0)).setCell ⟨w.heap.size + 4, 0, none⟩ (.bool false)).heap[D]? = some (.deferred (some [])) := (heap_setCell_other _ _ D _ (by simp; omega)).trans ((heap_setCell_other _ _ D _ (by simp; omega)).trans HK.out)
    clear y3 y4 f3 f4 k3 k4
    generalize (W.setCell ⟨w.heap.size + 3, 0, none⟩ (.int .i64 0)).setCell ⟨w.heap.size + 4, 0, none⟩ (.bool false) = w4 at *
    refine ⟨by simp, .inl ⟨_, _, rfl, run_takeDeferred hk4, ?_⟩⟩
    have u3 := (show Boxed (w4.putObj D (.deferred none)) (w.heap.size + 3) 3 (.int .i64 0) from (World.putObj_heap_other (by omega)).trans j3).cell
    have u4 := (show Boxed (w4.putObj D (.deferred none)) (w.heap.size + 4) 4 (.bool false) from (World.putObj_heap_other (by omega)).trans j4).cell
    have HZ : Hid (Below w.heap.size w (w4.putObj D (.deferred none))) := Lib.hid (hb4.trans (belowK_b (w := w) (Nat.le_refl _) w4 D _ _ (by omega) hk4 rfl rfl))
    clear j3 j4 hb4 hk4
    simp [LeavesInM, LeavesIn, results, Tryd.results102, go_sem, u3, u4, Hr0.out]
    exact HZ.out
  case stop =>
    rintro D cc pre W hD hSp ⟨⟨rfl, l1, x, e1, e2, e3, hx3, hx4⟩, hb⟩ hK
    have hr0 : res = some (max x.1 near) := by
      rw [Hres.out]
      unfold nextV
      rw [e1] at hSp
      rw [find_first hSp e2 e3]
      rfl
    have Hr0 := Lib.hid hr0
    have HX3' := Lib.hid hx3
    have HX4' := Lib.hid hx4
    have Hb := Lib.hid hb
    have HK := Lib.hid hK
    clear hr0 hx3 hx4 hb hK hSp e1 e2 e3 HX1 HX2 HX3 HX4 HRA
    gi_wp2_with fail
    refine ⟨by simp, .inl ⟨_, _, rfl, run_takeDeferred HK.out, ?_⟩⟩
    have u3 := (show Boxed (W.putObj D (.deferred none)) (w.heap.size + 3) 3 (.int .i64 ((max x.1 near : Nat) : Int)) from (World.putObj_heap_other (by omega)).trans HX3'.out).cell
    have u4 := (show Boxed (W.putObj D (.deferred none)) (w.heap.size + 4) 4 (.bool true) from (World.putObj_heap_other (by omega)).trans HX4'.out).cell
    have HZ : Hid (Below w.heap.size w (W.putObj D (.deferred none))) := Lib.hid (Hb.out.trans (belowK_b (w := w) (Nat.le_refl _) W D _ _ (by omega) HK.out rfl rfl))
    obtain ⟨mx, hmx⟩ : ∃ m, m = max x.1 near := ⟨_, rfl⟩
    rw [← hmx] at u3 Hr0
    simp [LeavesInM, LeavesIn, results, Tryd.results102, go_sem, u3, u4, Hr0.out]
    exact HZ.out
end Go.Proofs.YtknacgdjodmaiaaDoor

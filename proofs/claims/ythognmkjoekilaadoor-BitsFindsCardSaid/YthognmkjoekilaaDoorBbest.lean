/- best: the shortest run that suffices. -/
import Derived.Test.YthognmkjoekilaaDoorBfindp
namespace Go.Proofs.YthognmkjoekilaaDoor
set_option linter.unusedVariables false
open Go.RowKit Go.Shelf
attribute [local go_sem] Oper.semAt_some

theorem best_boxes (N : Int) (a : Option Addr) (l c : Nat) (many : Int) (w : World) : ∃ W0, (((w.alloc (.cells #[.int .i64 N, .slice a l c] 24)).alloc (.cells #[.int .i64 many] 3)).alloc (.cells #[.int .i64 0] 3)).alloc (.cells #[.bool false] 4) = W0 ∧
    Blk W0 w.heap.size 24 #[.int .i64 N, .slice a l c] ∧ Boxed W0 (w.heap.size + 1) 3 (.int .i64 many) ∧ Boxed W0 (w.heap.size + 2) 3 (.int .i64 0) ∧ Boxed W0 (w.heap.size + 3) 4 (.bool false) ∧ Below w.heap.size w W0 ∧ W0.heap.size = w.heap.size + 4 := by
  refine ⟨_, rfl, ?_, ?_, ?_, ?_, ?_, by simp⟩
  · have h0 := heap_new w (.cells #[.int .i64 N, .slice a l c] 24)
    simp only [Blk, Boxed]
    rw [Below.heap_alloc _ _ _ (by first | (simp; done) | (simp; omega)), Below.heap_alloc _ _ _ (by first | (simp; done) | (simp; omega)), Below.heap_alloc _ _ _ (by first | (simp; done) | (simp; omega))]
    exact h0
  · have h0 := heap_new (w.alloc (.cells #[.int .i64 N, .slice a l c] 24)) (.cells #[.int .i64 many] 3)
    simp only [World.size_alloc] at h0
    simp only [Boxed]
    rw [Below.heap_alloc _ _ _ (by first | (simp; done) | (simp; omega)), Below.heap_alloc _ _ _ (by first | (simp; done) | (simp; omega))]
    exact h0
  · have h0 := heap_new ((w.alloc (.cells #[.int .i64 N, .slice a l c] 24)).alloc (.cells #[.int .i64 many] 3)) (.cells #[.int .i64 0] 3)
    simp only [World.size_alloc] at h0
    simp only [Boxed]
    rw [Below.heap_alloc _ _ _ (by first | (simp; done) | (simp; omega))]
    exact h0
  · have h0 := heap_new (((w.alloc (.cells #[.int .i64 N, .slice a l c] 24)).alloc (.cells #[.int .i64 many] 3)).alloc (.cells #[.int .i64 0] 3)) (.cells #[.bool false] 4)
    simp only [World.size_alloc] at h0
    exact h0
  · exact (((((Below.refl _ w).alloc (Nat.le_refl _) _).alloc (by simp) _).alloc (by first | (simp; done) | (simp; omega)) _).alloc (by first | (simp; done) | (simp; omega)) _)
/-- One run more, as the program reckons it. -/
def stepC (M : Nat) (many : Int) (s : Option (Nat × Nat)) (r : Nat × Nat) : Option (Nat × Nat) := if many ≤ (r.2 : Int) ∧ r.2 < (s.map (·.2)).getD (M + 1) then some r else s
def selC (M : Nat) (many : Int) (L : List (Nat × Nat)) : Option (Nat × Nat) := L.foldl (stepC M many) none
theorem selC_snoc (M : Nat) (many : Int) (L : List (Nat × Nat)) (r : Nat × Nat) : selC M many (L ++ [r]) = stepC M many (selC M many L) r := by simp [selC]
theorem selC_eq (M : Nat) (many : Int) : ∀ (L : List (Nat × Nat)) (s : Option (Nat × Nat)), (∀ r ∈ L, r.2 ≤ M) → L.foldl (stepC M many) s = L.foldl (stepH true many) s
  | [], s, _ => rfl
  | r :: L, s, h => by
    simp only [List.foldl_cons]
    have e : stepC M many s r = stepH true many s r := by
      have hr := h r List.mem_cons_self
      cases s with
      | none =>
        unfold stepC stepH
        simp only [Option.map_none, Option.getD_none]
        by_cases hm : many ≤ (r.2 : Int)
        · rw [if_pos ⟨hm, by omega⟩, if_pos hm]
        · rw [if_neg (fun k => hm k.1), if_neg hm]
      | some b =>
        unfold stepC stepH
        simp
    rw [e]
    exact selC_eq M many L _ (fun x hx => h x (List.mem_cons_of_mem _ hx))
/-- What the boxes hold behind some runs. -/
structure BestAt (W : World) (B M : Nat) (s : Option (Nat × Nat)) : Prop where
  a : Boxed W (B + 2) 3 (.int .i64 (((s.map (·.1)).getD 0 : Nat) : Int))
  f : Boxed W (B + 3) 4 (.bool s.isSome)
  m : Boxed W (B + 4) 3 (.int .i64 (((s.map (·.2)).getD (M + 1) : Nat) : Int))
set_option maxRecDepth 100000 in
set_option maxHeartbeats 4000000 in
theorem best_any (M : Nat) (a : Option Addr) (l c : Nat) (bs : List Int) (many near : Int) (w : World) (hr : Rd w a l c bs) (hv : validB (M : Int) bs = true) :
    Calls Tryd.prog 103 #[.agg #[.int .i64 (M : Int), .slice a l c], .int .i64 many, .int .i64 near] w fun e w' => e = .returned (.tuple #[.int .i64 ((bstV bs M many).getD 0 : Nat), .bool (bstV bs M many).isSome]) ∧ Below w.heap.size w w' := by
  have hM6 : M ≤ 65536 := by have := (validB_iff (M : Int) bs).mp hv; omega
  obtain ⟨W0, hW0, hB, x1, x2, x3, hb0, hs0⟩ := best_boxes (M : Int) a l c many w
  obtain ⟨W1, hW1⟩ : ∃ W1, W1 = W0.alloc (.cells #[.int .i64 ((M : Int) + 1)] 3) := ⟨_, rfl⟩
  have hb1 : Below W0.heap.size W0 W1 := by rw [hW1]; exact (Below.refl _ W0).alloc (Nat.le_refl _) _
  have x4 : Boxed W1 (w.heap.size + 4) 3 (.int .i64 ((M : Int) + 1)) := by rw [hW1, ← hs0]; exact Boxed.new _ _ _
  have hs1 : W1.heap.size = w.heap.size + 5 := by rw [hW1]; simp [hs0]
  have q0 : W0.cell? ⟨w.heap.size, 0, none⟩ = some (.int .i64 (M : Int)) := hB.cell 0
  have hB1 := hB.below hb1 hB.lt
  obtain ⟨res, hres⟩ : ∃ r, r = selC M many (runsV bs M false) := ⟨_, rfl⟩
  have hgoal : bstV bs M many = res.map (·.1) := by
    rw [hres]
    unfold selC
    rw [selC_eq M many _ none (fun r hr => by have := runsV_bd bs M false r hr; omega)]
    rfl
  rw [hgoal]
  have HW := Lib.hid hW0
  have HW1 := Lib.hid hW1
  have Hb1 := Lib.hid (hb0.trans (hb1.mono hb0.size))
  have y1 : Boxed W1 (w.heap.size + 1) 3 (.int .i64 many) := (hb1.block _ x1.lt).trans x1
  have y2 : Boxed W1 (w.heap.size + 2) 3 (.int .i64 0) := (hb1.block _ x2.lt).trans x2
  have y3 : Boxed W1 (w.heap.size + 3) 4 (.bool false) := (hb1.block _ x3.lt).trans x3
  have HX := Lib.hid (And.intro y1 (And.intro y2 (And.intro y3 x4)))
  have HRw := Lib.hid hr
  have HR := Lib.hid (hr.below (hb0.trans (hb1.mono hb0.size)) (Nat.le_refl _))
  have HB1 := Lib.hid hB1
  have Hv := Lib.hid hv
  have Hres := Lib.hid hres
  have Hs1 := Lib.hid hs1
  have Hs0 := Lib.hid hs0
  clear hW0 hW1 hB x1 x2 x3 x4 y1 y2 y3 hb0 hb1 hr hv hres hs0 hs1 hB1 hgoal
  refine (callsIn_wide (n := 9)).1 ?_
  refine callsIn_of_wp_marks Tryd.func103 rfl trivial ?_ rfl
  simp only [Tryd.ntmps103, List.size_toArray, List.length_cons, List.length_nil, Nat.reduceAdd, Nat.reduceSub, Array.replicate_succ, Array.replicate_zero, List.push_toArray, List.append_toArray, List.nil_append, List.cons_append]
  gi_upto_region 1 with fail
  rw [HW.out]
  gi_upto_region 2 with fail
  rw [← HW1.out, Hs0.out]
  have p0 : W1.cell? ⟨w.heap.size, 0, none⟩ = some (.int .i64 (M : Int)) := HB1.out.cell 0
  have p1 : W1.cell? ⟨w.heap.size, 1, none⟩ = some (.slice a l c) := HB1.out.cell 1
  gi_wp2_with fail
  refine ⟨trivial, ?_⟩
  refine (callsIn_wide.2 (runs_any M a l c false W1)).mono ?_
  rintro e1 w3 ⟨rfl, hw3⟩
  have hb3 : Below W1.heap.size W1 w3 := by rw [hw3]; exact ((Below.refl _ W1).alloc (Nat.le_refl _) _).alloc (by simp) _
  have hRA : RunsAt w3 W1.heap.size (W1.heap.size + 1) M a l c bs false := by
    refine ⟨?_, ?_, HR.out.below hb3 (Nat.le_refl _)⟩
    · rw [hw3]; exact Blk.below (heap_new W1 _ : Blk (W1.alloc _) _ _ _) ((Below.refl _ _).alloc (Nat.le_refl _) _) (by simp)
    · rw [hw3]; have := Boxed.new (W1.alloc (.cells #[.int .i64 (M : Int), .slice a l c] 24)) 4 (.bool false); rw [World.size_alloc] at this; exact this
  have HRA := Lib.hid hRA
  have hs3 : w.heap.size + 5 ≤ w3.heap.size := by have := hb3.size; have := Hs1.out; omega
  have Hb3 := Lib.hid (Hb1.out.trans (hb3.mono Hb1.out.size))
  have HXm : Hid (Boxed w3 (w.heap.size + 1) 3 (.int .i64 many)) := Lib.hid ((hb3.block _ HX.out.1.lt).trans HX.out.1)
  have HBA : Hid (BestAt w3 w.heap.size M none) := Lib.hid ⟨(hb3.block _ HX.out.2.1.lt).trans HX.out.2.1, (hb3.block _ HX.out.2.2.1.lt).trans HX.out.2.2.1, (hb3.block _ HX.out.2.2.2.lt).trans HX.out.2.2.2⟩
  clear hw3 hb3 hRA HX p0 p1 q0 HR Hb1 HW HW1 HB1
  gi_wp2_with fail
  rw [show w.heap.size + 1 + 1 + 1 = w.heap.size + 3 from rfl, show w.heap.size + 1 + 1 = w.heap.size + 2 from rfl]
  refine wpIn_rangeFunc_made rfl (by omega) (gf := 92) (lb := #[.pointer (some ⟨W1.heap.size, 0, none⟩), .pointer (some ⟨W1.heap.size + 1, 0, none⟩)]) rfl trivial (enters_of Tryd.func92 (by kernel_rfl) rfl)
    (runs1_stops _ (by omega) _ _ M M a l c bs false w3 HRA.out Hv.out rfl _ rfl)
    (fun h k hx => k (h hx)) ?kb (Below.refl _ _) (fun _ => rfl)
    (fun (pre : List RunNo) (W : World) => BestAt W w.heap.size M (selC M many (pre.map (·.1))) ∧ Boxed W (w.heap.size + 1) 3 (.int .i64 many) ∧ Below w.heap.size w W ∧ w3.heap.size ≤ W.heap.size)
    (fun _ _ _ => False)
    (fun pre x b W => ∃ B5, b = { tmps := #[.agg #[.int .i64 (M : Int), .slice a l c], .int .i64 many, .int .i64 near, .pointer (some ⟨w.heap.size, 0, none⟩), .pointer (some ⟨w.heap.size + 1, 0, none⟩), undef, .pointer (some ⟨w.heap.size + 2, 0, none⟩), .pointer (some ⟨w.heap.size + 3, 0, none⟩), .pointer (some ⟨w.heap.size + 4, 0, none⟩), .pointer (some ⟨B5, 0, none⟩), .pointer (some ⟨w.heap.size, 0, none⟩), .int .i64 (M : Int), .int .i64 ((M : Int) + 1), .agg #[.int .i64 (M : Int), .slice a l c], .func (.func 92) #[] #[.pointer (some ⟨W1.heap.size, 0, none⟩), .pointer (some ⟨W1.heap.size + 1, 0, none⟩)], .agg #[.int .i64 (x.1.1 : Int), .int .i64 (x.1.2 : Int)], undef, undef, undef, undef, undef, undef, undef, undef, undef, undef, undef, undef, undef, undef, undef, undef], defers := [] } ∧ Blk W B5 60 #[.int .i64 (x.1.1 : Int), .int .i64 (x.1.2 : Int)] ∧ w3.heap.size ≤ B5 ∧ BestAt W w.heap.size M (selC M many (pre.map (·.1))) ∧ Boxed W (w.heap.size + 1) 3 (.int .i64 many) ∧ Below w.heap.size w W ∧ w3.heap.size ≤ W.heap.size)
    ?own ?ownx ?ownA ?start ?assign ?body ?done ?stop
  case kb =>
    intro W l o o' hl ho hc _ hx
    exact ⟨(World.putObj_heap_other (by intro e; subst e; have := ho.symm.trans hx.b; cases this; cases hc)).trans hx.b, (World.putObj_heap_other (by intro e; subst e; have := ho.symm.trans hx.o; cases this; cases hc)).trans hx.o, (rd_own (β := Unit) a _ c bs) () W _ (some l) hx.r (grownBy_putObj' W l o') (fun k e => by cases e; exact ⟨o, ho, hc⟩)⟩
  case own =>
    rintro pre X Y row ⟨⟨k1, k2, k3⟩, k4, k5, k6⟩ hg hrow
    exact ⟨⟨(boxed_own _ _ (fun _ : Unit => _)) () X Y row k1 hg (fun k e => (hrow k e).2), (boxed_own _ _ (fun _ : Unit => _)) () X Y row k2 hg (fun k e => (hrow k e).2), (boxed_own _ _ (fun _ : Unit => _)) () X Y row k3 hg (fun k e => (hrow k e).2)⟩, (boxed_own _ _ (fun _ : Unit => _)) () X Y row k4 hg (fun k e => (hrow k e).2), (ownFrom_below (β := Unit) (by omega) (by omega)) () X Y row k5 hg hrow, Nat.le_trans k6 hg.size⟩
  case ownx => exact fun _ _ _ _ _ hs _ _ => hs
  case ownA =>
    rintro pre x b X Y row ⟨B5, hb, hB5, hB6, ⟨k1, k2, k3⟩, k4, k5, k6⟩ hg hrow
    exact ⟨B5, hb, (blk_own (β := Unit) B5 60 (fun _ => #[.int .i64 (x.1.1 : Int), .int .i64 (x.1.2 : Int)])) () X Y row hB5 hg (fun k e => (hrow k e).2), hB6, ⟨(boxed_own _ _ (fun _ : Unit => _)) () X Y row k1 hg (fun k e => (hrow k e).2), (boxed_own _ _ (fun _ : Unit => _)) () X Y row k2 hg (fun k e => (hrow k e).2), (boxed_own _ _ (fun _ : Unit => _)) () X Y row k3 hg (fun k e => (hrow k e).2)⟩, (boxed_own _ _ (fun _ : Unit => _)) () X Y row k4 hg (fun k e => (hrow k e).2), (ownFrom_below (β := Unit) (by omega) (by omega)) () X Y row k5 hg hrow, Nat.le_trans k6 hg.size⟩
  case start => exact ⟨HBA.out, HXm.out, Hb3.out, Nat.le_refl _⟩
  case assign =>
    rintro ln pre x W ⟨⟨k1, k2, k3⟩, k4, k5, k6⟩ hlt
    dsimp only [runEnc]
    gi_wp2_with fail
    have hbA : Below W.heap.size W (W.alloc (.cells #[.int .i64 (x.1.1 : Int), .int .i64 (x.1.2 : Int)] 60)) := (Below.refl _ W).alloc (Nat.le_refl _) _
    exact ⟨(KeepsOthers.alloc W _).from _, fun hx => hx.below hbA, _, rfl, heap_new W _, k6, ⟨(hbA.block _ k1.lt).trans k1, (hbA.block _ k2.lt).trans k2, (hbA.block _ k3.lt).trans k3⟩, (hbA.block _ k4.lt).trans k4, k5.trans (hbA.mono k5.size), Nat.le_trans k6 hbA.size⟩
  case body =>
    rintro ln pre x b W ⟨B5, rfl, hB5, hB6, ⟨k1, k2, k3⟩, k4, k5, k6⟩
    obtain ⟨⟨ra, rm⟩, hx1, hx2⟩ := x
    dsimp only at hx1 hx2 hB5 ⊢
    obtain ⟨s, hs⟩ : ∃ s, s = selC M many (pre.map (·.1)) := ⟨_, rfl⟩
    rw [← hs] at k1 k2 k3
    have hstep : selC M many ((pre ++ [(⟨(ra, rm), hx1, hx2⟩ : RunNo)]).map (·.1)) = stepC M many s (ra, rm) := by rw [List.map_append, List.map_singleton, selC_snoc, ← hs]
    have r0 : W.cell? ⟨B5, 0, none⟩ = some (.int .i64 (ra : Int)) := hB5.cell 0
    have r1 : W.cell? ⟨B5, 1, none⟩ = some (.int .i64 (rm : Int)) := hB5.cell 1
    obtain ⟨at0, hat⟩ : ∃ n, n = (s.map (·.1)).getD 0 := ⟨_, rfl⟩
    obtain ⟨le0, hle⟩ : ∃ n, n = (s.map (·.2)).getD (M + 1) := ⟨_, rfl⟩
    rw [← hat] at k1
    rw [← hle] at k3
    have y4 := k4.cell
    have y1 := k1.cell
    have y2 := k2.cell
    have y3 := k3.cell
    have K1 := Lib.hid k1
    have K2 := Lib.hid k2
    have K3 := Lib.hid k3
    have K4 := Lib.hid k4
    have K5 := Lib.hid k5
    have Hstep := Lib.hid hstep
    have Hle := Lib.hid hle
    have Hat := Lib.hid hat
    have hnB5 : w.heap.size + 4 < B5 := by omega
    clear k1 k2 k3 k4 k5 hs hstep hle hat hB5 HXm HRA HBA Hres
    have keepK : ∀ W', (∀ k, k ≠ w.heap.size + 2 → k ≠ w.heap.size + 3 → k ≠ w.heap.size + 4 → W'.heap[k]? = W.heap[k]?) → Below w.heap.size w W' → runsKp W1.heap.size (W1.heap.size + 1) M a l c bs false W W' := fun W' hk hb hx =>
      ⟨(hk _ (by have := Hs1.out; omega) (by have := Hs1.out; omega) (by have := Hs1.out; omega)).trans hx.b, (hk _ (by have := Hs1.out; omega) (by have := Hs1.out; omega) (by have := Hs1.out; omega)).trans hx.o, HRw.out.below hb (Nat.le_refl _)⟩
    by_cases c1 : many ≤ (rm : Int)
    · by_cases c2 : rm < le0
      · have c2i : (rm : Int) < (le0 : Int) := by omega
        have hst : stepC M many s (ra, rm) = some (ra, rm) := by unfold stepC; rw [← Hle.out]; exact if_pos ⟨c1, c2⟩
        have Hst := Lib.hid (Hstep.out.trans hst)
        clear hst Hstep Hle Hat
        have b1 := K1.out
        have b2 := K2.out
        have b3 := K3.out
        have b4 := K4.out
        have b5 := K5.out
        have v1 := b1.frozen
        have v2 := b2.frozen
        have v3 := b3.frozen
        obtain ⟨wA, hwA⟩ : ∃ x, x = W.setCell ⟨w.heap.size + 2, 0, none⟩ (.int .i64 (ra : Int)) := ⟨_, rfl⟩
        obtain ⟨wB, hwB⟩ : ∃ x, x = wA.setCell ⟨w.heap.size + 4, 0, none⟩ (.int .i64 (rm : Int)) := ⟨_, rfl⟩
        obtain ⟨wC, hwC⟩ : ∃ x, x = wB.setCell ⟨w.heap.size + 3, 0, none⟩ (.bool true) := ⟨_, rfl⟩
        have oA : ∀ k, k ≠ w.heap.size + 2 → wA.heap[k]? = W.heap[k]? := fun k hk => by rw [hwA]; exact heap_setCell_other _ _ k _ (by simpa using hk)
        have oB : ∀ k, k ≠ w.heap.size + 4 → wB.heap[k]? = wA.heap[k]? := fun k hk => by rw [hwB]; exact heap_setCell_other _ _ k _ (by simpa using hk)
        have oC : ∀ k, k ≠ w.heap.size + 3 → wC.heap[k]? = wB.heap[k]? := fun k hk => by rw [hwC]; exact heap_setCell_other _ _ k _ (by simpa using hk)
        have a1 : Boxed wA (w.heap.size + 2) 3 (.int .i64 (ra : Int)) := by rw [hwA]; exact b1.set _
        have a3 : Boxed wA (w.heap.size + 4) 3 (.int .i64 (le0 : Int)) := (oA _ (by omega)).trans b3
        have a2 : Boxed wA (w.heap.size + 3) 4 (.bool s.isSome) := (oA _ (by omega)).trans b2
        have e3 : Boxed wB (w.heap.size + 4) 3 (.int .i64 (rm : Int)) := by rw [hwB]; exact a3.set _
        have e2 : Boxed wB (w.heap.size + 3) 4 (.bool s.isSome) := (oB _ (by omega)).trans a2
        have g1 : Boxed wC (w.heap.size + 2) 3 (.int .i64 (ra : Int)) := (oC _ (by omega)).trans ((oB _ (by omega)).trans a1)
        have g2 : Boxed wC (w.heap.size + 3) 4 (.bool true) := by rw [hwC]; exact e2.set _
        have g3 : Boxed wC (w.heap.size + 4) 3 (.int .i64 (rm : Int)) := (oC _ (by omega)).trans e3
        have g4 : Boxed wC (w.heap.size + 1) 3 (.int .i64 many) := (oC _ (by omega)).trans ((oB _ (by omega)).trans ((oA _ (by omega)).trans b4))
        have g5 : Below w.heap.size w wC := by rw [hwC, hwB, hwA]; exact ((b5.setCell (by simp) _).setCell (by simp) _).setCell (by simp) _
        have gk : KeepsOthers W wC := by rw [hwC, hwB, hwA]; exact ((KeepsOthers.setCell _ _ _).trans (KeepsOthers.setCell _ _ _)).trans (KeepsOthers.setCell _ _ _)
        have gs : w3.heap.size ≤ wC.heap.size := by
          rw [hwC, hwB, hwA]; simpa using k6
        have Fin : Hid (KeepsFrom w3.heap.size W wC.drew ∧ runsKp W1.heap.size (W1.heap.size + 1) M a l c bs false W wC.drew ∧ BestAt wC.drew w.heap.size M (some (ra, rm)) ∧ Boxed wC.drew (w.heap.size + 1) 3 (.int .i64 many) ∧ Below w.heap.size w wC.drew ∧ w3.heap.size ≤ wC.drew.heap.size) :=
          Lib.hid ⟨(gk.trans (KeepsOthers.drew wC)).from w3.heap.size, keepK wC.drew (fun k h1 h2 h3 => (oC k h2).trans ((oB k h3).trans (oA k h1))) g5.drew, ⟨g1, g2, g3⟩, g4, g5.drew, gs⟩
        rw [hwC, hwB, hwA] at Fin
        clear hwA hwB hwC oA oB oC a1 a2 a3 e3 e2 g1 g2 g3 g4 g5 gk gs b1 b2 b3 b4 b5 keepK K1 K2 K3 K4 K5 wA wB wC
        gi_wp2_with fail
        have n1 : ¬ (w.heap.size + 2 = B5) := by omega
        have n2 : ¬ (B5 = w.heap.size + 2) := by omega
        have n3 : ¬ (w.heap.size + 4 = B5) := by omega
        have n4 : ¬ (B5 = w.heap.size + 4) := by omega
        have hmix : Tryd.prog.follows Departure.mixedOrders = true := by kernel_rfl
        gi_region_with_o (fail)
        all_goals exact ⟨Fin.out.1, Fin.out.2.1, by rw [Hst.out]; exact Fin.out.2.2.1, Fin.out.2.2.2.1, Fin.out.2.2.2.2.1, Fin.out.2.2.2.2.2⟩
      · have c2i : (le0 : Int) ≤ (rm : Int) := by omega
        have hst : stepC M many s (ra, rm) = s := by unfold stepC; rw [← Hle.out]; exact if_neg (fun k => c2 k.2)
        have Hst := Lib.hid (Hstep.out.trans hst)
        clear hst Hstep
        gi_wp2_with fail
        exact ⟨(KeepsOthers.refl _).from _, fun h => h, by rw [Hst.out]; exact ⟨by rw [← Hat.out]; exact K1.out, K2.out, by rw [← Hle.out]; exact K3.out⟩, K4.out, K5.out, k6⟩
    · have c1i : (rm : Int) < many := by omega
      have hst : stepC M many s (ra, rm) = s := by unfold stepC; exact if_neg (fun k => c1 k.1)
      have Hst := Lib.hid (Hstep.out.trans hst)
      clear hst Hstep
      gi_wp2_with fail
      exact ⟨(KeepsOthers.refl _).from _, fun h => h, by rw [Hst.out]; exact ⟨by rw [← Hat.out]; exact K1.out, K2.out, by rw [← Hle.out]; exact K3.out⟩, K4.out, K5.out, k6⟩
  case done =>
    rintro D xs W hD hS ⟨⟨k1, k2, k3⟩, k4, k5, k6⟩ hK
    rw [hS, ← Hres.out] at k1 k2
    obtain ⟨at0, hat⟩ : ∃ n, n = (res.map (·.1)).getD 0 := ⟨_, rfl⟩
    obtain ⟨fd, hfd⟩ : ∃ b, b = res.isSome := ⟨_, rfl⟩
    rw [← hat] at k1
    rw [← hfd] at k2
    have y1 := k1.cell
    have y2 := k2.cell
    have f1 := k1.frozen
    have f2 := k2.frozen
    have HK := Lib.hid hK
    have K1 := Lib.hid k1
    have K2 := Lib.hid k2
    have K5 := Lib.hid k5
    have Hat := Lib.hid hat
    have Hfd := Lib.hid hfd
    clear k1 k2 k3 k4 k5 hK hS hat hfd HXm HRA HBA Hres
    gi_wp2_with fail
    refine wpIn_wide.2 ?_
    refine wp_region_noPanic ?_
    refine wp_region_held_drew (S := fun u => Boxed u (w.heap.size + 2) 3 (.int .i64 (at0 : Int)) ∧ Boxed u (w.heap.size + 3) 4 (.bool fd) ∧ Below w.heap.size w u ∧ u.heap[D]? = some (.deferred (some []))) (by kernel_rfl) ⟨K1.out, K2.out, K5.out.drew, HK.out⟩ (fun _ => ?_)
    obtain ⟨w9, hw9⟩ : ∃ w9, w9 = W.drew := ⟨_, rfl⟩
    rw [← hw9]
    have HS : Hid (Boxed w9 (w.heap.size + 2) 3 (.int .i64 (at0 : Int)) ∧ Boxed w9 (w.heap.size + 3) 4 (.bool fd) ∧ Below w.heap.size w w9 ∧ w9.heap[D]? = some (.deferred (some []))) := Lib.hid (by rw [hw9]; exact ⟨K1.out, K2.out, K5.out.drew, HK.out⟩)
    clear hw9
    refine wpAnyH_take (i := 0) (v := .int .i64 (at0 : Int)) rfl (by kernel_rfl) (by kernel_rfl) (by kernel_rfl) (fun _ _ _ h => h) (Or.inl ⟨by rfl, ?_⟩) HS.out ?_
    · intro u hu; have := hu.1.cell; go_simp
    go_simp
    refine wpAnyH_take (i := 1) (v := .bool fd) rfl (by kernel_rfl) (by kernel_rfl) (by kernel_rfl) (fun _ _ _ h => h) (Or.inl ⟨by rfl, ?_⟩) HS.out ?_
    · intro u hu; have := hu.2.1.cell; go_simp
    go_simp
    refine wpAnyH_ready (rs := [2]) (by kernel_rfl) (by simp) ?_
    refine AllReadyH.cons rfl (fun K9 hK9 => ?_) AllReadyH.nil
    have g1 := HS.out.1.cell
    have g2 := HS.out.1.frozen
    go_simp
    obtain ⟨V6, hV6⟩ : ∃ V, V = w9.setCell ⟨w.heap.size + 2, 0, none⟩ (.int .i64 (at0 : Int)) := ⟨_, rfl⟩
    have HS6 : Hid (Boxed V6 (w.heap.size + 2) 3 (.int .i64 (at0 : Int)) ∧ Boxed V6 (w.heap.size + 3) 4 (.bool fd) ∧ Below w.heap.size w V6 ∧ V6.heap[D]? = some (.deferred (some []))) := Lib.hid (by rw [hV6]; exact ⟨HS.out.1.set _, (heap_setCell_other _ ⟨w.heap.size + 2, 0, none⟩ (w.heap.size + 3) _ (by simp)).trans HS.out.2.1, HS.out.2.2.1.setCell (by simp) _, (heap_setCell_other _ ⟨w.heap.size + 2, 0, none⟩ D _ (by simp; omega)).trans HS.out.2.2.2⟩)
    rw [← hV6]
    refine hK9.out _ _ HS6.out (fun _ => ?_)
    clear hK9 K9 g1 g2 hV6 HS
    refine wpAnyH_ready (rs := [3]) (by kernel_rfl) (by simp) ?_
    refine AllReadyH.cons rfl (fun K9 hK9 => ?_) AllReadyH.nil
    have g1 := HS6.out.2.1.cell
    have g2 := HS6.out.2.1.frozen
    go_simp
    obtain ⟨V7, hV7⟩ : ∃ V, V = V6.setCell ⟨w.heap.size + 3, 0, none⟩ (.bool fd) := ⟨_, rfl⟩
    have HS7 : Hid (Boxed V7 (w.heap.size + 2) 3 (.int .i64 (at0 : Int)) ∧ Boxed V7 (w.heap.size + 3) 4 (.bool fd) ∧ Below w.heap.size w V7 ∧ V7.heap[D]? = some (.deferred (some []))) := Lib.hid (by rw [hV7]; exact ⟨(heap_setCell_other _ ⟨w.heap.size + 3, 0, none⟩ (w.heap.size + 2) _ (by simp)).trans HS6.out.1, HS6.out.2.1.set _, HS6.out.2.2.1.setCell (by simp) _, (heap_setCell_other _ ⟨w.heap.size + 3, 0, none⟩ D _ (by simp; omega)).trans HS6.out.2.2.2⟩)
    rw [← hV7]
    refine hK9.out _ _ HS7.out (fun _ => ?_)
    clear hK9 K9 g1 g2 hV7 HS6
    refine wpAnyH_done (by kernel_rfl) ?_ _
    refine NoPanic.normal ?_
    gi_wp2_with fail
    refine ⟨by simp, .inl ⟨_, _, rfl, run_takeDeferred HS7.out.2.2.2, ?_⟩⟩
    have u3 := (show Boxed (V7.putObj D (.deferred none)) (w.heap.size + 2) 3 (.int .i64 (at0 : Int)) from (World.putObj_heap_other (by omega)).trans HS7.out.1).cell
    have u4 := (show Boxed (V7.putObj D (.deferred none)) (w.heap.size + 3) 4 (.bool fd) from (World.putObj_heap_other (by omega)).trans HS7.out.2.1).cell
    have HZ : Hid (Below w.heap.size w (V7.putObj D (.deferred none))) := Lib.hid (HS7.out.2.2.1.trans (belowK_b (w := w) (Nat.le_refl _) V7 D _ _ (by omega) HS7.out.2.2.2 rfl rfl))
    clear HS7 K1 K2 K5 HK
    simp [LeavesInM, LeavesIn, results, Tryd.results103, go_sem, u3, u4]
    exact ⟨⟨by rw [Hat.out], Hfd.out⟩, HZ.out⟩
  case stop =>
    rintro D c pre W _ _ h _
    exact h.elim
end Go.Proofs.YthognmkjoekilaaDoor

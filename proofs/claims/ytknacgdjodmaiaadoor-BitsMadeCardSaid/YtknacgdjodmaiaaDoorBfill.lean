/- fill: a range of bits is set, or cleared, in bytes of the caller's own. -/
import Derived.Test.YtknacgdjodmaiaaDoorBbut
import Derived.Test.YtknacgdjodmaiaaDoorBfillp
import Derived.Stop.RegionWithIn
import Derived.Deep.RegionWith
import Derived.IntWalk
import Derived.Deep.RegionHeld3
import Derived.Sort.QuietIn
namespace Go.Proofs.YtknacgdjodmaiaaDoor
set_option linter.unusedVariables false
open Go.RowKit Go.Shelf
attribute [local go_sem] Oper.semAt_some

theorem partN_bd (a e : Nat) : a < e → (e + 7) / 8 ≤ a / 8 + partN a e := fun h => by unfold partN; rw [if_pos h]; omega
theorem boxesKp_but {x g h : Nat} {a n : Int} {W W' : World} (hb : But x W W') (hg : x ≠ g) (hh : x ≠ h) : boxesKp g h a n W W' := fun ⟨h1, h2⟩ => ⟨hb.boxed h1 (Ne.symm hg), hb.boxed h2 (Ne.symm hh)⟩
theorem own_blk {W : World} {B g n cap : Nat} {xs : List Int} (h : Own W B (.slice (some ⟨g, 0, none⟩) n cap) xs) : ∃ cur, W.heap[g]? = some (.cells cur 5 (0, 0)) := by
  rcases h.1.2 with ⟨h1, _⟩ | ⟨g', cap', cur, h1, _, h2, _⟩
  · cases h1
  · simp only [Value.slice.injEq, Option.some.injEq, Addr.mk.injEq] at h1
    obtain ⟨⟨rfl, -⟩, -⟩ := h1
    exact ⟨cur, h2⟩
theorem Own.keeps {W W' : World} {B g n cap : Nat} {xs : List Int} (ho : Own W B (.slice (some ⟨g, 0, none⟩) n cap) xs) (h : But g W W') : KeepsOthers W W' := by
  obtain ⟨cur, hb⟩ := own_blk ho
  exact But.keeps h hb
theorem own_own {β : Type} (B : Nat) (v : Value) (f : β → List Int) : Go.Own (fun s W => Own W B v (f s)) := fun s X Y row ho hg hrow => by
  refine ⟨⟨ho.1.1, ?_⟩, ho.2⟩
  rcases ho.1.2 with hn | ⟨g', cap, cur, rfl, hg0, hgg, rest⟩
  · exact .inl hn
  · refine .inr ⟨g', cap, cur, rfl, hg0, ?_, rest⟩
    refine (hg.block g' (Array.getElem?_eq_some_iff.1 hgg).1 (fun e => ?_)).trans hgg
    obtain ⟨o, ho', hc⟩ := hrow g' e.symm
    have : some o = some (Obj.cells cur 5 (0, 0)) := ho'.symm.trans hgg
    cases this
    cases hc
set_option maxRecDepth 100000 in
set_option maxHeartbeats 4000000 in
theorem fill_some (N : Int) (B g cap : Nat) (bs : List Int) (n : Nat) (a m e : Nat) (on : Bool) (w : World) (hn : bs.length = n) (ho : Own w B (.slice (some ⟨g, 0, none⟩) n cap) bs) (he : e = a + m) (hr : e ≤ 8 * n) (hbig : n ≤ 9000) :
    Calls Tryd.prog 50 #[.agg #[.int .i64 N, .slice (some ⟨g, 0, none⟩) n cap], .int .i64 a, .int .i64 m, .bool on] w fun e' w' => e' = .returned (.tuple #[]) ∧ Own w' B (.slice (some ⟨g, 0, none⟩) n cap) (fillV bs a e on) ∧ But g w w' := by
  have hgl : g < w.heap.size := by
    rcases ho.1.2 with ⟨h1, _⟩ | ⟨g', cap', cur, h1, _, h2, _⟩
    · cases h1
    · simp only [Value.slice.injEq, Option.some.injEq, Addr.mk.injEq] at h1
      obtain ⟨⟨rfl, -⟩, -⟩ := h1
      exact (Array.getElem?_eq_some_iff.1 h2).1
  obtain ⟨W0, hW0⟩ : ∃ W0, W0 = w.alloc (.cells #[.int .i64 N, .slice (some ⟨g, 0, none⟩) n cap] 24) := ⟨_, rfl⟩
  obtain ⟨W1, hW1⟩ : ∃ W1, W1 = W0.alloc (.cells #[.bool on] 4) := ⟨_, rfl⟩
  have hs0 : W0.heap.size = w.heap.size + 1 := by rw [hW0]; simp
  have hs1 : W1.heap.size = w.heap.size + 2 := by rw [hW1]; simp [hs0]
  have hb1 : Below w.heap.size w W1 := by rw [hW1, hW0]; exact ((Below.refl _ w).alloc (Nat.le_refl _) _).alloc (by simp) _
  have hB1 : Blk W1 w.heap.size 24 #[.int .i64 N, .slice (some ⟨g, 0, none⟩) n cap] := by rw [hW1]; exact (Blk.below (heap_new w _ : Blk (w.alloc _) _ _ _) ((Below.refl _ _).alloc (Nat.le_refl _) _) (by simp) : Blk _ _ _ _) |> fun h => by rw [hW0]; exact h
  have hX1 : Boxed W1 (w.heap.size + 1) 4 (.bool on) := by have := Boxed.new W0 4 (.bool on); rw [hs0] at this; rw [hW1]; exact this
  have hbs : isBs bs := ho.2
  have hO1 := ho.below hb1 (Nat.le_refl _)
  have HW0 := Lib.hid hW0
  have HW1 := Lib.hid hW1
  have Hb1 := Lib.hid hb1
  have HB1 := Lib.hid hB1
  have HX1 := Lib.hid hX1
  have Hs1 := Lib.hid hs1
  have Hbs := Lib.hid hbs
  have HO1 := Lib.hid hO1
  have He := Lib.hid he
  have hae1 : -9223372036854775808 ≤ (a : Int) + (m : Int) := by omega
  have hae2 : (a : Int) + (m : Int) ≤ 9223372036854775807 := by omega
  clear hW0 hW1 hb1 hB1 hX1 hs0 hs1 hbs he hO1 ho
  refine (callsIn_wide (n := 9)).1 ?_
  refine callsIn_of_wp_marks Tryd.func50 rfl trivial ?_ rfl
  simp only [Tryd.ntmps50, List.size_toArray, List.length_cons, List.length_nil, Nat.reduceAdd, Nat.reduceSub, Array.replicate_succ, Array.replicate_zero, List.push_toArray, List.append_toArray, List.nil_append, List.cons_append]
  gi_wp2_with fail
  rw [← HW0.out, ← HW1.out]
  refine ⟨trivial, ?_⟩
  refine (callsIn_wide.2 (parts_any a m W1)).mono ?_
  rintro e1 w3 ⟨rfl, hw3⟩
  have hbx0 : Boxed w3 W1.heap.size 3 (.int .i64 a) := by rw [hw3]; exact (Boxed.new W1 _ _).alloc _
  have hbx1 : Boxed w3 (W1.heap.size + 1) 3 (.int .i64 m) := by
    rw [hw3]; have := Boxed.new (W1.alloc (.cells #[.int .i64 a] 3)) 3 (.int .i64 m); rw [World.size_alloc] at this; exact this
  have hb3 : Below W1.heap.size W1 w3 := by rw [hw3]; exact ((Below.refl _ W1).alloc (Nat.le_refl _) _).alloc (by simp) _
  have hs3 : w3.heap.size = W1.heap.size + 2 := by rw [hw3]; unfold rangeBoxes; simp
  have hO3 := HO1.out.below hb3 (Nat.le_refl _)
  have hB3 := HB1.out.below hb3 HB1.out.lt
  have hX3 : Boxed w3 (w.heap.size + 1) 4 (.bool on) := (hb3.block _ HX1.out.lt).trans HX1.out
  have hbut3 : But g w w3 := But.of_below (Hb1.out.trans (hb3.mono (by rw [Hs1.out]; omega))) (by omega)
  have Hbx := Lib.hid (And.intro hbx0 hbx1)
  have HO3 := Lib.hid hO3
  have HB3 := Lib.hid hB3
  have HX3 := Lib.hid hX3
  have Hbut3 := Lib.hid hbut3
  have Hs3 := Lib.hid hs3
  clear hw3 hbx0 hbx1 hb3 hs3 hO3 hB3 hX3 hbut3 HO1 HB1 HX1 HW0 HW1
  gi_wp2_with fail
  refine wpIn_rangeFunc_ownF rfl (by omega) (gf := 87) (lb := #[.pointer (some ⟨W1.heap.size, 0, none⟩), .pointer (some ⟨W1.heap.size + 1, 0, none⟩)]) rfl trivial (enters_of Tryd.func87 (by kernel_rfl) rfl)
    (parts1_stops Fence.wide _ trivial rfl (by omega) W1.heap.size (W1.heap.size + 1) a m e He.out _ Hbx.out.1 Hbx.out.2 (by omega))
    (fun h k hx => k (h hx)) ?kb (Below.refl _ _) (fun _ => rfl)
    (fun pre W => ((Own W B (.slice (some ⟨g, 0, none⟩) n cap) (fillL bs a e on (pre.map (·.1))) ∧ Blk W w.heap.size 24 #[.int .i64 N, .slice (some ⟨g, 0, none⟩) n cap]) ∧ Boxed W (w.heap.size + 1) 4 (.bool on)) ∧ But g w3 W)
    (fun _ _ _ => False)
    ?own (fun _ _ _ _ _ hs _ _ => hs) ?start
    (fun x => { tmps := #[.agg #[.int .i64 N, .slice (some ⟨g, 0, none⟩) n cap], .int .i64 a, .int .i64 m, .bool on, .pointer (some ⟨w.heap.size, 0, none⟩), undef, undef, .pointer (some ⟨w.heap.size + 1, 0, none⟩), .int .i64 (x.1 : Int), .int .u8 (mkV a e x.1 : Int), .int .i64 a, .int .i64 m, .func (.func 87) #[] #[.pointer (some ⟨W1.heap.size, 0, none⟩), .pointer (some ⟨W1.heap.size + 1, 0, none⟩)], .int .i64 (x.1 : Int), .int .u8 (mkV a e x.1 : Int), undef, undef, undef, undef, undef, undef, undef, undef, undef, undef, undef, undef, undef, undef, undef, undef, undef], defers := [] }) ?assign ?body ?done ?stop
  case kb =>
    intro W l o o' hl ho hc _ ⟨h1, h2⟩
    exact ⟨(World.putObj_heap_other (by intro e; subst e; have := ho.symm.trans h1; cases this; cases hc)).trans h1, (World.putObj_heap_other (by intro e; subst e; have := ho.symm.trans h2; cases this; cases hc)).trans h2⟩
  case own =>
    refine OwnFrom.and (OwnFrom.and (OwnFrom.and ((own_own _ _ _).from _) ((blk_own _ _ _).from _)) ((boxed_own _ _ _).from _)) (ownFrom_but ?_ (Nat.le_refl _))
    rw [Hs3.out, Hs1.out]; omega
  case start => exact ⟨⟨⟨by rw [List.map_nil, fillL_nil]; exact HO3.out, HB3.out⟩, HX3.out⟩, But.refl _ _⟩
  case assign =>
    intro l x W K hK
    dsimp only [partEnc]
    gi_wp2
    exact hK
  case body =>
    rintro l pre ⟨i, hx⟩ W ⟨⟨⟨hO, hB⟩, hX⟩, hbut⟩ _
    have hil : i < n := by omega
    have hLl : (fillL bs a e on (pre.map (·.1))).length = n := by rw [fillL_len, hn]
    have hnext := fillL_next Hbs.out a e on (pre.map (·.1)) i (by omega)
    obtain ⟨L, hL⟩ : ∃ L, L = fillL bs a e on (pre.map (·.1)) := ⟨_, rfl⟩
    rw [← hL] at hO hLl hnext
    obtain ⟨X, hXv⟩ : ∃ X, X = L.getD i 0 := ⟨_, rfl⟩
    rw [← hXv] at hnext
    have hXb : 0 ≤ X ∧ X ≤ 255 := by rw [hXv]; exact hO.2 _ (getD_mem (by omega))
    have hmb := mkV_lt a e i
    dsimp only
    obtain ⟨M, hM⟩ : ∃ M, M = mkV a e i := ⟨_, rfl⟩
    rw [← hM] at hnext hmb ⊢
    have hcell : W.cell? ⟨g, i, none⟩ = some (.int .u8 X) := by
      have h1 := hO.1
      rw [hLl] at h1
      rw [h1.cellAt i (by omega), hXv]
      simp [List.getD, show i < L.length by omega]
    have hfro : W.frozen? ⟨g, i, none⟩ = false := by have h1 := hO.1; rw [hLl] at h1; exact h1.frozenAt i
    have hq0 : W.cell? ⟨w.heap.size, 1, none⟩ = some (.slice (some ⟨g, 0, none⟩) n cap) := hB.cell 1
    have hq1 := hX.cell
    have hii : (i : Int) < (n : Int) := by omega
    have hst : ∀ z, 0 ≤ z ∧ z ≤ 255 → Own (W.setCell ⟨g, i, none⟩ (.int .u8 z)) B (.slice (some ⟨g, 0, none⟩) n cap) (L.set i z) := fun z hz => hO.stored hLl i z hz
    have hne1 : w.heap.size ≠ g := by omega
    have hne2 : w.heap.size + 1 ≠ g := by omega
    have Hst := Lib.hid hst
    have Hnext := Lib.hid hnext
    have HO := Lib.hid hO
    have HB := Lib.hid hB
    have HX := Lib.hid hX
    have Hbut := Lib.hid hbut
    have HXb := Lib.hid hXb
    clear hst hnext hO hB hX hbut hXb hL hXv hM Hbx HO3 HB3 HX3 Hbut3
    have fin : ∀ z, 0 ≤ z ∧ z ≤ 255 → z = fillB on M X → KeepsOthers W (W.setCell ⟨g, i, none⟩ (.int .u8 z)) ∧ boxesKp W1.heap.size (W1.heap.size + 1) a m W (W.setCell ⟨g, i, none⟩ (.int .u8 z)) ∧
        ((Own (W.setCell ⟨g, i, none⟩ (.int .u8 z)) B (.slice (some ⟨g, 0, none⟩) n cap) (fillL bs a e on ((pre ++ [(⟨i, hx⟩ : PartNo a e)]).map (·.1))) ∧ Blk (W.setCell ⟨g, i, none⟩ (.int .u8 z)) w.heap.size 24 #[.int .i64 N, .slice (some ⟨g, 0, none⟩) n cap]) ∧ Boxed (W.setCell ⟨g, i, none⟩ (.int .u8 z)) (w.heap.size + 1) 4 (.bool on)) ∧ But g w3 (W.setCell ⟨g, i, none⟩ (.int .u8 z)) := by
      intro z hz hze
      have hbb := (But.refl g W).setCell i (.int .u8 z)
      have hs1 := Hs1.out
      refine ⟨HO.out.keeps hbb, boxesKp_but hbb (by omega) (by omega), ⟨⟨?_, hbb.blk HB.out hne1⟩, hbb.boxed HX.out hne2⟩, Hbut.out.setCell i _⟩
      rw [List.map_append, List.map_singleton, Hnext.out, ← hze]
      exact Hst.out z hz
    have Fin := Lib.hid fin
    clear fin
    cases on with
    | true =>
      have hor := or_fill X M hmb HXb.out
      have hzb := fillB_bd true M X hmb HXb.out
      obtain ⟨z, hz⟩ : ∃ z, z = fillB true M X := ⟨_, rfl⟩
      rw [← hz] at hor hzb
      have Hzb := Lib.hid hzb
      have Hz := Lib.hid hz
      clear hzb hz
      gi_wp2_with fail
      exact Fin.out z Hzb.out Hz.out
    | false =>
      have hor := andNot_fill X M hmb HXb.out
      have hzb := fillB_bd false M X hmb HXb.out
      obtain ⟨z, hz⟩ : ∃ z, z = fillB false M X := ⟨_, rfl⟩
      rw [← hz] at hor hzb
      have Hzb := Lib.hid hzb
      have Hz := Lib.hid hz
      clear hzb hz
      gi_wp2_with fail
      exact Fin.out z Hzb.out Hz.out
  case done =>
    rintro D xs W hD hS ⟨⟨⟨hO, hB⟩, hX⟩, hbut⟩ hK
    rw [hS, fillL_done Hbs.out a e on _ (partN_bd a e)] at hO
    have HO := Lib.hid hO
    have Hbut := Lib.hid (Hbut3.out.trans hbut)
    have HK := Lib.hid hK
    clear hO hB hX hbut hK hS Hbx HO3 HB3 HX3
    gi_wp2_with fail
    refine ⟨by simp, .inl ⟨_, _, rfl, run_takeDeferred HK.out, ?_⟩⟩
    exact ⟨_, results_none rfl _ _ _, rfl, HO.out.putNew _ HK.out rfl, Hbut.out.putNew _ (by have := Hs3.out; have := Hs1.out; omega) hgl HK.out⟩
  case stop =>
    rintro D c pre W _ _ h _
    exact h.elim
end Go.Proofs.YtknacgdjodmaiaaDoor

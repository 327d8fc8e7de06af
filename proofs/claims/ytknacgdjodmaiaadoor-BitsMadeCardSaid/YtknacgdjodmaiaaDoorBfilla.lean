/- fill, of any bytes of the caller's own. -/
import Derived.Test.YtknacgdjodmaiaaDoorBfill
import Derived.Test.YtknacgdjodmaiaaDoorBcall
namespace Go.Proofs.YtknacgdjodmaiaaDoor
set_option linter.unusedVariables false
open Go.RowKit Go.Shelf
attribute [local go_sem] Oper.semAt_some

set_option maxRecDepth 100000 in
set_option maxHeartbeats 4000000 in
theorem fill_nil (N : Int) (on : Bool) (w : World) :
    Calls Tryd.prog 50 #[.agg #[.int .i64 N, .slice none 0 0], .int .i64 0, .int .i64 0, .bool on] w fun e' w' => e' = .returned (.tuple #[]) ∧ Below w.heap.size w w' := by
  obtain ⟨W1, hW1⟩ : ∃ W1, W1 = (w.alloc (.cells #[.int .i64 N, .slice none 0 0] 24)).alloc (.cells #[.bool on] 4) := ⟨_, rfl⟩
  have hs1 : W1.heap.size = w.heap.size + 2 := by rw [hW1]; simp
  have hb1 : Below w.heap.size w W1 := by rw [hW1]; exact ((Below.refl _ w).alloc (Nat.le_refl _) _).alloc (by simp) _
  have HW1 := Lib.hid hW1
  have Hb1 := Lib.hid hb1
  have Hs1 := Lib.hid hs1
  clear hW1 hb1 hs1
  refine (callsIn_wide (n := 9)).1 ?_
  refine callsIn_of_wp_marks Tryd.func50 rfl trivial ?_ rfl
  simp only [Tryd.ntmps50, List.size_toArray, List.length_cons, List.length_nil, Nat.reduceAdd, Nat.reduceSub, Array.replicate_succ, Array.replicate_zero, List.push_toArray, List.append_toArray, List.nil_append, List.cons_append]
  gi_wp2_with fail
  rw [← HW1.out]
  refine ⟨trivial, ?_⟩
  refine (callsIn_wide.2 (parts_any 0 0 W1)).mono ?_
  rintro e1 w3 ⟨rfl, hw3⟩
  have hbx0 : Boxed w3 W1.heap.size 3 (.int .i64 ((0 : Nat) : Int)) := by rw [hw3]; exact (Boxed.new W1 _ _).alloc _
  have hbx1 : Boxed w3 (W1.heap.size + 1) 3 (.int .i64 ((0 : Nat) : Int)) := by
    rw [hw3]; have := Boxed.new (W1.alloc (.cells #[.int .i64 0] 3)) 3 (.int .i64 0); rw [World.size_alloc] at this; exact this
  have hb3 : Below W1.heap.size W1 w3 := by rw [hw3]; exact ((Below.refl _ W1).alloc (Nat.le_refl _) _).alloc (by simp) _
  have Hb3 := Lib.hid (Hb1.out.trans (hb3.mono Hb1.out.size))
  have hs3 : w.heap.size ≤ w3.heap.size := Hb3.out.size
  clear hw3 hb3
  gi_wp2_with fail
  refine wpIn_rangeFunc_ownF rfl (by omega) (gf := 87) (lb := #[.pointer (some ⟨W1.heap.size, 0, none⟩), .pointer (some ⟨W1.heap.size + 1, 0, none⟩)]) rfl trivial (enters_of Tryd.func87 (by kernel_rfl) rfl)
    (parts1_stops Fence.wide _ trivial rfl (by omega) W1.heap.size (W1.heap.size + 1) 0 0 0 rfl _ hbx0 hbx1 (by omega))
    (fun h k hx => k (h hx)) ?kb (Below.refl _ _) (fun _ => rfl)
    (fun pre W => Below w3.heap.size w3 W)
    (fun _ _ _ => False)
    ?own (fun _ _ _ _ _ hs _ _ => hs) ?start
    (fun x => { tmps := #[.agg #[.int .i64 N, .slice none 0 0], .int .i64 0, .int .i64 0, .bool on, .pointer (some ⟨w.heap.size, 0, none⟩), undef, undef, .pointer (some ⟨w.heap.size + 1, 0, none⟩), .int .i64 (x.1 : Int), .int .u8 (mkV 0 0 x.1 : Int), .int .i64 0, .int .i64 0, .func (.func 87) #[] #[.pointer (some ⟨W1.heap.size, 0, none⟩), .pointer (some ⟨W1.heap.size + 1, 0, none⟩)], .int .i64 (x.1 : Int), .int .u8 (mkV 0 0 x.1 : Int), undef, undef, undef, undef, undef, undef, undef, undef, undef, undef, undef, undef, undef, undef, undef, undef, undef], defers := [] }) ?assign ?body ?done ?stop
  case kb =>
    intro W l o o' hl ho hc _ ⟨h1, h2⟩
    exact ⟨(World.putObj_heap_other (by intro e; subst e; have := ho.symm.trans h1; cases this; cases hc)).trans h1, (World.putObj_heap_other (by intro e; subst e; have := ho.symm.trans h2; cases this; cases hc)).trans h2⟩
  case own => exact ownFrom_below (Nat.le_refl _) (Nat.le_refl _)
  case start => exact Below.refl _ _
  case assign =>
    intro l x W K hK
    exact absurd x.2.2.2 (by omega)
  case body =>
    rintro l pre x W _ _
    exact absurd x.2.2.2 (by omega)
  case done =>
    rintro D xs W hD hS hb hK
    have HK := Lib.hid hK
    have Hb := Lib.hid (Hb3.out.trans (hb.mono hs3))
    clear hb hK hS hbx0 hbx1
    gi_wp2_with fail
    refine ⟨by simp, .inl ⟨_, _, rfl, run_takeDeferred HK.out, ?_⟩⟩
    exact ⟨_, results_none rfl _ _ _, rfl, Hb.out.trans (belowK_b (w := w) (Nat.le_refl _) W D _ _ (by omega) HK.out rfl rfl)⟩
  case stop =>
    rintro D c pre W _ _ h _
    exact h.elim
/-- What fill leaves. -/
structure Filled (w w' : World) (B : Nat) (a : Option Addr) : Prop where
  below : Below B w w'
  others : ∀ k, k < w.heap.size → (∀ x, a = some x → x.block ≠ k) → w'.heap[k]? = w.heap[k]?
theorem fill_any (N : Int) (B cap : Nat) (x : Option Addr) (bs : List Int) (n : Nat) (a m e : Nat) (on : Bool) (w : World) (hn : bs.length = n) (ho : Own w B (.slice x n cap) bs) (he : e = a + m) (hr : e ≤ 8 * n) (hbig : n ≤ 9000) (hB : B ≤ w.heap.size) :
    Calls Tryd.prog 50 #[.agg #[.int .i64 N, .slice x n cap], .int .i64 a, .int .i64 m, .bool on] w fun e' w' => e' = .returned (.tuple #[]) ∧ Own w' B (.slice x n cap) (fillV bs a e on) ∧ Filled w w' B x := by
  rcases ho.1.2 with ⟨h1, h2⟩ | ⟨g, cap', cur, h1, hg0, hrest⟩
  · simp only [Value.slice.injEq] at h1
    obtain ⟨rfl, rfl, rfl⟩ := h1
    obtain rfl : a = 0 := by omega
    obtain rfl : m = 0 := by omega
    subst he
    have hbs : bs = [] := List.eq_nil_of_length_eq_zero hn
    subst hbs
    refine (fill_nil N on w).mono ?_
    rintro e' w' ⟨rfl, hb⟩
    exact ⟨rfl, Own.nil _ _, hb.mono hB, fun k hk _ => hb.block k hk⟩
  · have hx : x = some ⟨g, 0, none⟩ := (Value.slice.inj h1).1
    subst hx
    refine (fill_some N B g cap bs n a m e on w hn ho he hr hbig).mono ?_
    rintro e' w' ⟨rfl, hO, hb⟩
    refine ⟨rfl, hO, hb.below.mono hg0, fun k hk hne => hb.others k hk (fun e => hne _ rfl e.symm)⟩
end Go.Proofs.YtknacgdjodmaiaaDoor

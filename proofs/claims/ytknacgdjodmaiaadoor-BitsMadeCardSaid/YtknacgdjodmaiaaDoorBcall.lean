/- call: what do returns, or why it ended. -/
import Derived.Test.YtknacgdjodmaiaaDoorBcall0
import Derived.Defers
import Derived.Recover
import Derived.Laws.Pointers
import Derived.OwnWalk
import Derived.RangeFuncBox
import Derived.RegionTactic
import Derived.StillTailTactics
import Derived.Deep.DeepCutAuto
import Derived.Deep.WholeRow
namespace Go.Proofs.YtknacgdjodmaiaaDoor
set_option linter.unusedVariables false
open Go.RowKit

set_option maxRecDepth 100000 in
set_option maxHeartbeats 400000 in
theorem idle_bool (p : Addr) (w : World) :
    CallsD Tryd.prog 82 #[.pointer (some p)] .returning w fun e u' w' => e = .returned (.tuple #[]) ∧ u' = .returning ∧ w' = w := by
  refine callsD_of_wpS Tryd.func82 rfl fun c₀ cs hu => ?_
  apply wpS_seq
  apply wpS_region
  simp [wpOpsS, go_sem, recoverD, hu, Tryd.ntmps82, Exit.thenS]
  refine wpS_of_wp ?_
  go_wp2
  refine ⟨rfl, .returning, ?_, .tuple #[], by simp [results, Tryd.results82], rfl, rfl, rfl⟩
  cases c₀
  simp_all
set_option maxRecDepth 100000 in
set_option maxHeartbeats 400000 in
theorem catch_bool (b : Nat) (er : Int) (w : World) (older : List PanicEntry) (u : Value) (h : w.cell? ⟨b, 0, none⟩ = some u) (f : w.frozen? ⟨b, 0, none⟩ = false) :
    CallsD Tryd.prog 82 #[.pointer (some ⟨b, 0, none⟩)] (.panicking ({ v := .iface 27 (.int .i64 er), recovered := false } :: older)) w fun e u' w' =>
      e = .returned (.tuple #[]) ∧ u' = .panicking ({ v := .iface 27 (.int .i64 er), recovered := true } :: older) ∧ w' = w.setCell ⟨b, 0, none⟩ (.int .i64 er) := by
  refine callsD_of_wpS Tryd.func82 rfl fun c₀ cs hu => ?_
  apply wpS_seq
  apply wpS_region
  simp [wpOpsS, go_sem, recoverD, hu, Tryd.ntmps82, Exit.thenS]
  refine wpS_of_wp ?_
  go_wp2_with fail
  refine (reason_any er w).mono ?_
  rintro e w1 ⟨rfl, rfl⟩
  go_wp2
  exact ⟨rfl, _, rfl, .tuple #[], by simp [results, Tryd.results82], rfl, rfl, rfl⟩

set_option maxRecDepth 100000 in
set_option maxHeartbeats 1000000 in
theorem call_bool_ok (f : FuncId) (caps : Array Value) (v : Bool) (R : World → Prop) (w : World) (hent : ∀ (args : Array Value) (w : World), (callFunc f args).run Tryd.prog w = .ok (.enter f args) w)
    (hR : ∀ W W', R W → (∀ k, k ≠ w.heap.size → W'.heap[k]? = W.heap[k]?) → W'.heap.size = W.heap.size → R W')
    (h : ∀ W, Below w.heap.size w W → w.heap.size < W.heap.size → Calls Tryd.prog f caps W fun e w' => e = .returned (.bool v) ∧ R w' ∧ Below W.heap.size W w') :
    Calls Tryd.prog 44 #[.func (.func f) #[] caps] w fun e w' => e = .returned (.tuple #[.bool v, .int .i64 0]) ∧ R w' ∧ Below w.heap.size w w' := by
  have hmf : ∀ (fn : Fn) (first cap : Array Value) (w : World), (Instr.makeFunc fn first cap).run Tryd.prog w = .ok (.func fn first cap) w := fun _ _ _ _ => rfl
  obtain ⟨W0, hW0⟩ : ∃ W0, W0 = w.alloc (.cells #[.int .i64 0] 27) := ⟨_, rfl⟩
  have hx0 : Boxed W0 w.heap.size 27 (.int .i64 0) := by rw [hW0]; exact Boxed.new _ _ _
  have hb0 : Below w.heap.size w W0 := by rw [hW0]; exact (Below.refl _ w).alloc (Nat.le_refl _) _
  have hl0 := hx0.lt
  have H := Lib.hid (h W0 hb0 hl0)
  have HW0 := Lib.hid hW0
  have Hx := Lib.hid hx0
  have Hb := Lib.hid hb0
  have HR := Lib.hid hR
  clear h hW0 hx0 hb0 hR
  go_enter_defers Tryd.func44, Tryd.ntmps44
  go_upto_region 1 with fail
  rw [← HW0.out]
  go_wp2_with fail
  refine H.out.mono ?_
  rintro e w1 ⟨rfl, hr, hb⟩
  have bx : Boxed w1 w.heap.size 27 (.int .i64 0) := (hb.block _ hl0).trans Hx.out
  have c0 := bx.cell
  have d0 := bx.frozen
  have Hr := Lib.hid hr
  have Hb1 := Lib.hid (Hb.out.trans (hb.mono Hb.out.size))
  have Hbx := Lib.hid bx
  clear hr hb bx H HW0 Hx Hb
  go_wp2_with fail
  have z0 := (Hbx.out.set (.int .i64 0)).cell
  have hz := Hb1.out.setCell (p := ⟨w.heap.size, 0, none⟩) (by simp) (.int .i64 0)
  have hr' := HR.out _ (w1.setCell ⟨w.heap.size, 0, none⟩ (.int .i64 0)) Hr.out (fun k hk => heap_setCell_other w1 ⟨w.heap.size, 0, none⟩ k _ hk) (by simp)
  clear c0 d0
  generalize w1.setCell ⟨w.heap.size, 0, none⟩ (.int .i64 0) = w3 at *
  have HZ := Lib.hid (And.intro hz hr')
  clear hz hr' Hr Hbx Hb1
  change bodyPostD _ _ _ _ _ w3
  simp only [bodyPostD]
  refine leaves_cons (f := 82) (args := #[.pointer (some ⟨w.heap.size, 0, none⟩)]) (by simp) (by simp [go_sem]) ?_
  refine (idle_bool _ w3).mono ?_
  rintro e u' w'' ⟨rfl, rfl, rfl⟩
  simp [Leaves, settle, results, Tryd.results44, go_sem, z0]
  exact ⟨HZ.out.2, HZ.out.1⟩

set_option maxRecDepth 100000 in
set_option maxHeartbeats 1000000 in
theorem call_bool_bad (f : FuncId) (caps : Array Value) (er : Int) (w : World) (hent : ∀ (args : Array Value) (w : World), (callFunc f args).run Tryd.prog w = .ok (.enter f args) w)
    (h : ∀ W, Below w.heap.size w W → w.heap.size < W.heap.size → Calls Tryd.prog f caps W fun e w' => e = pan er ∧ Below W.heap.size W w') :
    Calls Tryd.prog 44 #[.func (.func f) #[] caps] w fun e w' => e = .returned (.tuple #[.bool false, .int .i64 er]) ∧ Below w.heap.size w w' := by
  have hmf : ∀ (fn : Fn) (first cap : Array Value) (w : World), (Instr.makeFunc fn first cap).run Tryd.prog w = .ok (.func fn first cap) w := fun _ _ _ _ => rfl
  obtain ⟨W0, hW0⟩ : ∃ W0, W0 = w.alloc (.cells #[.int .i64 0] 27) := ⟨_, rfl⟩
  have hx0 : Boxed W0 w.heap.size 27 (.int .i64 0) := by rw [hW0]; exact Boxed.new _ _ _
  have hb0 : Below w.heap.size w W0 := by rw [hW0]; exact (Below.refl _ w).alloc (Nat.le_refl _) _
  have hl0 := hx0.lt
  have H := Lib.hid (h W0 hb0 hl0)
  have HW0 := Lib.hid hW0
  have Hx := Lib.hid hx0
  have Hb := Lib.hid hb0
  clear h hW0 hx0 hb0
  go_enter_defers Tryd.func44, Tryd.ntmps44
  go_upto_region 1 with fail
  rw [← HW0.out]
  go_wp2_with fail
  refine H.out.mono ?_
  rintro e w1 ⟨rfl, hb⟩
  have bx : Boxed w1 w.heap.size 27 (.int .i64 0) := (hb.block _ hl0).trans Hx.out
  have Hb1 := Lib.hid (Hb.out.trans (hb.mono Hb.out.size))
  clear hb H HW0 Hx Hb
  unfold pan
  simp only
  change bodyPostD _ _ _ (Exit.panic _) _ w1
  simp only [bodyPostD]
  refine leaves_cons (f := 82) (args := #[.pointer (some ⟨w.heap.size, 0, none⟩)]) (by simp) (by simp [go_sem]) ?_
  refine (catch_bool w.heap.size er w1 [] _ bx.cell bx.frozen).mono ?_
  rintro e u' w'' ⟨rfl, rfl, rfl⟩
  have z0 := (bx.set (.int .i64 er)).cell
  have hz := Hb1.out.setCell (p := ⟨w.heap.size, 0, none⟩) (by simp) (.int .i64 er)
  generalize w1.setCell ⟨w.heap.size, 0, none⟩ (.int .i64 er) = w3 at *
  have HZ := Lib.hid hz
  clear hz bx
  simp [Leaves, settle, results, Tryd.results44, go_sem, z0]
  exact HZ.out

set_option maxRecDepth 100000 in
set_option maxHeartbeats 400000 in
theorem idle_int (p : Addr) (w : World) :
    CallsD Tryd.prog 86 #[.pointer (some p)] .returning w fun e u' w' => e = .returned (.tuple #[]) ∧ u' = .returning ∧ w' = w := by
  refine callsD_of_wpS Tryd.func86 rfl fun c₀ cs hu => ?_
  apply wpS_seq
  apply wpS_region
  simp [wpOpsS, go_sem, recoverD, hu, Tryd.ntmps86, Exit.thenS]
  refine wpS_of_wp ?_
  go_wp2
  refine ⟨rfl, .returning, ?_, .tuple #[], by simp [results, Tryd.results86], rfl, rfl, rfl⟩
  cases c₀
  simp_all
set_option maxRecDepth 100000 in
set_option maxHeartbeats 400000 in
theorem catch_int (b : Nat) (er : Int) (w : World) (older : List PanicEntry) (u : Value) (h : w.cell? ⟨b, 0, none⟩ = some u) (f : w.frozen? ⟨b, 0, none⟩ = false) :
    CallsD Tryd.prog 86 #[.pointer (some ⟨b, 0, none⟩)] (.panicking ({ v := .iface 27 (.int .i64 er), recovered := false } :: older)) w fun e u' w' =>
      e = .returned (.tuple #[]) ∧ u' = .panicking ({ v := .iface 27 (.int .i64 er), recovered := true } :: older) ∧ w' = w.setCell ⟨b, 0, none⟩ (.int .i64 er) := by
  refine callsD_of_wpS Tryd.func86 rfl fun c₀ cs hu => ?_
  apply wpS_seq
  apply wpS_region
  simp [wpOpsS, go_sem, recoverD, hu, Tryd.ntmps86, Exit.thenS]
  refine wpS_of_wp ?_
  go_wp2_with fail
  refine (reason_any er w).mono ?_
  rintro e w1 ⟨rfl, rfl⟩
  go_wp2
  exact ⟨rfl, _, rfl, .tuple #[], by simp [results, Tryd.results86], rfl, rfl, rfl⟩

set_option maxRecDepth 100000 in
set_option maxHeartbeats 1000000 in
theorem call_int_ok (f : FuncId) (caps : Array Value) (v : Int) (R : World → Prop) (w : World) (hent : ∀ (args : Array Value) (w : World), (callFunc f args).run Tryd.prog w = .ok (.enter f args) w)
    (hR : ∀ W W', R W → (∀ k, k ≠ w.heap.size → W'.heap[k]? = W.heap[k]?) → W'.heap.size = W.heap.size → R W')
    (h : ∀ W, Below w.heap.size w W → w.heap.size < W.heap.size → Calls Tryd.prog f caps W fun e w' => e = .returned (.int .i64 v) ∧ R w' ∧ Below W.heap.size W w') :
    Calls Tryd.prog 51 #[.func (.func f) #[] caps] w fun e w' => e = .returned (.tuple #[.int .i64 v, .int .i64 0]) ∧ R w' ∧ Below w.heap.size w w' := by
  have hmf : ∀ (fn : Fn) (first cap : Array Value) (w : World), (Instr.makeFunc fn first cap).run Tryd.prog w = .ok (.func fn first cap) w := fun _ _ _ _ => rfl
  obtain ⟨W0, hW0⟩ : ∃ W0, W0 = w.alloc (.cells #[.int .i64 0] 27) := ⟨_, rfl⟩
  have hx0 : Boxed W0 w.heap.size 27 (.int .i64 0) := by rw [hW0]; exact Boxed.new _ _ _
  have hb0 : Below w.heap.size w W0 := by rw [hW0]; exact (Below.refl _ w).alloc (Nat.le_refl _) _
  have hl0 := hx0.lt
  have H := Lib.hid (h W0 hb0 hl0)
  have HW0 := Lib.hid hW0
  have Hx := Lib.hid hx0
  have Hb := Lib.hid hb0
  have HR := Lib.hid hR
  clear h hW0 hx0 hb0 hR
  go_enter_defers Tryd.func51, Tryd.ntmps51
  go_upto_region 1 with fail
  rw [← HW0.out]
  go_wp2_with fail
  refine H.out.mono ?_
  rintro e w1 ⟨rfl, hr, hb⟩
  have bx : Boxed w1 w.heap.size 27 (.int .i64 0) := (hb.block _ hl0).trans Hx.out
  have c0 := bx.cell
  have d0 := bx.frozen
  have Hr := Lib.hid hr
  have Hb1 := Lib.hid (Hb.out.trans (hb.mono Hb.out.size))
  have Hbx := Lib.hid bx
  clear hr hb bx H HW0 Hx Hb
  go_wp2_with fail
  have z0 := (Hbx.out.set (.int .i64 0)).cell
  have hz := Hb1.out.setCell (p := ⟨w.heap.size, 0, none⟩) (by simp) (.int .i64 0)
  have hr' := HR.out _ (w1.setCell ⟨w.heap.size, 0, none⟩ (.int .i64 0)) Hr.out (fun k hk => heap_setCell_other w1 ⟨w.heap.size, 0, none⟩ k _ hk) (by simp)
  clear c0 d0
  generalize w1.setCell ⟨w.heap.size, 0, none⟩ (.int .i64 0) = w3 at *
  have HZ := Lib.hid (And.intro hz hr')
  clear hz hr' Hr Hbx Hb1
  change bodyPostD _ _ _ _ _ w3
  simp only [bodyPostD]
  refine leaves_cons (f := 86) (args := #[.pointer (some ⟨w.heap.size, 0, none⟩)]) (by simp) (by simp [go_sem]) ?_
  refine (idle_int _ w3).mono ?_
  rintro e u' w'' ⟨rfl, rfl, rfl⟩
  simp [Leaves, settle, results, Tryd.results51, go_sem, z0]
  exact ⟨HZ.out.2, HZ.out.1⟩

set_option maxRecDepth 100000 in
set_option maxHeartbeats 1000000 in
theorem call_int_bad (f : FuncId) (caps : Array Value) (er : Int) (w : World) (hent : ∀ (args : Array Value) (w : World), (callFunc f args).run Tryd.prog w = .ok (.enter f args) w)
    (h : ∀ W, Below w.heap.size w W → w.heap.size < W.heap.size → Calls Tryd.prog f caps W fun e w' => e = pan er ∧ Below W.heap.size W w') :
    Calls Tryd.prog 51 #[.func (.func f) #[] caps] w fun e w' => e = .returned (.tuple #[.int .i64 0, .int .i64 er]) ∧ Below w.heap.size w w' := by
  have hmf : ∀ (fn : Fn) (first cap : Array Value) (w : World), (Instr.makeFunc fn first cap).run Tryd.prog w = .ok (.func fn first cap) w := fun _ _ _ _ => rfl
  obtain ⟨W0, hW0⟩ : ∃ W0, W0 = w.alloc (.cells #[.int .i64 0] 27) := ⟨_, rfl⟩
  have hx0 : Boxed W0 w.heap.size 27 (.int .i64 0) := by rw [hW0]; exact Boxed.new _ _ _
  have hb0 : Below w.heap.size w W0 := by rw [hW0]; exact (Below.refl _ w).alloc (Nat.le_refl _) _
  have hl0 := hx0.lt
  have H := Lib.hid (h W0 hb0 hl0)
  have HW0 := Lib.hid hW0
  have Hx := Lib.hid hx0
  have Hb := Lib.hid hb0
  clear h hW0 hx0 hb0
  go_enter_defers Tryd.func51, Tryd.ntmps51
  go_upto_region 1 with fail
  rw [← HW0.out]
  go_wp2_with fail
  refine H.out.mono ?_
  rintro e w1 ⟨rfl, hb⟩
  have bx : Boxed w1 w.heap.size 27 (.int .i64 0) := (hb.block _ hl0).trans Hx.out
  have Hb1 := Lib.hid (Hb.out.trans (hb.mono Hb.out.size))
  clear hb H HW0 Hx Hb
  unfold pan
  simp only
  change bodyPostD _ _ _ (Exit.panic _) _ w1
  simp only [bodyPostD]
  refine leaves_cons (f := 86) (args := #[.pointer (some ⟨w.heap.size, 0, none⟩)]) (by simp) (by simp [go_sem]) ?_
  refine (catch_int w.heap.size er w1 [] _ bx.cell bx.frozen).mono ?_
  rintro e u' w'' ⟨rfl, rfl, rfl⟩
  have z0 := (bx.set (.int .i64 er)).cell
  have hz := Hb1.out.setCell (p := ⟨w.heap.size, 0, none⟩) (by simp) (.int .i64 er)
  generalize w1.setCell ⟨w.heap.size, 0, none⟩ (.int .i64 er) = w3 at *
  have HZ := Lib.hid hz
  clear hz bx
  simp [Leaves, settle, results, Tryd.results51, go_sem, z0]
  exact HZ.out

set_option maxRecDepth 100000 in
set_option maxHeartbeats 400000 in
theorem idle_ranges (p : Addr) (w : World) :
    CallsD Tryd.prog 90 #[.pointer (some p)] .returning w fun e u' w' => e = .returned (.tuple #[]) ∧ u' = .returning ∧ w' = w := by
  refine callsD_of_wpS Tryd.func90 rfl fun c₀ cs hu => ?_
  apply wpS_seq
  apply wpS_region
  simp [wpOpsS, go_sem, recoverD, hu, Tryd.ntmps90, Exit.thenS]
  refine wpS_of_wp ?_
  go_wp2
  refine ⟨rfl, .returning, ?_, .tuple #[], by simp [results, Tryd.results90], rfl, rfl, rfl⟩
  cases c₀
  simp_all
set_option maxRecDepth 100000 in
set_option maxHeartbeats 400000 in
theorem catch_ranges (b : Nat) (er : Int) (w : World) (older : List PanicEntry) (u : Value) (h : w.cell? ⟨b, 0, none⟩ = some u) (f : w.frozen? ⟨b, 0, none⟩ = false) :
    CallsD Tryd.prog 90 #[.pointer (some ⟨b, 0, none⟩)] (.panicking ({ v := .iface 27 (.int .i64 er), recovered := false } :: older)) w fun e u' w' =>
      e = .returned (.tuple #[]) ∧ u' = .panicking ({ v := .iface 27 (.int .i64 er), recovered := true } :: older) ∧ w' = w.setCell ⟨b, 0, none⟩ (.int .i64 er) := by
  refine callsD_of_wpS Tryd.func90 rfl fun c₀ cs hu => ?_
  apply wpS_seq
  apply wpS_region
  simp [wpOpsS, go_sem, recoverD, hu, Tryd.ntmps90, Exit.thenS]
  refine wpS_of_wp ?_
  go_wp2_with fail
  refine (reason_any er w).mono ?_
  rintro e w1 ⟨rfl, rfl⟩
  go_wp2
  exact ⟨rfl, _, rfl, .tuple #[], by simp [results, Tryd.results90], rfl, rfl, rfl⟩

set_option maxRecDepth 100000 in
set_option maxHeartbeats 1000000 in
theorem call_ranges_ok (f : FuncId) (caps : Array Value)  (R : Option Addr → Nat → Nat → World → Prop) (w : World) (hent : ∀ (args : Array Value) (w : World), (callFunc f args).run Tryd.prog w = .ok (.enter f args) w)
    (hR : ∀ a l c W W', R a l c W → (∀ k, k ≠ w.heap.size → W'.heap[k]? = W.heap[k]?) → W'.heap.size = W.heap.size → R a l c W')
    (h : ∀ W, Below w.heap.size w W → w.heap.size < W.heap.size → Calls Tryd.prog f caps W fun e w' => ∃ a l c, e = .returned (.slice a l c) ∧ R a l c w' ∧ Below W.heap.size W w') :
    Calls Tryd.prog 73 #[.func (.func f) #[] caps] w fun e w' => ∃ a l c, e = .returned (.tuple #[.slice a l c, .int .i64 0]) ∧ R a l c w' ∧ Below w.heap.size w w' := by
  have hmf : ∀ (fn : Fn) (first cap : Array Value) (w : World), (Instr.makeFunc fn first cap).run Tryd.prog w = .ok (.func fn first cap) w := fun _ _ _ _ => rfl
  obtain ⟨W0, hW0⟩ : ∃ W0, W0 = w.alloc (.cells #[.int .i64 0] 27) := ⟨_, rfl⟩
  have hx0 : Boxed W0 w.heap.size 27 (.int .i64 0) := by rw [hW0]; exact Boxed.new _ _ _
  have hb0 : Below w.heap.size w W0 := by rw [hW0]; exact (Below.refl _ w).alloc (Nat.le_refl _) _
  have hl0 := hx0.lt
  have H := Lib.hid (h W0 hb0 hl0)
  have HW0 := Lib.hid hW0
  have Hx := Lib.hid hx0
  have Hb := Lib.hid hb0
  have HR := Lib.hid hR
  clear h hW0 hx0 hb0 hR
  go_enter_defers Tryd.func73, Tryd.ntmps73
  go_upto_region 1 with fail
  rw [← HW0.out]
  go_wp2_with fail
  refine H.out.mono ?_
  rintro e w1 ⟨a, l, c, rfl, hr, hb⟩
  have bx : Boxed w1 w.heap.size 27 (.int .i64 0) := (hb.block _ hl0).trans Hx.out
  have c0 := bx.cell
  have d0 := bx.frozen
  have Hr := Lib.hid hr
  have Hb1 := Lib.hid (Hb.out.trans (hb.mono Hb.out.size))
  have Hbx := Lib.hid bx
  clear hr hb bx H HW0 Hx Hb
  go_wp2_with fail
  have z0 := (Hbx.out.set (.int .i64 0)).cell
  have hz := Hb1.out.setCell (p := ⟨w.heap.size, 0, none⟩) (by simp) (.int .i64 0)
  have hr' := HR.out _ _ _ _ (w1.setCell ⟨w.heap.size, 0, none⟩ (.int .i64 0)) Hr.out (fun k hk => heap_setCell_other w1 ⟨w.heap.size, 0, none⟩ k _ hk) (by simp)
  clear c0 d0
  generalize w1.setCell ⟨w.heap.size, 0, none⟩ (.int .i64 0) = w3 at *
  have HZ := Lib.hid (And.intro hz hr')
  clear hz hr' Hr Hbx Hb1
  change bodyPostD _ _ _ _ _ w3
  simp only [bodyPostD]
  refine leaves_cons (f := 90) (args := #[.pointer (some ⟨w.heap.size, 0, none⟩)]) (by simp) (by simp [go_sem]) ?_
  refine (idle_ranges _ w3).mono ?_
  rintro e u' w'' ⟨rfl, rfl, rfl⟩
  simp [Leaves, settle, results, Tryd.results73, go_sem, z0]
  exact ⟨a, l, c, ⟨rfl, rfl, rfl⟩, HZ.out.2, HZ.out.1⟩

set_option maxRecDepth 100000 in
set_option maxHeartbeats 1000000 in
theorem call_ranges_bad (f : FuncId) (caps : Array Value) (er : Int) (w : World) (hent : ∀ (args : Array Value) (w : World), (callFunc f args).run Tryd.prog w = .ok (.enter f args) w)
    (h : ∀ W, Below w.heap.size w W → w.heap.size < W.heap.size → Calls Tryd.prog f caps W fun e w' => e = pan er ∧ Below W.heap.size W w') :
    Calls Tryd.prog 73 #[.func (.func f) #[] caps] w fun e w' => e = .returned (.tuple #[.slice none 0 0, .int .i64 er]) ∧ Below w.heap.size w w' := by
  have hmf : ∀ (fn : Fn) (first cap : Array Value) (w : World), (Instr.makeFunc fn first cap).run Tryd.prog w = .ok (.func fn first cap) w := fun _ _ _ _ => rfl
  obtain ⟨W0, hW0⟩ : ∃ W0, W0 = w.alloc (.cells #[.int .i64 0] 27) := ⟨_, rfl⟩
  have hx0 : Boxed W0 w.heap.size 27 (.int .i64 0) := by rw [hW0]; exact Boxed.new _ _ _
  have hb0 : Below w.heap.size w W0 := by rw [hW0]; exact (Below.refl _ w).alloc (Nat.le_refl _) _
  have hl0 := hx0.lt
  have H := Lib.hid (h W0 hb0 hl0)
  have HW0 := Lib.hid hW0
  have Hx := Lib.hid hx0
  have Hb := Lib.hid hb0
  clear h hW0 hx0 hb0
  go_enter_defers Tryd.func73, Tryd.ntmps73
  go_upto_region 1 with fail
  rw [← HW0.out]
  go_wp2_with fail
  refine H.out.mono ?_
  rintro e w1 ⟨rfl, hb⟩
  have bx : Boxed w1 w.heap.size 27 (.int .i64 0) := (hb.block _ hl0).trans Hx.out
  have Hb1 := Lib.hid (Hb.out.trans (hb.mono Hb.out.size))
  clear hb H HW0 Hx Hb
  unfold pan
  simp only
  change bodyPostD _ _ _ (Exit.panic _) _ w1
  simp only [bodyPostD]
  refine leaves_cons (f := 90) (args := #[.pointer (some ⟨w.heap.size, 0, none⟩)]) (by simp) (by simp [go_sem]) ?_
  refine (catch_ranges w.heap.size er w1 [] _ bx.cell bx.frozen).mono ?_
  rintro e u' w'' ⟨rfl, rfl, rfl⟩
  have z0 := (bx.set (.int .i64 er)).cell
  have hz := Hb1.out.setCell (p := ⟨w.heap.size, 0, none⟩) (by simp) (.int .i64 er)
  generalize w1.setCell ⟨w.heap.size, 0, none⟩ (.int .i64 er) = w3 at *
  have HZ := Lib.hid hz
  clear hz bx
  simp [Leaves, settle, results, Tryd.results73, go_sem, z0]
  exact HZ.out

set_option maxRecDepth 100000 in
set_option maxHeartbeats 400000 in
theorem idle_bits (p : Addr) (w : World) :
    CallsD Tryd.prog 84 #[.pointer (some p)] .returning w fun e u' w' => e = .returned (.tuple #[]) ∧ u' = .returning ∧ w' = w := by
  refine callsD_of_wpS Tryd.func84 rfl fun c₀ cs hu => ?_
  apply wpS_seq
  apply wpS_region
  simp [wpOpsS, go_sem, recoverD, hu, Tryd.ntmps84, Exit.thenS]
  refine wpS_of_wp ?_
  go_wp2
  refine ⟨rfl, .returning, ?_, .tuple #[], by simp [results, Tryd.results84], rfl, rfl, rfl⟩
  cases c₀
  simp_all
set_option maxRecDepth 100000 in
set_option maxHeartbeats 400000 in
theorem catch_bits (b : Nat) (er : Int) (w : World) (older : List PanicEntry) (u : Value) (h : w.cell? ⟨b, 0, none⟩ = some u) (f : w.frozen? ⟨b, 0, none⟩ = false) :
    CallsD Tryd.prog 84 #[.pointer (some ⟨b, 0, none⟩)] (.panicking ({ v := .iface 27 (.int .i64 er), recovered := false } :: older)) w fun e u' w' =>
      e = .returned (.tuple #[]) ∧ u' = .panicking ({ v := .iface 27 (.int .i64 er), recovered := true } :: older) ∧ w' = w.setCell ⟨b, 0, none⟩ (.int .i64 er) := by
  refine callsD_of_wpS Tryd.func84 rfl fun c₀ cs hu => ?_
  apply wpS_seq
  apply wpS_region
  simp [wpOpsS, go_sem, recoverD, hu, Tryd.ntmps84, Exit.thenS]
  refine wpS_of_wp ?_
  go_wp2_with fail
  refine (reason_any er w).mono ?_
  rintro e w1 ⟨rfl, rfl⟩
  go_wp2
  exact ⟨rfl, _, rfl, .tuple #[], by simp [results, Tryd.results84], rfl, rfl, rfl⟩

set_option maxRecDepth 100000 in
/-- The two boxes of call at a bitmap. -/
theorem bits_boxes (w : World) : ∃ W0, (w.alloc (.cells #[.int .i64 0, .slice none 0 0] 24)).alloc (.cells #[.int .i64 0] 27) = W0 ∧ W0.heap[w.heap.size]? = some (.cells #[.int .i64 0, .slice none 0 0] 24 (0, 0)) ∧ Boxed W0 (w.heap.size + 1) 27 (.int .i64 0) ∧ Below w.heap.size w W0 ∧ W0.heap.size = w.heap.size + 2 := by
  refine ⟨_, rfl, ?_, ?_, ?_, by simp⟩
  · rw [heap_alloc_old _ _ (by simp), heap_alloc_last]
  · have := Boxed.new (w.alloc (.cells #[.int .i64 0, .slice none 0 0] 24)) 27 (.int .i64 0)
    rw [World.size_alloc] at this; exact this
  · exact ((Below.refl _ w).alloc (Nat.le_refl _) _).alloc (by simp) _
theorem cells2 {w : World} {g : Nat} {a b : Value} {t : TypeId} (h : w.heap[g]? = some (.cells #[a, b] t (0, 0))) (x y : Value) : (w.setCell ⟨g, 0, none⟩ x).setCell ⟨g, 1, none⟩ y = w.setRow g #[x, y] := by
  rw [setCell_eq_setRow w g 0 _ t (0, 0) x h, setCell_eq_setRow (w.setRow g (#[a, b].setIfInBounds 0 x)) g 1 _ t (0, 0) y (setRow_heap w g _ _ t (0, 0) h), setRow_setRow]
  rfl
set_option maxRecDepth 100000 in
set_option maxHeartbeats 1000000 in
theorem call_bits_ok (f : FuncId) (caps : Array Value) (n : Int) (R : Option Addr → Nat → Nat → World → Prop) (w : World) (hent : ∀ (args : Array Value) (w : World), (callFunc f args).run Tryd.prog w = .ok (.enter f args) w)
    (hR : ∀ a l c W W', R a l c W → (∀ k, k ≠ w.heap.size → k ≠ w.heap.size + 1 → W'.heap[k]? = W.heap[k]?) → W'.heap.size = W.heap.size → R a l c W')
    (h : ∀ W, Below w.heap.size w W → w.heap.size + 1 < W.heap.size → Calls Tryd.prog f caps W fun e w' => ∃ a l c, e = .returned (.agg #[.int .i64 n, .slice a l c]) ∧ R a l c w' ∧ Below W.heap.size W w') :
    Calls Tryd.prog 47 #[.func (.func f) #[] caps] w fun e w' => ∃ a l c, e = .returned (.tuple #[.agg #[.int .i64 n, .slice a l c], .int .i64 0]) ∧ R a l c w' ∧ Below w.heap.size w w' := by
  have hmf : ∀ (fn : Fn) (first cap : Array Value) (w : World), (Instr.makeFunc fn first cap).run Tryd.prog w = .ok (.func fn first cap) w := fun _ _ _ _ => rfl
  obtain ⟨W0, hW0, hx0, hx1, hb0, hs0⟩ := bits_boxes w
  have hl0 : w.heap.size + 1 < W0.heap.size := by omega
  have H := Lib.hid (h W0 hb0 hl0)
  have HW0 := Lib.hid hW0
  have Hx := Lib.hid (And.intro hx0 hx1)
  have Hb := Lib.hid hb0
  have HR := Lib.hid hR
  clear h hW0 hx0 hx1 hb0 hR hs0
  go_enter_defers Tryd.func47, Tryd.ntmps47
  go_upto_region 1 with fail
  rw [HW0.out]
  go_wp2_with fail
  refine H.out.mono ?_
  rintro e w1 ⟨a, l, c, rfl, hr, hb⟩
  have hb2 : w1.heap[w.heap.size]? = some (.cells #[.int .i64 0, .slice none 0 0] 24 (0, 0)) := (hb.block _ (by omega)).trans Hx.out.1
  have bx : Boxed w1 (w.heap.size + 1) 27 (.int .i64 0) := (hb.block _ hl0).trans Hx.out.2
  have c0 := bx.cell
  have d0 := bx.frozen
  have f0 := frozen_of_row _ _ 0 _ _ hb2
  have f1 := frozen_of_row _ _ 1 _ _ hb2
  have k0 : w1.cell? ⟨w.heap.size, 0, none⟩ = some (.int .i64 0) := by rw [cell_of_row _ _ _ _ _ _ hb2]; rfl
  have k1 : w1.cell? ⟨w.heap.size, 1, none⟩ = some (.slice none 0 0) := by rw [cell_of_row _ _ _ _ _ _ hb2]; rfl
  have Hr := Lib.hid hr
  have Hb1 := Lib.hid (Hb.out.trans (hb.mono Hb.out.size))
  have Hbx := Lib.hid bx
  have Hb2 := Lib.hid hb2
  clear hr hb bx H HW0 Hx Hb hb2
  go_wp2_with fail
  rw [cells2 Hb2.out]
  have z1 := setRow_heap w1 w.heap.size _ #[.int .i64 n, .slice a l c] _ _ Hb2.out
  have z2 : Boxed (w1.setRow w.heap.size #[.int .i64 n, .slice a l c]) (w.heap.size + 1) 27 (.int .i64 0) := (setRow_other w1 _ _ _ (by omega)).trans Hbx.out
  have zb : Below w.heap.size w (w1.setRow w.heap.size #[.int .i64 n, .slice a l c]) := Hb1.out.trans ⟨rfl, rfl, rfl, by simp, fun k hk => setRow_other w1 _ k _ (by omega)⟩
  have zo : ∀ k, k ≠ w.heap.size → (w1.setRow w.heap.size #[.int .i64 n, .slice a l c]).heap[k]? = w1.heap[k]? := fun k hk => setRow_other w1 _ k _ hk
  have zs : (w1.setRow w.heap.size #[.int .i64 n, .slice a l c]).heap.size = w1.heap.size := by simp
  clear c0 d0 f0 f1 k0 k1
  generalize w1.setRow w.heap.size #[.int .i64 n, .slice a l c] = w2 at *
  have y1 : (w2.setCell ⟨w.heap.size + 1, 0, none⟩ (.int .i64 0)).heap[w.heap.size]? = _ := (heap_setCell_other w2 ⟨w.heap.size + 1, 0, none⟩ w.heap.size (.int .i64 0) (by simp)).trans z1
  have y2 := (Boxed.set (.int .i64 0) z2).cell
  have yb := zb.setCell (p := ⟨w.heap.size + 1, 0, none⟩) (by simp) (.int .i64 0)
  have hr' := HR.out _ _ _ _ (w2.setCell ⟨w.heap.size + 1, 0, none⟩ (.int .i64 0)) Hr.out (fun k hk hk1 => (heap_setCell_other w2 ⟨w.heap.size + 1, 0, none⟩ k _ hk1).trans (zo k hk)) (by simp [zs])
  generalize w2.setCell ⟨w.heap.size + 1, 0, none⟩ (.int .i64 0) = w3 at *
  have HZ := Lib.hid (And.intro yb hr')
  have e0 : w3.cell? ⟨w.heap.size, 0, none⟩ = some (.int .i64 n) := by rw [cell_of_row _ _ _ _ _ _ y1]; rfl
  have e1 : w3.cell? ⟨w.heap.size, 1, none⟩ = some (.slice a l c) := by rw [cell_of_row _ _ _ _ _ _ y1]; rfl
  clear yb hr' zb zo zs z1 z2 y1 Hr Hbx Hb1 Hb2
  change bodyPostD _ _ _ _ _ w3
  simp only [bodyPostD]
  refine leaves_cons (f := 84) (args := #[.pointer (some ⟨w.heap.size + 1, 0, none⟩)]) (by simp) (by simp [go_sem]) ?_
  refine (idle_bits _ w3).mono ?_
  rintro e u' w'' ⟨rfl, rfl, rfl⟩
  simp [Leaves, settle, results, Tryd.results47, go_sem, y2, e0, e1]
  exact ⟨a, l, c, ⟨rfl, rfl, rfl⟩, HZ.out.2, HZ.out.1⟩
set_option maxRecDepth 100000 in
set_option maxHeartbeats 1000000 in
theorem call_bits_bad (f : FuncId) (caps : Array Value) (er : Int) (w : World) (hent : ∀ (args : Array Value) (w : World), (callFunc f args).run Tryd.prog w = .ok (.enter f args) w)
    (h : ∀ W, Below w.heap.size w W → w.heap.size + 1 < W.heap.size → Calls Tryd.prog f caps W fun e w' => e = pan er ∧ Below W.heap.size W w') :
    Calls Tryd.prog 47 #[.func (.func f) #[] caps] w fun e w' => e = .returned (.tuple #[.agg #[.int .i64 0, .slice none 0 0], .int .i64 er]) ∧ Below w.heap.size w w' := by
  have hmf : ∀ (fn : Fn) (first cap : Array Value) (w : World), (Instr.makeFunc fn first cap).run Tryd.prog w = .ok (.func fn first cap) w := fun _ _ _ _ => rfl
  obtain ⟨W0, hW0, hx0, hx1, hb0, hs0⟩ := bits_boxes w
  have hl0 : w.heap.size + 1 < W0.heap.size := by omega
  have H := Lib.hid (h W0 hb0 hl0)
  have HW0 := Lib.hid hW0
  have Hx := Lib.hid (And.intro hx0 hx1)
  have Hb := Lib.hid hb0
  clear h hW0 hx0 hx1 hb0 hs0
  go_enter_defers Tryd.func47, Tryd.ntmps47
  go_upto_region 1 with fail
  rw [HW0.out]
  go_wp2_with fail
  refine H.out.mono ?_
  rintro e w1 ⟨rfl, hb⟩
  have hb2 : w1.heap[w.heap.size]? = some (.cells #[.int .i64 0, .slice none 0 0] 24 (0, 0)) := (hb.block _ (by omega)).trans Hx.out.1
  have bx : Boxed w1 (w.heap.size + 1) 27 (.int .i64 0) := (hb.block _ hl0).trans Hx.out.2
  have Hb1 := Lib.hid (Hb.out.trans (hb.mono Hb.out.size))
  clear hb H HW0 Hx Hb
  unfold pan
  simp only
  change bodyPostD _ _ _ (Exit.panic _) _ w1
  simp only [bodyPostD]
  refine leaves_cons (f := 84) (args := #[.pointer (some ⟨w.heap.size + 1, 0, none⟩)]) (by simp) (by simp [go_sem]) ?_
  refine (catch_bits (w.heap.size + 1) er w1 [] _ bx.cell bx.frozen).mono ?_
  rintro e u' w'' ⟨rfl, rfl, rfl⟩
  have z0 := (bx.set (.int .i64 er)).cell
  have hz := Hb1.out.setCell (p := ⟨w.heap.size + 1, 0, none⟩) (by simp) (.int .i64 er)
  have y1 : (w1.setCell ⟨w.heap.size + 1, 0, none⟩ (.int .i64 er)).heap[w.heap.size]? = _ := (heap_setCell_other w1 ⟨w.heap.size + 1, 0, none⟩ w.heap.size (.int .i64 er) (by simp)).trans hb2
  generalize w1.setCell ⟨w.heap.size + 1, 0, none⟩ (.int .i64 er) = w3 at *
  have e0 : w3.cell? ⟨w.heap.size, 0, none⟩ = some (.int .i64 0) := by rw [cell_of_row _ _ _ _ _ _ y1]; rfl
  have e1 : w3.cell? ⟨w.heap.size, 1, none⟩ = some (.slice none 0 0) := by rw [cell_of_row _ _ _ _ _ _ y1]; rfl
  have HZ := Lib.hid hz
  clear hz bx hb2 y1
  simp [Leaves, settle, results, Tryd.results47, go_sem, z0, e0, e1]
  exact HZ.out
end Go.Proofs.YtknacgdjodmaiaaDoor

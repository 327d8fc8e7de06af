/- Gather: one range. -/
import Derived.Test.YtknacgdjodmaiaaDoorBgatherf
import Derived.Great.BuildSlice
namespace Go.Proofs.YtknacgdjodmaiaaDoor
set_option linter.unusedVariables false
open Go.RowKit Go.Shelf

theorem info_parts {P : Program} {t : TypeId} {z : Value} {s b : Nat} (h : (P.info? t).map (fun i => (i.zero, i.size, i.bytes)) = some (some z, s, b)) : ∃ i, P.info? t = some i ∧ i.zero = some z ∧ i.size = s ∧ i.bytes = b := by
  cases hi : P.info? t with
  | none => rw [hi] at h; cases h
  | some i =>
    rw [hi] at h
    simp only [Option.map_some, Option.some.injEq, Prod.mk.injEq] at h
    exact ⟨i, rfl, h.1, h.2.1, h.2.2⟩
theorem Tryd.infoRange : (Tryd.prog.info? 60).map (fun i => (i.zero, i.size, i.bytes)) = some (some (.agg #[.int .i64 0, .int .i64 0]), 2, 16) := by kernel_rfl
theorem fill_range (u v : Value) : Instr.fill (fun i => some (i * 2, 2)) ((Array.range (1 * 2)).map ((.agg #[.int .i64 0, .int .i64 0] : Value).cells[· % (.agg #[.int .i64 0, .int .i64 0] : Value).cells.size]!)) [(0, .agg #[u, v])] = some #[u, v] := by kernel_rfl
theorem wpList_build_range {ops : Array Oper} {rest : List Oper} {o : Oper} {a : Act} {w : World} {Q : Exit → Act → World → Prop} (hg : o.guard = none) (x : Operand) (ho : o.op = .buildSlice 54 1 #[(0, x)]) (u v : Value) (hx : a.eval x = .agg #[u, v])
    (h : wpList Tryd.prog ops Q rest (a.put o.dst (.slice (some ⟨w.heap.size, 0, none⟩) 1 1)) (w.alloc (.cells #[u, v] 60))) : wpList Tryd.prog ops Q (o :: rest) a w := by
  obtain ⟨i0, hi, hz0, hz1, hz2⟩ := info_parts Tryd.infoRange
  refine wpList_buildSlice hg 54 60 1 #[(0, x)] ho #[u, v] i0 _ Tryd.underlying54 hi hz0 (by rw [hz1]; omega) (by rw [hz1]; omega) ?_ h
  rw [hz1]
  have : ((#[(0, x)] : Array (Nat × Operand)).map fun (i, x) => (i, a.eval x)).toList = [(0, .agg #[u, v])] := by simp [hx]
  rw [this]
  exact fill_range u v
set_option maxRecDepth 100000 in
set_option maxHeartbeats 2000000 in
theorem gather1_one (g0 g1 g2 : Nat) (M : Nat) (a : Option Addr) (l c : Nat) (bs : List Int) (m : Nat) (near : Nat) (W : World) (hB : Blk W g0 24 #[.int .i64 (M : Int), .slice a l c]) (h1 : Blk W g1 3 #[.int .i64 (m : Int)]) (h2 : Blk W g2 3 #[.int .i64 (near : Int)]) (hr : Rd W a l c bs) (hv : validB (M : Int) bs = true) (hm1 : 1 ≤ m) (hnear : near ≤ M) (x : Nat) (hm : m ≤ 65536) (hx : x ≤ 65536) (hf : findV bs M (m : Int) near none 3 = some x) :
    Calls Tryd.prog 80 #[.pointer (some ⟨g0, 0, none⟩), .pointer (some ⟨g1, 0, none⟩), .pointer (some ⟨g2, 0, none⟩)] W fun e w' => ∃ a' l' c', e = .returned (.slice a' l' c') ∧ OwnR w' W.heap.size (.slice a' l' c') [(x, m)] ∧ Below W.heap.size W w' := by
  have q0 : W.cell? ⟨g0, 0, none⟩ = some (.int .i64 (M : Int)) := hB.cell 0
  have q1 : W.cell? ⟨g0, 1, none⟩ = some (.slice a l c) := hB.cell 1
  have q2 := h1.boxed.cell
  have q3 := h2.boxed.cell
  have hM6 : (M : Int) ≤ 65536 := by have := (validB_iff (M : Int) bs).mp hv; omega
  have C := Lib.hid (needPlace_yes M a l c bs W hr (by omega) (by omega) (m : Int) near hv ⟨by omega, by omega, by omega⟩)
  have HB := Lib.hid hB
  have H1 := Lib.hid h1
  have H2 := Lib.hid h2
  have HR := Lib.hid hr
  have Hv := Lib.hid hv
  clear hB h1 h2 hr hv
  go_enter Tryd.func80, Tryd.ntmps80
  go_wp2_with fail
  refine C.out.mono ?_
  rintro e w1 ⟨rfl, hb1⟩
  have hB1 := HB.out.below hb1 HB.out.lt
  have p0 : w1.cell? ⟨g0, 0, none⟩ = some (.int .i64 (M : Int)) := hB1.cell 0
  have p1 : w1.cell? ⟨g0, 1, none⟩ = some (.slice a l c) := hB1.cell 1
  have p2 := (H1.out.below hb1 H1.out.lt).boxed.cell
  have p3 := (H2.out.below hb1 H2.out.lt).boxed.cell
  have HR1 := Lib.hid (HR.out.below hb1 (Nat.le_refl _))
  have Hb1 := Lib.hid hb1
  have HB2 := Lib.hid hB1
  have H12 := Lib.hid (H1.out.below hb1 H1.out.lt)
  clear hb1 hB1 C HB H1 H2 HR q0 q1 q2 q3
  have C2 := find_any M a l c bs (m : Int) near 3 none w1 HR1.out Hv.out hnear (by omega) (by omega) (fun h => absurd h (by decide))
  rw [hf] at C2
  have HC2 := Lib.hid C2
  clear C2 hf
  go_wp2_with fail
  refine HC2.out.mono ?_
  rintro e w2 ⟨rfl, hb2⟩
  have HZ := Lib.hid (Hb1.out.trans (hb2.mono Hb1.out.size))
  have HR2 := Lib.hid (HR1.out.below hb2 (Nat.le_refl _))
  have r0 : w2.cell? ⟨g0, 0, none⟩ = some (.int .i64 (M : Int)) := (HB2.out.below hb2 HB2.out.lt).cell 0
  have r1 : w2.cell? ⟨g0, 1, none⟩ = some (.slice a l c) := (HB2.out.below hb2 HB2.out.lt).cell 1
  have r2 := (H12.out.below hb2 H12.out.lt).boxed.cell
  clear hb2 HC2 p0 p1 p2 p3 HR1 HB2 H12
  simp only [Option.getD_none, Option.isSome_none, Option.getD_some, Option.isSome_some]
  go_wp2_with (refine wpList_build_range rfl (.tmp 20) rfl (.int .i64 (x : Int)) (.int .i64 (m : Int)) rfl ?_)
  go_ret
  refine ⟨_, 1, 1, rfl, ⟨⟨rfl, .inr ⟨w2.heap.size, 1, #[.int .i64 (x : Int), .int .i64 (m : Int)], rfl, HZ.out.size, heap_new w2 _, Nat.le_refl _, by unfold maxLen; omega, rfl, rfl⟩⟩, ?_⟩, HZ.out.alloc HZ.out.size _⟩
  intro r hr
  rw [List.mem_singleton] at hr
  subst hr
  exact ⟨hx, hm⟩
end Go.Proofs.YtknacgdjodmaiaaDoor

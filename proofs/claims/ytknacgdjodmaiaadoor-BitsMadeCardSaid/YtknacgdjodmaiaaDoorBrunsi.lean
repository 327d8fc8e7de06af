/- runs: the iterator over the runs of a bitmap. -/
import Derived.Test.YtknacgdjodmaiaaDoorBseek
namespace Go.Proofs.YtknacgdjodmaiaaDoor
set_option linter.unusedVariables false
open Go.RowKit Go.Shelf
attribute [local go_sem] Oper.semAt_some

/-- The boxes of runs. -/
def runsBoxes (w : World) (N : Int) (a : Option Addr) (l c : Nat) (on : Bool) : World := (w.alloc (.cells #[.int .i64 N, .slice a l c] 24)).alloc (.cells #[.bool on] 4)
set_option maxRecDepth 100000 in
set_option maxHeartbeats 1000000 in
theorem runs_any (N : Int) (a : Option Addr) (l c : Nat) (on : Bool) (w : World) : Calls Tryd.prog 76 #[.agg #[.int .i64 N, .slice a l c], .bool on] w fun e w' => e = .returned (.func (.func 92) #[] #[.pointer (some ⟨w.heap.size, 0, none⟩), .pointer (some ⟨w.heap.size + 1, 0, none⟩)]) ∧ w' = runsBoxes w N a l c on := by
  have hmf : ∀ (fn : Fn) (first cap : Array Value) (w : World), (Instr.makeFunc fn first cap).run Tryd.prog w = .ok (.func fn first cap) w := fun _ _ _ _ => rfl
  go_enter Tryd.func76, Tryd.ntmps76
  go_wp2_with fail
  go_ret
  exact ⟨rfl, rfl⟩
/-- A run. -/
abbrev RunNo := { r : Nat × Nat // r.1 + r.2 ≤ 65536 ∧ 1 ≤ r.2 }
def runEnc (x : RunNo) : Array Value := #[.agg #[.int .i64 (x.1.1 : Int), .int .i64 (x.1.2 : Int)]]
/-- What the iterator reads. -/
structure RunsAt (W : World) (g h : Nat) (N : Int) (a : Option Addr) (l c : Nat) (bs : List Int) (on : Bool) : Prop where
  b : Blk W g 24 #[.int .i64 N, .slice a l c]
  o : Boxed W h 4 (.bool on)
  r : Rd W a l c bs
theorem RunsAt.below {W W' : World} {g h : Nat} {N : Int} {a : Option Addr} {l c : Nat} {bs : List Int} {on : Bool} (k : RunsAt W g h N a l c bs on) (hb : Below W.heap.size W W') : RunsAt W' g h N a l c bs on :=
  ⟨k.b.below hb k.b.lt, (hb.block h k.o.lt).trans k.o, k.r.below hb (Nat.le_refl _)⟩
theorem grown_below {W W' : World} (hb : Below W.heap.size W W') : W.grownBy W' none := ⟨hb.os, hb.tape, hb.output, hb.size, fun k hk _ => hb.block k hk⟩
def runsKp (g h : Nat) (N : Int) (a : Option Addr) (l c : Nat) (bs : List Int) (on : Bool) (W W' : World) : Prop := RunsAt W g h N a l c bs on → RunsAt W' g h N a l c bs on
set_option maxRecDepth 100000 in
set_option maxHeartbeats 4000000 in
theorem runs1_stops (n : Nat) (hn : 1 ≤ n) (g h : Nat) (N : Int) (M : Nat) (a : Option Addr) (l c : Nat) (bs : List Int) (on : Bool) (w : World) (hR : RunsAt w g h N a l c bs on) (hv : validB N bs = true) (hM : N = (M : Int)) (K : Nat) (hK : K = (runsV bs M on).length) :
    SeqStopsK Fence.wide n Tryd.prog 92 #[.pointer (some ⟨g, 0, none⟩), .pointer (some ⟨h, 0, none⟩)] runEnc (runsKp g h N a l c bs on) (fun xs => xs.map (·.1) = runsV bs M on) (fun pre => pre.map (·.1) <+: runsV bs M on) K w := fun ln J Jx W hW hJ hJx hY h0 => by
  subst hM
  have hR1 : RunsAt W g h M a l c bs on := hR.below hW
  have hM6 : M ≤ 65536 := by have := (validB_iff (M : Int) bs).mp hv; omega
  have c0 : W.cell? ⟨g, 0, none⟩ = some (.int .i64 (M : Int)) := hR1.b.cell 0
  have c1 : W.cell? ⟨g, 1, none⟩ = some (.slice a l c) := hR1.b.cell 1
  have c2 := hR1.o.cell
  have C := Lib.hid (seek_any on M M a l c bs 0 W hR1.r hv rfl (Nat.zero_le _))
  have HR := Lib.hid hR1
  have Hv := Lib.hid hv
  have HK := Lib.hid hK
  have HJ := Lib.hid hJ
  have hWs := hW.size
  clear hR hR1 hW hv hK
  refine callsIn_of_wp Tryd.func92 rfl trivial ?_ rfl
  simp only [Tryd.ntmps92, List.size_toArray, List.length_cons, List.length_nil, Nat.reduceAdd, Nat.reduceSub, Array.replicate_succ, Array.replicate_zero, List.push_toArray, List.append_toArray, List.nil_append, List.cons_append]
  gi_wp2_with fail
  refine ⟨trivial, ?_⟩
  refine (callsIn_wide.2 C.out).mono ?_
  rintro e w1 ⟨rfl, hb1⟩
  have hR1 := HR.out.below hb1
  have h01 := HJ.out [] W w1 none h0 (grown_below hb1) (fun r e => by cases e)
  have hw1 := hb1.size
  have HR1 := Lib.hid hR1
  clear C hb1 hR1 c0 c1 c2 h0
  gi_wp2_with fail
  gi_loopw [4] (fun p wr => ∃ (pre : List RunNo) (k : Nat), p = .int .i64 (k : Int) ∧ pre.map (·.1) ++ restV bs M on k = runsV bs M on ∧ k ≤ M ∧ (k < M → bitV bs k = on) ∧ J pre wr ∧ RunsAt wr g h M a l c bs on )
    (fun p wr => M - (intOf p).toNat)
  case atStart =>
    obtain ⟨s1, s2, s3, s4⟩ := seekV_spec bs M on 0 (Nat.zero_le _)
    exact ⟨[], _, rfl, rfl, s2, s4, h01, HR1.out⟩
  case round =>
    obtain ⟨pre, k, rfl, hpre, hk, hbit, hJs, hRr⟩ := hrel
    have d0 : wr.cell? ⟨g, 0, none⟩ = some (.int .i64 (M : Int)) := hRr.b.cell 0
    have d1 : wr.cell? ⟨g, 1, none⟩ = some (.slice a l c) := hRr.b.cell 1
    have d2 := hRr.o.cell
    have HRr := Lib.hid hRr
    have HJs := Lib.hid hJs
    have Hpre := Lib.hid hpre
    clear hRr hJs hpre HR HR1 h01
    by_cases hlt : k < M
    · have hb := hbit hlt
      obtain ⟨s1, s2, s3, s4⟩ := run_step bs M on k hlt hb
      have hnext := restV_next bs M on k hlt hb
      have hbit2 := (seekV_spec bs M on (seekV bs M (!on) k) s2).2.2.2
      have C := seek_any (!on) M M a l c bs k wr HRr.out.r Hv.out rfl (by omega)
      obtain ⟨en, hen⟩ : ∃ en, en = seekV bs M (!on) k := ⟨_, rfl⟩
      rw [← hen] at C s1 s2 s3 s4 hnext hbit2
      obtain ⟨nx, hnx⟩ : ∃ nx, nx = seekV bs M on en := ⟨_, rfl⟩
      rw [← hnx] at s3 s4 hnext hbit2
      have HC := Lib.hid C
      have Hnx := Lib.hid hnx
      have Hnext := Lib.hid hnext
      have Hbit2 := Lib.hid hbit2
      clear C hen hnx hnext hbit2 hb hbit
      gi_wp2_with fail
      refine ⟨trivial, ?_⟩
      refine (callsIn_wide.2 HC.out).mono ?_
      rintro e w2 ⟨rfl, hb2⟩
      have hR2 := HRr.out.below hb2
      have hJ2 := HJ.out pre wr w2 none HJs.out (grown_below hb2) (fun r e => by cases e)
      have hw2 := hb2.size
      have d3 : w2.cell? ⟨g, 0, none⟩ = some (.int .i64 (M : Int)) := hR2.b.cell 0
      obtain ⟨mn, hmn⟩ : ∃ m, m = en - k := ⟨_, rfl⟩
      have e3 : (en : Int) - (k : Int) = (mn : Int) := by omega
      have hxx : k + mn ≤ 65536 ∧ 1 ≤ mn := by omega
      obtain ⟨x, hx1⟩ : ∃ x : RunNo, x.1 = (k, mn) := ⟨⟨(k, mn), hxx⟩, rfl⟩
      have hnx2 : pre.map (·.1) ++ ((k, mn) :: restV bs M on nx) = runsV bs M on := by rw [hmn, ← Hnext.out]; exact Hpre.out
      have hkl : pre.length < K := by
        have := congrArg List.length hnx2
        rw [List.length_append, List.length_map, List.length_cons, ← HK.out] at this
        omega
      obtain ⟨fn, tmps, assign, body, hy, hR⟩ := hY pre x w2 hJ2 hkl
      dsimp only [runEnc] at hy
      rw [hx1] at hy
      dsimp only at hy
      have HRn := Lib.hid hR
      have HR2 := Lib.hid hR2
      have Hnx2 := Lib.hid hnx2
      have Hx1 := Lib.hid hx1
      clear hR hkl hx1 hnx2 hb2 hJ2 hR2 hmn HC HJs HRr Hnext Hpre d0 d1 d2
      gi_wp2_with fail
      refine HRn.out.mono ?_
      rintro e' W3 (⟨rfl, hJ3, hk3⟩ | ⟨rfl, hJx3⟩)
      · have hR3 := hk3 HR2.out
        have p0 : W3.cell? ⟨g, 0, none⟩ = some (.int .i64 (M : Int)) := hR3.b.cell 0
        have p1 : W3.cell? ⟨g, 1, none⟩ = some (.slice a l c) := hR3.b.cell 1
        have p2 := hR3.o.cell
        have HR3 := Lib.hid hR3
        have HJ3 := Lib.hid hJ3
        have C := Lib.hid (seek_any on M M a l c bs en W3 hR3.r Hv.out rfl s2)
        clear hk3 hR3 hJ3 d3
        gi_wp2_with fail
        refine ⟨trivial, ?_⟩
        refine (callsIn_wide.2 C.out).mono ?_
        rintro e w4 ⟨rfl, hb4⟩
        rw [← Hnx.out]
        have hR4 := HR3.out.below hb4
        have hJ4 := HJ.out (pre ++ [x]) W3 w4 none HJ3.out (grown_below hb4) (fun r e => by cases e)
        have HR4 := Lib.hid hR4
        have HJ4 := Lib.hid hJ4
        clear hb4 hR4 hJ4 C p0 p1 p2
        gi_wp2_with fail
        go_roundw
        case rel => exact ⟨pre ++ [x], nx, rfl, by rw [List.map_append, List.map_singleton, Hx1.out, List.append_assoc]; exact Hnx2.out, s4, Hbit2.out, HJ4.out, HR4.out⟩
        case measure => simp [intOf]; omega
      · gi_wp2
        refine bodyPost_ret (results_none rfl _ _ _) rfl ?_
        exact ⟨⟨_, rfl⟩, .inr ⟨pre ++ [x], ⟨restV bs M on nx, by rw [List.map_append, List.map_singleton, Hx1.out, List.append_assoc]; exact Hnx2.out⟩, hJx3⟩⟩
    · have hrest := restV_end bs M on k (by omega)
      have Hfin : Hid (pre.map (·.1) = runsV bs M on) := Lib.hid (by rw [← Hpre.out, hrest, List.append_nil])
      clear hrest hbit
      gi_wp2
      go_end0
      exact ⟨⟨_, rfl⟩, .inl ⟨pre, Hfin.out, HJs.out⟩⟩
end Go.Proofs.YtknacgdjodmaiaaDoor

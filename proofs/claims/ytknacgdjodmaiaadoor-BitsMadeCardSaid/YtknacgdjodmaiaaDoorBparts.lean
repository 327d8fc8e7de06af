/- parts: the bytes in which a range lies, with its bits in each. -/
import Derived.Test.YtknacgdjodmaiaaDoorBrd
import Derived.Test.YtknacgdjodmaiaaDoorBpure
import Derived.RangeFuncNested
import Derived.RangeFuncBound
import Derived.RangeFuncCalls
import Derived.RangeFuncLeaves
import Derived.RangeFuncBox
import Derived.Shelf.Abstract
import Derived.Shelf.RegionOpen
import Derived.WalkKit
import Derived.OwnWalkIn
import Derived.TacticsInMore
import Derived.LoopNIn
import Derived.LoopIn
namespace Go.Proofs.YtknacgdjodmaiaaDoor
set_option linter.unusedVariables false
open Go.RowKit Go.Shelf
attribute [local go_sem] Oper.semAt_some

/-- The boxes of a range. -/
def rangeBoxes (w : World) (a n : Int) : World := (w.alloc (.cells #[.int .i64 a] 3)).alloc (.cells #[.int .i64 n] 3)
set_option maxRecDepth 100000 in
set_option maxHeartbeats 1000000 in
theorem parts_any (a n : Int) (w : World) : Calls Tryd.prog 53 #[.int .i64 a, .int .i64 n] w fun e w' => e = .returned (.func (.func 87) #[] #[.pointer (some ⟨w.heap.size, 0, none⟩), .pointer (some ⟨w.heap.size + 1, 0, none⟩)]) ∧ w' = rangeBoxes w a n := by
  have hmf : ∀ (fn : Fn) (first cap : Array Value) (w : World), (Instr.makeFunc fn first cap).run Tryd.prog w = .ok (.func fn first cap) w := fun _ _ _ _ => rfl
  go_enter Tryd.func53, Tryd.ntmps53
  go_wp2_with fail
  go_ret
  exact ⟨rfl, rfl⟩

/-- A byte's number, of those in which the range lies. -/
abbrev PartNo (a e : Nat) := { i : Nat // a / 8 ≤ i ∧ 8 * i < e ∧ a < e }
/-- What a round is handed. -/
def partEnc (a e : Nat) (x : PartNo a e) : Array Value := #[.int .i64 (x.1 : Int), .int .u8 (mkV a e x.1 : Int)]
/-- How many bytes a range lies in. -/
def partN (a e : Nat) : Nat := if a < e then (e + 7) / 8 - a / 8 else 0
/-- What a round that goes on keeps: the boxes. -/
def boxesKp (g h : Nat) (a n : Int) (W W' : World) : Prop := Boxed W g 3 (.int .i64 a) ∧ Boxed W h 3 (.int .i64 n) → Boxed W' g 3 (.int .i64 a) ∧ Boxed W' h 3 (.int .i64 n)
theorem mask_eq (a e i d r : Nat) (hd : d = min e (8 * i + 8) - max a (8 * i)) (hr : r = max a (8 * i) - 8 * i) (h1 : 1 ≤ d) :
    ((2 : Int) ^ d - 1) % 256 * 2 ^ r % 256 = (mkV a e i : Int) := by
  have hm : mkV a e i = (2 ^ d - 1) * 2 ^ r := by unfold mkV; rw [← hd, ← hr]
  rw [hm]
  have hdr : d + r ≤ 8 := by omega
  have hall : (List.range 9).all (fun d => (List.range 8).all fun r => decide (d + r ≤ 8 → 1 ≤ d → ((2 : Int) ^ d - 1) % 256 * 2 ^ r % 256 = (((2 ^ d - 1) * 2 ^ r : Nat) : Int))) = true := by kernel_rfl
  have := List.all_eq_true.mp (List.all_eq_true.mp hall d (List.mem_range.mpr (by omega))) r (List.mem_range.mpr (by omega))
  exact (of_decide_eq_true this) hdr h1
set_option maxRecDepth 100000 in
set_option maxHeartbeats 2000000 in
theorem parts1_stops (F : Fence) (n : Nat) (hfn : F.fn 87) (hro : F.round = none) (hn : 1 ≤ n) (g h a m e : Nat) (he : e = a + m) (w : World)
    (hg : Boxed w g 3 (.int .i64 a)) (hh : Boxed w h 3 (.int .i64 m)) (hbig : e ≤ 140737488355328) :
    SeqStopsK F n Tryd.prog 87 #[.pointer (some ⟨g, 0, none⟩), .pointer (some ⟨h, 0, none⟩)] (partEnc a e) (boxesKp g h a m) (fun xs => xs.map (·.1) = List.range' (a / 8) (partN a e)) (fun _ => True) (partN a e) w := fun l J Jx W hW hJ hJx hY h0 => by
  have hg1 : Boxed W g 3 (.int .i64 a) := (hW.block g hg.lt).trans hg
  have hh1 : Boxed W h 3 (.int .i64 m) := (hW.block h hh.lt).trans hh
  have c0 := hg1.cell
  have c1 := hh1.cell
  have hae1 : -9223372036854775808 ≤ (a : Int) + (m : Int) := by omega
  have hae2 : (a : Int) + (m : Int) ≤ 9223372036854775807 := by omega
  have Hg := Lib.hid (And.intro hg1 hh1)
  clear hg hh hg1 hh1 hW
  refine callsIn_of_wp Tryd.func87 rfl hfn ?_ hro
  simp only [Tryd.ntmps87, List.size_toArray, List.length_cons, List.length_nil, Nat.reduceAdd, Nat.reduceSub, Array.replicate_succ, Array.replicate_zero, List.push_toArray, List.append_toArray, List.nil_append, List.cons_append]
  have Hae : Hid ((a : Int) + (m : Int) = (e : Int)) := Lib.hid (by omega)
  have He := Lib.hid he
  clear he
  gi_wp2
  rw [Hae.out]
  clear hae1 hae2 Hae c0 c1
  gi_loopw [5] (fun p wr => ∃ (pre : List (PartNo a e)) (k fr : Nat), p = .int .i64 (fr : Int) ∧ pre.length = k ∧ pre.map (·.1) = List.range' (a / 8) k ∧ k ≤ partN a e ∧ ((k = 0 ∧ fr = a) ∨ (1 ≤ k ∧ fr = min e (8 * (a / 8 + k)))) ∧ J pre wr ∧ Boxed wr g 3 (.int .i64 a) ∧ Boxed wr h 3 (.int .i64 m))
    (fun p wr => e - (intOf p).toNat)
  case atStart => exact ⟨[], 0, a, rfl, rfl, rfl, Nat.zero_le _, .inl ⟨rfl, rfl⟩, h0, Hg.out.1, Hg.out.2⟩
  case round =>
    obtain ⟨pre, k, fr, rfl, hk, hpre, hkn, hfr, hJs, hb0, hb1⟩ := hrel
    have Hb := Lib.hid (And.intro hb0 hb1)
    have Hpre := Lib.hid hpre
    clear hb0 hb1 hpre Hg
    by_cases hlt : fr < e
    · obtain ⟨i, hi⟩ : ∃ i, i = a / 8 + k := ⟨_, rfl⟩
      have hif : i = fr / 8 := by rcases hfr with ⟨h1, h2⟩ | ⟨h1, h2⟩ <;> omega
      have hfm : fr = max a (8 * i) := by rcases hfr with ⟨h1, h2⟩ | ⟨h1, h2⟩ <;> omega
      have hpn : partN a e = (e + 7) / 8 - a / 8 := by unfold partN; rw [if_pos (by rcases hfr with ⟨h1, h2⟩ | ⟨h1, h2⟩ <;> omega)]
      have hkl : pre.length < partN a e := by rw [hpn]; omega
      have hx : a / 8 ≤ i ∧ 8 * i < e ∧ a < e := by rcases hfr with ⟨h1, h2⟩ | ⟨h1, h2⟩ <;> omega
      obtain ⟨to, hto⟩ : ∃ t, t = min e (8 * i + 8) := ⟨_, rfl⟩
      obtain ⟨d, hd⟩ : ∃ d, d = to - fr := ⟨_, rfl⟩
      obtain ⟨r, hr⟩ : ∃ r, r = fr % 8 := ⟨_, rfl⟩
      have hd1 : 1 ≤ d := by omega
      have hd8 : d ≤ 8 := by omega
      have hr8 : r < 8 := by omega
      have hto2 : fr < to := by omega
      have hto3 : to ≤ e := by omega
      have hi3 : i ≤ e := by omega
      have hM := mask_eq a e i d r (by omega) (by omega) hd1
      obtain ⟨mk, hmk⟩ : ∃ m, m = mkV a e i := ⟨_, rfl⟩
      rw [← hmk] at hM
      have e1 : (fr : Int) / 8 = (i : Int) := by omega
      have e2 : min (e : Int) (((i : Int) + 1) * 8) = (to : Int) := by omega
      have e3 : (to : Int) - (fr : Int) = (d : Int) := by omega
      have e4 : (fr : Int) % 8 = (r : Int) := by omega
      obtain ⟨x, hx1⟩ : ∃ x : PartNo a e, x.1 = i := ⟨⟨i, hx⟩, rfl⟩
      obtain ⟨fn, tmps, assign, body, hy, hR⟩ := hY pre x wr hJs hkl
      dsimp only [partEnc] at hy
      rw [hx1, ← hmk] at hy
      have Hx1 := Lib.hid hx1
      have HR := Lib.hid hR
      have Hto : Hid (to = min e (8 * (a / 8 + (k + 1)))) := Lib.hid (by omega)
      have Hi := Lib.hid hi
      have Hx := Lib.hid hx
      have Hk := Lib.hid hk
      have HJ := Lib.hid hJs
      have Hkl : Hid (k + 1 ≤ partN a e) := Lib.hid (by omega)
      clear hR hkl hi hif hfm hpn hto hd hr hmk hfr hkn hJs hx hk hx1
      gi_wp2
      refine HR.out.mono ?_
      rintro e' W3 (⟨rfl, hJ3, hk3⟩ | ⟨rfl, hJx3⟩)
      · have hb3 := hk3 Hb.out
        have Hb3 := Lib.hid hb3
        have HJ3 := Lib.hid hJ3
        clear hk3 hb3 hJ3
        gi_wp2
        go_roundw
        case rel => exact ⟨pre ++ [x], k + 1, to, rfl, by rw [List.length_append, Hk.out]; rfl, by rw [List.map_append, Hpre.out, List.range'_concat, List.map_singleton, Hx1.out, Hi.out, Nat.one_mul], Hkl.out, .inr ⟨by omega, Hto.out⟩, HJ3.out, Hb3.out.1, Hb3.out.2⟩
        case measure => simp [intOf]; omega
      · gi_wp2
        refine bodyPost_ret (results_none rfl _ _ _) rfl ?_
        exact ⟨⟨_, rfl⟩, .inr ⟨pre ++ [x], trivial, hJx3⟩⟩
    · have hkN : k = partN a e := by
        unfold partN at hkn ⊢
        split at hkn
        · rename_i hae
          rw [if_pos hae]
          rcases hfr with ⟨h1, h2⟩ | ⟨h1, h2⟩ <;> omega
        · rename_i hae
          rw [if_neg hae]; omega
      have HN := Lib.hid hkN
      have HJ := Lib.hid hJs
      clear hfr hkn hk hJs hkN
      gi_wp2
      go_end0
      exact ⟨⟨_, rfl⟩, .inl ⟨pre, by rw [Hpre.out, HN.out], HJ.out⟩⟩
end Go.Proofs.YtknacgdjodmaiaaDoor

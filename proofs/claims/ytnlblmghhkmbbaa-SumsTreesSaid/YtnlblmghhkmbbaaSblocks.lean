/- blocks: the iterator over whole blocks. -/
import Derived.Test.YtnlblmghhkmbbaaSabs
import Derived.Test.YtnlblmghhkmbbaaSrd
import Derived.RangeFuncNested
import Derived.RangeFuncBound
import Derived.RangeFuncCalls
import Derived.RangeFuncLeaves
import Derived.Shelf.Abstract
import Derived.Shelf.RegionOpen
import Derived.WalkKit
import Derived.OwnWalkIn
import Derived.TacticsInMore
import Derived.LoopNIn
import Derived.LoopIn
namespace Go.Proofs.Ytnlblmghhkmbbaa
set_option linter.unusedVariables false
open Go.RowKit Go.Shelf
attribute [local go_sem] Oper.semAt_some

set_option maxRecDepth 100000 in
set_option maxHeartbeats 1000000 in
theorem blocks_any (a : Option Addr) (len cap : Nat) (w : World) : Calls Try.prog 78 #[.slice a len cap] w fun e w' => e = .returned (.func (.func 93) #[] #[.pointer (some ⟨w.heap.size, 0, none⟩)]) ∧ w' = w.alloc (.cells #[.slice a len cap] 22) := by
  have hmf : ∀ (fn : Fn) (first cap : Array Value) (w : World), (Instr.makeFunc fn first cap).run Try.prog w = .ok (.func fn first cap) w := fun _ _ _ _ => rfl
  go_enter Try.func78, Try.ntmps78
  go_wp2_with fail
  go_ret
  exact ⟨rfl, rfl⟩

/-- A block's number, where there are len bytes. -/
abbrev BlkNo (len : Nat) := { k : Nat // 16 * k + 16 ≤ len }
/-- What a round is handed. -/
def blkEnc (b off len cap : Nat) (x : BlkNo len) : Array Value := #[.slice (some ⟨b, off + 16 * x.1, none⟩) 16 (cap - 16 * x.1)]
/-- What a round that goes on keeps: the box of the slice. -/
def boxKp (g : Nat) (a : Option Addr) (len cap : Nat) (W W' : World) : Prop := Boxed W g 22 (.slice a len cap) → Boxed W' g 22 (.slice a len cap)
set_option maxRecDepth 100000 in
set_option maxHeartbeats 2000000 in
theorem blocks1_stops (F : Fence) (n : Nat) (hfn : F.fn 93) (hro : F.round = none) (hn : 1 ≤ n) (g b off len cap : Nat) (a : Option Addr) (w : World)
    (hg : Boxed w g 22 (.slice a len cap)) (ha : 16 ≤ len → a = some ⟨b, off, none⟩) (hlc : len ≤ cap) (hm : cap ≤ 9223372036854775807) (hml : len ≤ 140737488355328) :
    SeqStopsK F n Try.prog 93 #[.pointer (some ⟨g, 0, none⟩)] (blkEnc b off len cap) (boxKp g a len cap) (fun xs => xs.map (·.1) = List.range (len / 16)) (fun _ => True) (len / 16) w := fun l J Jx W hW hJ hJx hY h0 => by
  have hg1 : Boxed W g 22 (.slice a len cap) := (hW.block g hg.lt).trans hg
  refine callsIn_of_wp Try.func93 rfl hfn ?_ hro
  simp only [Try.ntmps93, List.size_toArray, List.length_cons, List.length_nil, Nat.reduceAdd, Nat.reduceSub, Array.replicate_succ, Array.replicate_zero, List.push_toArray, List.append_toArray, List.nil_append, List.cons_append]
  gi_wp2
  gi_loopw [3] (fun p wr => ∃ (pre : List (BlkNo len)) (k : Nat), p = .int .i64 ((16 * k : Nat) : Int) ∧ 16 * k ≤ len ∧ pre.map (·.1) = List.range k ∧ J pre wr ∧ Boxed wr g 22 (.slice a len cap))
    (fun p wr => len - (intOf p).toNat)
  case atStart =>
    exact ⟨[], 0, rfl, by omega, rfl, h0, hg1⟩
  case round =>
    obtain ⟨pre, k, rfl, hk, hpre, hJs, hbx⟩ := hrel
    have hc := hbx.cell
    have Hbx := Lib.hid hbx
    have Hpre := Lib.hid hpre
    clear hbx hpre hg1 hg hW
    by_cases hlt : 16 * k + 16 ≤ len
    · obtain rfl := ha (by omega)
      have hkl : k < len / 16 := by omega
      have hpl : pre.length = k := by have := congrArg List.length Hpre.out; simpa using this
      obtain ⟨fn, tmps, assign, body, hy, hR⟩ := hY pre ⟨k, hlt⟩ wr hJs (by rw [hpl]; exact hkl)
      dsimp only [blkEnc] at hy
      have HR := Lib.hid hR
      clear hR hpl
      gi_wp2
      refine HR.out.mono ?_
      rintro e W3 (⟨rfl, hJ3, hk3⟩ | ⟨rfl, hJx3⟩)
      · have hb3 := hk3 Hbx.out
        have Hb3 := Lib.hid hb3
        have HJ3 := Lib.hid hJ3
        clear hk3 hb3 hJ3
        gi_wp2
        go_roundw
        case rel => exact ⟨pre ++ [⟨k, hlt⟩], k + 1, by go_num, by omega, by rw [List.map_append, Hpre.out, List.range_succ]; rfl, HJ3.out, Hb3.out⟩
        case measure => simp [intOf]; omega
      · gi_wp2
        refine bodyPost_ret (results_none rfl _ _ _) rfl ?_
        exact ⟨⟨_, rfl⟩, .inr ⟨pre ++ [⟨k, hlt⟩], trivial, hJx3⟩⟩
    · gi_wp2
      go_end0
      exact ⟨⟨_, rfl⟩, .inl ⟨pre, by rw [Hpre.out]; congr 1; omega, hJs⟩⟩
end Go.Proofs.Ytnlblmghhkmbbaa

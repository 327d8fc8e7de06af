/- climb: the nodes from a leaf up to the root. -/
import Derived.Test.YtnlblmghhkmbbaaSclimb0
import Derived.Deep.DeepCutAuto
namespace Go.Proofs.Ytnlblmghhkmbbaa
set_option linter.unusedVariables false
open Go.RowKit Go.Shelf

/-- What ends a way up by a path of another length. -/
def panW : Ending := .panicked [{ v := .iface 128 (.agg #[]), recovered := false }]
def ClimbOk (l : List (List Int)) (w : World) (e : Ending) (w' : World) : Prop := ∃ v ms, e = .returned v ∧ Nodes w' w.heap.size v ms ∧ ms.map (·.xs) = l ∧ Below w.heap.size w w'
def ClimbNo (w : World) (e : Ending) (w' : World) : Prop := e = panW ∧ Below w.heap.size w w'
def ClimbPost (r : Option (List (List Int))) (w : World) (e : Ending) (w' : World) : Prop := match r with | some l => ClimbOk l w e w' | none => ClimbNo w e w'
attribute [local irreducible] digestV rootV halfV climbV
set_option maxRecDepth 100000 in
set_option maxHeartbeats 4000000 in
theorem climb_one_no (i : Nat) (leaf : Value) (a : Option Addr) (len cap : Nat) (w : World) (h : 0 < len) :
    Calls Try.prog 89 #[.int .i64 1, .int .i64 i, leaf, .slice a len cap] w (ClimbNo w) := by
  have hg : (0 : Int) < (len : Int) := by omega
  go_enter Try.func89, Try.ntmps89
  go_wp2
  exact ⟨rfl, rfl, Below.refl _ _⟩
set_option maxRecDepth 100000 in
set_option maxHeartbeats 4000000 in
theorem climb_two_nil (n i : Nat) (leaf : Value) (a : Option Addr) (cap : Nat) (w : World) (h : 2 ≤ n) :
    Calls Try.prog 89 #[.int .i64 n, .int .i64 i, leaf, .slice a 0 cap] w (ClimbNo w) := by
  have hg : ((n : Int) == 1) = false := by simp; omega
  go_enter Try.func89, Try.ntmps89
  go_wp2
  exact ⟨rfl, rfl, Below.refl _ _⟩
set_option maxRecDepth 100000 in
set_option maxHeartbeats 4000000 in
theorem climb_one_ok (i : Nat) (la : Option Addr) (ll lc : Nat) (leaf : List Int) (a : Option Addr) (cap : Nat) (w : World) (hl : Rd w la ll lc leaf) (hll : ll ≤ 140737488354000) :
    Calls Try.prog 89 #[.int .i64 1, .int .i64 i, .slice la ll lc, .slice a 0 cap] w (ClimbOk [0 :: leaf] w) := by
  have Hl := Lib.hid hl
  clear hl
  go_enter Try.func89, Try.ntmps89
  go_wp2_with fail
  refine (leafNode_any la ll lc leaf w Hl.out hll).mono ?_
  rintro e w1 ⟨v, rfl, ho, hb⟩
  obtain ⟨m, hm⟩ : ∃ m, m = (0 :: leaf).length := ⟨_, rfl⟩
  obtain ⟨ca, cc, rfl, -, -⟩ := ho.rdb hm.symm
  have Ho := Lib.hid ho
  have Hb := Lib.hid hb
  clear ho hb hm
  go_wp2_with (refine wpList_build_node rfl (.tmp 22) rfl (digestV (0 :: leaf)) (.slice ca m cc) (digestV_len _) rfl ?_)
  go_ret
  refine ⟨_, [⟨.slice ca m cc, 0 :: leaf⟩], rfl, ⟨⟨?_, .inr ⟨w1.heap.size, 1, nodeC (digestV (0 :: leaf)) (.slice ca m cc), rfl, Hb.out.size, heap_new w1 _, Nat.le_refl _, by unfold maxLen; omega, ?_, ?_⟩⟩, ?_⟩, rfl, Hb.out.alloc Hb.out.size _⟩
  · rw [nodesC_len]
  · rw [nodeC_size _ _ (digestV_len _)]
  · rw [nodesC_one, List.length_singleton, List.take_of_length_le (by rw [Array.length_toList, nodeC_size _ _ (digestV_len _)]; exact Nat.le_refl _)]
  · intro x hx
    rw [List.mem_singleton] at hx
    subst hx
    exact Ho.out.alloc _
end Go.Proofs.Ytnlblmghhkmbbaa

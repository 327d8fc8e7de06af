/- The initial sponge. -/
import Derived.Test.YtnlblmghhkmbbaaSperm
namespace Go.Proofs.Ytnlblmghhkmbbaa
set_option linter.unusedVariables false
open Go.RowKit

/-- The state that a sponge begins with. -/
def startV : St := fun i => if i = 7 then 1634886504#32 else 0#32
/-- A sponge's cells. -/
def spongeC (s : St) (rest : Value) : Array Value := #[wv (s 0), wv (s 1), wv (s 2), wv (s 3), wv (s 4), wv (s 5), wv (s 6), wv (s 7), rest]
set_option maxRecDepth 100000 in
set_option maxHeartbeats 1000000 in
theorem start_any (w : World) : Calls Try.prog 64 #[] w fun e w' => e = .returned (.pointer (some ⟨w.heap.size, 0, none⟩)) ∧ Blk w' w.heap.size 84 (spongeC startV (.slice none 0 0)) ∧ Below w.heap.size w w' ∧ w'.heap.size = w.heap.size + 1 := by
  go_enter Try.func64, Try.ntmps64
  go_wp2_with fail
  go_ret
  refine ⟨rfl, ?_, ?_, ?_⟩
  · have : spongeC startV (.slice none 0 0) = #[.int .u32 0, .int .u32 0, .int .u32 0, .int .u32 0, .int .u32 0, .int .u32 0, .int .u32 0, .int .u32 1634886504, .slice none 0 0] := by rfl
    rw [this]
    exact heap_new w _
  · exact (Below.refl _ w).alloc (Nat.le_refl _) _
  · simp
end Go.Proofs.Ytnlblmghhkmbbaa

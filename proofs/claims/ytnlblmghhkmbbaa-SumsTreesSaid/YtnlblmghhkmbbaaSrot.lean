/- Rotations of words. -/
import Derived.Test.YtnlblmghhkmbbaaSbase
namespace Go.Proofs.Ytnlblmghhkmbbaa
set_option linter.unusedVariables false
open Go.RowKit

/-- A word, rotated left. -/
def rotL (x : B32) (s : Nat) : B32 := (x <<< s) ||| (x >>> (32 - s))
theorem b_or (x y : B32) : bits .or .u32 (x.toNat : Int) (y.toNat : Int) = ((x ||| y).toNat : Int) := by
  rw [u32_or_nat _ _ x.isLt y.isLt, BitVec.toNat_or]
theorem b_shl (x : B32) (k : Nat) : ((x.toNat : Int) * 2 ^ k) % 4294967296 = ((x <<< k).toNat : Int) := by
  rw [BitVec.toNat_shiftLeft, Nat.shiftLeft_eq]
  simp
theorem rot_or (x : B32) (s : Nat) : bits .or .u32 (((x.toNat : Int) * 2 ^ s) % 4294967296) ((x.toNat : Int) / 2 ^ (32 - s)) = ((rotL x s).toNat : Int) := by
  rw [b_shl, b_shr, b_or]; rfl
set_option maxRecDepth 100000 in
set_option maxHeartbeats 1000000 in
theorem rot_at (x : B32) (k : Int) (s : Nat) (h : (k = 7 ∧ s = 7) ∨ (k = 16 ∧ s = 16) ∨ (k = -16 ∧ s = 16) ∨ (k = -7 ∧ s = 25)) (w : World) :
    Calls Try.prog 65 #[.int .u32 (x.toNat : Int), .int .i64 k] w fun e w' => e = .returned (.int .u32 ((rotL x s).toNat : Int)) ∧ w = w' := by
  have hb := b_bd x
  rcases h with ⟨rfl, rfl⟩ | ⟨rfl, rfl⟩ | ⟨rfl, rfl⟩ | ⟨rfl, rfl⟩
  · have H := Lib.hid (rot_or x 7)
    have hA : bits .and .u64 7 31 = 7 := by kernel_rfl
    go_enter Try.func65, Try.ntmps65
    go_wp2
    go_ret
    exact ⟨ret_int_ (by rw [← H.out]; rfl), rfl⟩
  · have H := Lib.hid (rot_or x 16)
    have hA : bits .and .u64 16 31 = 16 := by kernel_rfl
    go_enter Try.func65, Try.ntmps65
    go_wp2
    go_ret
    exact ⟨ret_int_ (by rw [← H.out]; rfl), rfl⟩
  · have H := Lib.hid (rot_or x 16)
    have hA : bits .and .u64 (IntKind.u64.wrap (-16)) 31 = 16 := by kernel_rfl
    go_enter Try.func65, Try.ntmps65
    go_wp2
    go_ret
    exact ⟨ret_int_ (by rw [← H.out]; rfl), rfl⟩
  · have H := Lib.hid (rot_or x 25)
    have hA : bits .and .u64 (IntKind.u64.wrap (-7)) 31 = 25 := by kernel_rfl
    go_enter Try.func65, Try.ntmps65
    go_wp2
    go_ret
    exact ⟨ret_int_ (by rw [← H.out]; rfl), rfl⟩
end Go.Proofs.Ytnlblmghhkmbbaa

/- Words of 32 bits, the polynomial's shift, and the table of half a byte. -/
import Derived.Test.YtnlblmghhkmbbaaRows
import Derived.WalkKit
import Derived.WalkSpells
import Derived.WalkLawsBesides
import Derived.Lib.Hide
import Derived.Laws.BitsAllLaws
import Derived.Below
namespace Go.Proofs.Ytnlblmghhkmbbaa
set_option linter.unusedVariables false
open Go.RowKit

abbrev B32 := BitVec 32
theorem ret_int_ {k : IntKind} {a b : Int} (h : a = b) : Ending.returned (.int k a) = .returned (.int k b) := by rw [h]
theorem b_lt (x : B32) : x.toNat < 4294967296 := x.isLt
theorem b_bd (x : B32) : (0 : Int) ≤ (x.toNat : Int) ∧ (x.toNat : Int) ≤ 4294967295 := by have := x.isLt; omega
theorem b_xor (x y : B32) : bits .xor .u32 (x.toNat : Int) (y.toNat : Int) = ((x ^^^ y).toNat : Int) := by
  rw [u32_xor_nat _ _ x.isLt y.isLt, BitVec.toNat_xor]
theorem b_and (x y : B32) : bits .and .u32 (x.toNat : Int) (y.toNat : Int) = ((x &&& y).toNat : Int) := by
  rw [u32_and_nat _ _ x.isLt y.isLt, BitVec.toNat_and]
theorem b_shr (x : B32) (k : Nat) : (x.toNat : Int) / 2 ^ k = ((x >>> k).toNat : Int) := by
  rw [BitVec.toNat_ushiftRight, Nat.shiftRight_eq_div_pow]; simp
/-- The polynomial. -/
def polyB : B32 := 0xC1DE5A17#32
/-- One eighth of a step. -/
def shiftV (c : B32) : B32 := if c.toNat % 2 = 1 then (c >>> 1) ^^^ polyB else c >>> 1
theorem xorK_of {x y z : B32} (h : x ^^^ y = z) : bits .xor .u32 (x.toNat : Int) (y.toNat : Int) = (z.toNat : Int) := by rw [b_xor, h]
theorem shift_any (c : B32) (w : World) : Calls Try.prog 75 #[.int .u32 (c.toNat : Int)] w fun e w' => e = .returned (.int .u32 ((shiftV c).toNat : Int)) ∧ w = w' := by
  have hb := b_bd c
  by_cases h : c.toNat % 2 = 1
  · have h1 : ((c.toNat : Int) % 2 == 1) = true := by simp; omega
    have hv : shiftV c = (c >>> 1) ^^^ polyB := by unfold shiftV; rw [if_pos h]
    have h2 : bits .xor .u32 ((c.toNat : Int) / 2) 3252574743 = ((shiftV c).toNat : Int) := by
      rw [hv, ← b_xor, ← b_shr]; rfl
    have H2 := Lib.hid h2
    clear hv h h2
    go_enter Try.func75, Try.ntmps75
    go_wp2
    go_ret
    exact ⟨ret_int_ (by rw [H2.out]), rfl⟩
  · have h1 : ((c.toNat : Int) % 2 == 1) = false := by simp; omega
    have hv : shiftV c = (c >>> 1) := by unfold shiftV; rw [if_neg h]
    have h2 : ((c.toNat : Int) / 2) = ((shiftV c).toNat : Int) := by
      rw [hv, ← b_shr]; rfl
    have H2 := Lib.hid h2
    clear hv h h2
    go_enter Try.func75, Try.ntmps75
    go_wp2
    go_ret
    exact ⟨ret_int_ (by rw [H2.out]), rfl⟩
end Go.Proofs.Ytnlblmghhkmbbaa

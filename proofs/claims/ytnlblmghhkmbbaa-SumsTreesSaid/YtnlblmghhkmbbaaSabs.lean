/- What it is to absorb bytes, and to end: the chapter's words, without the program. -/
import Derived.Test.YtnlblmghhkmbbaaSstore
import Derived.Test.YtnlblmghhkmbbaaSstart
namespace Go.Proofs.Ytnlblmghhkmbbaa
set_option linter.unusedVariables false
open Go.RowKit

/-- A state with the first words of a block taken in. -/
def xorW (s : St) (b : List Int) : Nat → St
  | 0 => s
  | i + 1 => upd (xorW s b i) i (xorW s b i i ^^^ loadK (b.drop (4 * i)) 4)
/-- A state behind a block. -/
def blkV (s : St) (b : List Int) : St := permV (xorW s b 4)
/-- The block with the number k. -/
def cutK (l : List Int) (k : Nat) : List Int := (l.drop (16 * k)).take 16
/-- A state behind some blocks, by their numbers. -/
def absL (s : St) (l : List Int) (ks : List Nat) : St := ks.foldl (fun t k => blkV t (cutK l k)) s
def absS (s : St) (l : List Int) : St := absL s l (List.range (l.length / 16))
def absR (l : List Int) : List Int := l.drop (16 * (l.length / 16))
/-- What is absorbed behind r bytes that are left. -/
def padV (r : Nat) : List Int := 128 :: List.replicate (15 - r) 0
/-- The bytes of a state's first four words. -/
def bytesV (s : St) : List Int := (List.range 16).map fun i => ((s (i / 4)).toNat : Int) / 2 ^ (8 * (i % 4)) % 256
def endV (s : St) (r : List Int) : List Int := bytesV (absS s (r ++ padV r.length))
def digestV (l : List Int) : List Int := endV (absS startV l) (absR l)
theorem absL_snoc (s : St) (l : List Int) (ks : List Nat) (k : Nat) : absL s l (ks ++ [k]) = blkV (absL s l ks) (cutK l k) := by
  unfold absL; rw [List.foldl_append]; rfl
theorem absR_len (l : List Int) : (absR l).length = l.length % 16 := by
  unfold absR; rw [List.length_drop]; omega
theorem absR_lt (l : List Int) : (absR l).length < 16 := by rw [absR_len]; omega
theorem cutK_len (l : List Int) (k : Nat) (h : 16 * k + 16 ≤ l.length) : (cutK l k).length = 16 := by
  unfold cutK; rw [List.length_take, List.length_drop]; omega
/-- A digest as the model has it. -/
def digC (d : List Int) : Array Value := (d.map (Value.int .u8)).toArray
theorem bytesV_len (s : St) : (bytesV s).length = 16 := by unfold bytesV; simp
theorem bytesV_bd (s : St) : ∀ n ∈ bytesV s, 0 ≤ n ∧ n ≤ 255 := by
  intro n hn
  unfold bytesV at hn
  obtain ⟨i, _, rfl⟩ := List.mem_map.1 hn
  omega
/-- Four words laid one behind the other. -/
theorem put_bytes (s : St) : put4 (put4 (put4 (put4 (digC (List.replicate 16 0)) 0 (s 0) 4) 4 (s 1) 4) 8 (s 2) 4) 12 (s 3) 4 = digC (bytesV s) := by
  simp [put4, digC, bytesV, List.range, List.range.loop, List.replicate]
end Go.Proofs.Ytnlblmghhkmbbaa

/- Digests as the model has them; the last bytes of a sponge. -/
import Derived.Test.YtnlblmghhkmbbaaSabs1
import Derived.Laws.MakeOwn
namespace Go.Proofs.Ytnlblmghhkmbbaa
set_option linter.unusedVariables false
open Go.RowKit Go.Shelf

theorem digC_size (l : List Int) : (digC l).size = l.length := by unfold digC; simp
theorem digC_get (l : List Int) (i : Nat) (h : i < l.length) : (digC l)[i]? = some (.int .u8 (l.getD i 0)) := by
  unfold digC
  simp [h]
theorem digC_lit (l : List Int) (h : l.length = 16) : digC l = #[.int .u8 (l.getD 0 0), .int .u8 (l.getD 1 0), .int .u8 (l.getD 2 0), .int .u8 (l.getD 3 0), .int .u8 (l.getD 4 0), .int .u8 (l.getD 5 0), .int .u8 (l.getD 6 0), .int .u8 (l.getD 7 0), .int .u8 (l.getD 8 0), .int .u8 (l.getD 9 0), .int .u8 (l.getD 10 0), .int .u8 (l.getD 11 0), .int .u8 (l.getD 12 0), .int .u8 (l.getD 13 0), .int .u8 (l.getD 14 0), .int .u8 (l.getD 15 0)] := by
  apply Array.ext_getElem?
  intro i
  by_cases hi : i < 16
  · rw [digC_get l i (by omega)]
    have : i = 0 ∨ i = 1 ∨ i = 2 ∨ i = 3 ∨ i = 4 ∨ i = 5 ∨ i = 6 ∨ i = 7 ∨ i = 8 ∨ i = 9 ∨ i = 10 ∨ i = 11 ∨ i = 12 ∨ i = 13 ∨ i = 14 ∨ i = 15 := by omega
    rcases this with rfl | rfl | rfl | rfl | rfl | rfl | rfl | rfl | rfl | rfl | rfl | rfl | rfl | rfl | rfl | rfl <;> rfl
  · rw [Array.getElem?_eq_none (by rw [digC_size]; omega), Array.getElem?_eq_none (by simp; omega)]
/-- The bytes of a digest while its words are laid. -/
def putW (σ : St) : Nat → Array Value
  | 0 => digC (List.replicate 16 0)
  | j + 1 => put4 (putW σ j) (4 * j) (σ j) 4
theorem putW_size (σ : St) (j : Nat) : (putW σ j).size = 16 := by
  induction j with
  | zero => rfl
  | succ j ih => rw [putW, put4_size, ih]
theorem putW_end (σ : St) : putW σ 4 = digC (bytesV σ) := put_bytes σ
theorem Try.sizeDig (l : List Int) (h : l.length = 16) : (Try.prog.info? 47).map (·.size) = some (digC l).size := by rw [digC_size, h]; kernel_rfl
theorem madeCells_zero (m : Nat) : madeCells (Value.int .u8 0).cells m = digC (List.replicate m 0) := by
  apply Array.ext
  · rw [size_madeCells, digC_size, List.length_replicate]
  · intro i h1 h2
    simp [madeCells, digC, Value.cells, Nat.mod_one]
theorem run_make8 (l : Int) (m : Nat) (hl : l = (m : Int)) (hm : m ≤ 16) (w : World) :
    (Instr.makeSlice 22 (.int .i64 l) (.int .i64 l)).run Try.prog w = .ok (.slice (some ⟨w.heap.size, 0, none⟩) m m) (w.alloc (.cells (digC (List.replicate m 0)) 5)) := by
  obtain ⟨i0, hi, hz0, hz1, hz2⟩ := info_parts Try.infoB
  have := run_make w 22 5 i0 (.int .u8 0) Try.underlying22 hi hz0 .i64 .i64 l l (by omega) (by omega) (by rw [hz2]; omega) (by omega)
  rw [this, hl]
  simp only [Int.toNat_natCast, hz1, Nat.mul_one]
  rw [madeCells_zero]
/-- The last bytes, with their first one laid. -/
theorem pad_set (r : Nat) (h : r < 16) : (digC (List.replicate (16 - r) 0)).setIfInBounds 0 (.int .u8 128) = digC (padV r) := by
  obtain ⟨m, hm⟩ : ∃ m, 16 - r = m + 1 := ⟨15 - r, by omega⟩
  rw [hm]
  unfold padV
  rw [show 15 - r = m by omega]
  rw [List.replicate_succ]
  unfold digC
  simp [List.map_cons]
theorem padV_len (r : Nat) (h : r < 16) : (padV r).length = 16 - r := by unfold padV; simp; omega
theorem padV_bd (r : Nat) : ∀ n ∈ padV r, 0 ≤ n ∧ n ≤ 255 := by
  intro n hn
  unfold padV at hn
  rcases List.mem_cons.1 hn with rfl | h
  · omega
  · have := List.eq_of_mem_replicate h; omega
/-- A block of bytes reads as them. -/
theorem Blk.rd {w : World} {g : Nat} {t : TypeId} {l : List Int} (h : Blk w g t (digC l)) (hb : ∀ n ∈ l, 0 ≤ n ∧ n ≤ 255) (hm : l.length ≤ maxLen) : Rd w (some ⟨g, 0, none⟩) l.length l.length l := by
  refine ⟨rfl, Nat.le_refl _, hm, hb, (by intro e; cases e), fun _ => ⟨g, 0, rfl, fun i hi => ?_⟩⟩
  rw [Nat.zero_add, h.cell i, digC_get l i hi]
end Go.Proofs.Ytnlblmghhkmbbaa

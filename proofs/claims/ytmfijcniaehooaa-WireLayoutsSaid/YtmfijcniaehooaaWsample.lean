/- The layout of the chapter, and what its examples come to. -/
import Derived.Test.YtmfijcniaehooaaWwhere
import Derived.Laws.BytesArg
import Derived.Laws.IdiomStrings
namespace Go.Proofs.Ytmfijcniaehooaa
set_option linter.unusedVariables false
open Go.RowKit

/-- The layout of the chapter's examples. -/
def sampleF : List Fld := [⟨⟨#[97]⟩, 1, 2⟩, ⟨⟨#[98]⟩, 5, 3⟩, ⟨⟨#[99]⟩, 2, 1⟩]
set_option maxRecDepth 100000 in
set_option maxHeartbeats 1000000 in
theorem sample_any (w : World) : Calls Try.prog 61 #[] w fun e w' => ∃ a, e = .returned (.slice a 3 3) ∧ RdF w' a 3 3 sampleF ∧ Below w.heap.size w w' := by
  go_enter Try.func61, Try.ntmps61
  go_wp2
  go_ret
  refine ⟨_, rfl, ⟨rfl, Nat.le_refl _, by decide, ?_, (by intro e; cases e), fun _ => ⟨w.heap.size, 0, rfl, ?_⟩⟩, (Below.refl _ w).alloc (Nat.le_refl _) _⟩
  · intro f hf
    simp only [sampleF, List.mem_cons, List.not_mem_nil, or_false] at hf
    rcases hf with rfl | rfl | rfl <;> constructor <;> decide
  · intro i hi
    match i, hi with
    | 0, _ => refine ⟨?_, ?_, ?_⟩ <;> (rw [World.cell?_alloc_mark]; rfl)
    | 1, _ => refine ⟨?_, ?_, ?_⟩ <;> (rw [World.cell?_alloc_mark]; rfl)
    | 2, _ => refine ⟨?_, ?_, ?_⟩ <;> (rw [World.cell?_alloc_mark]; rfl)
theorem Rd.conv {w : World} {a : Option Addr} {len cap : Nat} {xs : List Int} (h : Rd w a len cap xs) (h0 : 0 < len) : (convert 22 9 (.slice a len cap)).run Try.prog w = .ok (.string (strOfNums xs)) w := by
  obtain ⟨b, off, rfl, hc⟩ := h.hr h0
  exact run_convert_bytes_arg w 22 5 Try.underlying22 Try.underlying5 b off len cap xs h.hl hc 9 Try.underlying9
/-- A row of bytes that was built here. -/
theorem Rd.made (w : World) (xs : List Int) (C : Array Value) (t : TypeId) (fr : Nat × Nat) (hC : C.toList = xs.map (Value.int .u8)) (hb : ∀ n ∈ xs, 0 ≤ n ∧ n ≤ 255) (hm : xs.length ≤ maxLen) : Rd (w.alloc (.cells C t fr)) (some ⟨w.heap.size, 0, none⟩) xs.length xs.length xs := by
  refine ⟨rfl, Nat.le_refl _, hm, hb, (by intro e; cases e), fun _ => ⟨w.heap.size, 0, rfl, fun i hi => ?_⟩⟩
  rw [World.cell?_alloc_mark, ← Array.getElem?_toList, hC, Nat.zero_add]
  simp [List.getElem?_eq_getElem hi, List.getD, hi]
theorem ev1 : fixedE 258 2 false = 0 := by kernel_rfl
theorem ev2 : fixedB 258 2 false = [2, 1] := by kernel_rfl
theorem ev3 : fixedE 258 1 false = 24 := by kernel_rfl
theorem ev4 : fixedE (-2) 3 true = 0 := by kernel_rfl
theorem ev5 : fixedB (-2) 3 true = [254, 255, 255] := by kernel_rfl
theorem ev6 : two (toIntV [254, 255, 255]) = .returned (.tuple #[.int .i64 (-2), .int .i64 0]) := by kernel_rfl
theorem ev7 : varE 300 = 0 := by kernel_rfl
theorem ev8 : varV 300 = [172, 2] := by kernel_rfl
theorem ev9 : three (toVarV [172, 2, 9]) = .returned (.tuple #[.int .i64 300, .int .i64 2, .int .i64 0]) := by kernel_rfl
theorem ev10 : widthV 255 true = 2 := by kernel_rfl
theorem st1 : strOfNums [2, 1] = ⟨#[2, 1]⟩ := by kernel_rfl
theorem st2 : strOfNums [254, 255, 255] = ⟨#[254, 255, 255]⟩ := by kernel_rfl
theorem st3 : strOfNums [172, 2] = ⟨#[172, 2]⟩ := by kernel_rfl
theorem st4 : strOfNums [2, 1, 2, 120, 121, 255] = ⟨#[2, 1, 2, 120, 121, 255]⟩ := by kernel_rfl
theorem st5 : strOfNums [120, 121] = ⟨#[120, 121]⟩ := by kernel_rfl
/-- What is packed in the examples, wherever the text lies. -/
def sampleI (a : Option Addr) : List Itm := [⟨258, none, 0, 0, []⟩, ⟨0, a, 2, 2, [120, 121]⟩, ⟨-1, none, 0, 0, []⟩]
theorem ev11 : checkV sampleF = 0 := by kernel_rfl
theorem ev12 (a : Option Addr) : (packV sampleF (sampleI a)).1 = 0 := by kernel_rfl
theorem ev13 (a : Option Addr) : (packV sampleF (sampleI a)).2 = [2, 1, 2, 120, 121, 255] := by kernel_rfl
theorem ev14_0 : (atV sampleF [2, 1, 2, 120, 121, 255] 0).1 = 0 := by kernel_rfl
theorem ev14_1 : (atV sampleF [2, 1, 2, 120, 121, 255] 1).1 = 0 := by kernel_rfl
theorem ev14_2 : (atV sampleF [2, 1, 2, 120, 121, 255] 2).1 = 0 := by kernel_rfl
theorem ev14 (k : Nat) (h : k < 3) : (atV sampleF [2, 1, 2, 120, 121, 255] k).1 = 0 := by
  match k, h with
  | 0, _ => exact ev14_0
  | 1, _ => exact ev14_1
  | 2, _ => exact ev14_2
theorem ev15 : posV sampleF [2, 1, 2, 120, 121, 255] 1 = 2 := by kernel_rfl
theorem ev16 : posV sampleF [2, 1, 2, 120, 121, 255] 2 = 5 := by kernel_rfl
theorem ev17 : rfixV [2, 1, 2, 120, 121, 255] 0 2 false = (258, 0, 2) := by kernel_rfl
theorem ev18 : toTextV (([2, 1, 2, 120, 121, 255] : List Int).drop 2) = ([120, 121], 3, 0) := by kernel_rfl
end Go.Proofs.Ytmfijcniaehooaa

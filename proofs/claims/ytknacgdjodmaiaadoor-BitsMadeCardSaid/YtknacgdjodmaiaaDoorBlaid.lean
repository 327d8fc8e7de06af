/- The table of ones as the condition lays it. -/
import Derived.Test.YtknacgdjodmaiaaDoorRows
import Derived.Test.YtknacgdjodmaiaaDoorBsane
import Derived.ProofKit
import Derived.LaidMore
import Derived.OpenShut
import Derived.Stop.Joined
namespace Go.Proofs.YtknacgdjodmaiaaDoor
set_option linter.unusedVariables false
open Go.ChangeShapes Go.WideShapes Go.ChangeAt Go.WideMaps Go.WideElems Go.RowKit

theorem gOnes : Tryd.prog.globalNamed "archivolt/bits.ones" = some 0 := by kernel_rfl
theorem tOnes : (Tryd.prog.globals[0]?).map (·.type) = some 78 := by kernel_rfl
theorem cells16 : Tryd.prog.cellsOf 78 = 16 := by kernel_rfl
theorem cellsI : Tryd.prog.cellsOf 3 = 1 := by kernel_rfl
theorem door_met (os : Os) (args : Array Value) : laidMetH Tryd.prog [("archivolt/bits.ones", Rows.laid_archivolt_bits_ones)] ((World.doorLaid Tryd.prog 400 os).forCall (fun _ _ => 0) ⟨#[], args, []⟩).memory :=
  laidMetH_of_parts3 (fuel := 8) (laidMet_of_run' 8 (by kernel_rfl) (by kernel_rfl)) (by kernel_rfl) (by kernel_rfl)
theorem of_laid {W : World} (h : laidMetH Tryd.prog [("archivolt/bits.ones", Rows.laid_archivolt_bits_ones)] W) : Ones W := by
  rw [MakeChecks.laidMetH_plain _ _ _ (by kernel_rfl)] at h
  obtain ⟨ps, ⟨g0, t0, cs0, f0, p0, q0, hg0, ht0, hv0, hd0, hrest⟩, hmore⟩ := h
  obtain rfl := Option.some.inj (gOnes.symm.trans hg0)
  obtain rfl := Option.some.inj (tOnes.symm.trans ht0)
  obtain ⟨xs, m, hf0, hx, hlen, hxl, hf⟩ := DataW.trod_array Tryd.underlying78 hd0
  rw [cellsI] at hf
  rw [cells16, Array.length_toList] at hlen
  have hxs : xs.map (·.1) = onesL.map fun (n : Nat) => (DataW.lit (.int .i64 (n : Int)) : DataW Unit) := by
    have h1 : Rows.laid_archivolt_bits_ones = DataW.agg (xs.map (·.1)) := congrArg Prod.fst hx
    unfold Rows.laid_archivolt_bits_ones at h1
    injection h1 with h2
    rw [← h2]
    rfl
  intro k hk
  have h1 := hf k hk
  have h2 : ((cs0.toList.drop (k * 1)).take 1) = [cs0[k]'(by omega)] := by
    rw [Nat.mul_one, List.drop_eq_getElem_cons (by simpa using (by omega : k < cs0.size))]
    simp
  rw [h2, List.getElem?_eq_getElem (by omega)] at h1
  obtain ⟨z, hz, hz2, -⟩ := DataW.trod_int Tryd.underlying3 h1
  have h3 : (xs.map (·.1))[k]? = some (DataW.lit (.int .i64 z)) := by
    rw [List.getElem?_map, List.getElem?_eq_getElem (by omega), hz2]
    rfl
  rw [hxs, List.getElem?_map] at h3
  have h4 : onesL.getD k 0 = z := by
    rw [List.getElem?_eq_getElem (show k < onesL.length from hk)] at h3
    simp only [Option.map_some, Option.some.injEq, DataW.lit.injEq, Lit.int.injEq, true_and] at h3
    rw [List.getD_eq_getElem?_getD, List.getElem?_eq_getElem (show k < onesL.length from hk)]
    exact h3
  have h5 := World.var?_cell gOnes hv0 k
  rw [h5, Array.getElem?_eq_getElem (by omega)]
  simp only [List.cons.injEq, and_true] at hz
  rw [hz, h4]
end Go.Proofs.YtknacgdjodmaiaaDoor

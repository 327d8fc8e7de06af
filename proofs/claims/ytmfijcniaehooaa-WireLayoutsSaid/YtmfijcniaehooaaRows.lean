/-
  No cell of these rows narrows 'for every input' (looked for: loops, veiled, ifaces, maps, wideKeys, modest, calm, conditions, laid).
  DERIVED. THE GIVEN ROWS OF THIS SEAT. 12 by the template 'for every input the law returns true; each argument reads behind the call as it read before'; 0 by the template 'total and deterministic' (their statements: YtmfijcniaehooaaTotals.lean).
  GIVEN WITH THE SEED: the statements are not yours to turn. If you find one false, say at which input.
  Laid BY PROGRAM, IN A SANDBOX (cutbox-rows.mjs): the forced cells as the released guide's own fill.sh prints them over the translation bfd8a08f1aaa0b99… (all of the seat's roots in one cut). By AI agents, Wed Nov 11 2026. No macro, syntax, notation, axiom, sorry.
-/
import Derived.Test.YtmfijcniaehooaaChecked
import GoSem.Claim
import GoSem.ClaimJoined
import GoSem.ClaimMapViews
import Derived.JoinedTies
import Derived.KernelRfl
namespace Go.Proofs.Ytmfijcniaehooaa
/- THE CELL 'sum', in the pinned program and in every row, IS THE sha256 OF THE DUMP (.gsa) THAT YtmfijcniaehooaaProg.lean LOADS. Nothing in Lean hashes anything: it is a label: what it is worth is what the hold of that sum in a sandbox is worth. -/
noncomputable def Try.pinned : Pinned := { name := "ytmfijcniaehooaa", sum := "bfd8a08f1aaa0b99517c542fdb0069319041f090199a65e14b1b9418e0be98c5", checked := Try.checked }
namespace Rows
def none {H : Type} : Left H := { results := [], args := [] }

/-- 'archivoltlaw01.WireNumbers': WHATEVER THE INPUT: true; the input reads as it did. -/
def wireNumbersSpec : ChangeSpec := { name := "wireNumbers", fn := fun _ => fun
  | [d1, d2, d3, d4] => { results := [.lit (.bool true)], args := [d1, d2, d3, d4] }
  | _ => none }
def wireNumbersRow : OpenClaim := { program := "ytmfijcniaehooaa", sum := "bfd8a08f1aaa0b99517c542fdb0069319041f090199a65e14b1b9418e0be98c5", func := "archivolt/archivoltlaw01.WireNumbers", spec := "wireNumbers", unfollowed := true, recurses := true, apart := false }
def WireNumbersSaid : Prop := wireNumbersRow.holds Try.pinned (OpenSpec.ofChange wireNumbersSpec)

/-- ITS FALSE NEIGHBOUR: 'it returns false'. Refute it at one input. -/
def wireNumbersWrong : ChangeSpec := { name := "wireNumbers", fn := fun _ => fun
  | [d1, d2, d3, d4] => { results := [.lit (.bool false)], args := [d1, d2, d3, d4] }
  | _ => none }
def WireNumbersWrongFalsely : Prop := wireNumbersRow.holds Try.pinned (OpenSpec.ofChange wireNumbersWrong)

/-- 'archivoltlaw01.WireTexts': WHATEVER THE INPUT: true; the input reads as it did. -/
def wireTextsSpec : ChangeSpec := { name := "wireTexts", fn := fun _ => fun
  | [d1, d2] => { results := [.lit (.bool true)], args := [d1, d2] }
  | _ => none }
def wireTextsRow : OpenClaim := { program := "ytmfijcniaehooaa", sum := "bfd8a08f1aaa0b99517c542fdb0069319041f090199a65e14b1b9418e0be98c5", func := "archivolt/archivoltlaw01.WireTexts", spec := "wireTexts", unfollowed := true, recurses := true, apart := false }
def WireTextsSaid : Prop := wireTextsRow.holds Try.pinned (OpenSpec.ofChange wireTextsSpec)

/-- ITS FALSE NEIGHBOUR: 'it returns false'. Refute it at one input. -/
def wireTextsWrong : ChangeSpec := { name := "wireTexts", fn := fun _ => fun
  | [d1, d2] => { results := [.lit (.bool false)], args := [d1, d2] }
  | _ => none }
def WireTextsWrongFalsely : Prop := wireTextsRow.holds Try.pinned (OpenSpec.ofChange wireTextsWrong)

/-- 'archivoltlaw01.WireLayouts': WHATEVER THE INPUT: true; the input reads as it did. -/
def wireLayoutsSpec : ChangeSpec := { name := "wireLayouts", fn := fun _ => fun
  | [d1, d2, d3, d4, d5] => { results := [.lit (.bool true)], args := [d1, d2, d3, d4, d5] }
  | _ => none }
def wireLayoutsRow : OpenClaim := { program := "ytmfijcniaehooaa", sum := "bfd8a08f1aaa0b99517c542fdb0069319041f090199a65e14b1b9418e0be98c5", func := "archivolt/archivoltlaw01.WireLayouts", spec := "wireLayouts", unfollowed := true, recurses := true, apart := false }
def WireLayoutsSaid : Prop := wireLayoutsRow.holds Try.pinned (OpenSpec.ofChange wireLayoutsSpec)

/-- ITS FALSE NEIGHBOUR: 'it returns false'. Refute it at one input. -/
def wireLayoutsWrong : ChangeSpec := { name := "wireLayouts", fn := fun _ => fun
  | [d1, d2, d3, d4, d5] => { results := [.lit (.bool false)], args := [d1, d2, d3, d4, d5] }
  | _ => none }
def WireLayoutsWrongFalsely : Prop := wireLayoutsRow.holds Try.pinned (OpenSpec.ofChange wireLayoutsWrong)

/-- 'archivoltlaw01.WireReaders': WHATEVER THE INPUT: true; the input reads as it did. -/
def wireReadersSpec : ChangeSpec := { name := "wireReaders", fn := fun _ => fun
  | [d1, d2] => { results := [.lit (.bool true)], args := [d1, d2] }
  | _ => none }
def wireReadersRow : OpenClaim := { program := "ytmfijcniaehooaa", sum := "bfd8a08f1aaa0b99517c542fdb0069319041f090199a65e14b1b9418e0be98c5", func := "archivolt/archivoltlaw01.WireReaders", spec := "wireReaders", unfollowed := true, recurses := true, apart := false }
def WireReadersSaid : Prop := wireReadersRow.holds Try.pinned (OpenSpec.ofChange wireReadersSpec)

/-- ITS FALSE NEIGHBOUR: 'it returns false'. Refute it at one input. -/
def wireReadersWrong : ChangeSpec := { name := "wireReaders", fn := fun _ => fun
  | [d1, d2] => { results := [.lit (.bool false)], args := [d1, d2] }
  | _ => none }
def WireReadersWrongFalsely : Prop := wireReadersRow.holds Try.pinned (OpenSpec.ofChange wireReadersWrong)

/-- 'archivoltlaw01.WireBack': WHATEVER THE INPUT: true; the input reads as it did. -/
def wireBackSpec : ChangeSpec := { name := "wireBack", fn := fun _ => fun
  | [d1, d2, d3, d4, d5, d6] => { results := [.lit (.bool true)], args := [d1, d2, d3, d4, d5, d6] }
  | _ => none }
def wireBackRow : OpenClaim := { program := "ytmfijcniaehooaa", sum := "bfd8a08f1aaa0b99517c542fdb0069319041f090199a65e14b1b9418e0be98c5", func := "archivolt/archivoltlaw01.WireBack", spec := "wireBack", unfollowed := true, recurses := true, apart := false }
def WireBackSaid : Prop := wireBackRow.holds Try.pinned (OpenSpec.ofChange wireBackSpec)

/-- ITS FALSE NEIGHBOUR: 'it returns false'. Refute it at one input. -/
def wireBackWrong : ChangeSpec := { name := "wireBack", fn := fun _ => fun
  | [d1, d2, d3, d4, d5, d6] => { results := [.lit (.bool false)], args := [d1, d2, d3, d4, d5, d6] }
  | _ => none }
def WireBackWrongFalsely : Prop := wireBackRow.holds Try.pinned (OpenSpec.ofChange wireBackWrong)

/-- 'archivoltlaw01.WireOneWay': WHATEVER THE INPUT: true; the input reads as it did. -/
def wireOneWaySpec : ChangeSpec := { name := "wireOneWay", fn := fun _ => fun
  | [d1, d2] => { results := [.lit (.bool true)], args := [d1, d2] }
  | _ => none }
def wireOneWayRow : OpenClaim := { program := "ytmfijcniaehooaa", sum := "bfd8a08f1aaa0b99517c542fdb0069319041f090199a65e14b1b9418e0be98c5", func := "archivolt/archivoltlaw01.WireOneWay", spec := "wireOneWay", unfollowed := true, recurses := true, apart := false }
def WireOneWaySaid : Prop := wireOneWayRow.holds Try.pinned (OpenSpec.ofChange wireOneWaySpec)

/-- ITS FALSE NEIGHBOUR: 'it returns false'. Refute it at one input. -/
def wireOneWayWrong : ChangeSpec := { name := "wireOneWay", fn := fun _ => fun
  | [d1, d2] => { results := [.lit (.bool false)], args := [d1, d2] }
  | _ => none }
def WireOneWayWrongFalsely : Prop := wireOneWayRow.holds Try.pinned (OpenSpec.ofChange wireOneWayWrong)

/-- 'archivoltlaw01.WireLeast': WHATEVER THE INPUT: true; the input reads as it did. -/
def wireLeastSpec : ChangeSpec := { name := "wireLeast", fn := fun _ => fun
  | [d1, d2] => { results := [.lit (.bool true)], args := [d1, d2] }
  | _ => none }
def wireLeastRow : OpenClaim := { program := "ytmfijcniaehooaa", sum := "bfd8a08f1aaa0b99517c542fdb0069319041f090199a65e14b1b9418e0be98c5", func := "archivolt/archivoltlaw01.WireLeast", spec := "wireLeast", unfollowed := true, recurses := true, apart := false }
def WireLeastSaid : Prop := wireLeastRow.holds Try.pinned (OpenSpec.ofChange wireLeastSpec)

/-- ITS FALSE NEIGHBOUR: 'it returns false'. Refute it at one input. -/
def wireLeastWrong : ChangeSpec := { name := "wireLeast", fn := fun _ => fun
  | [d1, d2] => { results := [.lit (.bool false)], args := [d1, d2] }
  | _ => none }
def WireLeastWrongFalsely : Prop := wireLeastRow.holds Try.pinned (OpenSpec.ofChange wireLeastWrong)

/-- 'archivoltlaw01.WirePrefix': WHATEVER THE INPUT: true; the input reads as it did. -/
def wirePrefixSpec : ChangeSpec := { name := "wirePrefix", fn := fun _ => fun
  | [d1, d2, d3, d4, d5, d6] => { results := [.lit (.bool true)], args := [d1, d2, d3, d4, d5, d6] }
  | _ => none }
def wirePrefixRow : OpenClaim := { program := "ytmfijcniaehooaa", sum := "bfd8a08f1aaa0b99517c542fdb0069319041f090199a65e14b1b9418e0be98c5", func := "archivolt/archivoltlaw01.WirePrefix", spec := "wirePrefix", unfollowed := true, recurses := true, apart := false }
def WirePrefixSaid : Prop := wirePrefixRow.holds Try.pinned (OpenSpec.ofChange wirePrefixSpec)

/-- ITS FALSE NEIGHBOUR: 'it returns false'. Refute it at one input. -/
def wirePrefixWrong : ChangeSpec := { name := "wirePrefix", fn := fun _ => fun
  | [d1, d2, d3, d4, d5, d6] => { results := [.lit (.bool false)], args := [d1, d2, d3, d4, d5, d6] }
  | _ => none }
def WirePrefixWrongFalsely : Prop := wirePrefixRow.holds Try.pinned (OpenSpec.ofChange wirePrefixWrong)

/-- 'archivoltlaw01.WireSizes': WHATEVER THE INPUT: true; the input reads as it did. -/
def wireSizesSpec : ChangeSpec := { name := "wireSizes", fn := fun _ => fun
  | [d1, d2] => { results := [.lit (.bool true)], args := [d1, d2] }
  | _ => none }
def wireSizesRow : OpenClaim := { program := "ytmfijcniaehooaa", sum := "bfd8a08f1aaa0b99517c542fdb0069319041f090199a65e14b1b9418e0be98c5", func := "archivolt/archivoltlaw01.WireSizes", spec := "wireSizes", unfollowed := true, recurses := true, apart := false }
def WireSizesSaid : Prop := wireSizesRow.holds Try.pinned (OpenSpec.ofChange wireSizesSpec)

/-- ITS FALSE NEIGHBOUR: 'it returns false'. Refute it at one input. -/
def wireSizesWrong : ChangeSpec := { name := "wireSizes", fn := fun _ => fun
  | [d1, d2] => { results := [.lit (.bool false)], args := [d1, d2] }
  | _ => none }
def WireSizesWrongFalsely : Prop := wireSizesRow.holds Try.pinned (OpenSpec.ofChange wireSizesWrong)

/-- 'archivoltlaw01.WirePatches': WHATEVER THE INPUT: true; the input reads as it did. -/
def wirePatchesSpec : ChangeSpec := { name := "wirePatches", fn := fun _ => fun
  | [d1, d2, d3, d4] => { results := [.lit (.bool true)], args := [d1, d2, d3, d4] }
  | _ => none }
def wirePatchesRow : OpenClaim := { program := "ytmfijcniaehooaa", sum := "bfd8a08f1aaa0b99517c542fdb0069319041f090199a65e14b1b9418e0be98c5", func := "archivolt/archivoltlaw01.WirePatches", spec := "wirePatches", unfollowed := true, recurses := true, apart := false }
def WirePatchesSaid : Prop := wirePatchesRow.holds Try.pinned (OpenSpec.ofChange wirePatchesSpec)

/-- ITS FALSE NEIGHBOUR: 'it returns false'. Refute it at one input. -/
def wirePatchesWrong : ChangeSpec := { name := "wirePatches", fn := fun _ => fun
  | [d1, d2, d3, d4] => { results := [.lit (.bool false)], args := [d1, d2, d3, d4] }
  | _ => none }
def WirePatchesWrongFalsely : Prop := wirePatchesRow.holds Try.pinned (OpenSpec.ofChange wirePatchesWrong)

/-- 'archivoltlaw01.WireFields': WHATEVER THE INPUT: true; the input reads as it did. -/
def wireFieldsSpec : ChangeSpec := { name := "wireFields", fn := fun _ => fun
  | [d1, d2, d3] => { results := [.lit (.bool true)], args := [d1, d2, d3] }
  | _ => none }
def wireFieldsRow : OpenClaim := { program := "ytmfijcniaehooaa", sum := "bfd8a08f1aaa0b99517c542fdb0069319041f090199a65e14b1b9418e0be98c5", func := "archivolt/archivoltlaw01.WireFields", spec := "wireFields", unfollowed := true, recurses := true, apart := false }
def WireFieldsSaid : Prop := wireFieldsRow.holds Try.pinned (OpenSpec.ofChange wireFieldsSpec)

/-- ITS FALSE NEIGHBOUR: 'it returns false'. Refute it at one input. -/
def wireFieldsWrong : ChangeSpec := { name := "wireFields", fn := fun _ => fun
  | [d1, d2, d3] => { results := [.lit (.bool false)], args := [d1, d2, d3] }
  | _ => none }
def WireFieldsWrongFalsely : Prop := wireFieldsRow.holds Try.pinned (OpenSpec.ofChange wireFieldsWrong)

/-- 'archivoltlaw01.WireFolds': WHATEVER THE INPUT: true; the input reads as it did. -/
def wireFoldsSpec : ChangeSpec := { name := "wireFolds", fn := fun _ => fun
  | [d1, d2] => { results := [.lit (.bool true)], args := [d1, d2] }
  | _ => none }
def wireFoldsRow : OpenClaim := { program := "ytmfijcniaehooaa", sum := "bfd8a08f1aaa0b99517c542fdb0069319041f090199a65e14b1b9418e0be98c5", func := "archivolt/archivoltlaw01.WireFolds", spec := "wireFolds", unfollowed := true, recurses := true, apart := false }
def WireFoldsSaid : Prop := wireFoldsRow.holds Try.pinned (OpenSpec.ofChange wireFoldsSpec)

/-- ITS FALSE NEIGHBOUR: 'it returns false'. Refute it at one input. -/
def wireFoldsWrong : ChangeSpec := { name := "wireFolds", fn := fun _ => fun
  | [d1, d2] => { results := [.lit (.bool false)], args := [d1, d2] }
  | _ => none }
def WireFoldsWrongFalsely : Prop := wireFoldsRow.holds Try.pinned (OpenSpec.ofChange wireFoldsWrong)

/- THE SECOND FORM. 'bulk': how many values and letters a reading holds, each counted each time it is reached (what is shared counts as often as it is met; a slice's spare places count too). A statement '..UptoSaid' is the law's where the arguments, and the package variables that the reading takes, are together of bulk at most 1048576: NARROWER than '..Said'. Prove '..Said' where nothing that the law and all that it calls make is longer than what came in: it says more and counts as full. Else prove '..UptoSaid'. A law counts once. -/
mutual
def uptoBulk {H : Type} : DataW H → Nat
  | .lit (.string bytes) => bytes.length + 1
  | .lit _ => 1
  | .nil => 1
  | .ptr d => uptoBulk d + 1
  | .slice elems spare => uptoBulkAll elems + uptoBulkAll spare + 1
  | .agg parts => uptoBulkAll parts + 1
  | .iface _ d => uptoBulk d + 1
  | .map entries => uptoBulkEntries entries + 1
  | .held _ => 1
def uptoBulkAll {H : Type} : List (DataW H) → Nat
  | [] => 0
  | d :: r => uptoBulk d + uptoBulkAll r
def uptoBulkEntries {H : Type} : List (Lit × DataW H) → Nat
  | [] => 0
  | x :: r => uptoBulkEntry x + uptoBulkEntries r
def uptoBulkEntry {H : Type} : Lit × DataW H → Nat
  | (.string bytes, d) => bytes.length + uptoBulk d + 1
  | (_, d) => uptoBulk d + 1
 end
def uptoSmall : (H : Type) → List (DataW H) → Bool := fun _ ds => decide (uptoBulkAll ds ≤ 1048576)
def OpenSpec.upto (s : _root_.Go.ChangeSpec) : _root_.Go.OpenSpec := { _root_.Go.OpenSpec.ofChange s with cond := some uptoSmall }

/-- 'archivoltlaw01.WireNumbers', WHERE WHAT IT READS IS OF BULK AT MOST 1048576: true; the input reads as it did. -/
def wireNumbersUptoRow : OpenClaim := { program := "ytmfijcniaehooaa", sum := "bfd8a08f1aaa0b99517c542fdb0069319041f090199a65e14b1b9418e0be98c5", func := "archivolt/archivoltlaw01.WireNumbers", spec := "wireNumbers", unfollowed := true, recurses := true, apart := false, narrowed := true }
def WireNumbersUptoSaid : Prop := wireNumbersUptoRow.holds Try.pinned (OpenSpec.upto wireNumbersSpec)

/-- 'archivoltlaw01.WireTexts', WHERE WHAT IT READS IS OF BULK AT MOST 1048576: true; the input reads as it did. -/
def wireTextsUptoRow : OpenClaim := { program := "ytmfijcniaehooaa", sum := "bfd8a08f1aaa0b99517c542fdb0069319041f090199a65e14b1b9418e0be98c5", func := "archivolt/archivoltlaw01.WireTexts", spec := "wireTexts", unfollowed := true, recurses := true, apart := false, narrowed := true }
def WireTextsUptoSaid : Prop := wireTextsUptoRow.holds Try.pinned (OpenSpec.upto wireTextsSpec)

/-- 'archivoltlaw01.WireLayouts', WHERE WHAT IT READS IS OF BULK AT MOST 1048576: true; the input reads as it did. -/
def wireLayoutsUptoRow : OpenClaim := { program := "ytmfijcniaehooaa", sum := "bfd8a08f1aaa0b99517c542fdb0069319041f090199a65e14b1b9418e0be98c5", func := "archivolt/archivoltlaw01.WireLayouts", spec := "wireLayouts", unfollowed := true, recurses := true, apart := false, narrowed := true }
def WireLayoutsUptoSaid : Prop := wireLayoutsUptoRow.holds Try.pinned (OpenSpec.upto wireLayoutsSpec)

/-- 'archivoltlaw01.WireReaders', WHERE WHAT IT READS IS OF BULK AT MOST 1048576: true; the input reads as it did. -/
def wireReadersUptoRow : OpenClaim := { program := "ytmfijcniaehooaa", sum := "bfd8a08f1aaa0b99517c542fdb0069319041f090199a65e14b1b9418e0be98c5", func := "archivolt/archivoltlaw01.WireReaders", spec := "wireReaders", unfollowed := true, recurses := true, apart := false, narrowed := true }
def WireReadersUptoSaid : Prop := wireReadersUptoRow.holds Try.pinned (OpenSpec.upto wireReadersSpec)

/-- 'archivoltlaw01.WireBack', WHERE WHAT IT READS IS OF BULK AT MOST 1048576: true; the input reads as it did. -/
def wireBackUptoRow : OpenClaim := { program := "ytmfijcniaehooaa", sum := "bfd8a08f1aaa0b99517c542fdb0069319041f090199a65e14b1b9418e0be98c5", func := "archivolt/archivoltlaw01.WireBack", spec := "wireBack", unfollowed := true, recurses := true, apart := false, narrowed := true }
def WireBackUptoSaid : Prop := wireBackUptoRow.holds Try.pinned (OpenSpec.upto wireBackSpec)

/-- 'archivoltlaw01.WireOneWay', WHERE WHAT IT READS IS OF BULK AT MOST 1048576: true; the input reads as it did. -/
def wireOneWayUptoRow : OpenClaim := { program := "ytmfijcniaehooaa", sum := "bfd8a08f1aaa0b99517c542fdb0069319041f090199a65e14b1b9418e0be98c5", func := "archivolt/archivoltlaw01.WireOneWay", spec := "wireOneWay", unfollowed := true, recurses := true, apart := false, narrowed := true }
def WireOneWayUptoSaid : Prop := wireOneWayUptoRow.holds Try.pinned (OpenSpec.upto wireOneWaySpec)

/-- 'archivoltlaw01.WireLeast', WHERE WHAT IT READS IS OF BULK AT MOST 1048576: true; the input reads as it did. -/
def wireLeastUptoRow : OpenClaim := { program := "ytmfijcniaehooaa", sum := "bfd8a08f1aaa0b99517c542fdb0069319041f090199a65e14b1b9418e0be98c5", func := "archivolt/archivoltlaw01.WireLeast", spec := "wireLeast", unfollowed := true, recurses := true, apart := false, narrowed := true }
def WireLeastUptoSaid : Prop := wireLeastUptoRow.holds Try.pinned (OpenSpec.upto wireLeastSpec)

/-- 'archivoltlaw01.WirePrefix', WHERE WHAT IT READS IS OF BULK AT MOST 1048576: true; the input reads as it did. -/
def wirePrefixUptoRow : OpenClaim := { program := "ytmfijcniaehooaa", sum := "bfd8a08f1aaa0b99517c542fdb0069319041f090199a65e14b1b9418e0be98c5", func := "archivolt/archivoltlaw01.WirePrefix", spec := "wirePrefix", unfollowed := true, recurses := true, apart := false, narrowed := true }
def WirePrefixUptoSaid : Prop := wirePrefixUptoRow.holds Try.pinned (OpenSpec.upto wirePrefixSpec)

/-- 'archivoltlaw01.WireSizes', WHERE WHAT IT READS IS OF BULK AT MOST 1048576: true; the input reads as it did. -/
def wireSizesUptoRow : OpenClaim := { program := "ytmfijcniaehooaa", sum := "bfd8a08f1aaa0b99517c542fdb0069319041f090199a65e14b1b9418e0be98c5", func := "archivolt/archivoltlaw01.WireSizes", spec := "wireSizes", unfollowed := true, recurses := true, apart := false, narrowed := true }
def WireSizesUptoSaid : Prop := wireSizesUptoRow.holds Try.pinned (OpenSpec.upto wireSizesSpec)

/-- 'archivoltlaw01.WirePatches', WHERE WHAT IT READS IS OF BULK AT MOST 1048576: true; the input reads as it did. -/
def wirePatchesUptoRow : OpenClaim := { program := "ytmfijcniaehooaa", sum := "bfd8a08f1aaa0b99517c542fdb0069319041f090199a65e14b1b9418e0be98c5", func := "archivolt/archivoltlaw01.WirePatches", spec := "wirePatches", unfollowed := true, recurses := true, apart := false, narrowed := true }
def WirePatchesUptoSaid : Prop := wirePatchesUptoRow.holds Try.pinned (OpenSpec.upto wirePatchesSpec)

/-- 'archivoltlaw01.WireFields', WHERE WHAT IT READS IS OF BULK AT MOST 1048576: true; the input reads as it did. -/
def wireFieldsUptoRow : OpenClaim := { program := "ytmfijcniaehooaa", sum := "bfd8a08f1aaa0b99517c542fdb0069319041f090199a65e14b1b9418e0be98c5", func := "archivolt/archivoltlaw01.WireFields", spec := "wireFields", unfollowed := true, recurses := true, apart := false, narrowed := true }
def WireFieldsUptoSaid : Prop := wireFieldsUptoRow.holds Try.pinned (OpenSpec.upto wireFieldsSpec)

/-- 'archivoltlaw01.WireFolds', WHERE WHAT IT READS IS OF BULK AT MOST 1048576: true; the input reads as it did. -/
def wireFoldsUptoRow : OpenClaim := { program := "ytmfijcniaehooaa", sum := "bfd8a08f1aaa0b99517c542fdb0069319041f090199a65e14b1b9418e0be98c5", func := "archivolt/archivoltlaw01.WireFolds", spec := "wireFolds", unfollowed := true, recurses := true, apart := false, narrowed := true }
def WireFoldsUptoSaid : Prop := wireFoldsUptoRow.holds Try.pinned (OpenSpec.upto wireFoldsSpec)

end Rows
end Go.Proofs.Ytmfijcniaehooaa

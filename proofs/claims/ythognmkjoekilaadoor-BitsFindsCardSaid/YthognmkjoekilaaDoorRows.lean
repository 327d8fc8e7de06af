/-
  NARROWER THAN 'FOR EVERY INPUT', by the rows' own cells (each row's printed sentence says how): BitsMatches: laid · BitsMade: laid · BitsResizes: laid · BitsJoins: laid · BitsSets: laid · BitsRanges: laid · BitsRuns: laid · BitsFinds: laid · BitsGathers: laid.
  DERIVED. THE GIVEN ROWS OF THIS SEAT. 9 by the template 'for every input the law returns true; each argument reads behind the call as it read before'; 0 by the template 'total and deterministic' (their statements: YthognmkjoekilaaDoorTotals.lean).
  GIVEN WITH THE SEED: the statements are not yours to turn. If you find one false, say at which input.
  Laid BY PROGRAM, IN A SANDBOX (cutbox-rows.mjs): the forced cells as the released guide's own fill.sh prints them over the translation 40e17c75211471c5… (all of the seat's roots in one cut). By AI agents, Wed Nov 11 2026. No macro, syntax, notation, axiom, sorry.
-/
import Derived.Test.YthognmkjoekilaaDoorChecked
import GoSem.Claim
import GoSem.ClaimJoined
import GoSem.ClaimMapViews
import Derived.JoinedTies
import Derived.KernelRfl
namespace Go.Proofs.YthognmkjoekilaaDoor
/- THE CELL 'sum', in the pinned program and in every row, IS THE sha256 OF THE DUMP (.gsa) THAT YthognmkjoekilaaDoorProg.lean LOADS. Nothing in Lean hashes anything: it is a label: what it is worth is what the hold of that sum in a sandbox is worth. -/
noncomputable def Tryd.pinned : Pinned := { name := "ythognmkjoekilaadoor", sum := "40e17c75211471c5044358ced23161b97fd3d98d1b400997798afe9c39de8dc4", checked := Tryd.checked }
namespace Rows
def none {H : Type} : Left H := { results := [], args := [] }

/- WHAT THE LISTED PACKAGE-LEVEL VARIABLES READ AS WHEN THE CALL BEGINS. Each datum BY PROGRAM (the guide's laid-datum.mjs) off the statement by which the dump's own 'gosem.cut.vars' lays the variable. In a bare row this is a premise. The card (YthognmkjoekilaaDoorCards.lean) ties it to the program's text. -/
def laid_archivolt_bits_ones {H : Type} : DataW H := .agg [.lit (.int .i64 0), .lit (.int .i64 1), .lit (.int .i64 1), .lit (.int .i64 2), .lit (.int .i64 1), .lit (.int .i64 2), .lit (.int .i64 2), .lit (.int .i64 3), .lit (.int .i64 1), .lit (.int .i64 2), .lit (.int .i64 2), .lit (.int .i64 3), .lit (.int .i64 2), .lit (.int .i64 3), .lit (.int .i64 3), .lit (.int .i64 4)]

/-- 'archivoltlaw03.BitsMatches': WHATEVER THE INPUT: true; the input reads as it did. -/
def bitsMatchesSpec : ChangeSpec := { name := "bitsMatches", fn := fun _ => fun
  | [d1, d2, d3, d4] => { results := [.lit (.bool true)], args := [d1, d2, d3, d4] }
  | _ => none }
def bitsMatchesRow : OpenClaim := { program := "ythognmkjoekilaadoor", sum := "40e17c75211471c5044358ced23161b97fd3d98d1b400997798afe9c39de8dc4", func := "archivolt/archivoltlaw03.BitsMatches", spec := "bitsMatches", unfollowed := true, recurses := true, named := ["archivolt/bits.ones"], apart := false, laid := [("archivolt/bits.ones", laid_archivolt_bits_ones)] }
def BitsMatchesSaid : Prop := bitsMatchesRow.holds Tryd.pinned (OpenSpec.ofChange bitsMatchesSpec)

/-- ITS FALSE NEIGHBOUR: 'it returns false'. Refute it at one input. -/
def bitsMatchesWrong : ChangeSpec := { name := "bitsMatches", fn := fun _ => fun
  | [d1, d2, d3, d4] => { results := [.lit (.bool false)], args := [d1, d2, d3, d4] }
  | _ => none }
def BitsMatchesWrongFalsely : Prop := bitsMatchesRow.holds Tryd.pinned (OpenSpec.ofChange bitsMatchesWrong)

/-- 'archivoltlaw03.BitsMade': WHATEVER THE INPUT: true; the input reads as it did. -/
def bitsMadeSpec : ChangeSpec := { name := "bitsMade", fn := fun _ => fun
  | [d1, d2] => { results := [.lit (.bool true)], args := [d1, d2] }
  | _ => none }
def bitsMadeRow : OpenClaim := { program := "ythognmkjoekilaadoor", sum := "40e17c75211471c5044358ced23161b97fd3d98d1b400997798afe9c39de8dc4", func := "archivolt/archivoltlaw03.BitsMade", spec := "bitsMade", unfollowed := true, recurses := true, named := ["archivolt/bits.ones"], apart := false, laid := [("archivolt/bits.ones", laid_archivolt_bits_ones)] }
def BitsMadeSaid : Prop := bitsMadeRow.holds Tryd.pinned (OpenSpec.ofChange bitsMadeSpec)

/-- ITS FALSE NEIGHBOUR: 'it returns false'. Refute it at one input. -/
def bitsMadeWrong : ChangeSpec := { name := "bitsMade", fn := fun _ => fun
  | [d1, d2] => { results := [.lit (.bool false)], args := [d1, d2] }
  | _ => none }
def BitsMadeWrongFalsely : Prop := bitsMadeRow.holds Tryd.pinned (OpenSpec.ofChange bitsMadeWrong)

/-- 'archivoltlaw03.BitsResizes': WHATEVER THE INPUT: true; the input reads as it did. -/
def bitsResizesSpec : ChangeSpec := { name := "bitsResizes", fn := fun _ => fun
  | [d1, d2] => { results := [.lit (.bool true)], args := [d1, d2] }
  | _ => none }
def bitsResizesRow : OpenClaim := { program := "ythognmkjoekilaadoor", sum := "40e17c75211471c5044358ced23161b97fd3d98d1b400997798afe9c39de8dc4", func := "archivolt/archivoltlaw03.BitsResizes", spec := "bitsResizes", unfollowed := true, recurses := true, named := ["archivolt/bits.ones"], apart := false, laid := [("archivolt/bits.ones", laid_archivolt_bits_ones)] }
def BitsResizesSaid : Prop := bitsResizesRow.holds Tryd.pinned (OpenSpec.ofChange bitsResizesSpec)

/-- ITS FALSE NEIGHBOUR: 'it returns false'. Refute it at one input. -/
def bitsResizesWrong : ChangeSpec := { name := "bitsResizes", fn := fun _ => fun
  | [d1, d2] => { results := [.lit (.bool false)], args := [d1, d2] }
  | _ => none }
def BitsResizesWrongFalsely : Prop := bitsResizesRow.holds Tryd.pinned (OpenSpec.ofChange bitsResizesWrong)

/-- 'archivoltlaw03.BitsJoins': WHATEVER THE INPUT: true; the input reads as it did. -/
def bitsJoinsSpec : ChangeSpec := { name := "bitsJoins", fn := fun _ => fun
  | [d1, d2] => { results := [.lit (.bool true)], args := [d1, d2] }
  | _ => none }
def bitsJoinsRow : OpenClaim := { program := "ythognmkjoekilaadoor", sum := "40e17c75211471c5044358ced23161b97fd3d98d1b400997798afe9c39de8dc4", func := "archivolt/archivoltlaw03.BitsJoins", spec := "bitsJoins", unfollowed := true, recurses := true, named := ["archivolt/bits.ones"], apart := false, laid := [("archivolt/bits.ones", laid_archivolt_bits_ones)] }
def BitsJoinsSaid : Prop := bitsJoinsRow.holds Tryd.pinned (OpenSpec.ofChange bitsJoinsSpec)

/-- ITS FALSE NEIGHBOUR: 'it returns false'. Refute it at one input. -/
def bitsJoinsWrong : ChangeSpec := { name := "bitsJoins", fn := fun _ => fun
  | [d1, d2] => { results := [.lit (.bool false)], args := [d1, d2] }
  | _ => none }
def BitsJoinsWrongFalsely : Prop := bitsJoinsRow.holds Tryd.pinned (OpenSpec.ofChange bitsJoinsWrong)

/-- 'archivoltlaw03.BitsSets': WHATEVER THE INPUT: true; the input reads as it did. -/
def bitsSetsSpec : ChangeSpec := { name := "bitsSets", fn := fun _ => fun
  | [d1, d2] => { results := [.lit (.bool true)], args := [d1, d2] }
  | _ => none }
def bitsSetsRow : OpenClaim := { program := "ythognmkjoekilaadoor", sum := "40e17c75211471c5044358ced23161b97fd3d98d1b400997798afe9c39de8dc4", func := "archivolt/archivoltlaw03.BitsSets", spec := "bitsSets", unfollowed := true, recurses := true, named := ["archivolt/bits.ones"], apart := false, laid := [("archivolt/bits.ones", laid_archivolt_bits_ones)] }
def BitsSetsSaid : Prop := bitsSetsRow.holds Tryd.pinned (OpenSpec.ofChange bitsSetsSpec)

/-- ITS FALSE NEIGHBOUR: 'it returns false'. Refute it at one input. -/
def bitsSetsWrong : ChangeSpec := { name := "bitsSets", fn := fun _ => fun
  | [d1, d2] => { results := [.lit (.bool false)], args := [d1, d2] }
  | _ => none }
def BitsSetsWrongFalsely : Prop := bitsSetsRow.holds Tryd.pinned (OpenSpec.ofChange bitsSetsWrong)

/-- 'archivoltlaw03.BitsRanges': WHATEVER THE INPUT: true; the input reads as it did. -/
def bitsRangesSpec : ChangeSpec := { name := "bitsRanges", fn := fun _ => fun
  | [d1, d2, d3, d4, d5] => { results := [.lit (.bool true)], args := [d1, d2, d3, d4, d5] }
  | _ => none }
def bitsRangesRow : OpenClaim := { program := "ythognmkjoekilaadoor", sum := "40e17c75211471c5044358ced23161b97fd3d98d1b400997798afe9c39de8dc4", func := "archivolt/archivoltlaw03.BitsRanges", spec := "bitsRanges", unfollowed := true, recurses := true, named := ["archivolt/bits.ones"], apart := false, laid := [("archivolt/bits.ones", laid_archivolt_bits_ones)] }
def BitsRangesSaid : Prop := bitsRangesRow.holds Tryd.pinned (OpenSpec.ofChange bitsRangesSpec)

/-- ITS FALSE NEIGHBOUR: 'it returns false'. Refute it at one input. -/
def bitsRangesWrong : ChangeSpec := { name := "bitsRanges", fn := fun _ => fun
  | [d1, d2, d3, d4, d5] => { results := [.lit (.bool false)], args := [d1, d2, d3, d4, d5] }
  | _ => none }
def BitsRangesWrongFalsely : Prop := bitsRangesRow.holds Tryd.pinned (OpenSpec.ofChange bitsRangesWrong)

/-- 'archivoltlaw03.BitsRuns': WHATEVER THE INPUT: true; the input reads as it did. -/
def bitsRunsSpec : ChangeSpec := { name := "bitsRuns", fn := fun _ => fun
  | [d] => { results := [.lit (.bool true)], args := [d] }
  | _ => none }
def bitsRunsRow : OpenClaim := { program := "ythognmkjoekilaadoor", sum := "40e17c75211471c5044358ced23161b97fd3d98d1b400997798afe9c39de8dc4", func := "archivolt/archivoltlaw03.BitsRuns", spec := "bitsRuns", unfollowed := true, recurses := true, named := ["archivolt/bits.ones"], apart := false, laid := [("archivolt/bits.ones", laid_archivolt_bits_ones)] }
def BitsRunsSaid : Prop := bitsRunsRow.holds Tryd.pinned (OpenSpec.ofChange bitsRunsSpec)

/-- ITS FALSE NEIGHBOUR: 'it returns false'. Refute it at one input. -/
def bitsRunsWrong : ChangeSpec := { name := "bitsRuns", fn := fun _ => fun
  | [d] => { results := [.lit (.bool false)], args := [d] }
  | _ => none }
def BitsRunsWrongFalsely : Prop := bitsRunsRow.holds Tryd.pinned (OpenSpec.ofChange bitsRunsWrong)

/-- 'archivoltlaw03.BitsFinds': WHATEVER THE INPUT: true; the input reads as it did. -/
def bitsFindsSpec : ChangeSpec := { name := "bitsFinds", fn := fun _ => fun
  | [d1, d2, d3, d4] => { results := [.lit (.bool true)], args := [d1, d2, d3, d4] }
  | _ => none }
def bitsFindsRow : OpenClaim := { program := "ythognmkjoekilaadoor", sum := "40e17c75211471c5044358ced23161b97fd3d98d1b400997798afe9c39de8dc4", func := "archivolt/archivoltlaw03.BitsFinds", spec := "bitsFinds", unfollowed := true, recurses := true, named := ["archivolt/bits.ones"], apart := false, laid := [("archivolt/bits.ones", laid_archivolt_bits_ones)] }
def BitsFindsSaid : Prop := bitsFindsRow.holds Tryd.pinned (OpenSpec.ofChange bitsFindsSpec)

/-- ITS FALSE NEIGHBOUR: 'it returns false'. Refute it at one input. -/
def bitsFindsWrong : ChangeSpec := { name := "bitsFinds", fn := fun _ => fun
  | [d1, d2, d3, d4] => { results := [.lit (.bool false)], args := [d1, d2, d3, d4] }
  | _ => none }
def BitsFindsWrongFalsely : Prop := bitsFindsRow.holds Tryd.pinned (OpenSpec.ofChange bitsFindsWrong)

/-- 'archivoltlaw03.BitsGathers': WHATEVER THE INPUT: true; the input reads as it did. -/
def bitsGathersSpec : ChangeSpec := { name := "bitsGathers", fn := fun _ => fun
  | [d1, d2, d3] => { results := [.lit (.bool true)], args := [d1, d2, d3] }
  | _ => none }
def bitsGathersRow : OpenClaim := { program := "ythognmkjoekilaadoor", sum := "40e17c75211471c5044358ced23161b97fd3d98d1b400997798afe9c39de8dc4", func := "archivolt/archivoltlaw03.BitsGathers", spec := "bitsGathers", unfollowed := true, recurses := true, named := ["archivolt/bits.ones"], apart := false, laid := [("archivolt/bits.ones", laid_archivolt_bits_ones)] }
def BitsGathersSaid : Prop := bitsGathersRow.holds Tryd.pinned (OpenSpec.ofChange bitsGathersSpec)

/-- ITS FALSE NEIGHBOUR: 'it returns false'. Refute it at one input. -/
def bitsGathersWrong : ChangeSpec := { name := "bitsGathers", fn := fun _ => fun
  | [d1, d2, d3] => { results := [.lit (.bool false)], args := [d1, d2, d3] }
  | _ => none }
def BitsGathersWrongFalsely : Prop := bitsGathersRow.holds Tryd.pinned (OpenSpec.ofChange bitsGathersWrong)

/- THE SECOND FORM. 'bulk': how many values and letters a reading holds, each counted each time it is reached (what is shared counts as often as it is met; a slice's spare places count too). A statement '..UptoSaid' is the law's where the arguments, and the package variables that the reading takes, are together of bulk at most 1048576: NARROWER than '..Said'. Prove '..Said' where nothing that the law and all that it calls make is longer than what came in: it says more and counts as full. Else prove '..UptoSaid'. A law counts once. -/
mutual
def uptoBulk {H : Type} : DataW H → Nat
  | .lit (.string bytes) => bytes.length + 1
  | .lit _ => 1
  | .nil => 1
  | .ptr d => uptoBulk d + 1
  | .slice elems spare => uptoBulkAll elems + uptoBulkAll spare + 1
  | .agg parts => uptoBulkAll parts + 1
  | .iface _ d => uptoBulk d + 1
  | .map entries => uptoBulkEntries entries + 1
  | .held _ => 1
def uptoBulkAll {H : Type} : List (DataW H) → Nat
  | [] => 0
  | d :: r => uptoBulk d + uptoBulkAll r
def uptoBulkEntries {H : Type} : List (Lit × DataW H) → Nat
  | [] => 0
  | x :: r => uptoBulkEntry x + uptoBulkEntries r
def uptoBulkEntry {H : Type} : Lit × DataW H → Nat
  | (.string bytes, d) => bytes.length + uptoBulk d + 1
  | (_, d) => uptoBulk d + 1
 end
def uptoSmall : (H : Type) → List (DataW H) → Bool := fun _ ds => decide (uptoBulkAll ds ≤ 1048576)
def OpenSpec.upto (s : _root_.Go.ChangeSpec) : _root_.Go.OpenSpec := { _root_.Go.OpenSpec.ofChange s with cond := some uptoSmall }

/-- 'archivoltlaw03.BitsMatches', WHERE WHAT IT READS IS OF BULK AT MOST 1048576: true; the input reads as it did. -/
def bitsMatchesUptoRow : OpenClaim := { program := "ythognmkjoekilaadoor", sum := "40e17c75211471c5044358ced23161b97fd3d98d1b400997798afe9c39de8dc4", func := "archivolt/archivoltlaw03.BitsMatches", spec := "bitsMatches", unfollowed := true, recurses := true, named := ["archivolt/bits.ones"], apart := false, laid := [("archivolt/bits.ones", laid_archivolt_bits_ones)], narrowed := true }
def BitsMatchesUptoSaid : Prop := bitsMatchesUptoRow.holds Tryd.pinned (OpenSpec.upto bitsMatchesSpec)

/-- 'archivoltlaw03.BitsMade', WHERE WHAT IT READS IS OF BULK AT MOST 1048576: true; the input reads as it did. -/
def bitsMadeUptoRow : OpenClaim := { program := "ythognmkjoekilaadoor", sum := "40e17c75211471c5044358ced23161b97fd3d98d1b400997798afe9c39de8dc4", func := "archivolt/archivoltlaw03.BitsMade", spec := "bitsMade", unfollowed := true, recurses := true, named := ["archivolt/bits.ones"], apart := false, laid := [("archivolt/bits.ones", laid_archivolt_bits_ones)], narrowed := true }
def BitsMadeUptoSaid : Prop := bitsMadeUptoRow.holds Tryd.pinned (OpenSpec.upto bitsMadeSpec)

/-- 'archivoltlaw03.BitsResizes', WHERE WHAT IT READS IS OF BULK AT MOST 1048576: true; the input reads as it did. -/
def bitsResizesUptoRow : OpenClaim := { program := "ythognmkjoekilaadoor", sum := "40e17c75211471c5044358ced23161b97fd3d98d1b400997798afe9c39de8dc4", func := "archivolt/archivoltlaw03.BitsResizes", spec := "bitsResizes", unfollowed := true, recurses := true, named := ["archivolt/bits.ones"], apart := false, laid := [("archivolt/bits.ones", laid_archivolt_bits_ones)], narrowed := true }
def BitsResizesUptoSaid : Prop := bitsResizesUptoRow.holds Tryd.pinned (OpenSpec.upto bitsResizesSpec)

/-- 'archivoltlaw03.BitsJoins', WHERE WHAT IT READS IS OF BULK AT MOST 1048576: true; the input reads as it did. -/
def bitsJoinsUptoRow : OpenClaim := { program := "ythognmkjoekilaadoor", sum := "40e17c75211471c5044358ced23161b97fd3d98d1b400997798afe9c39de8dc4", func := "archivolt/archivoltlaw03.BitsJoins", spec := "bitsJoins", unfollowed := true, recurses := true, named := ["archivolt/bits.ones"], apart := false, laid := [("archivolt/bits.ones", laid_archivolt_bits_ones)], narrowed := true }
def BitsJoinsUptoSaid : Prop := bitsJoinsUptoRow.holds Tryd.pinned (OpenSpec.upto bitsJoinsSpec)

/-- 'archivoltlaw03.BitsSets', WHERE WHAT IT READS IS OF BULK AT MOST 1048576: true; the input reads as it did. -/
def bitsSetsUptoRow : OpenClaim := { program := "ythognmkjoekilaadoor", sum := "40e17c75211471c5044358ced23161b97fd3d98d1b400997798afe9c39de8dc4", func := "archivolt/archivoltlaw03.BitsSets", spec := "bitsSets", unfollowed := true, recurses := true, named := ["archivolt/bits.ones"], apart := false, laid := [("archivolt/bits.ones", laid_archivolt_bits_ones)], narrowed := true }
def BitsSetsUptoSaid : Prop := bitsSetsUptoRow.holds Tryd.pinned (OpenSpec.upto bitsSetsSpec)

/-- 'archivoltlaw03.BitsRanges', WHERE WHAT IT READS IS OF BULK AT MOST 1048576: true; the input reads as it did. -/
def bitsRangesUptoRow : OpenClaim := { program := "ythognmkjoekilaadoor", sum := "40e17c75211471c5044358ced23161b97fd3d98d1b400997798afe9c39de8dc4", func := "archivolt/archivoltlaw03.BitsRanges", spec := "bitsRanges", unfollowed := true, recurses := true, named := ["archivolt/bits.ones"], apart := false, laid := [("archivolt/bits.ones", laid_archivolt_bits_ones)], narrowed := true }
def BitsRangesUptoSaid : Prop := bitsRangesUptoRow.holds Tryd.pinned (OpenSpec.upto bitsRangesSpec)

/-- 'archivoltlaw03.BitsRuns', WHERE WHAT IT READS IS OF BULK AT MOST 1048576: true; the input reads as it did. -/
def bitsRunsUptoRow : OpenClaim := { program := "ythognmkjoekilaadoor", sum := "40e17c75211471c5044358ced23161b97fd3d98d1b400997798afe9c39de8dc4", func := "archivolt/archivoltlaw03.BitsRuns", spec := "bitsRuns", unfollowed := true, recurses := true, named := ["archivolt/bits.ones"], apart := false, laid := [("archivolt/bits.ones", laid_archivolt_bits_ones)], narrowed := true }
def BitsRunsUptoSaid : Prop := bitsRunsUptoRow.holds Tryd.pinned (OpenSpec.upto bitsRunsSpec)

/-- 'archivoltlaw03.BitsFinds', WHERE WHAT IT READS IS OF BULK AT MOST 1048576: true; the input reads as it did. -/
def bitsFindsUptoRow : OpenClaim := { program := "ythognmkjoekilaadoor", sum := "40e17c75211471c5044358ced23161b97fd3d98d1b400997798afe9c39de8dc4", func := "archivolt/archivoltlaw03.BitsFinds", spec := "bitsFinds", unfollowed := true, recurses := true, named := ["archivolt/bits.ones"], apart := false, laid := [("archivolt/bits.ones", laid_archivolt_bits_ones)], narrowed := true }
def BitsFindsUptoSaid : Prop := bitsFindsUptoRow.holds Tryd.pinned (OpenSpec.upto bitsFindsSpec)

/-- 'archivoltlaw03.BitsGathers', WHERE WHAT IT READS IS OF BULK AT MOST 1048576: true; the input reads as it did. -/
def bitsGathersUptoRow : OpenClaim := { program := "ythognmkjoekilaadoor", sum := "40e17c75211471c5044358ced23161b97fd3d98d1b400997798afe9c39de8dc4", func := "archivolt/archivoltlaw03.BitsGathers", spec := "bitsGathers", unfollowed := true, recurses := true, named := ["archivolt/bits.ones"], apart := false, laid := [("archivolt/bits.ones", laid_archivolt_bits_ones)], narrowed := true }
def BitsGathersUptoSaid : Prop := bitsGathersUptoRow.holds Tryd.pinned (OpenSpec.upto bitsGathersSpec)

end Rows
end Go.Proofs.YthognmkjoekilaaDoor

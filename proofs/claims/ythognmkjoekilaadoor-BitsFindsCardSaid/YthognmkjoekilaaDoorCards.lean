/-
  DERIVED. GIVEN WITH THE SEED: THE CARDS: each row of YthognmkjoekilaaDoorRows.lean that lists a variable, with what it lists TIED to the program's text (the seventh form; the later family's looks); each row that meets fmt, with fmt's text TOLD by the authors' own Lean function (tested against real Go, not proved from fmt's source: count such statements apart). THE CARD IS WHAT COUNTS. Prove the row's statement (the work); the ties are given (YthognmkjoekilaaDoorTie.lean); close each card by the builder's one call (the guide's Derived/Test/ToyasCard.lean, 'card_holds'). Laid BY PROGRAM, IN A SANDBOX (cutbox-door.mjs). By AI agents, Wed Nov 11 2026. No macro, syntax, notation, axiom, sorry.
-/
import Derived.Test.YthognmkjoekilaaDoorRows
import GoSem.ClaimSeven
namespace Go.Proofs.YthognmkjoekilaaDoor
namespace Rows

/-- THE TIED CARD OF 'archivoltlaw03.BitsMatches'. -/
def bitsMatchesCard : Claim7 := { stood := { row := bitsMatchesRow, standIns := [], harness := (true, "105704166d81e41f9c83fb7b28a825f7168ddb64e441323748cad4d03a63f05e"), looks := true }, kinds := [], alts := [], laidByText := true, laidKinds := [.data], laidTests := true, laidLooks := .later }
def BitsMatchesCardSaid : Prop := Claim7.holds Tryd.pinned (.plain (OpenSpec.ofChange bitsMatchesSpec)) bitsMatchesCard

/-- THE TIED CARD OF 'archivoltlaw03.BitsMade'. -/
def bitsMadeCard : Claim7 := { stood := { row := bitsMadeRow, standIns := [], harness := (true, "105704166d81e41f9c83fb7b28a825f7168ddb64e441323748cad4d03a63f05e"), looks := true }, kinds := [], alts := [], laidByText := true, laidKinds := [.data], laidTests := true, laidLooks := .later }
def BitsMadeCardSaid : Prop := Claim7.holds Tryd.pinned (.plain (OpenSpec.ofChange bitsMadeSpec)) bitsMadeCard

/-- THE TIED CARD OF 'archivoltlaw03.BitsResizes'. -/
def bitsResizesCard : Claim7 := { stood := { row := bitsResizesRow, standIns := [], harness := (true, "105704166d81e41f9c83fb7b28a825f7168ddb64e441323748cad4d03a63f05e"), looks := true }, kinds := [], alts := [], laidByText := true, laidKinds := [.data], laidTests := true, laidLooks := .later }
def BitsResizesCardSaid : Prop := Claim7.holds Tryd.pinned (.plain (OpenSpec.ofChange bitsResizesSpec)) bitsResizesCard

/-- THE TIED CARD OF 'archivoltlaw03.BitsJoins'. -/
def bitsJoinsCard : Claim7 := { stood := { row := bitsJoinsRow, standIns := [], harness := (true, "105704166d81e41f9c83fb7b28a825f7168ddb64e441323748cad4d03a63f05e"), looks := true }, kinds := [], alts := [], laidByText := true, laidKinds := [.data], laidTests := true, laidLooks := .later }
def BitsJoinsCardSaid : Prop := Claim7.holds Tryd.pinned (.plain (OpenSpec.ofChange bitsJoinsSpec)) bitsJoinsCard

/-- THE TIED CARD OF 'archivoltlaw03.BitsSets'. -/
def bitsSetsCard : Claim7 := { stood := { row := bitsSetsRow, standIns := [], harness := (true, "105704166d81e41f9c83fb7b28a825f7168ddb64e441323748cad4d03a63f05e"), looks := true }, kinds := [], alts := [], laidByText := true, laidKinds := [.data], laidTests := true, laidLooks := .later }
def BitsSetsCardSaid : Prop := Claim7.holds Tryd.pinned (.plain (OpenSpec.ofChange bitsSetsSpec)) bitsSetsCard

/-- THE TIED CARD OF 'archivoltlaw03.BitsRanges'. -/
def bitsRangesCard : Claim7 := { stood := { row := bitsRangesRow, standIns := [], harness := (true, "105704166d81e41f9c83fb7b28a825f7168ddb64e441323748cad4d03a63f05e"), looks := true }, kinds := [], alts := [], laidByText := true, laidKinds := [.data], laidTests := true, laidLooks := .later }
def BitsRangesCardSaid : Prop := Claim7.holds Tryd.pinned (.plain (OpenSpec.ofChange bitsRangesSpec)) bitsRangesCard

/-- THE TIED CARD OF 'archivoltlaw03.BitsRuns'. -/
def bitsRunsCard : Claim7 := { stood := { row := bitsRunsRow, standIns := [], harness := (true, "105704166d81e41f9c83fb7b28a825f7168ddb64e441323748cad4d03a63f05e"), looks := true }, kinds := [], alts := [], laidByText := true, laidKinds := [.data], laidTests := true, laidLooks := .later }
def BitsRunsCardSaid : Prop := Claim7.holds Tryd.pinned (.plain (OpenSpec.ofChange bitsRunsSpec)) bitsRunsCard

/-- THE TIED CARD OF 'archivoltlaw03.BitsFinds'. -/
def bitsFindsCard : Claim7 := { stood := { row := bitsFindsRow, standIns := [], harness := (true, "105704166d81e41f9c83fb7b28a825f7168ddb64e441323748cad4d03a63f05e"), looks := true }, kinds := [], alts := [], laidByText := true, laidKinds := [.data], laidTests := true, laidLooks := .later }
def BitsFindsCardSaid : Prop := Claim7.holds Tryd.pinned (.plain (OpenSpec.ofChange bitsFindsSpec)) bitsFindsCard

/-- THE TIED CARD OF 'archivoltlaw03.BitsGathers'. -/
def bitsGathersCard : Claim7 := { stood := { row := bitsGathersRow, standIns := [], harness := (true, "105704166d81e41f9c83fb7b28a825f7168ddb64e441323748cad4d03a63f05e"), looks := true }, kinds := [], alts := [], laidByText := true, laidKinds := [.data], laidTests := true, laidLooks := .later }
def BitsGathersCardSaid : Prop := Claim7.holds Tryd.pinned (.plain (OpenSpec.ofChange bitsGathersSpec)) bitsGathersCard

/-- THE SECOND FORM's CARD OF 'archivoltlaw03.BitsMatches'. -/
def bitsMatchesUptoCard : Claim7 := { stood := { row := bitsMatchesUptoRow, standIns := [], harness := (true, "105704166d81e41f9c83fb7b28a825f7168ddb64e441323748cad4d03a63f05e"), looks := true }, kinds := [], alts := [], laidByText := true, laidKinds := [.data], laidTests := true, laidLooks := .later }
def BitsMatchesUptoCardSaid : Prop := Claim7.holds Tryd.pinned (.plain (OpenSpec.upto bitsMatchesSpec)) bitsMatchesUptoCard

/-- THE SECOND FORM's CARD OF 'archivoltlaw03.BitsMade'. -/
def bitsMadeUptoCard : Claim7 := { stood := { row := bitsMadeUptoRow, standIns := [], harness := (true, "105704166d81e41f9c83fb7b28a825f7168ddb64e441323748cad4d03a63f05e"), looks := true }, kinds := [], alts := [], laidByText := true, laidKinds := [.data], laidTests := true, laidLooks := .later }
def BitsMadeUptoCardSaid : Prop := Claim7.holds Tryd.pinned (.plain (OpenSpec.upto bitsMadeSpec)) bitsMadeUptoCard

/-- THE SECOND FORM's CARD OF 'archivoltlaw03.BitsResizes'. -/
def bitsResizesUptoCard : Claim7 := { stood := { row := bitsResizesUptoRow, standIns := [], harness := (true, "105704166d81e41f9c83fb7b28a825f7168ddb64e441323748cad4d03a63f05e"), looks := true }, kinds := [], alts := [], laidByText := true, laidKinds := [.data], laidTests := true, laidLooks := .later }
def BitsResizesUptoCardSaid : Prop := Claim7.holds Tryd.pinned (.plain (OpenSpec.upto bitsResizesSpec)) bitsResizesUptoCard

/-- THE SECOND FORM's CARD OF 'archivoltlaw03.BitsJoins'. -/
def bitsJoinsUptoCard : Claim7 := { stood := { row := bitsJoinsUptoRow, standIns := [], harness := (true, "105704166d81e41f9c83fb7b28a825f7168ddb64e441323748cad4d03a63f05e"), looks := true }, kinds := [], alts := [], laidByText := true, laidKinds := [.data], laidTests := true, laidLooks := .later }
def BitsJoinsUptoCardSaid : Prop := Claim7.holds Tryd.pinned (.plain (OpenSpec.upto bitsJoinsSpec)) bitsJoinsUptoCard

/-- THE SECOND FORM's CARD OF 'archivoltlaw03.BitsSets'. -/
def bitsSetsUptoCard : Claim7 := { stood := { row := bitsSetsUptoRow, standIns := [], harness := (true, "105704166d81e41f9c83fb7b28a825f7168ddb64e441323748cad4d03a63f05e"), looks := true }, kinds := [], alts := [], laidByText := true, laidKinds := [.data], laidTests := true, laidLooks := .later }
def BitsSetsUptoCardSaid : Prop := Claim7.holds Tryd.pinned (.plain (OpenSpec.upto bitsSetsSpec)) bitsSetsUptoCard

/-- THE SECOND FORM's CARD OF 'archivoltlaw03.BitsRanges'. -/
def bitsRangesUptoCard : Claim7 := { stood := { row := bitsRangesUptoRow, standIns := [], harness := (true, "105704166d81e41f9c83fb7b28a825f7168ddb64e441323748cad4d03a63f05e"), looks := true }, kinds := [], alts := [], laidByText := true, laidKinds := [.data], laidTests := true, laidLooks := .later }
def BitsRangesUptoCardSaid : Prop := Claim7.holds Tryd.pinned (.plain (OpenSpec.upto bitsRangesSpec)) bitsRangesUptoCard

/-- THE SECOND FORM's CARD OF 'archivoltlaw03.BitsRuns'. -/
def bitsRunsUptoCard : Claim7 := { stood := { row := bitsRunsUptoRow, standIns := [], harness := (true, "105704166d81e41f9c83fb7b28a825f7168ddb64e441323748cad4d03a63f05e"), looks := true }, kinds := [], alts := [], laidByText := true, laidKinds := [.data], laidTests := true, laidLooks := .later }
def BitsRunsUptoCardSaid : Prop := Claim7.holds Tryd.pinned (.plain (OpenSpec.upto bitsRunsSpec)) bitsRunsUptoCard

/-- THE SECOND FORM's CARD OF 'archivoltlaw03.BitsFinds'. -/
def bitsFindsUptoCard : Claim7 := { stood := { row := bitsFindsUptoRow, standIns := [], harness := (true, "105704166d81e41f9c83fb7b28a825f7168ddb64e441323748cad4d03a63f05e"), looks := true }, kinds := [], alts := [], laidByText := true, laidKinds := [.data], laidTests := true, laidLooks := .later }
def BitsFindsUptoCardSaid : Prop := Claim7.holds Tryd.pinned (.plain (OpenSpec.upto bitsFindsSpec)) bitsFindsUptoCard

/-- THE SECOND FORM's CARD OF 'archivoltlaw03.BitsGathers'. -/
def bitsGathersUptoCard : Claim7 := { stood := { row := bitsGathersUptoRow, standIns := [], harness := (true, "105704166d81e41f9c83fb7b28a825f7168ddb64e441323748cad4d03a63f05e"), looks := true }, kinds := [], alts := [], laidByText := true, laidKinds := [.data], laidTests := true, laidLooks := .later }
def BitsGathersUptoCardSaid : Prop := Claim7.holds Tryd.pinned (.plain (OpenSpec.upto bitsGathersSpec)) bitsGathersUptoCard
end Rows
end Go.Proofs.YthognmkjoekilaaDoor

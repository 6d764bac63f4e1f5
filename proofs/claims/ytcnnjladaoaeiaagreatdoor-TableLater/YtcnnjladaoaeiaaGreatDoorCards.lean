/-
  DERIVED. GIVEN WITH THE SEED: THE CARDS: each row of YtcnnjladaoaeiaaGreatDoorRows.lean that lists a variable, with what it lists TIED to the program's text (the seventh form; the later family's looks); each row that meets fmt, with fmt's text TOLD by the authors' own Lean function (tested against real Go, not proved from fmt's source: count such statements apart). THE CARD IS WHAT COUNTS. Prove the row's statement (the work); the ties are given (YtcnnjladaoaeiaaGreatDoorTie.lean); close each card by the builder's one call (the guide's Derived/Test/ToyasCard.lean, 'card_holds'). Laid BY PROGRAM, IN A SANDBOX (cutbox-door.mjs). By AI agents, Wed Nov 11 2026. No macro, syntax, notation, axiom, sorry.
-/
import Derived.Test.YtcnnjladaoaeiaaGreatDoorRows
import GoSem.ClaimSeven
namespace Go.Proofs.YtcnnjladaoaeiaaGreatDoor
namespace Rows

/-- THE TIED CARD OF 'overhaullaw.TableReads'. -/
def tableReadsCard : Claim7 := { stood := { row := tableReadsRow, standIns := [], harness := (true, "c9f8d5bb2ffbe4c90ec58f8417f2ba9861fe9b5b4a1e56601060cdf6500ebccc"), looks := true }, kinds := [], alts := [], laidByText := true, laidKinds := [.data, .data, .data, .sentinel, .sentinel], laidTests := true, laidLooks := .later }
def TableReadsCardSaid : Prop := Claim7.holds Tryz.pinned (.plain (OpenSpec.ofChange tableReadsSpec)) tableReadsCard

/-- THE TIED CARD OF 'overhaullaw.TableChanges'. -/
def tableChangesCard : Claim7 := { stood := { row := tableChangesRow, standIns := [], harness := (true, "c9f8d5bb2ffbe4c90ec58f8417f2ba9861fe9b5b4a1e56601060cdf6500ebccc"), looks := true }, kinds := [], alts := [], laidByText := true, laidKinds := [.data, .data, .data, .sentinel, .sentinel], laidTests := true, laidLooks := .later }
def TableChangesCardSaid : Prop := Claim7.holds Tryz.pinned (.plain (OpenSpec.ofChange tableChangesSpec)) tableChangesCard

/-- THE TIED CARD OF 'overhaullaw.TableAlters'. -/
def tableAltersCard : Claim7 := { stood := { row := tableAltersRow, standIns := [], harness := (true, "c9f8d5bb2ffbe4c90ec58f8417f2ba9861fe9b5b4a1e56601060cdf6500ebccc"), looks := true }, kinds := [], alts := [], laidByText := true, laidKinds := [.data, .data, .data, .sentinel, .sentinel], laidTests := true, laidLooks := .later }
def TableAltersCardSaid : Prop := Claim7.holds Tryz.pinned (.plain (OpenSpec.ofChange tableAltersSpec)) tableAltersCard

/-- THE TIED CARD OF 'overhaullaw.TableLater'. -/
def tableLaterCard : Claim7 := { stood := { row := tableLaterRow, standIns := [], harness := (true, "c9f8d5bb2ffbe4c90ec58f8417f2ba9861fe9b5b4a1e56601060cdf6500ebccc"), looks := true }, kinds := [], alts := [], laidByText := true, laidKinds := [.data, .data, .data, .sentinel, .sentinel], laidTests := true, laidLooks := .later }
def TableLaterCardSaid : Prop := Claim7.holds Tryz.pinned (.plain (OpenSpec.ofChange tableLaterSpec)) tableLaterCard

/-- THE TIED CARD OF 'overhaullaw.RestRows'. -/
def restRowsCard : Claim7 := { stood := { row := restRowsRow, standIns := [], harness := (true, "c9f8d5bb2ffbe4c90ec58f8417f2ba9861fe9b5b4a1e56601060cdf6500ebccc"), looks := true }, kinds := [], alts := [], laidByText := true, laidKinds := [.data, .data, .data, .sentinel, .sentinel], laidTests := true, laidLooks := .later }
def RestRowsCardSaid : Prop := Claim7.holds Tryz.pinned (.plain (OpenSpec.ofChange restRowsSpec)) restRowsCard

/-- THE SECOND FORM's CARD OF 'overhaullaw.TableReads'. -/
def tableReadsUptoCard : Claim7 := { stood := { row := tableReadsUptoRow, standIns := [], harness := (true, "c9f8d5bb2ffbe4c90ec58f8417f2ba9861fe9b5b4a1e56601060cdf6500ebccc"), looks := true }, kinds := [], alts := [], laidByText := true, laidKinds := [.data, .data, .data, .sentinel, .sentinel], laidTests := true, laidLooks := .later }
def TableReadsUptoCardSaid : Prop := Claim7.holds Tryz.pinned (.plain (OpenSpec.upto tableReadsSpec)) tableReadsUptoCard

/-- THE SECOND FORM's CARD OF 'overhaullaw.TableChanges'. -/
def tableChangesUptoCard : Claim7 := { stood := { row := tableChangesUptoRow, standIns := [], harness := (true, "c9f8d5bb2ffbe4c90ec58f8417f2ba9861fe9b5b4a1e56601060cdf6500ebccc"), looks := true }, kinds := [], alts := [], laidByText := true, laidKinds := [.data, .data, .data, .sentinel, .sentinel], laidTests := true, laidLooks := .later }
def TableChangesUptoCardSaid : Prop := Claim7.holds Tryz.pinned (.plain (OpenSpec.upto tableChangesSpec)) tableChangesUptoCard

/-- THE SECOND FORM's CARD OF 'overhaullaw.TableAlters'. -/
def tableAltersUptoCard : Claim7 := { stood := { row := tableAltersUptoRow, standIns := [], harness := (true, "c9f8d5bb2ffbe4c90ec58f8417f2ba9861fe9b5b4a1e56601060cdf6500ebccc"), looks := true }, kinds := [], alts := [], laidByText := true, laidKinds := [.data, .data, .data, .sentinel, .sentinel], laidTests := true, laidLooks := .later }
def TableAltersUptoCardSaid : Prop := Claim7.holds Tryz.pinned (.plain (OpenSpec.upto tableAltersSpec)) tableAltersUptoCard

/-- THE SECOND FORM's CARD OF 'overhaullaw.TableLater'. -/
def tableLaterUptoCard : Claim7 := { stood := { row := tableLaterUptoRow, standIns := [], harness := (true, "c9f8d5bb2ffbe4c90ec58f8417f2ba9861fe9b5b4a1e56601060cdf6500ebccc"), looks := true }, kinds := [], alts := [], laidByText := true, laidKinds := [.data, .data, .data, .sentinel, .sentinel], laidTests := true, laidLooks := .later }
def TableLaterUptoCardSaid : Prop := Claim7.holds Tryz.pinned (.plain (OpenSpec.upto tableLaterSpec)) tableLaterUptoCard

/-- THE SECOND FORM's CARD OF 'overhaullaw.RestRows'. -/
def restRowsUptoCard : Claim7 := { stood := { row := restRowsUptoRow, standIns := [], harness := (true, "c9f8d5bb2ffbe4c90ec58f8417f2ba9861fe9b5b4a1e56601060cdf6500ebccc"), looks := true }, kinds := [], alts := [], laidByText := true, laidKinds := [.data, .data, .data, .sentinel, .sentinel], laidTests := true, laidLooks := .later }
def RestRowsUptoCardSaid : Prop := Claim7.holds Tryz.pinned (.plain (OpenSpec.upto restRowsSpec)) restRowsUptoCard
end Rows
end Go.Proofs.YtcnnjladaoaeiaaGreatDoor

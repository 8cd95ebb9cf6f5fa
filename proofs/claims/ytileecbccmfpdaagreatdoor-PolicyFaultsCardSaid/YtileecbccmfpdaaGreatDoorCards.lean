/-
  DERIVED. GIVEN WITH THE SEED: THE CARDS: each row of YtileecbccmfpdaaGreatDoorRows.lean that lists a variable, with what it lists TIED to the program's text (the seventh form; the later family's looks); each row that meets fmt, with fmt's text TOLD by the authors' own Lean function (tested against real Go, not proved from fmt's source: count such statements apart). THE CARD IS WHAT COUNTS. Prove the row's statement (the work); the ties are given (YtileecbccmfpdaaGreatDoorTie.lean); close each card by the builder's one call (the guide's Derived/Test/ToyasCard.lean, 'card_holds'). Laid BY PROGRAM, IN A SANDBOX (cutbox-door.mjs). By AI agents, Wed Nov 11 2026. No macro, syntax, notation, axiom, sorry.
-/
import Derived.Test.YtileecbccmfpdaaGreatDoorRows
import GoSem.ClaimSeven
namespace Go.Proofs.YtileecbccmfpdaaGreatDoor
namespace Rows

/-- THE TIED CARD OF 'paraventlaw11.PolicyParses'. -/
def policyParsesCard : Claim7 := { stood := { row := policyParsesRow, standIns := [], harness := (true, "f17e0dd9eee6df2e76bdbfc9959ad0038d21df230e8f2f564a1172dd0242907b"), looks := true }, kinds := [], alts := [], laidByText := true, laidKinds := [.data, .data, .data, .sentinel, .sentinel, .data, .data, .data], laidTests := true, laidLooks := .later }
def PolicyParsesCardSaid : Prop := Claim7.holds Tryz.pinned (.plain (OpenSpec.ofChange policyParsesSpec)) policyParsesCard

/-- THE TIED CARD OF 'paraventlaw11.PolicyPrints'. -/
def policyPrintsCard : Claim7 := { stood := { row := policyPrintsRow, standIns := [], harness := (true, "f17e0dd9eee6df2e76bdbfc9959ad0038d21df230e8f2f564a1172dd0242907b"), looks := true }, kinds := [], alts := [], laidByText := true, laidKinds := [.data, .data, .data, .sentinel, .sentinel, .data, .data, .data], laidTests := true, laidLooks := .later }
def PolicyPrintsCardSaid : Prop := Claim7.holds Tryz.pinned (.plain (OpenSpec.ofChange policyPrintsSpec)) policyPrintsCard

/-- THE TIED CARD OF 'paraventlaw11.PolicyBack'. -/
def policyBackCard : Claim7 := { stood := { row := policyBackRow, standIns := [], harness := (true, "f17e0dd9eee6df2e76bdbfc9959ad0038d21df230e8f2f564a1172dd0242907b"), looks := true }, kinds := [], alts := [], laidByText := true, laidKinds := [.data, .data, .data, .sentinel, .sentinel, .data, .data, .data], laidTests := true, laidLooks := .later }
def PolicyBackCardSaid : Prop := Claim7.holds Tryz.pinned (.plain (OpenSpec.ofChange policyBackSpec)) policyBackCard

/-- THE TIED CARD OF 'paraventlaw11.PolicyForms'. -/
def policyFormsCard : Claim7 := { stood := { row := policyFormsRow, standIns := [], harness := (true, "f17e0dd9eee6df2e76bdbfc9959ad0038d21df230e8f2f564a1172dd0242907b"), looks := true }, kinds := [], alts := [], laidByText := true, laidKinds := [.data, .data, .data, .sentinel, .sentinel, .data, .data, .data], laidTests := true, laidLooks := .later }
def PolicyFormsCardSaid : Prop := Claim7.holds Tryz.pinned (.plain (OpenSpec.ofChange policyFormsSpec)) policyFormsCard

/-- THE TIED CARD OF 'paraventlaw11.PolicyJoins'. -/
def policyJoinsCard : Claim7 := { stood := { row := policyJoinsRow, standIns := [], harness := (true, "f17e0dd9eee6df2e76bdbfc9959ad0038d21df230e8f2f564a1172dd0242907b"), looks := true }, kinds := [], alts := [], laidByText := true, laidKinds := [.data, .data, .data, .sentinel, .sentinel, .data, .data, .data], laidTests := true, laidLooks := .later }
def PolicyJoinsCardSaid : Prop := Claim7.holds Tryz.pinned (.plain (OpenSpec.ofChange policyJoinsSpec)) policyJoinsCard

/-- THE TIED CARD OF 'paraventlaw11.PolicyFaults'. -/
def policyFaultsCard : Claim7 := { stood := { row := policyFaultsRow, standIns := [], harness := (true, "f17e0dd9eee6df2e76bdbfc9959ad0038d21df230e8f2f564a1172dd0242907b"), looks := true }, kinds := [], alts := [], laidByText := true, laidKinds := [.data, .data, .data, .sentinel, .sentinel, .data, .data, .data], laidTests := true, laidLooks := .later }
def PolicyFaultsCardSaid : Prop := Claim7.holds Tryz.pinned (.plain (OpenSpec.ofChange policyFaultsSpec)) policyFaultsCard

/-- THE TIED CARD OF 'paraventlaw11.PolicyStrips'. -/
def policyStripsCard : Claim7 := { stood := { row := policyStripsRow, standIns := [], harness := (true, "f17e0dd9eee6df2e76bdbfc9959ad0038d21df230e8f2f564a1172dd0242907b"), looks := true }, kinds := [], alts := [], laidByText := true, laidKinds := [.data, .data, .data, .sentinel, .sentinel, .data, .data, .data], laidTests := true, laidLooks := .later }
def PolicyStripsCardSaid : Prop := Claim7.holds Tryz.pinned (.plain (OpenSpec.ofChange policyStripsSpec)) policyStripsCard

/-- THE SECOND FORM's CARD OF 'paraventlaw11.PolicyParses'. -/
def policyParsesUptoCard : Claim7 := { stood := { row := policyParsesUptoRow, standIns := [], harness := (true, "f17e0dd9eee6df2e76bdbfc9959ad0038d21df230e8f2f564a1172dd0242907b"), looks := true }, kinds := [], alts := [], laidByText := true, laidKinds := [.data, .data, .data, .sentinel, .sentinel, .data, .data, .data], laidTests := true, laidLooks := .later }
def PolicyParsesUptoCardSaid : Prop := Claim7.holds Tryz.pinned (.plain (OpenSpec.upto policyParsesSpec)) policyParsesUptoCard

/-- THE SECOND FORM's CARD OF 'paraventlaw11.PolicyPrints'. -/
def policyPrintsUptoCard : Claim7 := { stood := { row := policyPrintsUptoRow, standIns := [], harness := (true, "f17e0dd9eee6df2e76bdbfc9959ad0038d21df230e8f2f564a1172dd0242907b"), looks := true }, kinds := [], alts := [], laidByText := true, laidKinds := [.data, .data, .data, .sentinel, .sentinel, .data, .data, .data], laidTests := true, laidLooks := .later }
def PolicyPrintsUptoCardSaid : Prop := Claim7.holds Tryz.pinned (.plain (OpenSpec.upto policyPrintsSpec)) policyPrintsUptoCard

/-- THE SECOND FORM's CARD OF 'paraventlaw11.PolicyBack'. -/
def policyBackUptoCard : Claim7 := { stood := { row := policyBackUptoRow, standIns := [], harness := (true, "f17e0dd9eee6df2e76bdbfc9959ad0038d21df230e8f2f564a1172dd0242907b"), looks := true }, kinds := [], alts := [], laidByText := true, laidKinds := [.data, .data, .data, .sentinel, .sentinel, .data, .data, .data], laidTests := true, laidLooks := .later }
def PolicyBackUptoCardSaid : Prop := Claim7.holds Tryz.pinned (.plain (OpenSpec.upto policyBackSpec)) policyBackUptoCard

/-- THE SECOND FORM's CARD OF 'paraventlaw11.PolicyForms'. -/
def policyFormsUptoCard : Claim7 := { stood := { row := policyFormsUptoRow, standIns := [], harness := (true, "f17e0dd9eee6df2e76bdbfc9959ad0038d21df230e8f2f564a1172dd0242907b"), looks := true }, kinds := [], alts := [], laidByText := true, laidKinds := [.data, .data, .data, .sentinel, .sentinel, .data, .data, .data], laidTests := true, laidLooks := .later }
def PolicyFormsUptoCardSaid : Prop := Claim7.holds Tryz.pinned (.plain (OpenSpec.upto policyFormsSpec)) policyFormsUptoCard

/-- THE SECOND FORM's CARD OF 'paraventlaw11.PolicyJoins'. -/
def policyJoinsUptoCard : Claim7 := { stood := { row := policyJoinsUptoRow, standIns := [], harness := (true, "f17e0dd9eee6df2e76bdbfc9959ad0038d21df230e8f2f564a1172dd0242907b"), looks := true }, kinds := [], alts := [], laidByText := true, laidKinds := [.data, .data, .data, .sentinel, .sentinel, .data, .data, .data], laidTests := true, laidLooks := .later }
def PolicyJoinsUptoCardSaid : Prop := Claim7.holds Tryz.pinned (.plain (OpenSpec.upto policyJoinsSpec)) policyJoinsUptoCard

/-- THE SECOND FORM's CARD OF 'paraventlaw11.PolicyFaults'. -/
def policyFaultsUptoCard : Claim7 := { stood := { row := policyFaultsUptoRow, standIns := [], harness := (true, "f17e0dd9eee6df2e76bdbfc9959ad0038d21df230e8f2f564a1172dd0242907b"), looks := true }, kinds := [], alts := [], laidByText := true, laidKinds := [.data, .data, .data, .sentinel, .sentinel, .data, .data, .data], laidTests := true, laidLooks := .later }
def PolicyFaultsUptoCardSaid : Prop := Claim7.holds Tryz.pinned (.plain (OpenSpec.upto policyFaultsSpec)) policyFaultsUptoCard

/-- THE SECOND FORM's CARD OF 'paraventlaw11.PolicyStrips'. -/
def policyStripsUptoCard : Claim7 := { stood := { row := policyStripsUptoRow, standIns := [], harness := (true, "f17e0dd9eee6df2e76bdbfc9959ad0038d21df230e8f2f564a1172dd0242907b"), looks := true }, kinds := [], alts := [], laidByText := true, laidKinds := [.data, .data, .data, .sentinel, .sentinel, .data, .data, .data], laidTests := true, laidLooks := .later }
def PolicyStripsUptoCardSaid : Prop := Claim7.holds Tryz.pinned (.plain (OpenSpec.upto policyStripsSpec)) policyStripsUptoCard
end Rows
end Go.Proofs.YtileecbccmfpdaaGreatDoor

/-
  DERIVED. GIVEN WITH THE SEED: THE CARDS: each row of YtkpmeelbjldcoaaGreatDoorRows.lean that lists a variable, with what it lists TIED to the program's text (the seventh form; the later family's looks); each row that meets fmt, with fmt's text TOLD by the authors' own Lean function (tested against real Go, not proved from fmt's source: count such statements apart). THE CARD IS WHAT COUNTS. Prove the row's statement (the work); the ties are given (YtkpmeelbjldcoaaGreatDoorTie.lean); close each card by the builder's one call (the guide's Derived/Test/ToyasCard.lean, 'card_holds'). Laid BY PROGRAM, IN A SANDBOX (cutbox-door.mjs). By AI agents, Wed Nov 11 2026. No macro, syntax, notation, axiom, sorry.
-/
import Derived.Test.YtkpmeelbjldcoaaGreatDoorRows
import GoSem.ClaimSeven
namespace Go.Proofs.YtkpmeelbjldcoaaGreatDoor
namespace Rows

/-- THE TIED CARD OF 'paraventlaw12.RulesChecks'. -/
def rulesChecksCard : Claim7 := { stood := { row := rulesChecksRow, standIns := [], harness := (true, "a5f74c4d3a21b0f309ffe2e4dce00c362255d5e615a7afc2140d64f58367c315"), looks := true }, kinds := [], alts := [], laidByText := true, laidKinds := [.data, .data, .data, .sentinel, .sentinel, .data, .data, .data], laidTests := true, laidLooks := .later }
def RulesChecksCardSaid : Prop := Claim7.holds Tryz.pinned (.plain (OpenSpec.ofChange rulesChecksSpec)) rulesChecksCard

/-- THE TIED CARD OF 'paraventlaw12.RulesReads'. -/
def rulesReadsCard : Claim7 := { stood := { row := rulesReadsRow, standIns := [], harness := (true, "a5f74c4d3a21b0f309ffe2e4dce00c362255d5e615a7afc2140d64f58367c315"), looks := true }, kinds := [], alts := [], laidByText := true, laidKinds := [.data, .data, .data, .sentinel, .sentinel, .data, .data, .data], laidTests := true, laidLooks := .later }
def RulesReadsCardSaid : Prop := Claim7.holds Tryz.pinned (.plain (OpenSpec.ofChange rulesReadsSpec)) rulesReadsCard

/-- THE TIED CARD OF 'paraventlaw12.RulesZooms'. -/
def rulesZoomsCard : Claim7 := { stood := { row := rulesZoomsRow, standIns := [], harness := (true, "a5f74c4d3a21b0f309ffe2e4dce00c362255d5e615a7afc2140d64f58367c315"), looks := true }, kinds := [], alts := [], laidByText := true, laidKinds := [.data, .data, .data, .sentinel, .sentinel, .data, .data, .data], laidTests := true, laidLooks := .later }
def RulesZoomsCardSaid : Prop := Claim7.holds Tryz.pinned (.plain (OpenSpec.ofChange rulesZoomsSpec)) rulesZoomsCard

/-- THE TIED CARD OF 'paraventlaw12.RulesTurned'. -/
def rulesTurnedCard : Claim7 := { stood := { row := rulesTurnedRow, standIns := [], harness := (true, "a5f74c4d3a21b0f309ffe2e4dce00c362255d5e615a7afc2140d64f58367c315"), looks := true }, kinds := [], alts := [], laidByText := true, laidKinds := [.data, .data, .data, .sentinel, .sentinel, .data, .data, .data], laidTests := true, laidLooks := .later }
def RulesTurnedCardSaid : Prop := Claim7.holds Tryz.pinned (.plain (OpenSpec.ofChange rulesTurnedSpec)) rulesTurnedCard

/-- THE TIED CARD OF 'paraventlaw12.RulesMore'. -/
def rulesMoreCard : Claim7 := { stood := { row := rulesMoreRow, standIns := [], harness := (true, "a5f74c4d3a21b0f309ffe2e4dce00c362255d5e615a7afc2140d64f58367c315"), looks := true }, kinds := [], alts := [], laidByText := true, laidKinds := [.data, .data, .data, .sentinel, .sentinel, .data, .data, .data], laidTests := true, laidLooks := .later }
def RulesMoreCardSaid : Prop := Claim7.holds Tryz.pinned (.plain (OpenSpec.ofChange rulesMoreSpec)) rulesMoreCard

/-- THE TIED CARD OF 'paraventlaw12.RulesForms'. -/
def rulesFormsCard : Claim7 := { stood := { row := rulesFormsRow, standIns := [], harness := (true, "a5f74c4d3a21b0f309ffe2e4dce00c362255d5e615a7afc2140d64f58367c315"), looks := true }, kinds := [], alts := [], laidByText := true, laidKinds := [.data, .data, .data, .sentinel, .sentinel, .data, .data, .data], laidTests := true, laidLooks := .later }
def RulesFormsCardSaid : Prop := Claim7.holds Tryz.pinned (.plain (OpenSpec.ofChange rulesFormsSpec)) rulesFormsCard

/-- THE SECOND FORM's CARD OF 'paraventlaw12.RulesChecks'. -/
def rulesChecksUptoCard : Claim7 := { stood := { row := rulesChecksUptoRow, standIns := [], harness := (true, "a5f74c4d3a21b0f309ffe2e4dce00c362255d5e615a7afc2140d64f58367c315"), looks := true }, kinds := [], alts := [], laidByText := true, laidKinds := [.data, .data, .data, .sentinel, .sentinel, .data, .data, .data], laidTests := true, laidLooks := .later }
def RulesChecksUptoCardSaid : Prop := Claim7.holds Tryz.pinned (.plain (OpenSpec.upto rulesChecksSpec)) rulesChecksUptoCard

/-- THE SECOND FORM's CARD OF 'paraventlaw12.RulesReads'. -/
def rulesReadsUptoCard : Claim7 := { stood := { row := rulesReadsUptoRow, standIns := [], harness := (true, "a5f74c4d3a21b0f309ffe2e4dce00c362255d5e615a7afc2140d64f58367c315"), looks := true }, kinds := [], alts := [], laidByText := true, laidKinds := [.data, .data, .data, .sentinel, .sentinel, .data, .data, .data], laidTests := true, laidLooks := .later }
def RulesReadsUptoCardSaid : Prop := Claim7.holds Tryz.pinned (.plain (OpenSpec.upto rulesReadsSpec)) rulesReadsUptoCard

/-- THE SECOND FORM's CARD OF 'paraventlaw12.RulesZooms'. -/
def rulesZoomsUptoCard : Claim7 := { stood := { row := rulesZoomsUptoRow, standIns := [], harness := (true, "a5f74c4d3a21b0f309ffe2e4dce00c362255d5e615a7afc2140d64f58367c315"), looks := true }, kinds := [], alts := [], laidByText := true, laidKinds := [.data, .data, .data, .sentinel, .sentinel, .data, .data, .data], laidTests := true, laidLooks := .later }
def RulesZoomsUptoCardSaid : Prop := Claim7.holds Tryz.pinned (.plain (OpenSpec.upto rulesZoomsSpec)) rulesZoomsUptoCard

/-- THE SECOND FORM's CARD OF 'paraventlaw12.RulesTurned'. -/
def rulesTurnedUptoCard : Claim7 := { stood := { row := rulesTurnedUptoRow, standIns := [], harness := (true, "a5f74c4d3a21b0f309ffe2e4dce00c362255d5e615a7afc2140d64f58367c315"), looks := true }, kinds := [], alts := [], laidByText := true, laidKinds := [.data, .data, .data, .sentinel, .sentinel, .data, .data, .data], laidTests := true, laidLooks := .later }
def RulesTurnedUptoCardSaid : Prop := Claim7.holds Tryz.pinned (.plain (OpenSpec.upto rulesTurnedSpec)) rulesTurnedUptoCard

/-- THE SECOND FORM's CARD OF 'paraventlaw12.RulesMore'. -/
def rulesMoreUptoCard : Claim7 := { stood := { row := rulesMoreUptoRow, standIns := [], harness := (true, "a5f74c4d3a21b0f309ffe2e4dce00c362255d5e615a7afc2140d64f58367c315"), looks := true }, kinds := [], alts := [], laidByText := true, laidKinds := [.data, .data, .data, .sentinel, .sentinel, .data, .data, .data], laidTests := true, laidLooks := .later }
def RulesMoreUptoCardSaid : Prop := Claim7.holds Tryz.pinned (.plain (OpenSpec.upto rulesMoreSpec)) rulesMoreUptoCard

/-- THE SECOND FORM's CARD OF 'paraventlaw12.RulesForms'. -/
def rulesFormsUptoCard : Claim7 := { stood := { row := rulesFormsUptoRow, standIns := [], harness := (true, "a5f74c4d3a21b0f309ffe2e4dce00c362255d5e615a7afc2140d64f58367c315"), looks := true }, kinds := [], alts := [], laidByText := true, laidKinds := [.data, .data, .data, .sentinel, .sentinel, .data, .data, .data], laidTests := true, laidLooks := .later }
def RulesFormsUptoCardSaid : Prop := Claim7.holds Tryz.pinned (.plain (OpenSpec.upto rulesFormsSpec)) rulesFormsUptoCard
end Rows
end Go.Proofs.YtkpmeelbjldcoaaGreatDoor

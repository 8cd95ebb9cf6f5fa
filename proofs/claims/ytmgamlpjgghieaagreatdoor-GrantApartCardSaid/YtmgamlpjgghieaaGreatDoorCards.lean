/-
  DERIVED. GIVEN WITH THE SEED: THE CARDS: each row of YtmgamlpjgghieaaGreatDoorRows.lean that lists a variable, with what it lists TIED to the program's text (the seventh form; the later family's looks); each row that meets fmt, with fmt's text TOLD by the authors' own Lean function (tested against real Go, not proved from fmt's source: count such statements apart). THE CARD IS WHAT COUNTS. Prove the row's statement (the work); the ties are given (YtmgamlpjgghieaaGreatDoorTie.lean); close each card by the builder's one call (the guide's Derived/Test/ToyasCard.lean, 'card_holds'). Laid BY PROGRAM, IN A SANDBOX (cutbox-door.mjs). By AI agents, Wed Nov 11 2026. No macro, syntax, notation, axiom, sorry.
-/
import Derived.Test.YtmgamlpjgghieaaGreatDoorRows
import GoSem.ClaimSeven
namespace Go.Proofs.YtmgamlpjgghieaaGreatDoor
namespace Rows

/-- THE TIED CARD OF 'paraventlaw14.GrantPatches'. -/
def grantPatchesCard : Claim7 := { stood := { row := grantPatchesRow, standIns := [], harness := (true, "83f9d270f8e6facd55cbdf024ff8ff09650ec3b36e3d085aaff23f58661e14fe"), looks := false }, kinds := [], alts := [], laidByText := true, laidKinds := [.data, .data], laidTests := true, laidLooks := .later }
def GrantPatchesCardSaid : Prop := Claim7.holds Tryz.pinned (.plain (OpenSpec.ofChange grantPatchesSpec)) grantPatchesCard

/-- THE TIED CARD OF 'paraventlaw14.GrantZooms'. -/
def grantZoomsCard : Claim7 := { stood := { row := grantZoomsRow, standIns := [], harness := (true, "83f9d270f8e6facd55cbdf024ff8ff09650ec3b36e3d085aaff23f58661e14fe"), looks := false }, kinds := [], alts := [], laidByText := true, laidKinds := [.data, .data], laidTests := true, laidLooks := .later }
def GrantZoomsCardSaid : Prop := Claim7.holds Tryz.pinned (.plain (OpenSpec.ofChange grantZoomsSpec)) grantZoomsCard

/-- THE TIED CARD OF 'paraventlaw14.GrantApart'. -/
def grantApartCard : Claim7 := { stood := { row := grantApartRow, standIns := [], harness := (true, "83f9d270f8e6facd55cbdf024ff8ff09650ec3b36e3d085aaff23f58661e14fe"), looks := false }, kinds := [], alts := [], laidByText := true, laidKinds := [.data, .data], laidTests := true, laidLooks := .later }
def GrantApartCardSaid : Prop := Claim7.holds Tryz.pinned (.plain (OpenSpec.ofChange grantApartSpec)) grantApartCard

/-- THE TIED CARD OF 'paraventlaw14.GrantShapes'. -/
def grantShapesCard : Claim7 := { stood := { row := grantShapesRow, standIns := [], harness := (true, "83f9d270f8e6facd55cbdf024ff8ff09650ec3b36e3d085aaff23f58661e14fe"), looks := false }, kinds := [], alts := [], laidByText := true, laidKinds := [.data, .data], laidTests := true, laidLooks := .later }
def GrantShapesCardSaid : Prop := Claim7.holds Tryz.pinned (.plain (OpenSpec.ofChange grantShapesSpec)) grantShapesCard

/-- THE TIED CARD OF 'paraventlaw14.GrantWithin'. -/
def grantWithinCard : Claim7 := { stood := { row := grantWithinRow, standIns := [], harness := (true, "83f9d270f8e6facd55cbdf024ff8ff09650ec3b36e3d085aaff23f58661e14fe"), looks := false }, kinds := [], alts := [], laidByText := true, laidKinds := [.data, .data], laidTests := true, laidLooks := .later }
def GrantWithinCardSaid : Prop := Claim7.holds Tryz.pinned (.plain (OpenSpec.ofChange grantWithinSpec)) grantWithinCard

/-- THE TIED CARD OF 'paraventlaw14.GrantLevels'. -/
def grantLevelsCard : Claim7 := { stood := { row := grantLevelsRow, standIns := [], harness := (true, "83f9d270f8e6facd55cbdf024ff8ff09650ec3b36e3d085aaff23f58661e14fe"), looks := false }, kinds := [], alts := [], laidByText := true, laidKinds := [.data, .data], laidTests := true, laidLooks := .later }
def GrantLevelsCardSaid : Prop := Claim7.holds Tryz.pinned (.plain (OpenSpec.ofChange grantLevelsSpec)) grantLevelsCard

/-- THE TIED CARD OF 'paraventlaw14.GrantNil'. -/
def grantNilCard : Claim7 := { stood := { row := grantNilRow, standIns := [], harness := (true, "83f9d270f8e6facd55cbdf024ff8ff09650ec3b36e3d085aaff23f58661e14fe"), looks := false }, kinds := [], alts := [], laidByText := true, laidKinds := [.data, .data], laidTests := true, laidLooks := .later }
def GrantNilCardSaid : Prop := Claim7.holds Tryz.pinned (.plain (OpenSpec.ofChange grantNilSpec)) grantNilCard

/-- THE SECOND FORM's CARD OF 'paraventlaw14.GrantPatches'. -/
def grantPatchesUptoCard : Claim7 := { stood := { row := grantPatchesUptoRow, standIns := [], harness := (true, "83f9d270f8e6facd55cbdf024ff8ff09650ec3b36e3d085aaff23f58661e14fe"), looks := false }, kinds := [], alts := [], laidByText := true, laidKinds := [.data, .data], laidTests := true, laidLooks := .later }
def GrantPatchesUptoCardSaid : Prop := Claim7.holds Tryz.pinned (.plain (OpenSpec.upto grantPatchesSpec)) grantPatchesUptoCard

/-- THE SECOND FORM's CARD OF 'paraventlaw14.GrantZooms'. -/
def grantZoomsUptoCard : Claim7 := { stood := { row := grantZoomsUptoRow, standIns := [], harness := (true, "83f9d270f8e6facd55cbdf024ff8ff09650ec3b36e3d085aaff23f58661e14fe"), looks := false }, kinds := [], alts := [], laidByText := true, laidKinds := [.data, .data], laidTests := true, laidLooks := .later }
def GrantZoomsUptoCardSaid : Prop := Claim7.holds Tryz.pinned (.plain (OpenSpec.upto grantZoomsSpec)) grantZoomsUptoCard

/-- THE SECOND FORM's CARD OF 'paraventlaw14.GrantApart'. -/
def grantApartUptoCard : Claim7 := { stood := { row := grantApartUptoRow, standIns := [], harness := (true, "83f9d270f8e6facd55cbdf024ff8ff09650ec3b36e3d085aaff23f58661e14fe"), looks := false }, kinds := [], alts := [], laidByText := true, laidKinds := [.data, .data], laidTests := true, laidLooks := .later }
def GrantApartUptoCardSaid : Prop := Claim7.holds Tryz.pinned (.plain (OpenSpec.upto grantApartSpec)) grantApartUptoCard

/-- THE SECOND FORM's CARD OF 'paraventlaw14.GrantShapes'. -/
def grantShapesUptoCard : Claim7 := { stood := { row := grantShapesUptoRow, standIns := [], harness := (true, "83f9d270f8e6facd55cbdf024ff8ff09650ec3b36e3d085aaff23f58661e14fe"), looks := false }, kinds := [], alts := [], laidByText := true, laidKinds := [.data, .data], laidTests := true, laidLooks := .later }
def GrantShapesUptoCardSaid : Prop := Claim7.holds Tryz.pinned (.plain (OpenSpec.upto grantShapesSpec)) grantShapesUptoCard

/-- THE SECOND FORM's CARD OF 'paraventlaw14.GrantWithin'. -/
def grantWithinUptoCard : Claim7 := { stood := { row := grantWithinUptoRow, standIns := [], harness := (true, "83f9d270f8e6facd55cbdf024ff8ff09650ec3b36e3d085aaff23f58661e14fe"), looks := false }, kinds := [], alts := [], laidByText := true, laidKinds := [.data, .data], laidTests := true, laidLooks := .later }
def GrantWithinUptoCardSaid : Prop := Claim7.holds Tryz.pinned (.plain (OpenSpec.upto grantWithinSpec)) grantWithinUptoCard

/-- THE SECOND FORM's CARD OF 'paraventlaw14.GrantLevels'. -/
def grantLevelsUptoCard : Claim7 := { stood := { row := grantLevelsUptoRow, standIns := [], harness := (true, "83f9d270f8e6facd55cbdf024ff8ff09650ec3b36e3d085aaff23f58661e14fe"), looks := false }, kinds := [], alts := [], laidByText := true, laidKinds := [.data, .data], laidTests := true, laidLooks := .later }
def GrantLevelsUptoCardSaid : Prop := Claim7.holds Tryz.pinned (.plain (OpenSpec.upto grantLevelsSpec)) grantLevelsUptoCard

/-- THE SECOND FORM's CARD OF 'paraventlaw14.GrantNil'. -/
def grantNilUptoCard : Claim7 := { stood := { row := grantNilUptoRow, standIns := [], harness := (true, "83f9d270f8e6facd55cbdf024ff8ff09650ec3b36e3d085aaff23f58661e14fe"), looks := false }, kinds := [], alts := [], laidByText := true, laidKinds := [.data, .data], laidTests := true, laidLooks := .later }
def GrantNilUptoCardSaid : Prop := Claim7.holds Tryz.pinned (.plain (OpenSpec.upto grantNilSpec)) grantNilUptoCard
end Rows
end Go.Proofs.YtmgamlpjgghieaaGreatDoor

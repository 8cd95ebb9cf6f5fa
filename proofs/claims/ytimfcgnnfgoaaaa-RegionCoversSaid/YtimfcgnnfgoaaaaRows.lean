/-
  No cell of these rows narrows 'for every input' (looked for: loops, veiled, ifaces, maps, wideKeys, modest, calm, conditions, laid).
  DERIVED. THE GIVEN ROWS OF THIS SEAT. 6 by the template 'for every input the law returns true; each argument reads behind the call as it read before'; 0 by the template 'total and deterministic' (their statements: YtimfcgnnfgoaaaaTotals.lean).
  GIVEN WITH THE SEED: the statements are not yours to turn. If you find one false, say at which input.
  Laid BY PROGRAM, IN A SANDBOX (cutbox-rows.mjs): the forced cells as the released guide's own fill.sh prints them over the translation 734fc6ba7b51b485… (all of the seat's roots in one cut). By AI agents, Wed Nov 11 2026. No macro, syntax, notation, axiom, sorry.
-/
import Derived.Test.YtimfcgnnfgoaaaaChecked
import GoSem.Claim
import GoSem.ClaimJoined
import GoSem.ClaimMapViews
import Derived.JoinedTies
import Derived.KernelRfl
namespace Go.Proofs.Ytimfcgnnfgoaaaa
/- THE CELL 'sum', in the pinned program and in every row, IS THE sha256 OF THE DUMP (.gsa) THAT YtimfcgnnfgoaaaaProg.lean LOADS. Nothing in Lean hashes anything: it is a label: what it is worth is what the hold of that sum in a sandbox is worth. -/
noncomputable def Try.pinned : Pinned := { name := "ytimfcgnnfgoaaaa", sum := "734fc6ba7b51b4852c3c6459ea9e88c8c7b5e23b89ca70b2c3867358a4d7db66", checked := Try.checked }
namespace Rows
def none {H : Type} : Left H := { results := [], args := [] }

/-- 'paraventlaw13.RegionForms': WHATEVER THE INPUT: true; the input reads as it did. -/
def regionFormsSpec : ChangeSpec := { name := "regionForms", fn := fun _ => fun
  | [d1, d2] => { results := [.lit (.bool true)], args := [d1, d2] }
  | _ => none }
def regionFormsRow : OpenClaim := { program := "ytimfcgnnfgoaaaa", sum := "734fc6ba7b51b4852c3c6459ea9e88c8c7b5e23b89ca70b2c3867358a4d7db66", func := "paravent/paraventlaw13.RegionForms", spec := "regionForms", unfollowed := true, recurses := true, apart := false }
def RegionFormsSaid : Prop := regionFormsRow.holds Try.pinned (OpenSpec.ofChange regionFormsSpec)

/-- ITS FALSE NEIGHBOUR: 'it returns false'. Refute it at one input. -/
def regionFormsWrong : ChangeSpec := { name := "regionForms", fn := fun _ => fun
  | [d1, d2] => { results := [.lit (.bool false)], args := [d1, d2] }
  | _ => none }
def RegionFormsWrongFalsely : Prop := regionFormsRow.holds Try.pinned (OpenSpec.ofChange regionFormsWrong)

/-- 'paraventlaw13.RegionPoints': WHATEVER THE INPUT: true; the input reads as it did. -/
def regionPointsSpec : ChangeSpec := { name := "regionPoints", fn := fun _ => fun
  | [d1, d2, d3] => { results := [.lit (.bool true)], args := [d1, d2, d3] }
  | _ => none }
def regionPointsRow : OpenClaim := { program := "ytimfcgnnfgoaaaa", sum := "734fc6ba7b51b4852c3c6459ea9e88c8c7b5e23b89ca70b2c3867358a4d7db66", func := "paravent/paraventlaw13.RegionPoints", spec := "regionPoints", unfollowed := true, recurses := true, apart := false }
def RegionPointsSaid : Prop := regionPointsRow.holds Try.pinned (OpenSpec.ofChange regionPointsSpec)

/-- ITS FALSE NEIGHBOUR: 'it returns false'. Refute it at one input. -/
def regionPointsWrong : ChangeSpec := { name := "regionPoints", fn := fun _ => fun
  | [d1, d2, d3] => { results := [.lit (.bool false)], args := [d1, d2, d3] }
  | _ => none }
def RegionPointsWrongFalsely : Prop := regionPointsRow.holds Try.pinned (OpenSpec.ofChange regionPointsWrong)

/-- 'paraventlaw13.RegionApart': WHATEVER THE INPUT: true; the input reads as it did. -/
def regionApartSpec : ChangeSpec := { name := "regionApart", fn := fun _ => fun
  | [d] => { results := [.lit (.bool true)], args := [d] }
  | _ => none }
def regionApartRow : OpenClaim := { program := "ytimfcgnnfgoaaaa", sum := "734fc6ba7b51b4852c3c6459ea9e88c8c7b5e23b89ca70b2c3867358a4d7db66", func := "paravent/paraventlaw13.RegionApart", spec := "regionApart", unfollowed := true, recurses := true, apart := false }
def RegionApartSaid : Prop := regionApartRow.holds Try.pinned (OpenSpec.ofChange regionApartSpec)

/-- ITS FALSE NEIGHBOUR: 'it returns false'. Refute it at one input. -/
def regionApartWrong : ChangeSpec := { name := "regionApart", fn := fun _ => fun
  | [d] => { results := [.lit (.bool false)], args := [d] }
  | _ => none }
def RegionApartWrongFalsely : Prop := regionApartRow.holds Try.pinned (OpenSpec.ofChange regionApartWrong)

/-- 'paraventlaw13.RegionTurned': WHATEVER THE INPUT: true; the input reads as it did. -/
def regionTurnedSpec : ChangeSpec := { name := "regionTurned", fn := fun _ => fun
  | [d1, d2] => { results := [.lit (.bool true)], args := [d1, d2] }
  | _ => none }
def regionTurnedRow : OpenClaim := { program := "ytimfcgnnfgoaaaa", sum := "734fc6ba7b51b4852c3c6459ea9e88c8c7b5e23b89ca70b2c3867358a4d7db66", func := "paravent/paraventlaw13.RegionTurned", spec := "regionTurned", unfollowed := true, recurses := true, apart := false }
def RegionTurnedSaid : Prop := regionTurnedRow.holds Try.pinned (OpenSpec.ofChange regionTurnedSpec)

/-- ITS FALSE NEIGHBOUR: 'it returns false'. Refute it at one input. -/
def regionTurnedWrong : ChangeSpec := { name := "regionTurned", fn := fun _ => fun
  | [d1, d2] => { results := [.lit (.bool false)], args := [d1, d2] }
  | _ => none }
def RegionTurnedWrongFalsely : Prop := regionTurnedRow.holds Try.pinned (OpenSpec.ofChange regionTurnedWrong)

/-- 'paraventlaw13.RegionAreas': WHATEVER THE INPUT: true; the input reads as it did. -/
def regionAreasSpec : ChangeSpec := { name := "regionAreas", fn := fun _ => fun
  | [d1, d2] => { results := [.lit (.bool true)], args := [d1, d2] }
  | _ => none }
def regionAreasRow : OpenClaim := { program := "ytimfcgnnfgoaaaa", sum := "734fc6ba7b51b4852c3c6459ea9e88c8c7b5e23b89ca70b2c3867358a4d7db66", func := "paravent/paraventlaw13.RegionAreas", spec := "regionAreas", unfollowed := true, recurses := true, apart := false }
def RegionAreasSaid : Prop := regionAreasRow.holds Try.pinned (OpenSpec.ofChange regionAreasSpec)

/-- ITS FALSE NEIGHBOUR: 'it returns false'. Refute it at one input. -/
def regionAreasWrong : ChangeSpec := { name := "regionAreas", fn := fun _ => fun
  | [d1, d2] => { results := [.lit (.bool false)], args := [d1, d2] }
  | _ => none }
def RegionAreasWrongFalsely : Prop := regionAreasRow.holds Try.pinned (OpenSpec.ofChange regionAreasWrong)

/-- 'paraventlaw13.RegionCovers': WHATEVER THE INPUT: true; the input reads as it did. -/
def regionCoversSpec : ChangeSpec := { name := "regionCovers", fn := fun _ => fun
  | [d1, d2] => { results := [.lit (.bool true)], args := [d1, d2] }
  | _ => none }
def regionCoversRow : OpenClaim := { program := "ytimfcgnnfgoaaaa", sum := "734fc6ba7b51b4852c3c6459ea9e88c8c7b5e23b89ca70b2c3867358a4d7db66", func := "paravent/paraventlaw13.RegionCovers", spec := "regionCovers", unfollowed := true, recurses := true, apart := false }
def RegionCoversSaid : Prop := regionCoversRow.holds Try.pinned (OpenSpec.ofChange regionCoversSpec)

/-- ITS FALSE NEIGHBOUR: 'it returns false'. Refute it at one input. -/
def regionCoversWrong : ChangeSpec := { name := "regionCovers", fn := fun _ => fun
  | [d1, d2] => { results := [.lit (.bool false)], args := [d1, d2] }
  | _ => none }
def RegionCoversWrongFalsely : Prop := regionCoversRow.holds Try.pinned (OpenSpec.ofChange regionCoversWrong)

/- THE SECOND FORM. 'bulk': how many values and letters a reading holds, each counted each time it is reached (what is shared counts as often as it is met; a slice's spare places count too). A statement '..UptoSaid' is the law's where the arguments, and the package variables that the reading takes, are together of bulk at most 1048576: NARROWER than '..Said'. Prove '..Said' where nothing that the law and all that it calls make is longer than what came in: it says more and counts as full. Else prove '..UptoSaid'. A law counts once. -/
mutual
def uptoBulk {H : Type} : DataW H → Nat
  | .lit (.string bytes) => bytes.length + 1
  | .lit _ => 1
  | .nil => 1
  | .ptr d => uptoBulk d + 1
  | .slice elems spare => uptoBulkAll elems + uptoBulkAll spare + 1
  | .agg parts => uptoBulkAll parts + 1
  | .iface _ d => uptoBulk d + 1
  | .map entries => uptoBulkEntries entries + 1
  | .held _ => 1
def uptoBulkAll {H : Type} : List (DataW H) → Nat
  | [] => 0
  | d :: r => uptoBulk d + uptoBulkAll r
def uptoBulkEntries {H : Type} : List (Lit × DataW H) → Nat
  | [] => 0
  | x :: r => uptoBulkEntry x + uptoBulkEntries r
def uptoBulkEntry {H : Type} : Lit × DataW H → Nat
  | (.string bytes, d) => bytes.length + uptoBulk d + 1
  | (_, d) => uptoBulk d + 1
 end
def uptoSmall : (H : Type) → List (DataW H) → Bool := fun _ ds => decide (uptoBulkAll ds ≤ 1048576)
def OpenSpec.upto (s : _root_.Go.ChangeSpec) : _root_.Go.OpenSpec := { _root_.Go.OpenSpec.ofChange s with cond := some uptoSmall }

/-- 'paraventlaw13.RegionForms', WHERE WHAT IT READS IS OF BULK AT MOST 1048576: true; the input reads as it did. -/
def regionFormsUptoRow : OpenClaim := { program := "ytimfcgnnfgoaaaa", sum := "734fc6ba7b51b4852c3c6459ea9e88c8c7b5e23b89ca70b2c3867358a4d7db66", func := "paravent/paraventlaw13.RegionForms", spec := "regionForms", unfollowed := true, recurses := true, apart := false, narrowed := true }
def RegionFormsUptoSaid : Prop := regionFormsUptoRow.holds Try.pinned (OpenSpec.upto regionFormsSpec)

/-- 'paraventlaw13.RegionPoints', WHERE WHAT IT READS IS OF BULK AT MOST 1048576: true; the input reads as it did. -/
def regionPointsUptoRow : OpenClaim := { program := "ytimfcgnnfgoaaaa", sum := "734fc6ba7b51b4852c3c6459ea9e88c8c7b5e23b89ca70b2c3867358a4d7db66", func := "paravent/paraventlaw13.RegionPoints", spec := "regionPoints", unfollowed := true, recurses := true, apart := false, narrowed := true }
def RegionPointsUptoSaid : Prop := regionPointsUptoRow.holds Try.pinned (OpenSpec.upto regionPointsSpec)

/-- 'paraventlaw13.RegionApart', WHERE WHAT IT READS IS OF BULK AT MOST 1048576: true; the input reads as it did. -/
def regionApartUptoRow : OpenClaim := { program := "ytimfcgnnfgoaaaa", sum := "734fc6ba7b51b4852c3c6459ea9e88c8c7b5e23b89ca70b2c3867358a4d7db66", func := "paravent/paraventlaw13.RegionApart", spec := "regionApart", unfollowed := true, recurses := true, apart := false, narrowed := true }
def RegionApartUptoSaid : Prop := regionApartUptoRow.holds Try.pinned (OpenSpec.upto regionApartSpec)

/-- 'paraventlaw13.RegionTurned', WHERE WHAT IT READS IS OF BULK AT MOST 1048576: true; the input reads as it did. -/
def regionTurnedUptoRow : OpenClaim := { program := "ytimfcgnnfgoaaaa", sum := "734fc6ba7b51b4852c3c6459ea9e88c8c7b5e23b89ca70b2c3867358a4d7db66", func := "paravent/paraventlaw13.RegionTurned", spec := "regionTurned", unfollowed := true, recurses := true, apart := false, narrowed := true }
def RegionTurnedUptoSaid : Prop := regionTurnedUptoRow.holds Try.pinned (OpenSpec.upto regionTurnedSpec)

/-- 'paraventlaw13.RegionAreas', WHERE WHAT IT READS IS OF BULK AT MOST 1048576: true; the input reads as it did. -/
def regionAreasUptoRow : OpenClaim := { program := "ytimfcgnnfgoaaaa", sum := "734fc6ba7b51b4852c3c6459ea9e88c8c7b5e23b89ca70b2c3867358a4d7db66", func := "paravent/paraventlaw13.RegionAreas", spec := "regionAreas", unfollowed := true, recurses := true, apart := false, narrowed := true }
def RegionAreasUptoSaid : Prop := regionAreasUptoRow.holds Try.pinned (OpenSpec.upto regionAreasSpec)

/-- 'paraventlaw13.RegionCovers', WHERE WHAT IT READS IS OF BULK AT MOST 1048576: true; the input reads as it did. -/
def regionCoversUptoRow : OpenClaim := { program := "ytimfcgnnfgoaaaa", sum := "734fc6ba7b51b4852c3c6459ea9e88c8c7b5e23b89ca70b2c3867358a4d7db66", func := "paravent/paraventlaw13.RegionCovers", spec := "regionCovers", unfollowed := true, recurses := true, apart := false, narrowed := true }
def RegionCoversUptoSaid : Prop := regionCoversUptoRow.holds Try.pinned (OpenSpec.upto regionCoversSpec)

end Rows
end Go.Proofs.Ytimfcgnnfgoaaaa

/-
  No cell of these rows narrows 'for every input' (looked for: loops, veiled, ifaces, maps, wideKeys, modest, calm, conditions, laid).
  DERIVED. THE GIVEN ROWS OF THIS SEAT. 7 by the template 'for every input the law returns true; each argument reads behind the call as it read before'; 0 by the template 'total and deterministic' (their statements: YtmlmndaflgfdkaaTotals.lean).
  GIVEN WITH THE SEED: the statements are not yours to turn. If you find one false, say at which input.
  Laid BY PROGRAM, IN A SANDBOX (cutbox-rows.mjs): the forced cells as the released guide's own fill.sh prints them over the translation b83256ca45f41c4a… (all of the seat's roots in one cut). By AI agents, Wed Nov 11 2026. No macro, syntax, notation, axiom, sorry.
-/
import Derived.Test.YtmlmndaflgfdkaaChecked
import GoSem.Claim
import GoSem.ClaimJoined
import GoSem.ClaimMapViews
import Derived.JoinedTies
import Derived.KernelRfl
namespace Go.Proofs.Ytmlmndaflgfdkaa
/- THE CELL 'sum', in the pinned program and in every row, IS THE sha256 OF THE DUMP (.gsa) THAT YtmlmndaflgfdkaaProg.lean LOADS. Nothing in Lean hashes anything: it is a label: what it is worth is what the hold of that sum in a sandbox is worth. -/
noncomputable def Try.pinned : Pinned := { name := "ytmlmndaflgfdkaa", sum := "b83256ca45f41c4afb970a403f26b5ed13f728bfa3cd991d825f0059d139812d", checked := Try.checked }
namespace Rows
def none {H : Type} : Left H := { results := [], args := [] }

/-- 'paraventlaw16.TokenPlays': WHATEVER THE INPUT: true; the input reads as it did. -/
def tokenPlaysSpec : ChangeSpec := { name := "tokenPlays", fn := fun _ => fun
  | [d] => { results := [.lit (.bool true)], args := [d] }
  | _ => none }
def tokenPlaysRow : OpenClaim := { program := "ytmlmndaflgfdkaa", sum := "b83256ca45f41c4afb970a403f26b5ed13f728bfa3cd991d825f0059d139812d", func := "paravent/paraventlaw16.TokenPlays", spec := "tokenPlays", unfollowed := true, recurses := true, apart := false }
def TokenPlaysSaid : Prop := tokenPlaysRow.holds Try.pinned (OpenSpec.ofChange tokenPlaysSpec)

/-- ITS FALSE NEIGHBOUR: 'it returns false'. Refute it at one input. -/
def tokenPlaysWrong : ChangeSpec := { name := "tokenPlays", fn := fun _ => fun
  | [d] => { results := [.lit (.bool false)], args := [d] }
  | _ => none }
def TokenPlaysWrongFalsely : Prop := tokenPlaysRow.holds Try.pinned (OpenSpec.ofChange tokenPlaysWrong)

/-- 'paraventlaw16.TokenMeets': WHATEVER THE INPUT: true; the input reads as it did. -/
def tokenMeetsSpec : ChangeSpec := { name := "tokenMeets", fn := fun _ => fun
  | [d1, d2, d3] => { results := [.lit (.bool true)], args := [d1, d2, d3] }
  | _ => none }
def tokenMeetsRow : OpenClaim := { program := "ytmlmndaflgfdkaa", sum := "b83256ca45f41c4afb970a403f26b5ed13f728bfa3cd991d825f0059d139812d", func := "paravent/paraventlaw16.TokenMeets", spec := "tokenMeets", unfollowed := true, recurses := true, apart := false }
def TokenMeetsSaid : Prop := tokenMeetsRow.holds Try.pinned (OpenSpec.ofChange tokenMeetsSpec)

/-- ITS FALSE NEIGHBOUR: 'it returns false'. Refute it at one input. -/
def tokenMeetsWrong : ChangeSpec := { name := "tokenMeets", fn := fun _ => fun
  | [d1, d2, d3] => { results := [.lit (.bool false)], args := [d1, d2, d3] }
  | _ => none }
def TokenMeetsWrongFalsely : Prop := tokenMeetsRow.holds Try.pinned (OpenSpec.ofChange tokenMeetsWrong)

/-- 'paraventlaw16.TokenNarrows': WHATEVER THE INPUT: true; the input reads as it did. -/
def tokenNarrowsSpec : ChangeSpec := { name := "tokenNarrows", fn := fun _ => fun
  | [d1, d2] => { results := [.lit (.bool true)], args := [d1, d2] }
  | _ => none }
def tokenNarrowsRow : OpenClaim := { program := "ytmlmndaflgfdkaa", sum := "b83256ca45f41c4afb970a403f26b5ed13f728bfa3cd991d825f0059d139812d", func := "paravent/paraventlaw16.TokenNarrows", spec := "tokenNarrows", unfollowed := true, recurses := true, apart := false }
def TokenNarrowsSaid : Prop := tokenNarrowsRow.holds Try.pinned (OpenSpec.ofChange tokenNarrowsSpec)

/-- ITS FALSE NEIGHBOUR: 'it returns false'. Refute it at one input. -/
def tokenNarrowsWrong : ChangeSpec := { name := "tokenNarrows", fn := fun _ => fun
  | [d1, d2] => { results := [.lit (.bool false)], args := [d1, d2] }
  | _ => none }
def TokenNarrowsWrongFalsely : Prop := tokenNarrowsRow.holds Try.pinned (OpenSpec.ofChange tokenNarrowsWrong)

/-- 'paraventlaw16.TokenRevokes': WHATEVER THE INPUT: true; the input reads as it did. -/
def tokenRevokesSpec : ChangeSpec := { name := "tokenRevokes", fn := fun _ => fun
  | [d1, d2, d3] => { results := [.lit (.bool true)], args := [d1, d2, d3] }
  | _ => none }
def tokenRevokesRow : OpenClaim := { program := "ytmlmndaflgfdkaa", sum := "b83256ca45f41c4afb970a403f26b5ed13f728bfa3cd991d825f0059d139812d", func := "paravent/paraventlaw16.TokenRevokes", spec := "tokenRevokes", unfollowed := true, recurses := true, apart := false }
def TokenRevokesSaid : Prop := tokenRevokesRow.holds Try.pinned (OpenSpec.ofChange tokenRevokesSpec)

/-- ITS FALSE NEIGHBOUR: 'it returns false'. Refute it at one input. -/
def tokenRevokesWrong : ChangeSpec := { name := "tokenRevokes", fn := fun _ => fun
  | [d1, d2, d3] => { results := [.lit (.bool false)], args := [d1, d2, d3] }
  | _ => none }
def TokenRevokesWrongFalsely : Prop := tokenRevokesRow.holds Try.pinned (OpenSpec.ofChange tokenRevokesWrong)

/-- 'paraventlaw16.TokenEnds': WHATEVER THE INPUT: true; the input reads as it did. -/
def tokenEndsSpec : ChangeSpec := { name := "tokenEnds", fn := fun _ => fun
  | [d1, d2, d3] => { results := [.lit (.bool true)], args := [d1, d2, d3] }
  | _ => none }
def tokenEndsRow : OpenClaim := { program := "ytmlmndaflgfdkaa", sum := "b83256ca45f41c4afb970a403f26b5ed13f728bfa3cd991d825f0059d139812d", func := "paravent/paraventlaw16.TokenEnds", spec := "tokenEnds", unfollowed := true, recurses := true, apart := false }
def TokenEndsSaid : Prop := tokenEndsRow.holds Try.pinned (OpenSpec.ofChange tokenEndsSpec)

/-- ITS FALSE NEIGHBOUR: 'it returns false'. Refute it at one input. -/
def tokenEndsWrong : ChangeSpec := { name := "tokenEnds", fn := fun _ => fun
  | [d1, d2, d3] => { results := [.lit (.bool false)], args := [d1, d2, d3] }
  | _ => none }
def TokenEndsWrongFalsely : Prop := tokenEndsRow.holds Try.pinned (OpenSpec.ofChange tokenEndsWrong)

/-- 'paraventlaw16.TokenFrom': WHATEVER THE INPUT: true; the input reads as it did. -/
def tokenFromSpec : ChangeSpec := { name := "tokenFrom", fn := fun _ => fun
  | [d1, d2, d3] => { results := [.lit (.bool true)], args := [d1, d2, d3] }
  | _ => none }
def tokenFromRow : OpenClaim := { program := "ytmlmndaflgfdkaa", sum := "b83256ca45f41c4afb970a403f26b5ed13f728bfa3cd991d825f0059d139812d", func := "paravent/paraventlaw16.TokenFrom", spec := "tokenFrom", unfollowed := true, recurses := true, apart := false }
def TokenFromSaid : Prop := tokenFromRow.holds Try.pinned (OpenSpec.ofChange tokenFromSpec)

/-- ITS FALSE NEIGHBOUR: 'it returns false'. Refute it at one input. -/
def tokenFromWrong : ChangeSpec := { name := "tokenFrom", fn := fun _ => fun
  | [d1, d2, d3] => { results := [.lit (.bool false)], args := [d1, d2, d3] }
  | _ => none }
def TokenFromWrongFalsely : Prop := tokenFromRow.holds Try.pinned (OpenSpec.ofChange tokenFromWrong)

/-- 'paraventlaw16.TokenNil': WHATEVER THE INPUT: true; the input reads as it did. -/
def tokenNilSpec : ChangeSpec := { name := "tokenNil", fn := fun _ => fun
  | [d] => { results := [.lit (.bool true)], args := [d] }
  | _ => none }
def tokenNilRow : OpenClaim := { program := "ytmlmndaflgfdkaa", sum := "b83256ca45f41c4afb970a403f26b5ed13f728bfa3cd991d825f0059d139812d", func := "paravent/paraventlaw16.TokenNil", spec := "tokenNil", unfollowed := true, recurses := true, apart := false }
def TokenNilSaid : Prop := tokenNilRow.holds Try.pinned (OpenSpec.ofChange tokenNilSpec)

/-- ITS FALSE NEIGHBOUR: 'it returns false'. Refute it at one input. -/
def tokenNilWrong : ChangeSpec := { name := "tokenNil", fn := fun _ => fun
  | [d] => { results := [.lit (.bool false)], args := [d] }
  | _ => none }
def TokenNilWrongFalsely : Prop := tokenNilRow.holds Try.pinned (OpenSpec.ofChange tokenNilWrong)

/- THE SECOND FORM. 'bulk': how many values and letters a reading holds, each counted each time it is reached (what is shared counts as often as it is met; a slice's spare places count too). A statement '..UptoSaid' is the law's where the arguments, and the package variables that the reading takes, are together of bulk at most 1048576: NARROWER than '..Said'. Prove '..Said' where nothing that the law and all that it calls make is longer than what came in: it says more and counts as full. Else prove '..UptoSaid'. A law counts once. -/
mutual
def uptoBulk {H : Type} : DataW H → Nat
  | .lit (.string bytes) => bytes.length + 1
  | .lit _ => 1
  | .nil => 1
  | .ptr d => uptoBulk d + 1
  | .slice elems spare => uptoBulkAll elems + uptoBulkAll spare + 1
  | .agg parts => uptoBulkAll parts + 1
  | .iface _ d => uptoBulk d + 1
  | .map entries => uptoBulkEntries entries + 1
  | .held _ => 1
def uptoBulkAll {H : Type} : List (DataW H) → Nat
  | [] => 0
  | d :: r => uptoBulk d + uptoBulkAll r
def uptoBulkEntries {H : Type} : List (Lit × DataW H) → Nat
  | [] => 0
  | x :: r => uptoBulkEntry x + uptoBulkEntries r
def uptoBulkEntry {H : Type} : Lit × DataW H → Nat
  | (.string bytes, d) => bytes.length + uptoBulk d + 1
  | (_, d) => uptoBulk d + 1
 end
def uptoSmall : (H : Type) → List (DataW H) → Bool := fun _ ds => decide (uptoBulkAll ds ≤ 1048576)
def OpenSpec.upto (s : _root_.Go.ChangeSpec) : _root_.Go.OpenSpec := { _root_.Go.OpenSpec.ofChange s with cond := some uptoSmall }

/-- 'paraventlaw16.TokenPlays', WHERE WHAT IT READS IS OF BULK AT MOST 1048576: true; the input reads as it did. -/
def tokenPlaysUptoRow : OpenClaim := { program := "ytmlmndaflgfdkaa", sum := "b83256ca45f41c4afb970a403f26b5ed13f728bfa3cd991d825f0059d139812d", func := "paravent/paraventlaw16.TokenPlays", spec := "tokenPlays", unfollowed := true, recurses := true, apart := false, narrowed := true }
def TokenPlaysUptoSaid : Prop := tokenPlaysUptoRow.holds Try.pinned (OpenSpec.upto tokenPlaysSpec)

/-- 'paraventlaw16.TokenMeets', WHERE WHAT IT READS IS OF BULK AT MOST 1048576: true; the input reads as it did. -/
def tokenMeetsUptoRow : OpenClaim := { program := "ytmlmndaflgfdkaa", sum := "b83256ca45f41c4afb970a403f26b5ed13f728bfa3cd991d825f0059d139812d", func := "paravent/paraventlaw16.TokenMeets", spec := "tokenMeets", unfollowed := true, recurses := true, apart := false, narrowed := true }
def TokenMeetsUptoSaid : Prop := tokenMeetsUptoRow.holds Try.pinned (OpenSpec.upto tokenMeetsSpec)

/-- 'paraventlaw16.TokenNarrows', WHERE WHAT IT READS IS OF BULK AT MOST 1048576: true; the input reads as it did. -/
def tokenNarrowsUptoRow : OpenClaim := { program := "ytmlmndaflgfdkaa", sum := "b83256ca45f41c4afb970a403f26b5ed13f728bfa3cd991d825f0059d139812d", func := "paravent/paraventlaw16.TokenNarrows", spec := "tokenNarrows", unfollowed := true, recurses := true, apart := false, narrowed := true }
def TokenNarrowsUptoSaid : Prop := tokenNarrowsUptoRow.holds Try.pinned (OpenSpec.upto tokenNarrowsSpec)

/-- 'paraventlaw16.TokenRevokes', WHERE WHAT IT READS IS OF BULK AT MOST 1048576: true; the input reads as it did. -/
def tokenRevokesUptoRow : OpenClaim := { program := "ytmlmndaflgfdkaa", sum := "b83256ca45f41c4afb970a403f26b5ed13f728bfa3cd991d825f0059d139812d", func := "paravent/paraventlaw16.TokenRevokes", spec := "tokenRevokes", unfollowed := true, recurses := true, apart := false, narrowed := true }
def TokenRevokesUptoSaid : Prop := tokenRevokesUptoRow.holds Try.pinned (OpenSpec.upto tokenRevokesSpec)

/-- 'paraventlaw16.TokenEnds', WHERE WHAT IT READS IS OF BULK AT MOST 1048576: true; the input reads as it did. -/
def tokenEndsUptoRow : OpenClaim := { program := "ytmlmndaflgfdkaa", sum := "b83256ca45f41c4afb970a403f26b5ed13f728bfa3cd991d825f0059d139812d", func := "paravent/paraventlaw16.TokenEnds", spec := "tokenEnds", unfollowed := true, recurses := true, apart := false, narrowed := true }
def TokenEndsUptoSaid : Prop := tokenEndsUptoRow.holds Try.pinned (OpenSpec.upto tokenEndsSpec)

/-- 'paraventlaw16.TokenFrom', WHERE WHAT IT READS IS OF BULK AT MOST 1048576: true; the input reads as it did. -/
def tokenFromUptoRow : OpenClaim := { program := "ytmlmndaflgfdkaa", sum := "b83256ca45f41c4afb970a403f26b5ed13f728bfa3cd991d825f0059d139812d", func := "paravent/paraventlaw16.TokenFrom", spec := "tokenFrom", unfollowed := true, recurses := true, apart := false, narrowed := true }
def TokenFromUptoSaid : Prop := tokenFromUptoRow.holds Try.pinned (OpenSpec.upto tokenFromSpec)

/-- 'paraventlaw16.TokenNil', WHERE WHAT IT READS IS OF BULK AT MOST 1048576: true; the input reads as it did. -/
def tokenNilUptoRow : OpenClaim := { program := "ytmlmndaflgfdkaa", sum := "b83256ca45f41c4afb970a403f26b5ed13f728bfa3cd991d825f0059d139812d", func := "paravent/paraventlaw16.TokenNil", spec := "tokenNil", unfollowed := true, recurses := true, apart := false, narrowed := true }
def TokenNilUptoSaid : Prop := tokenNilUptoRow.holds Try.pinned (OpenSpec.upto tokenNilSpec)

end Rows
end Go.Proofs.Ytmlmndaflgfdkaa

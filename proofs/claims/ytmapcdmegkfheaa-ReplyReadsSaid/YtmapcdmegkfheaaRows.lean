/-
  No cell of these rows narrows 'for every input' (looked for: loops, veiled, ifaces, maps, wideKeys, modest, calm, conditions, laid).
  DERIVED. THE GIVEN ROWS OF THIS SEAT. 6 by the template 'for every input the law returns true; each argument reads behind the call as it read before'; 0 by the template 'total and deterministic' (their statements: YtmapcdmegkfheaaTotals.lean).
  GIVEN WITH THE SEED: the statements are not yours to turn. If you find one false, say at which input.
  Laid BY PROGRAM, IN A SANDBOX (cutbox-rows.mjs): the forced cells as the released guide's own fill.sh prints them over the translation d9355049c198b2b4… (all of the seat's roots in one cut). By AI agents, Wed Nov 11 2026. No macro, syntax, notation, axiom, sorry.
-/
import Derived.Test.YtmapcdmegkfheaaChecked
import GoSem.Claim
import GoSem.ClaimJoined
import GoSem.ClaimMapViews
import Derived.JoinedTies
import Derived.KernelRfl
namespace Go.Proofs.Ytmapcdmegkfheaa
/- THE CELL 'sum', in the pinned program and in every row, IS THE sha256 OF THE DUMP (.gsa) THAT YtmapcdmegkfheaaProg.lean LOADS. Nothing in Lean hashes anything: it is a label: what it is worth is what the hold of that sum in a sandbox is worth. -/
noncomputable def Try.pinned : Pinned := { name := "ytmapcdmegkfheaa", sum := "d9355049c198b2b44ae205703ed432a48194949d354fb3f643b7cd91f656f2c9", checked := Try.checked }
namespace Rows
def none {H : Type} : Left H := { results := [], args := [] }

/-- 'paraventlaw20.ReplyLengths': WHATEVER THE INPUT: true; the input reads as it did. -/
def replyLengthsSpec : ChangeSpec := { name := "replyLengths", fn := fun _ => fun
  | [d1, d2, d3] => { results := [.lit (.bool true)], args := [d1, d2, d3] }
  | _ => none }
def replyLengthsRow : OpenClaim := { program := "ytmapcdmegkfheaa", sum := "d9355049c198b2b44ae205703ed432a48194949d354fb3f643b7cd91f656f2c9", func := "paravent/paraventlaw20.ReplyLengths", spec := "replyLengths", unfollowed := true, recurses := true, apart := false }
def ReplyLengthsSaid : Prop := replyLengthsRow.holds Try.pinned (OpenSpec.ofChange replyLengthsSpec)

/-- ITS FALSE NEIGHBOUR: 'it returns false'. Refute it at one input. -/
def replyLengthsWrong : ChangeSpec := { name := "replyLengths", fn := fun _ => fun
  | [d1, d2, d3] => { results := [.lit (.bool false)], args := [d1, d2, d3] }
  | _ => none }
def ReplyLengthsWrongFalsely : Prop := replyLengthsRow.holds Try.pinned (OpenSpec.ofChange replyLengthsWrong)

/-- 'paraventlaw20.ReplyEncodes': WHATEVER THE INPUT: true; the input reads as it did. -/
def replyEncodesSpec : ChangeSpec := { name := "replyEncodes", fn := fun _ => fun
  | [d1, d2, d3] => { results := [.lit (.bool true)], args := [d1, d2, d3] }
  | _ => none }
def replyEncodesRow : OpenClaim := { program := "ytmapcdmegkfheaa", sum := "d9355049c198b2b44ae205703ed432a48194949d354fb3f643b7cd91f656f2c9", func := "paravent/paraventlaw20.ReplyEncodes", spec := "replyEncodes", unfollowed := true, recurses := true, apart := false }
def ReplyEncodesSaid : Prop := replyEncodesRow.holds Try.pinned (OpenSpec.ofChange replyEncodesSpec)

/-- ITS FALSE NEIGHBOUR: 'it returns false'. Refute it at one input. -/
def replyEncodesWrong : ChangeSpec := { name := "replyEncodes", fn := fun _ => fun
  | [d1, d2, d3] => { results := [.lit (.bool false)], args := [d1, d2, d3] }
  | _ => none }
def ReplyEncodesWrongFalsely : Prop := replyEncodesRow.holds Try.pinned (OpenSpec.ofChange replyEncodesWrong)

/-- 'paraventlaw20.ReplySame': WHATEVER THE INPUT: true; the input reads as it did. -/
def replySameSpec : ChangeSpec := { name := "replySame", fn := fun _ => fun
  | [d1, d2, d3, d4] => { results := [.lit (.bool true)], args := [d1, d2, d3, d4] }
  | _ => none }
def replySameRow : OpenClaim := { program := "ytmapcdmegkfheaa", sum := "d9355049c198b2b44ae205703ed432a48194949d354fb3f643b7cd91f656f2c9", func := "paravent/paraventlaw20.ReplySame", spec := "replySame", unfollowed := true, recurses := true, apart := false }
def ReplySameSaid : Prop := replySameRow.holds Try.pinned (OpenSpec.ofChange replySameSpec)

/-- ITS FALSE NEIGHBOUR: 'it returns false'. Refute it at one input. -/
def replySameWrong : ChangeSpec := { name := "replySame", fn := fun _ => fun
  | [d1, d2, d3, d4] => { results := [.lit (.bool false)], args := [d1, d2, d3, d4] }
  | _ => none }
def ReplySameWrongFalsely : Prop := replySameRow.holds Try.pinned (OpenSpec.ofChange replySameWrong)

/-- 'paraventlaw20.ReplyBack': WHATEVER THE INPUT: true; the input reads as it did. -/
def replyBackSpec : ChangeSpec := { name := "replyBack", fn := fun _ => fun
  | [d1, d2, d3] => { results := [.lit (.bool true)], args := [d1, d2, d3] }
  | _ => none }
def replyBackRow : OpenClaim := { program := "ytmapcdmegkfheaa", sum := "d9355049c198b2b44ae205703ed432a48194949d354fb3f643b7cd91f656f2c9", func := "paravent/paraventlaw20.ReplyBack", spec := "replyBack", unfollowed := true, recurses := true, apart := false }
def ReplyBackSaid : Prop := replyBackRow.holds Try.pinned (OpenSpec.ofChange replyBackSpec)

/-- ITS FALSE NEIGHBOUR: 'it returns false'. Refute it at one input. -/
def replyBackWrong : ChangeSpec := { name := "replyBack", fn := fun _ => fun
  | [d1, d2, d3] => { results := [.lit (.bool false)], args := [d1, d2, d3] }
  | _ => none }
def ReplyBackWrongFalsely : Prop := replyBackRow.holds Try.pinned (OpenSpec.ofChange replyBackWrong)

/-- 'paraventlaw20.ReplyReads': WHATEVER THE INPUT: true; the input reads as it did. -/
def replyReadsSpec : ChangeSpec := { name := "replyReads", fn := fun _ => fun
  | [d1, d2, d3] => { results := [.lit (.bool true)], args := [d1, d2, d3] }
  | _ => none }
def replyReadsRow : OpenClaim := { program := "ytmapcdmegkfheaa", sum := "d9355049c198b2b44ae205703ed432a48194949d354fb3f643b7cd91f656f2c9", func := "paravent/paraventlaw20.ReplyReads", spec := "replyReads", unfollowed := true, recurses := true, apart := false }
def ReplyReadsSaid : Prop := replyReadsRow.holds Try.pinned (OpenSpec.ofChange replyReadsSpec)

/-- ITS FALSE NEIGHBOUR: 'it returns false'. Refute it at one input. -/
def replyReadsWrong : ChangeSpec := { name := "replyReads", fn := fun _ => fun
  | [d1, d2, d3] => { results := [.lit (.bool false)], args := [d1, d2, d3] }
  | _ => none }
def ReplyReadsWrongFalsely : Prop := replyReadsRow.holds Try.pinned (OpenSpec.ofChange replyReadsWrong)

/-- 'paraventlaw20.ReplyEnds': WHATEVER THE INPUT: true; the input reads as it did. -/
def replyEndsSpec : ChangeSpec := { name := "replyEnds", fn := fun _ => fun
  | [d1, d2, d3, d4] => { results := [.lit (.bool true)], args := [d1, d2, d3, d4] }
  | _ => none }
def replyEndsRow : OpenClaim := { program := "ytmapcdmegkfheaa", sum := "d9355049c198b2b44ae205703ed432a48194949d354fb3f643b7cd91f656f2c9", func := "paravent/paraventlaw20.ReplyEnds", spec := "replyEnds", unfollowed := true, recurses := true, apart := false }
def ReplyEndsSaid : Prop := replyEndsRow.holds Try.pinned (OpenSpec.ofChange replyEndsSpec)

/-- ITS FALSE NEIGHBOUR: 'it returns false'. Refute it at one input. -/
def replyEndsWrong : ChangeSpec := { name := "replyEnds", fn := fun _ => fun
  | [d1, d2, d3, d4] => { results := [.lit (.bool false)], args := [d1, d2, d3, d4] }
  | _ => none }
def ReplyEndsWrongFalsely : Prop := replyEndsRow.holds Try.pinned (OpenSpec.ofChange replyEndsWrong)

/- THE SECOND FORM. 'bulk': how many values and letters a reading holds, each counted each time it is reached (what is shared counts as often as it is met; a slice's spare places count too). A statement '..UptoSaid' is the law's where the arguments, and the package variables that the reading takes, are together of bulk at most 1048576: NARROWER than '..Said'. Prove '..Said' where nothing that the law and all that it calls make is longer than what came in: it says more and counts as full. Else prove '..UptoSaid'. A law counts once. -/
mutual
def uptoBulk {H : Type} : DataW H → Nat
  | .lit (.string bytes) => bytes.length + 1
  | .lit _ => 1
  | .nil => 1
  | .ptr d => uptoBulk d + 1
  | .slice elems spare => uptoBulkAll elems + uptoBulkAll spare + 1
  | .agg parts => uptoBulkAll parts + 1
  | .iface _ d => uptoBulk d + 1
  | .map entries => uptoBulkEntries entries + 1
  | .held _ => 1
def uptoBulkAll {H : Type} : List (DataW H) → Nat
  | [] => 0
  | d :: r => uptoBulk d + uptoBulkAll r
def uptoBulkEntries {H : Type} : List (Lit × DataW H) → Nat
  | [] => 0
  | x :: r => uptoBulkEntry x + uptoBulkEntries r
def uptoBulkEntry {H : Type} : Lit × DataW H → Nat
  | (.string bytes, d) => bytes.length + uptoBulk d + 1
  | (_, d) => uptoBulk d + 1
 end
def uptoSmall : (H : Type) → List (DataW H) → Bool := fun _ ds => decide (uptoBulkAll ds ≤ 1048576)
def OpenSpec.upto (s : _root_.Go.ChangeSpec) : _root_.Go.OpenSpec := { _root_.Go.OpenSpec.ofChange s with cond := some uptoSmall }

/-- 'paraventlaw20.ReplyLengths', WHERE WHAT IT READS IS OF BULK AT MOST 1048576: true; the input reads as it did. -/
def replyLengthsUptoRow : OpenClaim := { program := "ytmapcdmegkfheaa", sum := "d9355049c198b2b44ae205703ed432a48194949d354fb3f643b7cd91f656f2c9", func := "paravent/paraventlaw20.ReplyLengths", spec := "replyLengths", unfollowed := true, recurses := true, apart := false, narrowed := true }
def ReplyLengthsUptoSaid : Prop := replyLengthsUptoRow.holds Try.pinned (OpenSpec.upto replyLengthsSpec)

/-- 'paraventlaw20.ReplyEncodes', WHERE WHAT IT READS IS OF BULK AT MOST 1048576: true; the input reads as it did. -/
def replyEncodesUptoRow : OpenClaim := { program := "ytmapcdmegkfheaa", sum := "d9355049c198b2b44ae205703ed432a48194949d354fb3f643b7cd91f656f2c9", func := "paravent/paraventlaw20.ReplyEncodes", spec := "replyEncodes", unfollowed := true, recurses := true, apart := false, narrowed := true }
def ReplyEncodesUptoSaid : Prop := replyEncodesUptoRow.holds Try.pinned (OpenSpec.upto replyEncodesSpec)

/-- 'paraventlaw20.ReplySame', WHERE WHAT IT READS IS OF BULK AT MOST 1048576: true; the input reads as it did. -/
def replySameUptoRow : OpenClaim := { program := "ytmapcdmegkfheaa", sum := "d9355049c198b2b44ae205703ed432a48194949d354fb3f643b7cd91f656f2c9", func := "paravent/paraventlaw20.ReplySame", spec := "replySame", unfollowed := true, recurses := true, apart := false, narrowed := true }
def ReplySameUptoSaid : Prop := replySameUptoRow.holds Try.pinned (OpenSpec.upto replySameSpec)

/-- 'paraventlaw20.ReplyBack', WHERE WHAT IT READS IS OF BULK AT MOST 1048576: true; the input reads as it did. -/
def replyBackUptoRow : OpenClaim := { program := "ytmapcdmegkfheaa", sum := "d9355049c198b2b44ae205703ed432a48194949d354fb3f643b7cd91f656f2c9", func := "paravent/paraventlaw20.ReplyBack", spec := "replyBack", unfollowed := true, recurses := true, apart := false, narrowed := true }
def ReplyBackUptoSaid : Prop := replyBackUptoRow.holds Try.pinned (OpenSpec.upto replyBackSpec)

/-- 'paraventlaw20.ReplyReads', WHERE WHAT IT READS IS OF BULK AT MOST 1048576: true; the input reads as it did. -/
def replyReadsUptoRow : OpenClaim := { program := "ytmapcdmegkfheaa", sum := "d9355049c198b2b44ae205703ed432a48194949d354fb3f643b7cd91f656f2c9", func := "paravent/paraventlaw20.ReplyReads", spec := "replyReads", unfollowed := true, recurses := true, apart := false, narrowed := true }
def ReplyReadsUptoSaid : Prop := replyReadsUptoRow.holds Try.pinned (OpenSpec.upto replyReadsSpec)

/-- 'paraventlaw20.ReplyEnds', WHERE WHAT IT READS IS OF BULK AT MOST 1048576: true; the input reads as it did. -/
def replyEndsUptoRow : OpenClaim := { program := "ytmapcdmegkfheaa", sum := "d9355049c198b2b44ae205703ed432a48194949d354fb3f643b7cd91f656f2c9", func := "paravent/paraventlaw20.ReplyEnds", spec := "replyEnds", unfollowed := true, recurses := true, apart := false, narrowed := true }
def ReplyEndsUptoSaid : Prop := replyEndsUptoRow.holds Try.pinned (OpenSpec.upto replyEndsSpec)

end Rows
end Go.Proofs.Ytmapcdmegkfheaa

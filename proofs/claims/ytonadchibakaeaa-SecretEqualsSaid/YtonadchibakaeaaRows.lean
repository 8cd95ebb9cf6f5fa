/-
  No cell of these rows narrows 'for every input' (looked for: loops, veiled, ifaces, maps, wideKeys, modest, calm, conditions, laid).
  DERIVED. THE GIVEN ROWS OF THIS SEAT. 5 by the template 'for every input the law returns true; each argument reads behind the call as it read before'; 0 by the template 'total and deterministic' (their statements: YtonadchibakaeaaTotals.lean).
  GIVEN WITH THE SEED: the statements are not yours to turn. If you find one false, say at which input.
  Laid BY PROGRAM, IN A SANDBOX (cutbox-rows.mjs): the forced cells as the released guide's own fill.sh prints them over the translation 032a842c0200dbe6… (all of the seat's roots in one cut). By AI agents, Wed Nov 11 2026. No macro, syntax, notation, axiom, sorry.
-/
import Derived.Test.YtonadchibakaeaaChecked
import GoSem.Claim
import GoSem.ClaimJoined
import GoSem.ClaimMapViews
import Derived.JoinedTies
import Derived.KernelRfl
namespace Go.Proofs.Ytonadchibakaeaa
/- THE CELL 'sum', in the pinned program and in every row, IS THE sha256 OF THE DUMP (.gsa) THAT YtonadchibakaeaaProg.lean LOADS. Nothing in Lean hashes anything: it is a label: what it is worth is what the hold of that sum in a sandbox is worth. -/
noncomputable def Try.pinned : Pinned := { name := "ytonadchibakaeaa", sum := "032a842c0200dbe619fb631a9368a2d6b449f9c52ed11a8f82590970fae0757e", checked := Try.checked }
namespace Rows
def none {H : Type} : Left H := { results := [], args := [] }

/-- 'paraventlaw15.SecretEquals': WHATEVER THE INPUT: true; the input reads as it did. -/
def secretEqualsSpec : ChangeSpec := { name := "secretEquals", fn := fun _ => fun
  | [d1, d2] => { results := [.lit (.bool true)], args := [d1, d2] }
  | _ => none }
def secretEqualsRow : OpenClaim := { program := "ytonadchibakaeaa", sum := "032a842c0200dbe619fb631a9368a2d6b449f9c52ed11a8f82590970fae0757e", func := "paravent/paraventlaw15.SecretEquals", spec := "secretEquals", inPlace := ["internal/abi.NoEscape", "internal/bytealg.MakeNoZero"], unfollowed := true, recurses := true, apart := false }
def SecretEqualsSaid : Prop := secretEqualsRow.holds Try.pinned (OpenSpec.ofChange secretEqualsSpec)

/-- ITS FALSE NEIGHBOUR: 'it returns false'. Refute it at one input. -/
def secretEqualsWrong : ChangeSpec := { name := "secretEquals", fn := fun _ => fun
  | [d1, d2] => { results := [.lit (.bool false)], args := [d1, d2] }
  | _ => none }
def SecretEqualsWrongFalsely : Prop := secretEqualsRow.holds Try.pinned (OpenSpec.ofChange secretEqualsWrong)

/-- 'paraventlaw15.SecretFinds': WHATEVER THE INPUT: true; the input reads as it did. -/
def secretFindsSpec : ChangeSpec := { name := "secretFinds", fn := fun _ => fun
  | [d1, d2] => { results := [.lit (.bool true)], args := [d1, d2] }
  | _ => none }
def secretFindsRow : OpenClaim := { program := "ytonadchibakaeaa", sum := "032a842c0200dbe619fb631a9368a2d6b449f9c52ed11a8f82590970fae0757e", func := "paravent/paraventlaw15.SecretFinds", spec := "secretFinds", inPlace := ["internal/abi.NoEscape", "internal/bytealg.MakeNoZero"], unfollowed := true, recurses := true, apart := false }
def SecretFindsSaid : Prop := secretFindsRow.holds Try.pinned (OpenSpec.ofChange secretFindsSpec)

/-- ITS FALSE NEIGHBOUR: 'it returns false'. Refute it at one input. -/
def secretFindsWrong : ChangeSpec := { name := "secretFinds", fn := fun _ => fun
  | [d1, d2] => { results := [.lit (.bool false)], args := [d1, d2] }
  | _ => none }
def SecretFindsWrongFalsely : Prop := secretFindsRow.holds Try.pinned (OpenSpec.ofChange secretFindsWrong)

/-- 'paraventlaw15.SecretFresh': WHATEVER THE INPUT: true; the input reads as it did. -/
def secretFreshSpec : ChangeSpec := { name := "secretFresh", fn := fun _ => fun
  | [d1, d2] => { results := [.lit (.bool true)], args := [d1, d2] }
  | _ => none }
def secretFreshRow : OpenClaim := { program := "ytonadchibakaeaa", sum := "032a842c0200dbe619fb631a9368a2d6b449f9c52ed11a8f82590970fae0757e", func := "paravent/paraventlaw15.SecretFresh", spec := "secretFresh", inPlace := ["internal/abi.NoEscape", "internal/bytealg.MakeNoZero"], unfollowed := true, recurses := true, apart := false }
def SecretFreshSaid : Prop := secretFreshRow.holds Try.pinned (OpenSpec.ofChange secretFreshSpec)

/-- ITS FALSE NEIGHBOUR: 'it returns false'. Refute it at one input. -/
def secretFreshWrong : ChangeSpec := { name := "secretFresh", fn := fun _ => fun
  | [d1, d2] => { results := [.lit (.bool false)], args := [d1, d2] }
  | _ => none }
def SecretFreshWrongFalsely : Prop := secretFreshRow.holds Try.pinned (OpenSpec.ofChange secretFreshWrong)

/-- 'paraventlaw15.SecretTurned': WHATEVER THE INPUT: true; the input reads as it did. -/
def secretTurnedSpec : ChangeSpec := { name := "secretTurned", fn := fun _ => fun
  | [d1, d2, d3] => { results := [.lit (.bool true)], args := [d1, d2, d3] }
  | _ => none }
def secretTurnedRow : OpenClaim := { program := "ytonadchibakaeaa", sum := "032a842c0200dbe619fb631a9368a2d6b449f9c52ed11a8f82590970fae0757e", func := "paravent/paraventlaw15.SecretTurned", spec := "secretTurned", inPlace := ["internal/abi.NoEscape", "internal/bytealg.MakeNoZero"], unfollowed := true, recurses := true, apart := false }
def SecretTurnedSaid : Prop := secretTurnedRow.holds Try.pinned (OpenSpec.ofChange secretTurnedSpec)

/-- ITS FALSE NEIGHBOUR: 'it returns false'. Refute it at one input. -/
def secretTurnedWrong : ChangeSpec := { name := "secretTurned", fn := fun _ => fun
  | [d1, d2, d3] => { results := [.lit (.bool false)], args := [d1, d2, d3] }
  | _ => none }
def SecretTurnedWrongFalsely : Prop := secretTurnedRow.holds Try.pinned (OpenSpec.ofChange secretTurnedWrong)

/-- 'paraventlaw15.SecretMasks': WHATEVER THE INPUT: true; the input reads as it did. -/
def secretMasksSpec : ChangeSpec := { name := "secretMasks", fn := fun _ => fun
  | [d] => { results := [.lit (.bool true)], args := [d] }
  | _ => none }
def secretMasksRow : OpenClaim := { program := "ytonadchibakaeaa", sum := "032a842c0200dbe619fb631a9368a2d6b449f9c52ed11a8f82590970fae0757e", func := "paravent/paraventlaw15.SecretMasks", spec := "secretMasks", inPlace := ["internal/abi.NoEscape", "internal/bytealg.MakeNoZero"], unfollowed := true, recurses := true, apart := false }
def SecretMasksSaid : Prop := secretMasksRow.holds Try.pinned (OpenSpec.ofChange secretMasksSpec)

/-- ITS FALSE NEIGHBOUR: 'it returns false'. Refute it at one input. -/
def secretMasksWrong : ChangeSpec := { name := "secretMasks", fn := fun _ => fun
  | [d] => { results := [.lit (.bool false)], args := [d] }
  | _ => none }
def SecretMasksWrongFalsely : Prop := secretMasksRow.holds Try.pinned (OpenSpec.ofChange secretMasksWrong)

/- THE SECOND FORM. 'bulk': how many values and letters a reading holds, each counted each time it is reached (what is shared counts as often as it is met; a slice's spare places count too). A statement '..UptoSaid' is the law's where the arguments, and the package variables that the reading takes, are together of bulk at most 1048576: NARROWER than '..Said'. Prove '..Said' where nothing that the law and all that it calls make is longer than what came in: it says more and counts as full. Else prove '..UptoSaid'. A law counts once. -/
mutual
def uptoBulk {H : Type} : DataW H → Nat
  | .lit (.string bytes) => bytes.length + 1
  | .lit _ => 1
  | .nil => 1
  | .ptr d => uptoBulk d + 1
  | .slice elems spare => uptoBulkAll elems + uptoBulkAll spare + 1
  | .agg parts => uptoBulkAll parts + 1
  | .iface _ d => uptoBulk d + 1
  | .map entries => uptoBulkEntries entries + 1
  | .held _ => 1
def uptoBulkAll {H : Type} : List (DataW H) → Nat
  | [] => 0
  | d :: r => uptoBulk d + uptoBulkAll r
def uptoBulkEntries {H : Type} : List (Lit × DataW H) → Nat
  | [] => 0
  | x :: r => uptoBulkEntry x + uptoBulkEntries r
def uptoBulkEntry {H : Type} : Lit × DataW H → Nat
  | (.string bytes, d) => bytes.length + uptoBulk d + 1
  | (_, d) => uptoBulk d + 1
 end
def uptoSmall : (H : Type) → List (DataW H) → Bool := fun _ ds => decide (uptoBulkAll ds ≤ 1048576)
def OpenSpec.upto (s : _root_.Go.ChangeSpec) : _root_.Go.OpenSpec := { _root_.Go.OpenSpec.ofChange s with cond := some uptoSmall }

/-- 'paraventlaw15.SecretEquals', WHERE WHAT IT READS IS OF BULK AT MOST 1048576: true; the input reads as it did. -/
def secretEqualsUptoRow : OpenClaim := { program := "ytonadchibakaeaa", sum := "032a842c0200dbe619fb631a9368a2d6b449f9c52ed11a8f82590970fae0757e", func := "paravent/paraventlaw15.SecretEquals", spec := "secretEquals", inPlace := ["internal/abi.NoEscape", "internal/bytealg.MakeNoZero"], unfollowed := true, recurses := true, apart := false, narrowed := true }
def SecretEqualsUptoSaid : Prop := secretEqualsUptoRow.holds Try.pinned (OpenSpec.upto secretEqualsSpec)

/-- 'paraventlaw15.SecretFinds', WHERE WHAT IT READS IS OF BULK AT MOST 1048576: true; the input reads as it did. -/
def secretFindsUptoRow : OpenClaim := { program := "ytonadchibakaeaa", sum := "032a842c0200dbe619fb631a9368a2d6b449f9c52ed11a8f82590970fae0757e", func := "paravent/paraventlaw15.SecretFinds", spec := "secretFinds", inPlace := ["internal/abi.NoEscape", "internal/bytealg.MakeNoZero"], unfollowed := true, recurses := true, apart := false, narrowed := true }
def SecretFindsUptoSaid : Prop := secretFindsUptoRow.holds Try.pinned (OpenSpec.upto secretFindsSpec)

/-- 'paraventlaw15.SecretFresh', WHERE WHAT IT READS IS OF BULK AT MOST 1048576: true; the input reads as it did. -/
def secretFreshUptoRow : OpenClaim := { program := "ytonadchibakaeaa", sum := "032a842c0200dbe619fb631a9368a2d6b449f9c52ed11a8f82590970fae0757e", func := "paravent/paraventlaw15.SecretFresh", spec := "secretFresh", inPlace := ["internal/abi.NoEscape", "internal/bytealg.MakeNoZero"], unfollowed := true, recurses := true, apart := false, narrowed := true }
def SecretFreshUptoSaid : Prop := secretFreshUptoRow.holds Try.pinned (OpenSpec.upto secretFreshSpec)

/-- 'paraventlaw15.SecretTurned', WHERE WHAT IT READS IS OF BULK AT MOST 1048576: true; the input reads as it did. -/
def secretTurnedUptoRow : OpenClaim := { program := "ytonadchibakaeaa", sum := "032a842c0200dbe619fb631a9368a2d6b449f9c52ed11a8f82590970fae0757e", func := "paravent/paraventlaw15.SecretTurned", spec := "secretTurned", inPlace := ["internal/abi.NoEscape", "internal/bytealg.MakeNoZero"], unfollowed := true, recurses := true, apart := false, narrowed := true }
def SecretTurnedUptoSaid : Prop := secretTurnedUptoRow.holds Try.pinned (OpenSpec.upto secretTurnedSpec)

/-- 'paraventlaw15.SecretMasks', WHERE WHAT IT READS IS OF BULK AT MOST 1048576: true; the input reads as it did. -/
def secretMasksUptoRow : OpenClaim := { program := "ytonadchibakaeaa", sum := "032a842c0200dbe619fb631a9368a2d6b449f9c52ed11a8f82590970fae0757e", func := "paravent/paraventlaw15.SecretMasks", spec := "secretMasks", inPlace := ["internal/abi.NoEscape", "internal/bytealg.MakeNoZero"], unfollowed := true, recurses := true, apart := false, narrowed := true }
def SecretMasksUptoSaid : Prop := secretMasksUptoRow.holds Try.pinned (OpenSpec.upto secretMasksSpec)

end Rows
end Go.Proofs.Ytonadchibakaeaa

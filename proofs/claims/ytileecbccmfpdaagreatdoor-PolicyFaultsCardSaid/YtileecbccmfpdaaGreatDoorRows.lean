/-
  NARROWER THAN 'FOR EVERY INPUT', by the rows' own cells (each row's printed sentence says how): PolicyParses: laid · PolicyPrints: laid · PolicyBack: laid · PolicyForms: laid · PolicyJoins: laid · PolicyFaults: laid · PolicyStrips: laid.
  DERIVED. THE GIVEN ROWS OF THIS SEAT. 7 by the template 'for every input the law returns true; each argument reads behind the call as it read before'; 0 by the template 'total and deterministic' (their statements: YtileecbccmfpdaaGreatDoorTotals.lean).
  GIVEN WITH THE SEED: the statements are not yours to turn. If you find one false, say at which input.
  Laid BY PROGRAM, IN A SANDBOX (cutbox-rows.mjs): the forced cells as the released guide's own fill.sh prints them over the translation 283f1c8adab73124… (all of the seat's roots in one cut). By AI agents, Wed Nov 11 2026. No macro, syntax, notation, axiom, sorry.
-/
import Derived.Test.YtileecbccmfpdaaGreatDoorChecked
import GoSem.Claim
import GoSem.ClaimJoined
import GoSem.ClaimMapViews
import Derived.JoinedTies
import Derived.KernelRfl
namespace Go.Proofs.YtileecbccmfpdaaGreatDoor
/- THE CELL 'sum', in the pinned program and in every row, IS THE sha256 OF THE DUMP (.gsa) THAT YtileecbccmfpdaaGreatDoorProg.lean LOADS. Nothing in Lean hashes anything: it is a label: what it is worth is what the hold of that sum in a sandbox is worth. -/
noncomputable def Tryz.pinned : Pinned := { name := "ytileecbccmfpdaagreatdoor", sum := "283f1c8adab73124fb3c74ef14af3349a1ec5ddbd690d1289da6b89c670a6867", checked := Tryz.checked }
namespace Rows
def none {H : Type} : Left H := { results := [], args := [] }

/- WHAT THE LISTED PACKAGE-LEVEL VARIABLES READ AS WHEN THE CALL BEGINS. Each datum BY PROGRAM (the guide's laid-datum.mjs) off the statement by which the dump's own 'gosem.cut.vars' lays the variable. In a bare row this is a premise. The card (YtileecbccmfpdaaGreatDoorCards.lean) ties it to the program's text. -/
def laid_math_bits_deBruijn32tab {H : Type} : DataW H := .agg [.lit (.int .u8 0), .lit (.int .u8 1), .lit (.int .u8 28), .lit (.int .u8 2), .lit (.int .u8 29), .lit (.int .u8 14), .lit (.int .u8 24), .lit (.int .u8 3), .lit (.int .u8 30), .lit (.int .u8 22), .lit (.int .u8 20), .lit (.int .u8 15), .lit (.int .u8 25), .lit (.int .u8 17), .lit (.int .u8 4), .lit (.int .u8 8), .lit (.int .u8 31), .lit (.int .u8 27), .lit (.int .u8 13), .lit (.int .u8 23), .lit (.int .u8 21), .lit (.int .u8 19), .lit (.int .u8 16), .lit (.int .u8 7), .lit (.int .u8 26), .lit (.int .u8 12), .lit (.int .u8 18), .lit (.int .u8 6), .lit (.int .u8 11), .lit (.int .u8 5), .lit (.int .u8 10), .lit (.int .u8 9)]
def laid_math_bits_deBruijn64tab {H : Type} : DataW H := .agg [.lit (.int .u8 0), .lit (.int .u8 1), .lit (.int .u8 56), .lit (.int .u8 2), .lit (.int .u8 57), .lit (.int .u8 49), .lit (.int .u8 28), .lit (.int .u8 3), .lit (.int .u8 61), .lit (.int .u8 58), .lit (.int .u8 42), .lit (.int .u8 50), .lit (.int .u8 38), .lit (.int .u8 29), .lit (.int .u8 17), .lit (.int .u8 4), .lit (.int .u8 62), .lit (.int .u8 47), .lit (.int .u8 59), .lit (.int .u8 36), .lit (.int .u8 45), .lit (.int .u8 43), .lit (.int .u8 51), .lit (.int .u8 22), .lit (.int .u8 53), .lit (.int .u8 39), .lit (.int .u8 33), .lit (.int .u8 30), .lit (.int .u8 24), .lit (.int .u8 18), .lit (.int .u8 12), .lit (.int .u8 5), .lit (.int .u8 63), .lit (.int .u8 55), .lit (.int .u8 48), .lit (.int .u8 27), .lit (.int .u8 60), .lit (.int .u8 41), .lit (.int .u8 37), .lit (.int .u8 16), .lit (.int .u8 46), .lit (.int .u8 35), .lit (.int .u8 44), .lit (.int .u8 21), .lit (.int .u8 52), .lit (.int .u8 32), .lit (.int .u8 23), .lit (.int .u8 11), .lit (.int .u8 54), .lit (.int .u8 26), .lit (.int .u8 40), .lit (.int .u8 15), .lit (.int .u8 34), .lit (.int .u8 20), .lit (.int .u8 31), .lit (.int .u8 10), .lit (.int .u8 25), .lit (.int .u8 14), .lit (.int .u8 19), .lit (.int .u8 9), .lit (.int .u8 13), .lit (.int .u8 8), .lit (.int .u8 7), .lit (.int .u8 6)]
def laid_internal_strconv_uint64pow10 {H : Type} : DataW H := .agg [.lit (.int .u64 1), .lit (.int .u64 10), .lit (.int .u64 100), .lit (.int .u64 1000), .lit (.int .u64 10000), .lit (.int .u64 100000), .lit (.int .u64 1000000), .lit (.int .u64 10000000), .lit (.int .u64 100000000), .lit (.int .u64 1000000000), .lit (.int .u64 10000000000), .lit (.int .u64 100000000000), .lit (.int .u64 1000000000000), .lit (.int .u64 10000000000000), .lit (.int .u64 100000000000000), .lit (.int .u64 1000000000000000), .lit (.int .u64 10000000000000000), .lit (.int .u64 100000000000000000), .lit (.int .u64 1000000000000000000), .lit (.int .u64 10000000000000000000)]
def laid_strconv_ErrRange {H : Type} : DataW H := .iface "*errors.errorString" (.ptr (.agg [.lit (.string [118, 97, 108, 117, 101, 32, 111, 117, 116, 32, 111, 102, 32, 114, 97, 110, 103, 101])]))
def laid_strconv_ErrSyntax {H : Type} : DataW H := .iface "*errors.errorString" (.ptr (.agg [.lit (.string [105, 110, 118, 97, 108, 105, 100, 32, 115, 121, 110, 116, 97, 120])]))
def laid_paravent_lex_words {H : Type} : DataW H := .agg [.lit (.string [97, 108, 108]), .lit (.string [97, 108, 108, 111, 119]), .lit (.string [97, 110, 121]), .lit (.string [99, 97, 112]), .lit (.string [99, 108, 111, 97, 107]), .lit (.string [105, 110]), .lit (.string [108, 97, 98, 101, 108]), .lit (.string [114, 101, 103, 105, 111, 110]), .lit (.string [114, 111, 108, 101]), .lit (.string [116, 105, 101, 114]), .lit (.string [122, 111, 111, 109])]
def laid_paravent_lex_marks {H : Type} : DataW H := .agg [.lit (.string [61]), .lit (.string [43]), .lit (.string [59]), .lit (.string [46, 46])]
def laid_paravent_policy_heads {H : Type} : DataW H := .agg [.lit (.string []), .lit (.string [114, 111, 108, 101]), .lit (.string [108, 97, 98, 101, 108]), .lit (.string [114, 101, 103, 105, 111, 110]), .lit (.string [97, 108, 108, 111, 119]), .lit (.string [99, 97, 112]), .lit (.string [99, 108, 111, 97, 107])]

/-- 'paraventlaw11.PolicyParses': WHATEVER THE INPUT: true; the input reads as it did. -/
def policyParsesSpec : ChangeSpec := { name := "policyParses", fn := fun _ => fun
  | [d] => { results := [.lit (.bool true)], args := [d] }
  | _ => none }
def policyParsesRow : OpenClaim := { program := "ytileecbccmfpdaagreatdoor", sum := "283f1c8adab73124fb3c74ef14af3349a1ec5ddbd690d1289da6b89c670a6867", func := "paravent/paraventlaw11.PolicyParses", spec := "policyParses", inPlace := ["internal/bytealg.CountString", "internal/bytealg.IndexByteString", "internal/bytealg.IndexString", "internal/abi.NoEscape", "internal/bytealg.MakeNoZero"], unfollowed := true, recurses := true, named := ["paravent/lex.words", "strconv.ErrSyntax", "strconv.ErrRange", "internal/strconv.uint64pow10", "math/bits.deBruijn32tab", "math/bits.deBruijn64tab", "paravent/lex.marks", "paravent/policy.heads", "internal/bytealg.MaxLen"], apart := false, laid := [("math/bits.deBruijn32tab", laid_math_bits_deBruijn32tab), ("math/bits.deBruijn64tab", laid_math_bits_deBruijn64tab), ("internal/strconv.uint64pow10", laid_internal_strconv_uint64pow10), ("strconv.ErrRange", laid_strconv_ErrRange), ("strconv.ErrSyntax", laid_strconv_ErrSyntax), ("paravent/lex.words", laid_paravent_lex_words), ("paravent/lex.marks", laid_paravent_lex_marks), ("paravent/policy.heads", laid_paravent_policy_heads)] }
def PolicyParsesSaid : Prop := policyParsesRow.holds Tryz.pinned (OpenSpec.ofChange policyParsesSpec)

/-- ITS FALSE NEIGHBOUR: 'it returns false'. Refute it at one input. -/
def policyParsesWrong : ChangeSpec := { name := "policyParses", fn := fun _ => fun
  | [d] => { results := [.lit (.bool false)], args := [d] }
  | _ => none }
def PolicyParsesWrongFalsely : Prop := policyParsesRow.holds Tryz.pinned (OpenSpec.ofChange policyParsesWrong)

/-- 'paraventlaw11.PolicyPrints': WHATEVER THE INPUT: true; the input reads as it did. -/
def policyPrintsSpec : ChangeSpec := { name := "policyPrints", fn := fun _ => fun
  | [d] => { results := [.lit (.bool true)], args := [d] }
  | _ => none }
def policyPrintsRow : OpenClaim := { program := "ytileecbccmfpdaagreatdoor", sum := "283f1c8adab73124fb3c74ef14af3349a1ec5ddbd690d1289da6b89c670a6867", func := "paravent/paraventlaw11.PolicyPrints", spec := "policyPrints", inPlace := ["internal/bytealg.CountString", "internal/bytealg.IndexByteString", "internal/bytealg.IndexString", "internal/abi.NoEscape", "internal/bytealg.MakeNoZero"], unfollowed := true, recurses := true, named := ["paravent/lex.words", "strconv.ErrSyntax", "strconv.ErrRange", "internal/strconv.uint64pow10", "math/bits.deBruijn32tab", "math/bits.deBruijn64tab", "paravent/lex.marks", "paravent/policy.heads", "internal/bytealg.MaxLen"], apart := false, laid := [("math/bits.deBruijn32tab", laid_math_bits_deBruijn32tab), ("math/bits.deBruijn64tab", laid_math_bits_deBruijn64tab), ("internal/strconv.uint64pow10", laid_internal_strconv_uint64pow10), ("strconv.ErrRange", laid_strconv_ErrRange), ("strconv.ErrSyntax", laid_strconv_ErrSyntax), ("paravent/lex.words", laid_paravent_lex_words), ("paravent/lex.marks", laid_paravent_lex_marks), ("paravent/policy.heads", laid_paravent_policy_heads)] }
def PolicyPrintsSaid : Prop := policyPrintsRow.holds Tryz.pinned (OpenSpec.ofChange policyPrintsSpec)

/-- ITS FALSE NEIGHBOUR: 'it returns false'. Refute it at one input. -/
def policyPrintsWrong : ChangeSpec := { name := "policyPrints", fn := fun _ => fun
  | [d] => { results := [.lit (.bool false)], args := [d] }
  | _ => none }
def PolicyPrintsWrongFalsely : Prop := policyPrintsRow.holds Tryz.pinned (OpenSpec.ofChange policyPrintsWrong)

/-- 'paraventlaw11.PolicyBack': WHATEVER THE INPUT: true; the input reads as it did. -/
def policyBackSpec : ChangeSpec := { name := "policyBack", fn := fun _ => fun
  | [d] => { results := [.lit (.bool true)], args := [d] }
  | _ => none }
def policyBackRow : OpenClaim := { program := "ytileecbccmfpdaagreatdoor", sum := "283f1c8adab73124fb3c74ef14af3349a1ec5ddbd690d1289da6b89c670a6867", func := "paravent/paraventlaw11.PolicyBack", spec := "policyBack", inPlace := ["internal/bytealg.CountString", "internal/bytealg.IndexByteString", "internal/bytealg.IndexString", "internal/abi.NoEscape", "internal/bytealg.MakeNoZero"], unfollowed := true, recurses := true, named := ["paravent/policy.heads", "internal/strconv.uint64pow10", "math/bits.deBruijn32tab", "math/bits.deBruijn64tab", "paravent/lex.words", "strconv.ErrSyntax", "strconv.ErrRange", "paravent/lex.marks", "internal/bytealg.MaxLen"], apart := false, laid := [("math/bits.deBruijn32tab", laid_math_bits_deBruijn32tab), ("math/bits.deBruijn64tab", laid_math_bits_deBruijn64tab), ("internal/strconv.uint64pow10", laid_internal_strconv_uint64pow10), ("strconv.ErrRange", laid_strconv_ErrRange), ("strconv.ErrSyntax", laid_strconv_ErrSyntax), ("paravent/lex.words", laid_paravent_lex_words), ("paravent/lex.marks", laid_paravent_lex_marks), ("paravent/policy.heads", laid_paravent_policy_heads)] }
def PolicyBackSaid : Prop := policyBackRow.holds Tryz.pinned (OpenSpec.ofChange policyBackSpec)

/-- ITS FALSE NEIGHBOUR: 'it returns false'. Refute it at one input. -/
def policyBackWrong : ChangeSpec := { name := "policyBack", fn := fun _ => fun
  | [d] => { results := [.lit (.bool false)], args := [d] }
  | _ => none }
def PolicyBackWrongFalsely : Prop := policyBackRow.holds Tryz.pinned (OpenSpec.ofChange policyBackWrong)

/-- 'paraventlaw11.PolicyForms': WHATEVER THE INPUT: true; the input reads as it did. -/
def policyFormsSpec : ChangeSpec := { name := "policyForms", fn := fun _ => fun
  | [d] => { results := [.lit (.bool true)], args := [d] }
  | _ => none }
def policyFormsRow : OpenClaim := { program := "ytileecbccmfpdaagreatdoor", sum := "283f1c8adab73124fb3c74ef14af3349a1ec5ddbd690d1289da6b89c670a6867", func := "paravent/paraventlaw11.PolicyForms", spec := "policyForms", inPlace := ["internal/bytealg.CountString", "internal/bytealg.IndexByteString", "internal/bytealg.IndexString", "internal/abi.NoEscape", "internal/bytealg.MakeNoZero"], unfollowed := true, recurses := true, named := ["paravent/lex.words", "strconv.ErrSyntax", "strconv.ErrRange", "internal/strconv.uint64pow10", "math/bits.deBruijn32tab", "math/bits.deBruijn64tab", "paravent/lex.marks", "paravent/policy.heads", "internal/bytealg.MaxLen"], apart := false, laid := [("math/bits.deBruijn32tab", laid_math_bits_deBruijn32tab), ("math/bits.deBruijn64tab", laid_math_bits_deBruijn64tab), ("internal/strconv.uint64pow10", laid_internal_strconv_uint64pow10), ("strconv.ErrRange", laid_strconv_ErrRange), ("strconv.ErrSyntax", laid_strconv_ErrSyntax), ("paravent/lex.words", laid_paravent_lex_words), ("paravent/lex.marks", laid_paravent_lex_marks), ("paravent/policy.heads", laid_paravent_policy_heads)] }
def PolicyFormsSaid : Prop := policyFormsRow.holds Tryz.pinned (OpenSpec.ofChange policyFormsSpec)

/-- ITS FALSE NEIGHBOUR: 'it returns false'. Refute it at one input. -/
def policyFormsWrong : ChangeSpec := { name := "policyForms", fn := fun _ => fun
  | [d] => { results := [.lit (.bool false)], args := [d] }
  | _ => none }
def PolicyFormsWrongFalsely : Prop := policyFormsRow.holds Tryz.pinned (OpenSpec.ofChange policyFormsWrong)

/-- 'paraventlaw11.PolicyJoins': WHATEVER THE INPUT: true; the input reads as it did. -/
def policyJoinsSpec : ChangeSpec := { name := "policyJoins", fn := fun _ => fun
  | [d1, d2] => { results := [.lit (.bool true)], args := [d1, d2] }
  | _ => none }
def policyJoinsRow : OpenClaim := { program := "ytileecbccmfpdaagreatdoor", sum := "283f1c8adab73124fb3c74ef14af3349a1ec5ddbd690d1289da6b89c670a6867", func := "paravent/paraventlaw11.PolicyJoins", spec := "policyJoins", inPlace := ["internal/bytealg.CountString", "internal/bytealg.IndexByteString", "internal/bytealg.IndexString", "internal/abi.NoEscape", "internal/bytealg.MakeNoZero"], unfollowed := true, recurses := true, named := ["paravent/lex.words", "strconv.ErrSyntax", "strconv.ErrRange", "internal/strconv.uint64pow10", "math/bits.deBruijn32tab", "math/bits.deBruijn64tab", "paravent/lex.marks", "paravent/policy.heads", "internal/bytealg.MaxLen"], apart := false, laid := [("math/bits.deBruijn32tab", laid_math_bits_deBruijn32tab), ("math/bits.deBruijn64tab", laid_math_bits_deBruijn64tab), ("internal/strconv.uint64pow10", laid_internal_strconv_uint64pow10), ("strconv.ErrRange", laid_strconv_ErrRange), ("strconv.ErrSyntax", laid_strconv_ErrSyntax), ("paravent/lex.words", laid_paravent_lex_words), ("paravent/lex.marks", laid_paravent_lex_marks), ("paravent/policy.heads", laid_paravent_policy_heads)] }
def PolicyJoinsSaid : Prop := policyJoinsRow.holds Tryz.pinned (OpenSpec.ofChange policyJoinsSpec)

/-- ITS FALSE NEIGHBOUR: 'it returns false'. Refute it at one input. -/
def policyJoinsWrong : ChangeSpec := { name := "policyJoins", fn := fun _ => fun
  | [d1, d2] => { results := [.lit (.bool false)], args := [d1, d2] }
  | _ => none }
def PolicyJoinsWrongFalsely : Prop := policyJoinsRow.holds Tryz.pinned (OpenSpec.ofChange policyJoinsWrong)

/-- 'paraventlaw11.PolicyFaults': WHATEVER THE INPUT: true; the input reads as it did. -/
def policyFaultsSpec : ChangeSpec := { name := "policyFaults", fn := fun _ => fun
  | [d] => { results := [.lit (.bool true)], args := [d] }
  | _ => none }
def policyFaultsRow : OpenClaim := { program := "ytileecbccmfpdaagreatdoor", sum := "283f1c8adab73124fb3c74ef14af3349a1ec5ddbd690d1289da6b89c670a6867", func := "paravent/paraventlaw11.PolicyFaults", spec := "policyFaults", inPlace := ["internal/bytealg.CountString", "internal/bytealg.IndexByteString", "internal/bytealg.IndexString", "internal/abi.NoEscape", "internal/bytealg.MakeNoZero"], unfollowed := true, recurses := true, named := ["paravent/lex.words", "strconv.ErrSyntax", "strconv.ErrRange", "internal/strconv.uint64pow10", "math/bits.deBruijn32tab", "math/bits.deBruijn64tab", "paravent/lex.marks", "paravent/policy.heads", "internal/bytealg.MaxLen"], apart := false, laid := [("math/bits.deBruijn32tab", laid_math_bits_deBruijn32tab), ("math/bits.deBruijn64tab", laid_math_bits_deBruijn64tab), ("internal/strconv.uint64pow10", laid_internal_strconv_uint64pow10), ("strconv.ErrRange", laid_strconv_ErrRange), ("strconv.ErrSyntax", laid_strconv_ErrSyntax), ("paravent/lex.words", laid_paravent_lex_words), ("paravent/lex.marks", laid_paravent_lex_marks), ("paravent/policy.heads", laid_paravent_policy_heads)] }
def PolicyFaultsSaid : Prop := policyFaultsRow.holds Tryz.pinned (OpenSpec.ofChange policyFaultsSpec)

/-- ITS FALSE NEIGHBOUR: 'it returns false'. Refute it at one input. -/
def policyFaultsWrong : ChangeSpec := { name := "policyFaults", fn := fun _ => fun
  | [d] => { results := [.lit (.bool false)], args := [d] }
  | _ => none }
def PolicyFaultsWrongFalsely : Prop := policyFaultsRow.holds Tryz.pinned (OpenSpec.ofChange policyFaultsWrong)

/-- 'paraventlaw11.PolicyStrips': WHATEVER THE INPUT: true; the input reads as it did. -/
def policyStripsSpec : ChangeSpec := { name := "policyStrips", fn := fun _ => fun
  | [d] => { results := [.lit (.bool true)], args := [d] }
  | _ => none }
def policyStripsRow : OpenClaim := { program := "ytileecbccmfpdaagreatdoor", sum := "283f1c8adab73124fb3c74ef14af3349a1ec5ddbd690d1289da6b89c670a6867", func := "paravent/paraventlaw11.PolicyStrips", spec := "policyStrips", inPlace := ["internal/bytealg.CountString", "internal/bytealg.IndexByteString", "internal/bytealg.IndexString", "internal/abi.NoEscape", "internal/bytealg.MakeNoZero"], unfollowed := true, recurses := true, named := ["paravent/lex.words", "strconv.ErrSyntax", "strconv.ErrRange", "internal/strconv.uint64pow10", "math/bits.deBruijn32tab", "math/bits.deBruijn64tab", "paravent/lex.marks", "paravent/policy.heads", "internal/bytealg.MaxLen"], apart := false, laid := [("math/bits.deBruijn32tab", laid_math_bits_deBruijn32tab), ("math/bits.deBruijn64tab", laid_math_bits_deBruijn64tab), ("internal/strconv.uint64pow10", laid_internal_strconv_uint64pow10), ("strconv.ErrRange", laid_strconv_ErrRange), ("strconv.ErrSyntax", laid_strconv_ErrSyntax), ("paravent/lex.words", laid_paravent_lex_words), ("paravent/lex.marks", laid_paravent_lex_marks), ("paravent/policy.heads", laid_paravent_policy_heads)] }
def PolicyStripsSaid : Prop := policyStripsRow.holds Tryz.pinned (OpenSpec.ofChange policyStripsSpec)

/-- ITS FALSE NEIGHBOUR: 'it returns false'. Refute it at one input. -/
def policyStripsWrong : ChangeSpec := { name := "policyStrips", fn := fun _ => fun
  | [d] => { results := [.lit (.bool false)], args := [d] }
  | _ => none }
def PolicyStripsWrongFalsely : Prop := policyStripsRow.holds Tryz.pinned (OpenSpec.ofChange policyStripsWrong)

/- THE SECOND FORM. 'bulk': how many values and letters a reading holds, each counted each time it is reached (what is shared counts as often as it is met; a slice's spare places count too). A statement '..UptoSaid' is the law's where the arguments, and the package variables that the reading takes, are together of bulk at most 1048576: NARROWER than '..Said'. Prove '..Said' where nothing that the law and all that it calls make is longer than what came in: it says more and counts as full. Else prove '..UptoSaid'. A law counts once. -/
mutual
def uptoBulk {H : Type} : DataW H → Nat
  | .lit (.string bytes) => bytes.length + 1
  | .lit _ => 1
  | .nil => 1
  | .ptr d => uptoBulk d + 1
  | .slice elems spare => uptoBulkAll elems + uptoBulkAll spare + 1
  | .agg parts => uptoBulkAll parts + 1
  | .iface _ d => uptoBulk d + 1
  | .map entries => uptoBulkEntries entries + 1
  | .held _ => 1
def uptoBulkAll {H : Type} : List (DataW H) → Nat
  | [] => 0
  | d :: r => uptoBulk d + uptoBulkAll r
def uptoBulkEntries {H : Type} : List (Lit × DataW H) → Nat
  | [] => 0
  | x :: r => uptoBulkEntry x + uptoBulkEntries r
def uptoBulkEntry {H : Type} : Lit × DataW H → Nat
  | (.string bytes, d) => bytes.length + uptoBulk d + 1
  | (_, d) => uptoBulk d + 1
 end
def uptoSmall : (H : Type) → List (DataW H) → Bool := fun _ ds => decide (uptoBulkAll ds ≤ 1048576)
def OpenSpec.upto (s : _root_.Go.ChangeSpec) : _root_.Go.OpenSpec := { _root_.Go.OpenSpec.ofChange s with cond := some uptoSmall }

/-- 'paraventlaw11.PolicyParses', WHERE WHAT IT READS IS OF BULK AT MOST 1048576: true; the input reads as it did. -/
def policyParsesUptoRow : OpenClaim := { program := "ytileecbccmfpdaagreatdoor", sum := "283f1c8adab73124fb3c74ef14af3349a1ec5ddbd690d1289da6b89c670a6867", func := "paravent/paraventlaw11.PolicyParses", spec := "policyParses", inPlace := ["internal/bytealg.CountString", "internal/bytealg.IndexByteString", "internal/bytealg.IndexString", "internal/abi.NoEscape", "internal/bytealg.MakeNoZero"], unfollowed := true, recurses := true, named := ["paravent/lex.words", "strconv.ErrSyntax", "strconv.ErrRange", "internal/strconv.uint64pow10", "math/bits.deBruijn32tab", "math/bits.deBruijn64tab", "paravent/lex.marks", "paravent/policy.heads", "internal/bytealg.MaxLen"], apart := false, laid := [("math/bits.deBruijn32tab", laid_math_bits_deBruijn32tab), ("math/bits.deBruijn64tab", laid_math_bits_deBruijn64tab), ("internal/strconv.uint64pow10", laid_internal_strconv_uint64pow10), ("strconv.ErrRange", laid_strconv_ErrRange), ("strconv.ErrSyntax", laid_strconv_ErrSyntax), ("paravent/lex.words", laid_paravent_lex_words), ("paravent/lex.marks", laid_paravent_lex_marks), ("paravent/policy.heads", laid_paravent_policy_heads)], narrowed := true }
def PolicyParsesUptoSaid : Prop := policyParsesUptoRow.holds Tryz.pinned (OpenSpec.upto policyParsesSpec)

/-- 'paraventlaw11.PolicyPrints', WHERE WHAT IT READS IS OF BULK AT MOST 1048576: true; the input reads as it did. -/
def policyPrintsUptoRow : OpenClaim := { program := "ytileecbccmfpdaagreatdoor", sum := "283f1c8adab73124fb3c74ef14af3349a1ec5ddbd690d1289da6b89c670a6867", func := "paravent/paraventlaw11.PolicyPrints", spec := "policyPrints", inPlace := ["internal/bytealg.CountString", "internal/bytealg.IndexByteString", "internal/bytealg.IndexString", "internal/abi.NoEscape", "internal/bytealg.MakeNoZero"], unfollowed := true, recurses := true, named := ["paravent/lex.words", "strconv.ErrSyntax", "strconv.ErrRange", "internal/strconv.uint64pow10", "math/bits.deBruijn32tab", "math/bits.deBruijn64tab", "paravent/lex.marks", "paravent/policy.heads", "internal/bytealg.MaxLen"], apart := false, laid := [("math/bits.deBruijn32tab", laid_math_bits_deBruijn32tab), ("math/bits.deBruijn64tab", laid_math_bits_deBruijn64tab), ("internal/strconv.uint64pow10", laid_internal_strconv_uint64pow10), ("strconv.ErrRange", laid_strconv_ErrRange), ("strconv.ErrSyntax", laid_strconv_ErrSyntax), ("paravent/lex.words", laid_paravent_lex_words), ("paravent/lex.marks", laid_paravent_lex_marks), ("paravent/policy.heads", laid_paravent_policy_heads)], narrowed := true }
def PolicyPrintsUptoSaid : Prop := policyPrintsUptoRow.holds Tryz.pinned (OpenSpec.upto policyPrintsSpec)

/-- 'paraventlaw11.PolicyBack', WHERE WHAT IT READS IS OF BULK AT MOST 1048576: true; the input reads as it did. -/
def policyBackUptoRow : OpenClaim := { program := "ytileecbccmfpdaagreatdoor", sum := "283f1c8adab73124fb3c74ef14af3349a1ec5ddbd690d1289da6b89c670a6867", func := "paravent/paraventlaw11.PolicyBack", spec := "policyBack", inPlace := ["internal/bytealg.CountString", "internal/bytealg.IndexByteString", "internal/bytealg.IndexString", "internal/abi.NoEscape", "internal/bytealg.MakeNoZero"], unfollowed := true, recurses := true, named := ["paravent/policy.heads", "internal/strconv.uint64pow10", "math/bits.deBruijn32tab", "math/bits.deBruijn64tab", "paravent/lex.words", "strconv.ErrSyntax", "strconv.ErrRange", "paravent/lex.marks", "internal/bytealg.MaxLen"], apart := false, laid := [("math/bits.deBruijn32tab", laid_math_bits_deBruijn32tab), ("math/bits.deBruijn64tab", laid_math_bits_deBruijn64tab), ("internal/strconv.uint64pow10", laid_internal_strconv_uint64pow10), ("strconv.ErrRange", laid_strconv_ErrRange), ("strconv.ErrSyntax", laid_strconv_ErrSyntax), ("paravent/lex.words", laid_paravent_lex_words), ("paravent/lex.marks", laid_paravent_lex_marks), ("paravent/policy.heads", laid_paravent_policy_heads)], narrowed := true }
def PolicyBackUptoSaid : Prop := policyBackUptoRow.holds Tryz.pinned (OpenSpec.upto policyBackSpec)

/-- 'paraventlaw11.PolicyForms', WHERE WHAT IT READS IS OF BULK AT MOST 1048576: true; the input reads as it did. -/
def policyFormsUptoRow : OpenClaim := { program := "ytileecbccmfpdaagreatdoor", sum := "283f1c8adab73124fb3c74ef14af3349a1ec5ddbd690d1289da6b89c670a6867", func := "paravent/paraventlaw11.PolicyForms", spec := "policyForms", inPlace := ["internal/bytealg.CountString", "internal/bytealg.IndexByteString", "internal/bytealg.IndexString", "internal/abi.NoEscape", "internal/bytealg.MakeNoZero"], unfollowed := true, recurses := true, named := ["paravent/lex.words", "strconv.ErrSyntax", "strconv.ErrRange", "internal/strconv.uint64pow10", "math/bits.deBruijn32tab", "math/bits.deBruijn64tab", "paravent/lex.marks", "paravent/policy.heads", "internal/bytealg.MaxLen"], apart := false, laid := [("math/bits.deBruijn32tab", laid_math_bits_deBruijn32tab), ("math/bits.deBruijn64tab", laid_math_bits_deBruijn64tab), ("internal/strconv.uint64pow10", laid_internal_strconv_uint64pow10), ("strconv.ErrRange", laid_strconv_ErrRange), ("strconv.ErrSyntax", laid_strconv_ErrSyntax), ("paravent/lex.words", laid_paravent_lex_words), ("paravent/lex.marks", laid_paravent_lex_marks), ("paravent/policy.heads", laid_paravent_policy_heads)], narrowed := true }
def PolicyFormsUptoSaid : Prop := policyFormsUptoRow.holds Tryz.pinned (OpenSpec.upto policyFormsSpec)

/-- 'paraventlaw11.PolicyJoins', WHERE WHAT IT READS IS OF BULK AT MOST 1048576: true; the input reads as it did. -/
def policyJoinsUptoRow : OpenClaim := { program := "ytileecbccmfpdaagreatdoor", sum := "283f1c8adab73124fb3c74ef14af3349a1ec5ddbd690d1289da6b89c670a6867", func := "paravent/paraventlaw11.PolicyJoins", spec := "policyJoins", inPlace := ["internal/bytealg.CountString", "internal/bytealg.IndexByteString", "internal/bytealg.IndexString", "internal/abi.NoEscape", "internal/bytealg.MakeNoZero"], unfollowed := true, recurses := true, named := ["paravent/lex.words", "strconv.ErrSyntax", "strconv.ErrRange", "internal/strconv.uint64pow10", "math/bits.deBruijn32tab", "math/bits.deBruijn64tab", "paravent/lex.marks", "paravent/policy.heads", "internal/bytealg.MaxLen"], apart := false, laid := [("math/bits.deBruijn32tab", laid_math_bits_deBruijn32tab), ("math/bits.deBruijn64tab", laid_math_bits_deBruijn64tab), ("internal/strconv.uint64pow10", laid_internal_strconv_uint64pow10), ("strconv.ErrRange", laid_strconv_ErrRange), ("strconv.ErrSyntax", laid_strconv_ErrSyntax), ("paravent/lex.words", laid_paravent_lex_words), ("paravent/lex.marks", laid_paravent_lex_marks), ("paravent/policy.heads", laid_paravent_policy_heads)], narrowed := true }
def PolicyJoinsUptoSaid : Prop := policyJoinsUptoRow.holds Tryz.pinned (OpenSpec.upto policyJoinsSpec)

/-- 'paraventlaw11.PolicyFaults', WHERE WHAT IT READS IS OF BULK AT MOST 1048576: true; the input reads as it did. -/
def policyFaultsUptoRow : OpenClaim := { program := "ytileecbccmfpdaagreatdoor", sum := "283f1c8adab73124fb3c74ef14af3349a1ec5ddbd690d1289da6b89c670a6867", func := "paravent/paraventlaw11.PolicyFaults", spec := "policyFaults", inPlace := ["internal/bytealg.CountString", "internal/bytealg.IndexByteString", "internal/bytealg.IndexString", "internal/abi.NoEscape", "internal/bytealg.MakeNoZero"], unfollowed := true, recurses := true, named := ["paravent/lex.words", "strconv.ErrSyntax", "strconv.ErrRange", "internal/strconv.uint64pow10", "math/bits.deBruijn32tab", "math/bits.deBruijn64tab", "paravent/lex.marks", "paravent/policy.heads", "internal/bytealg.MaxLen"], apart := false, laid := [("math/bits.deBruijn32tab", laid_math_bits_deBruijn32tab), ("math/bits.deBruijn64tab", laid_math_bits_deBruijn64tab), ("internal/strconv.uint64pow10", laid_internal_strconv_uint64pow10), ("strconv.ErrRange", laid_strconv_ErrRange), ("strconv.ErrSyntax", laid_strconv_ErrSyntax), ("paravent/lex.words", laid_paravent_lex_words), ("paravent/lex.marks", laid_paravent_lex_marks), ("paravent/policy.heads", laid_paravent_policy_heads)], narrowed := true }
def PolicyFaultsUptoSaid : Prop := policyFaultsUptoRow.holds Tryz.pinned (OpenSpec.upto policyFaultsSpec)

/-- 'paraventlaw11.PolicyStrips', WHERE WHAT IT READS IS OF BULK AT MOST 1048576: true; the input reads as it did. -/
def policyStripsUptoRow : OpenClaim := { program := "ytileecbccmfpdaagreatdoor", sum := "283f1c8adab73124fb3c74ef14af3349a1ec5ddbd690d1289da6b89c670a6867", func := "paravent/paraventlaw11.PolicyStrips", spec := "policyStrips", inPlace := ["internal/bytealg.CountString", "internal/bytealg.IndexByteString", "internal/bytealg.IndexString", "internal/abi.NoEscape", "internal/bytealg.MakeNoZero"], unfollowed := true, recurses := true, named := ["paravent/lex.words", "strconv.ErrSyntax", "strconv.ErrRange", "internal/strconv.uint64pow10", "math/bits.deBruijn32tab", "math/bits.deBruijn64tab", "paravent/lex.marks", "paravent/policy.heads", "internal/bytealg.MaxLen"], apart := false, laid := [("math/bits.deBruijn32tab", laid_math_bits_deBruijn32tab), ("math/bits.deBruijn64tab", laid_math_bits_deBruijn64tab), ("internal/strconv.uint64pow10", laid_internal_strconv_uint64pow10), ("strconv.ErrRange", laid_strconv_ErrRange), ("strconv.ErrSyntax", laid_strconv_ErrSyntax), ("paravent/lex.words", laid_paravent_lex_words), ("paravent/lex.marks", laid_paravent_lex_marks), ("paravent/policy.heads", laid_paravent_policy_heads)], narrowed := true }
def PolicyStripsUptoSaid : Prop := policyStripsUptoRow.holds Tryz.pinned (OpenSpec.upto policyStripsSpec)

end Rows
end Go.Proofs.YtileecbccmfpdaaGreatDoor

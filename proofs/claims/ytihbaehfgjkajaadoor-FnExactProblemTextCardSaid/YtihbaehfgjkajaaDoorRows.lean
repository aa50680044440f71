/-
  NARROWER THAN 'FOR EVERY INPUT', by the rows' own cells (each row's printed sentence says how): FnFields: ifaces, laid · FnExactFieldNames: ifaces, laid · FnExactFieldOf: ifaces, laid · FnExactSetField: ifaces, laid · FnExactRulesText: laid · FnExactProblemText: ifaces, laid · FnExactDifferentFields: ifaces, laid.
  DERIVED. THE GIVEN ROWS OF THIS SEAT. 7 by the template 'for every input the law returns true; each argument reads behind the call as it read before'; 0 by the template 'total and deterministic' (their statements: YtihbaehfgjkajaaDoorTotals.lean).
  GIVEN WITH THE SEED: the statements are not yours to turn. If you find one false, say at which input.
  Laid BY PROGRAM, IN A SANDBOX (cutbox-rows.mjs): the forced cells as the released guide's own fill.sh prints them over the translation 725f9bc735d876eb… (all of the seat's roots in one cut). By AI agents, Wed Nov 11 2026. No macro, syntax, notation, axiom, sorry.
-/
import Derived.Test.YtihbaehfgjkajaaDoorChecked
import GoSem.Claim
import GoSem.ClaimJoined
import GoSem.ClaimMapViews
import Derived.JoinedTies
import Derived.KernelRfl
namespace Go.Proofs.YtihbaehfgjkajaaDoor
/- THE CELL 'sum', in the pinned program and in every row, IS THE sha256 OF THE DUMP (.gsa) THAT YtihbaehfgjkajaaDoorProg.lean LOADS. Nothing in Lean hashes anything: it is a label: what it is worth is what the hold of that sum in a sandbox is worth. -/
noncomputable def Tryd.pinned : Pinned := { name := "ytihbaehfgjkajaadoor", sum := "725f9bc735d876eb6e68d09f13c0ed6da9a97efca6a7ed508916ccfeae36653f", checked := Tryd.checked }
namespace Rows
def none {H : Type} : Left H := { results := [], args := [] }

/- WHAT THE LISTED PACKAGE-LEVEL VARIABLES READ AS WHEN THE CALL BEGINS. Each datum BY PROGRAM (the guide's laid-datum.mjs) off the statement by which the dump's own 'gosem.cut.vars' lays the variable. In a bare row this is a premise. The card (YtihbaehfgjkajaaDoorCards.lean) ties it to the program's text. -/
def laid_math_bits_deBruijn32tab {H : Type} : DataW H := .agg [.lit (.int .u8 0), .lit (.int .u8 1), .lit (.int .u8 28), .lit (.int .u8 2), .lit (.int .u8 29), .lit (.int .u8 14), .lit (.int .u8 24), .lit (.int .u8 3), .lit (.int .u8 30), .lit (.int .u8 22), .lit (.int .u8 20), .lit (.int .u8 15), .lit (.int .u8 25), .lit (.int .u8 17), .lit (.int .u8 4), .lit (.int .u8 8), .lit (.int .u8 31), .lit (.int .u8 27), .lit (.int .u8 13), .lit (.int .u8 23), .lit (.int .u8 21), .lit (.int .u8 19), .lit (.int .u8 16), .lit (.int .u8 7), .lit (.int .u8 26), .lit (.int .u8 12), .lit (.int .u8 18), .lit (.int .u8 6), .lit (.int .u8 11), .lit (.int .u8 5), .lit (.int .u8 10), .lit (.int .u8 9)]
def laid_math_bits_deBruijn64tab {H : Type} : DataW H := .agg [.lit (.int .u8 0), .lit (.int .u8 1), .lit (.int .u8 56), .lit (.int .u8 2), .lit (.int .u8 57), .lit (.int .u8 49), .lit (.int .u8 28), .lit (.int .u8 3), .lit (.int .u8 61), .lit (.int .u8 58), .lit (.int .u8 42), .lit (.int .u8 50), .lit (.int .u8 38), .lit (.int .u8 29), .lit (.int .u8 17), .lit (.int .u8 4), .lit (.int .u8 62), .lit (.int .u8 47), .lit (.int .u8 59), .lit (.int .u8 36), .lit (.int .u8 45), .lit (.int .u8 43), .lit (.int .u8 51), .lit (.int .u8 22), .lit (.int .u8 53), .lit (.int .u8 39), .lit (.int .u8 33), .lit (.int .u8 30), .lit (.int .u8 24), .lit (.int .u8 18), .lit (.int .u8 12), .lit (.int .u8 5), .lit (.int .u8 63), .lit (.int .u8 55), .lit (.int .u8 48), .lit (.int .u8 27), .lit (.int .u8 60), .lit (.int .u8 41), .lit (.int .u8 37), .lit (.int .u8 16), .lit (.int .u8 46), .lit (.int .u8 35), .lit (.int .u8 44), .lit (.int .u8 21), .lit (.int .u8 52), .lit (.int .u8 32), .lit (.int .u8 23), .lit (.int .u8 11), .lit (.int .u8 54), .lit (.int .u8 26), .lit (.int .u8 40), .lit (.int .u8 15), .lit (.int .u8 34), .lit (.int .u8 20), .lit (.int .u8 31), .lit (.int .u8 10), .lit (.int .u8 25), .lit (.int .u8 14), .lit (.int .u8 19), .lit (.int .u8 9), .lit (.int .u8 13), .lit (.int .u8 8), .lit (.int .u8 7), .lit (.int .u8 6)]
def laid_internal_strconv_uint64pow10 {H : Type} : DataW H := .agg [.lit (.int .u64 1), .lit (.int .u64 10), .lit (.int .u64 100), .lit (.int .u64 1000), .lit (.int .u64 10000), .lit (.int .u64 100000), .lit (.int .u64 1000000), .lit (.int .u64 10000000), .lit (.int .u64 100000000), .lit (.int .u64 1000000000), .lit (.int .u64 10000000000), .lit (.int .u64 100000000000), .lit (.int .u64 1000000000000), .lit (.int .u64 10000000000000), .lit (.int .u64 100000000000000), .lit (.int .u64 1000000000000000), .lit (.int .u64 10000000000000000), .lit (.int .u64 100000000000000000), .lit (.int .u64 1000000000000000000), .lit (.int .u64 10000000000000000000)]
def laid_strconv_ErrRange {H : Type} : DataW H := .iface "*errors.errorString" (.ptr (.agg [.lit (.string [118, 97, 108, 117, 101, 32, 111, 117, 116, 32, 111, 102, 32, 114, 97, 110, 103, 101])]))
def laid_strconv_ErrSyntax {H : Type} : DataW H := .iface "*errors.errorString" (.ptr (.agg [.lit (.string [105, 110, 118, 97, 108, 105, 100, 32, 115, 121, 110, 116, 97, 120])]))
def laid_loop_example_g00926_impl_errNotNumber {H : Type} : DataW H := .iface "*errors.errorString" (.ptr (.agg [.lit (.string [110, 111, 116, 32, 97, 32, 110, 117, 109, 98, 101, 114])]))
def laid_loop_example_g00926_impl_errNotAllowed {H : Type} : DataW H := .iface "*errors.errorString" (.ptr (.agg [.lit (.string [110, 111, 116, 32, 97, 108, 108, 111, 119, 101, 100])]))
def laid_loop_example_g00926_impl_errUnknownWord {H : Type} : DataW H := .iface "*errors.errorString" (.ptr (.agg [.lit (.string [117, 110, 107, 110, 111, 119, 110, 32, 119, 111, 114, 100])]))
def laid_loop_example_g00926_impl_errGivenTwice {H : Type} : DataW H := .iface "*errors.errorString" (.ptr (.agg [.lit (.string [103, 105, 118, 101, 110, 32, 116, 119, 105, 99, 101])]))
def laid_loop_example_g00926_impl_errMissing {H : Type} : DataW H := .iface "*errors.errorString" (.ptr (.agg [.lit (.string [109, 105, 115, 115, 105, 110, 103])]))
def laid_loop_example_g00926_impl_errNeedsStores {H : Type} : DataW H := .iface "*errors.errorString" (.ptr (.agg [.lit (.string [110, 101, 101, 100, 115, 32, 115, 116, 111, 114, 101, 115])]))

/-- 'laws.FnFields': WHATEVER THE INPUT: true; the input reads as it did. -/
def fnFieldsSpec : ChangeSpec := { name := "fnFields", vars := ["loop.example/g00926/impl.errNotNumber", "loop.example/g00926/impl.errNotAllowed"], fn := fun _ => fun
  | [d, g1, g2] => { results := [.lit (.bool true)], args := [d], vars := [g1, g2] }
  | _ => none }
def fnFieldsRow : OpenClaim := { program := "ytihbaehfgjkajaadoor", sum := "725f9bc735d876eb6e68d09f13c0ed6da9a97efca6a7ed508916ccfeae36653f", func := "loop.example/g00926/laws.FnFields", spec := "fnFields", unfollowed := true, recurses := true, named := ["loop.example/g00926/impl.errNotNumber", "loop.example/g00926/impl.errNotAllowed", "strconv.ErrSyntax", "strconv.ErrRange", "internal/strconv.uint64pow10", "math/bits.deBruijn32tab", "math/bits.deBruijn64tab"], ifaces := true, apart := false, laid := [("math/bits.deBruijn32tab", laid_math_bits_deBruijn32tab), ("math/bits.deBruijn64tab", laid_math_bits_deBruijn64tab), ("internal/strconv.uint64pow10", laid_internal_strconv_uint64pow10), ("strconv.ErrRange", laid_strconv_ErrRange), ("strconv.ErrSyntax", laid_strconv_ErrSyntax), ("loop.example/g00926/impl.errNotNumber", laid_loop_example_g00926_impl_errNotNumber), ("loop.example/g00926/impl.errNotAllowed", laid_loop_example_g00926_impl_errNotAllowed)] }
def FnFieldsSaid : Prop := fnFieldsRow.holds Tryd.pinned (OpenSpec.ofChange fnFieldsSpec)

/-- ITS FALSE NEIGHBOUR: 'it returns false'. Refute it at one input. -/
def fnFieldsWrong : ChangeSpec := { name := "fnFields", vars := ["loop.example/g00926/impl.errNotNumber", "loop.example/g00926/impl.errNotAllowed"], fn := fun _ => fun
  | [d, g1, g2] => { results := [.lit (.bool false)], args := [d], vars := [g1, g2] }
  | _ => none }
def FnFieldsWrongFalsely : Prop := fnFieldsRow.holds Tryd.pinned (OpenSpec.ofChange fnFieldsWrong)

/-- 'laws.FnExactFieldNames': WHATEVER THE INPUT: true; the input reads as it did. -/
def fnExactFieldNamesSpec : ChangeSpec := { name := "fnExactFieldNames", vars := ["loop.example/g00926/impl.errNotNumber", "loop.example/g00926/impl.errNotAllowed"], fn := fun _ => fun
  | [g1, g2] => { results := [.lit (.bool true)], args := [], vars := [g1, g2] }
  | _ => none }
def fnExactFieldNamesRow : OpenClaim := { program := "ytihbaehfgjkajaadoor", sum := "725f9bc735d876eb6e68d09f13c0ed6da9a97efca6a7ed508916ccfeae36653f", func := "loop.example/g00926/laws.FnExactFieldNames", spec := "fnExactFieldNames", unfollowed := true, recurses := true, named := ["loop.example/g00926/impl.errNotNumber", "loop.example/g00926/impl.errNotAllowed", "strconv.ErrSyntax", "strconv.ErrRange", "internal/strconv.uint64pow10", "math/bits.deBruijn32tab", "math/bits.deBruijn64tab"], ifaces := true, apart := false, laid := [("math/bits.deBruijn32tab", laid_math_bits_deBruijn32tab), ("math/bits.deBruijn64tab", laid_math_bits_deBruijn64tab), ("internal/strconv.uint64pow10", laid_internal_strconv_uint64pow10), ("strconv.ErrRange", laid_strconv_ErrRange), ("strconv.ErrSyntax", laid_strconv_ErrSyntax), ("loop.example/g00926/impl.errNotNumber", laid_loop_example_g00926_impl_errNotNumber), ("loop.example/g00926/impl.errNotAllowed", laid_loop_example_g00926_impl_errNotAllowed)] }
def FnExactFieldNamesSaid : Prop := fnExactFieldNamesRow.holds Tryd.pinned (OpenSpec.ofChange fnExactFieldNamesSpec)

/-- ITS FALSE NEIGHBOUR: 'it returns false'. Refute it at one input. -/
def fnExactFieldNamesWrong : ChangeSpec := { name := "fnExactFieldNames", vars := ["loop.example/g00926/impl.errNotNumber", "loop.example/g00926/impl.errNotAllowed"], fn := fun _ => fun
  | [g1, g2] => { results := [.lit (.bool false)], args := [], vars := [g1, g2] }
  | _ => none }
def FnExactFieldNamesWrongFalsely : Prop := fnExactFieldNamesRow.holds Tryd.pinned (OpenSpec.ofChange fnExactFieldNamesWrong)

/-- 'laws.FnExactFieldOf': WHATEVER THE INPUT: true; the input reads as it did. -/
def fnExactFieldOfSpec : ChangeSpec := { name := "fnExactFieldOf", vars := ["loop.example/g00926/impl.errNotNumber", "loop.example/g00926/impl.errNotAllowed"], fn := fun _ => fun
  | [d1, d2, g1, g2] => { results := [.lit (.bool true)], args := [d1, d2], vars := [g1, g2] }
  | _ => none }
def fnExactFieldOfRow : OpenClaim := { program := "ytihbaehfgjkajaadoor", sum := "725f9bc735d876eb6e68d09f13c0ed6da9a97efca6a7ed508916ccfeae36653f", func := "loop.example/g00926/laws.FnExactFieldOf", spec := "fnExactFieldOf", unfollowed := true, recurses := true, named := ["loop.example/g00926/impl.errNotNumber", "loop.example/g00926/impl.errNotAllowed", "strconv.ErrSyntax", "strconv.ErrRange", "internal/strconv.uint64pow10", "math/bits.deBruijn32tab", "math/bits.deBruijn64tab"], ifaces := true, apart := false, laid := [("math/bits.deBruijn32tab", laid_math_bits_deBruijn32tab), ("math/bits.deBruijn64tab", laid_math_bits_deBruijn64tab), ("internal/strconv.uint64pow10", laid_internal_strconv_uint64pow10), ("strconv.ErrRange", laid_strconv_ErrRange), ("strconv.ErrSyntax", laid_strconv_ErrSyntax), ("loop.example/g00926/impl.errNotNumber", laid_loop_example_g00926_impl_errNotNumber), ("loop.example/g00926/impl.errNotAllowed", laid_loop_example_g00926_impl_errNotAllowed)] }
def FnExactFieldOfSaid : Prop := fnExactFieldOfRow.holds Tryd.pinned (OpenSpec.ofChange fnExactFieldOfSpec)

/-- ITS FALSE NEIGHBOUR: 'it returns false'. Refute it at one input. -/
def fnExactFieldOfWrong : ChangeSpec := { name := "fnExactFieldOf", vars := ["loop.example/g00926/impl.errNotNumber", "loop.example/g00926/impl.errNotAllowed"], fn := fun _ => fun
  | [d1, d2, g1, g2] => { results := [.lit (.bool false)], args := [d1, d2], vars := [g1, g2] }
  | _ => none }
def FnExactFieldOfWrongFalsely : Prop := fnExactFieldOfRow.holds Tryd.pinned (OpenSpec.ofChange fnExactFieldOfWrong)

/-- 'laws.FnExactSetField': WHATEVER THE INPUT: true; the input reads as it did. -/
def fnExactSetFieldSpec : ChangeSpec := { name := "fnExactSetField", vars := ["loop.example/g00926/impl.errNotNumber", "loop.example/g00926/impl.errNotAllowed"], fn := fun _ => fun
  | [d1, d2, d3, g1, g2] => { results := [.lit (.bool true)], args := [d1, d2, d3], vars := [g1, g2] }
  | _ => none }
def fnExactSetFieldRow : OpenClaim := { program := "ytihbaehfgjkajaadoor", sum := "725f9bc735d876eb6e68d09f13c0ed6da9a97efca6a7ed508916ccfeae36653f", func := "loop.example/g00926/laws.FnExactSetField", spec := "fnExactSetField", unfollowed := true, recurses := true, named := ["loop.example/g00926/impl.errNotNumber", "loop.example/g00926/impl.errNotAllowed", "strconv.ErrSyntax", "strconv.ErrRange", "internal/strconv.uint64pow10", "math/bits.deBruijn32tab", "math/bits.deBruijn64tab"], ifaces := true, apart := false, laid := [("math/bits.deBruijn32tab", laid_math_bits_deBruijn32tab), ("math/bits.deBruijn64tab", laid_math_bits_deBruijn64tab), ("internal/strconv.uint64pow10", laid_internal_strconv_uint64pow10), ("strconv.ErrRange", laid_strconv_ErrRange), ("strconv.ErrSyntax", laid_strconv_ErrSyntax), ("loop.example/g00926/impl.errNotNumber", laid_loop_example_g00926_impl_errNotNumber), ("loop.example/g00926/impl.errNotAllowed", laid_loop_example_g00926_impl_errNotAllowed)] }
def FnExactSetFieldSaid : Prop := fnExactSetFieldRow.holds Tryd.pinned (OpenSpec.ofChange fnExactSetFieldSpec)

/-- ITS FALSE NEIGHBOUR: 'it returns false'. Refute it at one input. -/
def fnExactSetFieldWrong : ChangeSpec := { name := "fnExactSetField", vars := ["loop.example/g00926/impl.errNotNumber", "loop.example/g00926/impl.errNotAllowed"], fn := fun _ => fun
  | [d1, d2, d3, g1, g2] => { results := [.lit (.bool false)], args := [d1, d2, d3], vars := [g1, g2] }
  | _ => none }
def FnExactSetFieldWrongFalsely : Prop := fnExactSetFieldRow.holds Tryd.pinned (OpenSpec.ofChange fnExactSetFieldWrong)

/-- 'laws.FnExactRulesText': WHATEVER THE INPUT: true; the input reads as it did. -/
def fnExactRulesTextSpec : ChangeSpec := { name := "fnExactRulesText", fn := fun _ => fun
  | [d] => { results := [.lit (.bool true)], args := [d] }
  | _ => none }
def fnExactRulesTextRow : OpenClaim := { program := "ytihbaehfgjkajaadoor", sum := "725f9bc735d876eb6e68d09f13c0ed6da9a97efca6a7ed508916ccfeae36653f", func := "loop.example/g00926/laws.FnExactRulesText", spec := "fnExactRulesText", inPlace := ["internal/abi.NoEscape", "internal/bytealg.MakeNoZero"], unfollowed := true, recurses := true, named := ["internal/strconv.uint64pow10", "math/bits.deBruijn32tab", "math/bits.deBruijn64tab"], apart := false, laid := [("math/bits.deBruijn32tab", laid_math_bits_deBruijn32tab), ("math/bits.deBruijn64tab", laid_math_bits_deBruijn64tab), ("internal/strconv.uint64pow10", laid_internal_strconv_uint64pow10)] }
def FnExactRulesTextSaid : Prop := fnExactRulesTextRow.holds Tryd.pinned (OpenSpec.ofChange fnExactRulesTextSpec)

/-- ITS FALSE NEIGHBOUR: 'it returns false'. Refute it at one input. -/
def fnExactRulesTextWrong : ChangeSpec := { name := "fnExactRulesText", fn := fun _ => fun
  | [d] => { results := [.lit (.bool false)], args := [d] }
  | _ => none }
def FnExactRulesTextWrongFalsely : Prop := fnExactRulesTextRow.holds Tryd.pinned (OpenSpec.ofChange fnExactRulesTextWrong)

/-- 'laws.FnExactProblemText': WHATEVER THE INPUT: true; the input reads as it did. -/
def fnExactProblemTextSpec : ChangeSpec := { name := "fnExactProblemText", vars := ["loop.example/g00926/impl.errUnknownWord", "loop.example/g00926/impl.errGivenTwice", "loop.example/g00926/impl.errNotNumber", "loop.example/g00926/impl.errNotAllowed", "loop.example/g00926/impl.errMissing", "loop.example/g00926/impl.errNeedsStores"], fn := fun _ => fun
  | [d, g1, g2, g3, g4, g5, g6] => { results := [.lit (.bool true)], args := [d], vars := [g1, g2, g3, g4, g5, g6] }
  | _ => none }
def fnExactProblemTextRow : OpenClaim := { program := "ytihbaehfgjkajaadoor", sum := "725f9bc735d876eb6e68d09f13c0ed6da9a97efca6a7ed508916ccfeae36653f", func := "loop.example/g00926/laws.FnExactProblemText", spec := "fnExactProblemText", unfollowed := true, recurses := true, named := ["loop.example/g00926/impl.errUnknownWord", "loop.example/g00926/impl.errGivenTwice", "loop.example/g00926/impl.errNotNumber", "loop.example/g00926/impl.errNotAllowed", "loop.example/g00926/impl.errMissing", "loop.example/g00926/impl.errNeedsStores", "internal/strconv.uint64pow10", "math/bits.deBruijn32tab", "math/bits.deBruijn64tab"], ifaces := true, apart := false, laid := [("math/bits.deBruijn32tab", laid_math_bits_deBruijn32tab), ("math/bits.deBruijn64tab", laid_math_bits_deBruijn64tab), ("internal/strconv.uint64pow10", laid_internal_strconv_uint64pow10), ("loop.example/g00926/impl.errUnknownWord", laid_loop_example_g00926_impl_errUnknownWord), ("loop.example/g00926/impl.errGivenTwice", laid_loop_example_g00926_impl_errGivenTwice), ("loop.example/g00926/impl.errNotNumber", laid_loop_example_g00926_impl_errNotNumber), ("loop.example/g00926/impl.errNotAllowed", laid_loop_example_g00926_impl_errNotAllowed), ("loop.example/g00926/impl.errMissing", laid_loop_example_g00926_impl_errMissing), ("loop.example/g00926/impl.errNeedsStores", laid_loop_example_g00926_impl_errNeedsStores)] }
def FnExactProblemTextSaid : Prop := fnExactProblemTextRow.holds Tryd.pinned (OpenSpec.ofChange fnExactProblemTextSpec)

/-- ITS FALSE NEIGHBOUR: 'it returns false'. Refute it at one input. -/
def fnExactProblemTextWrong : ChangeSpec := { name := "fnExactProblemText", vars := ["loop.example/g00926/impl.errUnknownWord", "loop.example/g00926/impl.errGivenTwice", "loop.example/g00926/impl.errNotNumber", "loop.example/g00926/impl.errNotAllowed", "loop.example/g00926/impl.errMissing", "loop.example/g00926/impl.errNeedsStores"], fn := fun _ => fun
  | [d, g1, g2, g3, g4, g5, g6] => { results := [.lit (.bool false)], args := [d], vars := [g1, g2, g3, g4, g5, g6] }
  | _ => none }
def FnExactProblemTextWrongFalsely : Prop := fnExactProblemTextRow.holds Tryd.pinned (OpenSpec.ofChange fnExactProblemTextWrong)

/-- 'laws.FnExactDifferentFields': WHATEVER THE INPUT: true; the input reads as it did. -/
def fnExactDifferentFieldsSpec : ChangeSpec := { name := "fnExactDifferentFields", vars := ["loop.example/g00926/impl.errNotNumber", "loop.example/g00926/impl.errNotAllowed"], fn := fun _ => fun
  | [d1, d2, g1, g2] => { results := [.lit (.bool true)], args := [d1, d2], vars := [g1, g2] }
  | _ => none }
def fnExactDifferentFieldsRow : OpenClaim := { program := "ytihbaehfgjkajaadoor", sum := "725f9bc735d876eb6e68d09f13c0ed6da9a97efca6a7ed508916ccfeae36653f", func := "loop.example/g00926/laws.FnExactDifferentFields", spec := "fnExactDifferentFields", unfollowed := true, recurses := true, named := ["loop.example/g00926/impl.errNotNumber", "loop.example/g00926/impl.errNotAllowed", "strconv.ErrSyntax", "strconv.ErrRange", "internal/strconv.uint64pow10", "math/bits.deBruijn32tab", "math/bits.deBruijn64tab"], ifaces := true, apart := false, laid := [("math/bits.deBruijn32tab", laid_math_bits_deBruijn32tab), ("math/bits.deBruijn64tab", laid_math_bits_deBruijn64tab), ("internal/strconv.uint64pow10", laid_internal_strconv_uint64pow10), ("strconv.ErrRange", laid_strconv_ErrRange), ("strconv.ErrSyntax", laid_strconv_ErrSyntax), ("loop.example/g00926/impl.errNotNumber", laid_loop_example_g00926_impl_errNotNumber), ("loop.example/g00926/impl.errNotAllowed", laid_loop_example_g00926_impl_errNotAllowed)] }
def FnExactDifferentFieldsSaid : Prop := fnExactDifferentFieldsRow.holds Tryd.pinned (OpenSpec.ofChange fnExactDifferentFieldsSpec)

/-- ITS FALSE NEIGHBOUR: 'it returns false'. Refute it at one input. -/
def fnExactDifferentFieldsWrong : ChangeSpec := { name := "fnExactDifferentFields", vars := ["loop.example/g00926/impl.errNotNumber", "loop.example/g00926/impl.errNotAllowed"], fn := fun _ => fun
  | [d1, d2, g1, g2] => { results := [.lit (.bool false)], args := [d1, d2], vars := [g1, g2] }
  | _ => none }
def FnExactDifferentFieldsWrongFalsely : Prop := fnExactDifferentFieldsRow.holds Tryd.pinned (OpenSpec.ofChange fnExactDifferentFieldsWrong)

/- THE SECOND FORM. 'bulk': how many values and letters a reading holds, each counted each time it is reached (what is shared counts as often as it is met; a slice's spare places count too). A statement '..UptoSaid' is the law's where the arguments, and the package variables that the reading takes, are together of bulk at most 1048576: NARROWER than '..Said'. Prove '..Said' where nothing that the law and all that it calls make is longer than what came in: it says more and counts as full. Else prove '..UptoSaid'. A law counts once. -/
mutual
def uptoBulk {H : Type} : DataW H → Nat
  | .lit (.string bytes) => bytes.length + 1
  | .lit _ => 1
  | .nil => 1
  | .ptr d => uptoBulk d + 1
  | .slice elems spare => uptoBulkAll elems + uptoBulkAll spare + 1
  | .agg parts => uptoBulkAll parts + 1
  | .iface _ d => uptoBulk d + 1
  | .map entries => uptoBulkEntries entries + 1
  | .held _ => 1
def uptoBulkAll {H : Type} : List (DataW H) → Nat
  | [] => 0
  | d :: r => uptoBulk d + uptoBulkAll r
def uptoBulkEntries {H : Type} : List (Lit × DataW H) → Nat
  | [] => 0
  | x :: r => uptoBulkEntry x + uptoBulkEntries r
def uptoBulkEntry {H : Type} : Lit × DataW H → Nat
  | (.string bytes, d) => bytes.length + uptoBulk d + 1
  | (_, d) => uptoBulk d + 1
 end
def uptoSmall : (H : Type) → List (DataW H) → Bool := fun _ ds => decide (uptoBulkAll ds ≤ 1048576)
def OpenSpec.upto (s : _root_.Go.ChangeSpec) : _root_.Go.OpenSpec := { _root_.Go.OpenSpec.ofChange s with cond := some uptoSmall }

/-- 'laws.FnFields', WHERE WHAT IT READS IS OF BULK AT MOST 1048576: true; the input reads as it did. -/
def fnFieldsUptoRow : OpenClaim := { program := "ytihbaehfgjkajaadoor", sum := "725f9bc735d876eb6e68d09f13c0ed6da9a97efca6a7ed508916ccfeae36653f", func := "loop.example/g00926/laws.FnFields", spec := "fnFields", unfollowed := true, recurses := true, named := ["loop.example/g00926/impl.errNotNumber", "loop.example/g00926/impl.errNotAllowed", "strconv.ErrSyntax", "strconv.ErrRange", "internal/strconv.uint64pow10", "math/bits.deBruijn32tab", "math/bits.deBruijn64tab"], ifaces := true, apart := false, laid := [("math/bits.deBruijn32tab", laid_math_bits_deBruijn32tab), ("math/bits.deBruijn64tab", laid_math_bits_deBruijn64tab), ("internal/strconv.uint64pow10", laid_internal_strconv_uint64pow10), ("strconv.ErrRange", laid_strconv_ErrRange), ("strconv.ErrSyntax", laid_strconv_ErrSyntax), ("loop.example/g00926/impl.errNotNumber", laid_loop_example_g00926_impl_errNotNumber), ("loop.example/g00926/impl.errNotAllowed", laid_loop_example_g00926_impl_errNotAllowed)], narrowed := true }
def FnFieldsUptoSaid : Prop := fnFieldsUptoRow.holds Tryd.pinned (OpenSpec.upto fnFieldsSpec)

/-- 'laws.FnExactFieldNames', WHERE WHAT IT READS IS OF BULK AT MOST 1048576: true; the input reads as it did. -/
def fnExactFieldNamesUptoRow : OpenClaim := { program := "ytihbaehfgjkajaadoor", sum := "725f9bc735d876eb6e68d09f13c0ed6da9a97efca6a7ed508916ccfeae36653f", func := "loop.example/g00926/laws.FnExactFieldNames", spec := "fnExactFieldNames", unfollowed := true, recurses := true, named := ["loop.example/g00926/impl.errNotNumber", "loop.example/g00926/impl.errNotAllowed", "strconv.ErrSyntax", "strconv.ErrRange", "internal/strconv.uint64pow10", "math/bits.deBruijn32tab", "math/bits.deBruijn64tab"], ifaces := true, apart := false, laid := [("math/bits.deBruijn32tab", laid_math_bits_deBruijn32tab), ("math/bits.deBruijn64tab", laid_math_bits_deBruijn64tab), ("internal/strconv.uint64pow10", laid_internal_strconv_uint64pow10), ("strconv.ErrRange", laid_strconv_ErrRange), ("strconv.ErrSyntax", laid_strconv_ErrSyntax), ("loop.example/g00926/impl.errNotNumber", laid_loop_example_g00926_impl_errNotNumber), ("loop.example/g00926/impl.errNotAllowed", laid_loop_example_g00926_impl_errNotAllowed)], narrowed := true }
def FnExactFieldNamesUptoSaid : Prop := fnExactFieldNamesUptoRow.holds Tryd.pinned (OpenSpec.upto fnExactFieldNamesSpec)

/-- 'laws.FnExactFieldOf', WHERE WHAT IT READS IS OF BULK AT MOST 1048576: true; the input reads as it did. -/
def fnExactFieldOfUptoRow : OpenClaim := { program := "ytihbaehfgjkajaadoor", sum := "725f9bc735d876eb6e68d09f13c0ed6da9a97efca6a7ed508916ccfeae36653f", func := "loop.example/g00926/laws.FnExactFieldOf", spec := "fnExactFieldOf", unfollowed := true, recurses := true, named := ["loop.example/g00926/impl.errNotNumber", "loop.example/g00926/impl.errNotAllowed", "strconv.ErrSyntax", "strconv.ErrRange", "internal/strconv.uint64pow10", "math/bits.deBruijn32tab", "math/bits.deBruijn64tab"], ifaces := true, apart := false, laid := [("math/bits.deBruijn32tab", laid_math_bits_deBruijn32tab), ("math/bits.deBruijn64tab", laid_math_bits_deBruijn64tab), ("internal/strconv.uint64pow10", laid_internal_strconv_uint64pow10), ("strconv.ErrRange", laid_strconv_ErrRange), ("strconv.ErrSyntax", laid_strconv_ErrSyntax), ("loop.example/g00926/impl.errNotNumber", laid_loop_example_g00926_impl_errNotNumber), ("loop.example/g00926/impl.errNotAllowed", laid_loop_example_g00926_impl_errNotAllowed)], narrowed := true }
def FnExactFieldOfUptoSaid : Prop := fnExactFieldOfUptoRow.holds Tryd.pinned (OpenSpec.upto fnExactFieldOfSpec)

/-- 'laws.FnExactSetField', WHERE WHAT IT READS IS OF BULK AT MOST 1048576: true; the input reads as it did. -/
def fnExactSetFieldUptoRow : OpenClaim := { program := "ytihbaehfgjkajaadoor", sum := "725f9bc735d876eb6e68d09f13c0ed6da9a97efca6a7ed508916ccfeae36653f", func := "loop.example/g00926/laws.FnExactSetField", spec := "fnExactSetField", unfollowed := true, recurses := true, named := ["loop.example/g00926/impl.errNotNumber", "loop.example/g00926/impl.errNotAllowed", "strconv.ErrSyntax", "strconv.ErrRange", "internal/strconv.uint64pow10", "math/bits.deBruijn32tab", "math/bits.deBruijn64tab"], ifaces := true, apart := false, laid := [("math/bits.deBruijn32tab", laid_math_bits_deBruijn32tab), ("math/bits.deBruijn64tab", laid_math_bits_deBruijn64tab), ("internal/strconv.uint64pow10", laid_internal_strconv_uint64pow10), ("strconv.ErrRange", laid_strconv_ErrRange), ("strconv.ErrSyntax", laid_strconv_ErrSyntax), ("loop.example/g00926/impl.errNotNumber", laid_loop_example_g00926_impl_errNotNumber), ("loop.example/g00926/impl.errNotAllowed", laid_loop_example_g00926_impl_errNotAllowed)], narrowed := true }
def FnExactSetFieldUptoSaid : Prop := fnExactSetFieldUptoRow.holds Tryd.pinned (OpenSpec.upto fnExactSetFieldSpec)

/-- 'laws.FnExactRulesText', WHERE WHAT IT READS IS OF BULK AT MOST 1048576: true; the input reads as it did. -/
def fnExactRulesTextUptoRow : OpenClaim := { program := "ytihbaehfgjkajaadoor", sum := "725f9bc735d876eb6e68d09f13c0ed6da9a97efca6a7ed508916ccfeae36653f", func := "loop.example/g00926/laws.FnExactRulesText", spec := "fnExactRulesText", inPlace := ["internal/abi.NoEscape", "internal/bytealg.MakeNoZero"], unfollowed := true, recurses := true, named := ["internal/strconv.uint64pow10", "math/bits.deBruijn32tab", "math/bits.deBruijn64tab"], apart := false, laid := [("math/bits.deBruijn32tab", laid_math_bits_deBruijn32tab), ("math/bits.deBruijn64tab", laid_math_bits_deBruijn64tab), ("internal/strconv.uint64pow10", laid_internal_strconv_uint64pow10)], narrowed := true }
def FnExactRulesTextUptoSaid : Prop := fnExactRulesTextUptoRow.holds Tryd.pinned (OpenSpec.upto fnExactRulesTextSpec)

/-- 'laws.FnExactProblemText', WHERE WHAT IT READS IS OF BULK AT MOST 1048576: true; the input reads as it did. -/
def fnExactProblemTextUptoRow : OpenClaim := { program := "ytihbaehfgjkajaadoor", sum := "725f9bc735d876eb6e68d09f13c0ed6da9a97efca6a7ed508916ccfeae36653f", func := "loop.example/g00926/laws.FnExactProblemText", spec := "fnExactProblemText", unfollowed := true, recurses := true, named := ["loop.example/g00926/impl.errUnknownWord", "loop.example/g00926/impl.errGivenTwice", "loop.example/g00926/impl.errNotNumber", "loop.example/g00926/impl.errNotAllowed", "loop.example/g00926/impl.errMissing", "loop.example/g00926/impl.errNeedsStores", "internal/strconv.uint64pow10", "math/bits.deBruijn32tab", "math/bits.deBruijn64tab"], ifaces := true, apart := false, laid := [("math/bits.deBruijn32tab", laid_math_bits_deBruijn32tab), ("math/bits.deBruijn64tab", laid_math_bits_deBruijn64tab), ("internal/strconv.uint64pow10", laid_internal_strconv_uint64pow10), ("loop.example/g00926/impl.errUnknownWord", laid_loop_example_g00926_impl_errUnknownWord), ("loop.example/g00926/impl.errGivenTwice", laid_loop_example_g00926_impl_errGivenTwice), ("loop.example/g00926/impl.errNotNumber", laid_loop_example_g00926_impl_errNotNumber), ("loop.example/g00926/impl.errNotAllowed", laid_loop_example_g00926_impl_errNotAllowed), ("loop.example/g00926/impl.errMissing", laid_loop_example_g00926_impl_errMissing), ("loop.example/g00926/impl.errNeedsStores", laid_loop_example_g00926_impl_errNeedsStores)], narrowed := true }
def FnExactProblemTextUptoSaid : Prop := fnExactProblemTextUptoRow.holds Tryd.pinned (OpenSpec.upto fnExactProblemTextSpec)

/-- 'laws.FnExactDifferentFields', WHERE WHAT IT READS IS OF BULK AT MOST 1048576: true; the input reads as it did. -/
def fnExactDifferentFieldsUptoRow : OpenClaim := { program := "ytihbaehfgjkajaadoor", sum := "725f9bc735d876eb6e68d09f13c0ed6da9a97efca6a7ed508916ccfeae36653f", func := "loop.example/g00926/laws.FnExactDifferentFields", spec := "fnExactDifferentFields", unfollowed := true, recurses := true, named := ["loop.example/g00926/impl.errNotNumber", "loop.example/g00926/impl.errNotAllowed", "strconv.ErrSyntax", "strconv.ErrRange", "internal/strconv.uint64pow10", "math/bits.deBruijn32tab", "math/bits.deBruijn64tab"], ifaces := true, apart := false, laid := [("math/bits.deBruijn32tab", laid_math_bits_deBruijn32tab), ("math/bits.deBruijn64tab", laid_math_bits_deBruijn64tab), ("internal/strconv.uint64pow10", laid_internal_strconv_uint64pow10), ("strconv.ErrRange", laid_strconv_ErrRange), ("strconv.ErrSyntax", laid_strconv_ErrSyntax), ("loop.example/g00926/impl.errNotNumber", laid_loop_example_g00926_impl_errNotNumber), ("loop.example/g00926/impl.errNotAllowed", laid_loop_example_g00926_impl_errNotAllowed)], narrowed := true }
def FnExactDifferentFieldsUptoSaid : Prop := fnExactDifferentFieldsUptoRow.holds Tryd.pinned (OpenSpec.upto fnExactDifferentFieldsSpec)

end Rows
end Go.Proofs.YtihbaehfgjkajaaDoor

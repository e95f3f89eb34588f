/-
  NARROWER THAN 'FOR EVERY INPUT', by the rows' own cells (each row's printed sentence says how): ProofNows: laid · ProofChanged: laid · ProofReaders: laid · ProofRead: laid · ProofPasses: laid · ProofTwo: laid · ProofMissed: laid · ProofSeen: laid · ProofUseless: laid · ProofWaste: laid · ProofLess: laid · ProofFurther: laid.
  DERIVED. THE GIVEN ROWS OF THIS SEAT. 12 by the template 'for every input the law returns true; each argument reads behind the call as it read before'; 0 by the template 'total and deterministic' (their statements: YtliligceejfakaaGreatDoorTotals.lean).
  GIVEN WITH THE SEED: the statements are not yours to turn. If you find one false, say at which input.
  Laid BY PROGRAM, IN A SANDBOX (cutbox-rows.mjs): the forced cells as the released guide's own fill.sh prints them over the translation b22e1223a05fc4e7… (all of the seat's roots in one cut). By AI agents, Wed Nov 11 2026. No macro, syntax, notation, axiom, sorry.
-/
import Derived.Test.YtliligceejfakaaGreatDoorChecked
import GoSem.PinnedTables
import GoSem.Claim
import GoSem.ClaimJoined
import GoSem.ClaimMapViews
import Derived.JoinedTies
import Derived.KernelRfl
namespace Go.Proofs.YtliligceejfakaaGreatDoor
/- THE CELL 'sum', in the pinned program and in every row, IS THE sha256 OF THE DUMP (.gsa) THAT YtliligceejfakaaGreatDoorProg.lean LOADS. Nothing in Lean hashes anything: it is a label: what it is worth is what the hold of that sum in a sandbox is worth. -/
noncomputable def Tryz.pinned : Pinned := { name := "ytliligceejfakaagreatdoor", sum := "b22e1223a05fc4e73dd31a35aff6b2b223660707d04be238bd5290d2d877e1fa", checked := Tryz.checked }
namespace Rows
def none {H : Type} : Left H := { results := [], args := [] }

/- WHAT THE LISTED PACKAGE-LEVEL VARIABLES READ AS WHEN THE CALL BEGINS. Each datum BY PROGRAM (the guide's laid-datum.mjs) off the statement by which the dump's own 'gosem.cut.vars' lays the variable. In a bare row this is a premise. The card (YtliligceejfakaaGreatDoorCards.lean) ties it to the program's text. -/
def laid_math_bits_deBruijn32tab {H : Type} : DataW H := .agg [.lit (.int .u8 0), .lit (.int .u8 1), .lit (.int .u8 28), .lit (.int .u8 2), .lit (.int .u8 29), .lit (.int .u8 14), .lit (.int .u8 24), .lit (.int .u8 3), .lit (.int .u8 30), .lit (.int .u8 22), .lit (.int .u8 20), .lit (.int .u8 15), .lit (.int .u8 25), .lit (.int .u8 17), .lit (.int .u8 4), .lit (.int .u8 8), .lit (.int .u8 31), .lit (.int .u8 27), .lit (.int .u8 13), .lit (.int .u8 23), .lit (.int .u8 21), .lit (.int .u8 19), .lit (.int .u8 16), .lit (.int .u8 7), .lit (.int .u8 26), .lit (.int .u8 12), .lit (.int .u8 18), .lit (.int .u8 6), .lit (.int .u8 11), .lit (.int .u8 5), .lit (.int .u8 10), .lit (.int .u8 9)]
def laid_math_bits_deBruijn64tab {H : Type} : DataW H := .agg [.lit (.int .u8 0), .lit (.int .u8 1), .lit (.int .u8 56), .lit (.int .u8 2), .lit (.int .u8 57), .lit (.int .u8 49), .lit (.int .u8 28), .lit (.int .u8 3), .lit (.int .u8 61), .lit (.int .u8 58), .lit (.int .u8 42), .lit (.int .u8 50), .lit (.int .u8 38), .lit (.int .u8 29), .lit (.int .u8 17), .lit (.int .u8 4), .lit (.int .u8 62), .lit (.int .u8 47), .lit (.int .u8 59), .lit (.int .u8 36), .lit (.int .u8 45), .lit (.int .u8 43), .lit (.int .u8 51), .lit (.int .u8 22), .lit (.int .u8 53), .lit (.int .u8 39), .lit (.int .u8 33), .lit (.int .u8 30), .lit (.int .u8 24), .lit (.int .u8 18), .lit (.int .u8 12), .lit (.int .u8 5), .lit (.int .u8 63), .lit (.int .u8 55), .lit (.int .u8 48), .lit (.int .u8 27), .lit (.int .u8 60), .lit (.int .u8 41), .lit (.int .u8 37), .lit (.int .u8 16), .lit (.int .u8 46), .lit (.int .u8 35), .lit (.int .u8 44), .lit (.int .u8 21), .lit (.int .u8 52), .lit (.int .u8 32), .lit (.int .u8 23), .lit (.int .u8 11), .lit (.int .u8 54), .lit (.int .u8 26), .lit (.int .u8 40), .lit (.int .u8 15), .lit (.int .u8 34), .lit (.int .u8 20), .lit (.int .u8 31), .lit (.int .u8 10), .lit (.int .u8 25), .lit (.int .u8 14), .lit (.int .u8 19), .lit (.int .u8 9), .lit (.int .u8 13), .lit (.int .u8 8), .lit (.int .u8 7), .lit (.int .u8 6)]
def laid_internal_strconv_uint64pow10 {H : Type} : DataW H := .agg [.lit (.int .u64 1), .lit (.int .u64 10), .lit (.int .u64 100), .lit (.int .u64 1000), .lit (.int .u64 10000), .lit (.int .u64 100000), .lit (.int .u64 1000000), .lit (.int .u64 10000000), .lit (.int .u64 100000000), .lit (.int .u64 1000000000), .lit (.int .u64 10000000000), .lit (.int .u64 100000000000), .lit (.int .u64 1000000000000), .lit (.int .u64 10000000000000), .lit (.int .u64 100000000000000), .lit (.int .u64 1000000000000000), .lit (.int .u64 10000000000000000), .lit (.int .u64 100000000000000000), .lit (.int .u64 1000000000000000000), .lit (.int .u64 10000000000000000000)]
def laid_unicode_utf8_acceptRanges {H : Type} : DataW H := .agg [.agg [.lit (.int .u8 128), .lit (.int .u8 191)], .agg [.lit (.int .u8 160), .lit (.int .u8 191)], .agg [.lit (.int .u8 128), .lit (.int .u8 159)], .agg [.lit (.int .u8 144), .lit (.int .u8 191)], .agg [.lit (.int .u8 128), .lit (.int .u8 143)], .agg [.lit (.int .u8 0), .lit (.int .u8 0)], .agg [.lit (.int .u8 0), .lit (.int .u8 0)], .agg [.lit (.int .u8 0), .lit (.int .u8 0)], .agg [.lit (.int .u8 0), .lit (.int .u8 0)], .agg [.lit (.int .u8 0), .lit (.int .u8 0)], .agg [.lit (.int .u8 0), .lit (.int .u8 0)], .agg [.lit (.int .u8 0), .lit (.int .u8 0)], .agg [.lit (.int .u8 0), .lit (.int .u8 0)], .agg [.lit (.int .u8 0), .lit (.int .u8 0)], .agg [.lit (.int .u8 0), .lit (.int .u8 0)], .agg [.lit (.int .u8 0), .lit (.int .u8 0)]]
def laid_ephemerist_proof_forms {H : Type} : DataW H := .agg [.agg [.lit (.string [112, 97, 103, 101]), .lit (.int .i64 1), .lit (.int .i64 0)], .agg [.lit (.string [108, 105, 110, 101]), .lit (.int .i64 1), .lit (.int .i64 2)], .agg [.lit (.string [114, 101, 97, 100]), .lit (.int .i64 4), .lit (.int .i64 0)], .agg [.lit (.string [109, 101, 110, 100]), .lit (.int .i64 2), .lit (.int .i64 1)], .agg [.lit (.string [102, 97, 108, 108]), .lit (.int .i64 1), .lit (.int .i64 0)]]
/-- One of Go's own tables, pinned by name: the form's constant. -/
def laid_unicode_utf8_first : DataW Unit := Go.Pinned.utf8First

/-- 'ephemeristlaw09.ProofNows': WHATEVER THE INPUT: true; the input reads as it did. -/
def proofNowsSpec : ChangeSpec := { name := "proofNows", fn := fun _ => fun
  | [d] => { results := [.lit (.bool true)], args := [d] }
  | _ => none }
def proofNowsRow : OpenClaim := { program := "ytliligceejfakaagreatdoor", sum := "b22e1223a05fc4e73dd31a35aff6b2b223660707d04be238bd5290d2d877e1fa", func := "ephemerist/ephemeristlaw09.ProofNows", spec := "proofNows", inPlace := ["internal/bytealg.CountString", "internal/bytealg.IndexByteString", "internal/bytealg.IndexString", "internal/abi.NoEscape", "internal/bytealg.MakeNoZero"], unfollowed := true, recurses := true, named := ["ephemerist/proof.forms", "unicode/utf8.first", "unicode/utf8.acceptRanges", "internal/bytealg.MaxLen", "internal/strconv.uint64pow10", "math/bits.deBruijn32tab", "math/bits.deBruijn64tab"], plainKeys := false, apart := false, laid := [("math/bits.deBruijn32tab", laid_math_bits_deBruijn32tab), ("math/bits.deBruijn64tab", laid_math_bits_deBruijn64tab), ("internal/strconv.uint64pow10", laid_internal_strconv_uint64pow10), ("unicode/utf8.acceptRanges", laid_unicode_utf8_acceptRanges), ("ephemerist/proof.forms", laid_ephemerist_proof_forms), ("unicode/utf8.first", laid_unicode_utf8_first)] }
def ProofNowsSaid : Prop := proofNowsRow.holds Tryz.pinned (OpenSpec.ofChange proofNowsSpec)

/-- ITS FALSE NEIGHBOUR: 'it returns false'. Refute it at one input. -/
def proofNowsWrong : ChangeSpec := { name := "proofNows", fn := fun _ => fun
  | [d] => { results := [.lit (.bool false)], args := [d] }
  | _ => none }
def ProofNowsWrongFalsely : Prop := proofNowsRow.holds Tryz.pinned (OpenSpec.ofChange proofNowsWrong)

/-- 'ephemeristlaw09.ProofChanged': WHATEVER THE INPUT: true; the input reads as it did. -/
def proofChangedSpec : ChangeSpec := { name := "proofChanged", fn := fun _ => fun
  | [d1, d2, d3] => { results := [.lit (.bool true)], args := [d1, d2, d3] }
  | _ => none }
def proofChangedRow : OpenClaim := { program := "ytliligceejfakaagreatdoor", sum := "b22e1223a05fc4e73dd31a35aff6b2b223660707d04be238bd5290d2d877e1fa", func := "ephemerist/ephemeristlaw09.ProofChanged", spec := "proofChanged", inPlace := ["internal/bytealg.CountString", "internal/bytealg.IndexByteString", "internal/bytealg.IndexString", "internal/abi.NoEscape", "internal/bytealg.MakeNoZero"], unfollowed := true, recurses := true, named := ["ephemerist/proof.forms", "unicode/utf8.first", "unicode/utf8.acceptRanges", "internal/bytealg.MaxLen", "internal/strconv.uint64pow10", "math/bits.deBruijn32tab", "math/bits.deBruijn64tab"], plainKeys := false, apart := false, laid := [("math/bits.deBruijn32tab", laid_math_bits_deBruijn32tab), ("math/bits.deBruijn64tab", laid_math_bits_deBruijn64tab), ("internal/strconv.uint64pow10", laid_internal_strconv_uint64pow10), ("unicode/utf8.acceptRanges", laid_unicode_utf8_acceptRanges), ("ephemerist/proof.forms", laid_ephemerist_proof_forms), ("unicode/utf8.first", laid_unicode_utf8_first)] }
def ProofChangedSaid : Prop := proofChangedRow.holds Tryz.pinned (OpenSpec.ofChange proofChangedSpec)

/-- ITS FALSE NEIGHBOUR: 'it returns false'. Refute it at one input. -/
def proofChangedWrong : ChangeSpec := { name := "proofChanged", fn := fun _ => fun
  | [d1, d2, d3] => { results := [.lit (.bool false)], args := [d1, d2, d3] }
  | _ => none }
def ProofChangedWrongFalsely : Prop := proofChangedRow.holds Tryz.pinned (OpenSpec.ofChange proofChangedWrong)

/-- 'ephemeristlaw09.ProofReaders': WHATEVER THE INPUT: true; the input reads as it did. -/
def proofReadersSpec : ChangeSpec := { name := "proofReaders", fn := fun _ => fun
  | [d1, d2] => { results := [.lit (.bool true)], args := [d1, d2] }
  | _ => none }
def proofReadersRow : OpenClaim := { program := "ytliligceejfakaagreatdoor", sum := "b22e1223a05fc4e73dd31a35aff6b2b223660707d04be238bd5290d2d877e1fa", func := "ephemerist/ephemeristlaw09.ProofReaders", spec := "proofReaders", inPlace := ["internal/bytealg.CountString", "internal/bytealg.IndexByteString", "internal/bytealg.IndexString", "internal/abi.NoEscape", "internal/bytealg.MakeNoZero"], unfollowed := true, recurses := true, named := ["ephemerist/proof.forms", "unicode/utf8.first", "unicode/utf8.acceptRanges", "internal/bytealg.MaxLen", "internal/strconv.uint64pow10", "math/bits.deBruijn32tab", "math/bits.deBruijn64tab"], plainKeys := false, apart := false, laid := [("math/bits.deBruijn32tab", laid_math_bits_deBruijn32tab), ("math/bits.deBruijn64tab", laid_math_bits_deBruijn64tab), ("internal/strconv.uint64pow10", laid_internal_strconv_uint64pow10), ("unicode/utf8.acceptRanges", laid_unicode_utf8_acceptRanges), ("ephemerist/proof.forms", laid_ephemerist_proof_forms), ("unicode/utf8.first", laid_unicode_utf8_first)] }
def ProofReadersSaid : Prop := proofReadersRow.holds Tryz.pinned (OpenSpec.ofChange proofReadersSpec)

/-- ITS FALSE NEIGHBOUR: 'it returns false'. Refute it at one input. -/
def proofReadersWrong : ChangeSpec := { name := "proofReaders", fn := fun _ => fun
  | [d1, d2] => { results := [.lit (.bool false)], args := [d1, d2] }
  | _ => none }
def ProofReadersWrongFalsely : Prop := proofReadersRow.holds Tryz.pinned (OpenSpec.ofChange proofReadersWrong)

/-- 'ephemeristlaw09.ProofRead': WHATEVER THE INPUT: true; the input reads as it did. -/
def proofReadSpec : ChangeSpec := { name := "proofRead", fn := fun _ => fun
  | [d1, d2, d3] => { results := [.lit (.bool true)], args := [d1, d2, d3] }
  | _ => none }
def proofReadRow : OpenClaim := { program := "ytliligceejfakaagreatdoor", sum := "b22e1223a05fc4e73dd31a35aff6b2b223660707d04be238bd5290d2d877e1fa", func := "ephemerist/ephemeristlaw09.ProofRead", spec := "proofRead", inPlace := ["internal/bytealg.CountString", "internal/bytealg.IndexByteString", "internal/bytealg.IndexString", "internal/abi.NoEscape", "internal/bytealg.MakeNoZero"], unfollowed := true, recurses := true, named := ["ephemerist/proof.forms", "unicode/utf8.first", "unicode/utf8.acceptRanges", "internal/bytealg.MaxLen", "internal/strconv.uint64pow10", "math/bits.deBruijn32tab", "math/bits.deBruijn64tab"], plainKeys := false, apart := false, laid := [("math/bits.deBruijn32tab", laid_math_bits_deBruijn32tab), ("math/bits.deBruijn64tab", laid_math_bits_deBruijn64tab), ("internal/strconv.uint64pow10", laid_internal_strconv_uint64pow10), ("unicode/utf8.acceptRanges", laid_unicode_utf8_acceptRanges), ("ephemerist/proof.forms", laid_ephemerist_proof_forms), ("unicode/utf8.first", laid_unicode_utf8_first)] }
def ProofReadSaid : Prop := proofReadRow.holds Tryz.pinned (OpenSpec.ofChange proofReadSpec)

/-- ITS FALSE NEIGHBOUR: 'it returns false'. Refute it at one input. -/
def proofReadWrong : ChangeSpec := { name := "proofRead", fn := fun _ => fun
  | [d1, d2, d3] => { results := [.lit (.bool false)], args := [d1, d2, d3] }
  | _ => none }
def ProofReadWrongFalsely : Prop := proofReadRow.holds Tryz.pinned (OpenSpec.ofChange proofReadWrong)

/-- 'ephemeristlaw09.ProofPasses': WHATEVER THE INPUT: true; the input reads as it did. -/
def proofPassesSpec : ChangeSpec := { name := "proofPasses", fn := fun _ => fun
  | [d] => { results := [.lit (.bool true)], args := [d] }
  | _ => none }
def proofPassesRow : OpenClaim := { program := "ytliligceejfakaagreatdoor", sum := "b22e1223a05fc4e73dd31a35aff6b2b223660707d04be238bd5290d2d877e1fa", func := "ephemerist/ephemeristlaw09.ProofPasses", spec := "proofPasses", inPlace := ["internal/bytealg.CountString", "internal/bytealg.IndexByteString", "internal/bytealg.IndexString", "internal/abi.NoEscape", "internal/bytealg.MakeNoZero"], unfollowed := true, recurses := true, named := ["ephemerist/proof.forms", "unicode/utf8.first", "unicode/utf8.acceptRanges", "internal/bytealg.MaxLen", "internal/strconv.uint64pow10", "math/bits.deBruijn32tab", "math/bits.deBruijn64tab"], plainKeys := false, apart := false, laid := [("math/bits.deBruijn32tab", laid_math_bits_deBruijn32tab), ("math/bits.deBruijn64tab", laid_math_bits_deBruijn64tab), ("internal/strconv.uint64pow10", laid_internal_strconv_uint64pow10), ("unicode/utf8.acceptRanges", laid_unicode_utf8_acceptRanges), ("ephemerist/proof.forms", laid_ephemerist_proof_forms), ("unicode/utf8.first", laid_unicode_utf8_first)] }
def ProofPassesSaid : Prop := proofPassesRow.holds Tryz.pinned (OpenSpec.ofChange proofPassesSpec)

/-- ITS FALSE NEIGHBOUR: 'it returns false'. Refute it at one input. -/
def proofPassesWrong : ChangeSpec := { name := "proofPasses", fn := fun _ => fun
  | [d] => { results := [.lit (.bool false)], args := [d] }
  | _ => none }
def ProofPassesWrongFalsely : Prop := proofPassesRow.holds Tryz.pinned (OpenSpec.ofChange proofPassesWrong)

/-- 'ephemeristlaw09.ProofTwo': WHATEVER THE INPUT: true; the input reads as it did. -/
def proofTwoSpec : ChangeSpec := { name := "proofTwo", fn := fun _ => fun
  | [d1, d2, d3] => { results := [.lit (.bool true)], args := [d1, d2, d3] }
  | _ => none }
def proofTwoRow : OpenClaim := { program := "ytliligceejfakaagreatdoor", sum := "b22e1223a05fc4e73dd31a35aff6b2b223660707d04be238bd5290d2d877e1fa", func := "ephemerist/ephemeristlaw09.ProofTwo", spec := "proofTwo", inPlace := ["internal/bytealg.CountString", "internal/bytealg.IndexByteString", "internal/bytealg.IndexString", "internal/abi.NoEscape", "internal/bytealg.MakeNoZero"], unfollowed := true, recurses := true, named := ["ephemerist/proof.forms", "unicode/utf8.first", "unicode/utf8.acceptRanges", "internal/bytealg.MaxLen", "internal/strconv.uint64pow10", "math/bits.deBruijn32tab", "math/bits.deBruijn64tab"], plainKeys := false, apart := false, laid := [("math/bits.deBruijn32tab", laid_math_bits_deBruijn32tab), ("math/bits.deBruijn64tab", laid_math_bits_deBruijn64tab), ("internal/strconv.uint64pow10", laid_internal_strconv_uint64pow10), ("unicode/utf8.acceptRanges", laid_unicode_utf8_acceptRanges), ("ephemerist/proof.forms", laid_ephemerist_proof_forms), ("unicode/utf8.first", laid_unicode_utf8_first)] }
def ProofTwoSaid : Prop := proofTwoRow.holds Tryz.pinned (OpenSpec.ofChange proofTwoSpec)

/-- ITS FALSE NEIGHBOUR: 'it returns false'. Refute it at one input. -/
def proofTwoWrong : ChangeSpec := { name := "proofTwo", fn := fun _ => fun
  | [d1, d2, d3] => { results := [.lit (.bool false)], args := [d1, d2, d3] }
  | _ => none }
def ProofTwoWrongFalsely : Prop := proofTwoRow.holds Tryz.pinned (OpenSpec.ofChange proofTwoWrong)

/-- 'ephemeristlaw09.ProofMissed': WHATEVER THE INPUT: true; the input reads as it did. -/
def proofMissedSpec : ChangeSpec := { name := "proofMissed", fn := fun _ => fun
  | [d] => { results := [.lit (.bool true)], args := [d] }
  | _ => none }
def proofMissedRow : OpenClaim := { program := "ytliligceejfakaagreatdoor", sum := "b22e1223a05fc4e73dd31a35aff6b2b223660707d04be238bd5290d2d877e1fa", func := "ephemerist/ephemeristlaw09.ProofMissed", spec := "proofMissed", inPlace := ["internal/bytealg.CountString", "internal/bytealg.IndexByteString", "internal/bytealg.IndexString", "internal/abi.NoEscape", "internal/bytealg.MakeNoZero"], unfollowed := true, recurses := true, named := ["ephemerist/proof.forms", "unicode/utf8.first", "unicode/utf8.acceptRanges", "internal/bytealg.MaxLen", "internal/strconv.uint64pow10", "math/bits.deBruijn32tab", "math/bits.deBruijn64tab"], plainKeys := false, apart := false, laid := [("math/bits.deBruijn32tab", laid_math_bits_deBruijn32tab), ("math/bits.deBruijn64tab", laid_math_bits_deBruijn64tab), ("internal/strconv.uint64pow10", laid_internal_strconv_uint64pow10), ("unicode/utf8.acceptRanges", laid_unicode_utf8_acceptRanges), ("ephemerist/proof.forms", laid_ephemerist_proof_forms), ("unicode/utf8.first", laid_unicode_utf8_first)] }
def ProofMissedSaid : Prop := proofMissedRow.holds Tryz.pinned (OpenSpec.ofChange proofMissedSpec)

/-- ITS FALSE NEIGHBOUR: 'it returns false'. Refute it at one input. -/
def proofMissedWrong : ChangeSpec := { name := "proofMissed", fn := fun _ => fun
  | [d] => { results := [.lit (.bool false)], args := [d] }
  | _ => none }
def ProofMissedWrongFalsely : Prop := proofMissedRow.holds Tryz.pinned (OpenSpec.ofChange proofMissedWrong)

/-- 'ephemeristlaw09.ProofSeen': WHATEVER THE INPUT: true; the input reads as it did. -/
def proofSeenSpec : ChangeSpec := { name := "proofSeen", fn := fun _ => fun
  | [d1, d2, d3, d4] => { results := [.lit (.bool true)], args := [d1, d2, d3, d4] }
  | _ => none }
def proofSeenRow : OpenClaim := { program := "ytliligceejfakaagreatdoor", sum := "b22e1223a05fc4e73dd31a35aff6b2b223660707d04be238bd5290d2d877e1fa", func := "ephemerist/ephemeristlaw09.ProofSeen", spec := "proofSeen", inPlace := ["internal/bytealg.CountString", "internal/bytealg.IndexByteString", "internal/bytealg.IndexString", "internal/abi.NoEscape", "internal/bytealg.MakeNoZero"], unfollowed := true, recurses := true, named := ["ephemerist/proof.forms", "unicode/utf8.first", "unicode/utf8.acceptRanges", "internal/bytealg.MaxLen", "internal/strconv.uint64pow10", "math/bits.deBruijn32tab", "math/bits.deBruijn64tab"], plainKeys := false, apart := false, laid := [("math/bits.deBruijn32tab", laid_math_bits_deBruijn32tab), ("math/bits.deBruijn64tab", laid_math_bits_deBruijn64tab), ("internal/strconv.uint64pow10", laid_internal_strconv_uint64pow10), ("unicode/utf8.acceptRanges", laid_unicode_utf8_acceptRanges), ("ephemerist/proof.forms", laid_ephemerist_proof_forms), ("unicode/utf8.first", laid_unicode_utf8_first)] }
def ProofSeenSaid : Prop := proofSeenRow.holds Tryz.pinned (OpenSpec.ofChange proofSeenSpec)

/-- ITS FALSE NEIGHBOUR: 'it returns false'. Refute it at one input. -/
def proofSeenWrong : ChangeSpec := { name := "proofSeen", fn := fun _ => fun
  | [d1, d2, d3, d4] => { results := [.lit (.bool false)], args := [d1, d2, d3, d4] }
  | _ => none }
def ProofSeenWrongFalsely : Prop := proofSeenRow.holds Tryz.pinned (OpenSpec.ofChange proofSeenWrong)

/-- 'ephemeristlaw09.ProofUseless': WHATEVER THE INPUT: true; the input reads as it did. -/
def proofUselessSpec : ChangeSpec := { name := "proofUseless", fn := fun _ => fun
  | [d] => { results := [.lit (.bool true)], args := [d] }
  | _ => none }
def proofUselessRow : OpenClaim := { program := "ytliligceejfakaagreatdoor", sum := "b22e1223a05fc4e73dd31a35aff6b2b223660707d04be238bd5290d2d877e1fa", func := "ephemerist/ephemeristlaw09.ProofUseless", spec := "proofUseless", inPlace := ["internal/bytealg.CountString", "internal/bytealg.IndexByteString", "internal/bytealg.IndexString", "internal/abi.NoEscape", "internal/bytealg.MakeNoZero"], unfollowed := true, recurses := true, named := ["ephemerist/proof.forms", "unicode/utf8.first", "unicode/utf8.acceptRanges", "internal/bytealg.MaxLen", "internal/strconv.uint64pow10", "math/bits.deBruijn32tab", "math/bits.deBruijn64tab"], plainKeys := false, apart := false, laid := [("math/bits.deBruijn32tab", laid_math_bits_deBruijn32tab), ("math/bits.deBruijn64tab", laid_math_bits_deBruijn64tab), ("internal/strconv.uint64pow10", laid_internal_strconv_uint64pow10), ("unicode/utf8.acceptRanges", laid_unicode_utf8_acceptRanges), ("ephemerist/proof.forms", laid_ephemerist_proof_forms), ("unicode/utf8.first", laid_unicode_utf8_first)] }
def ProofUselessSaid : Prop := proofUselessRow.holds Tryz.pinned (OpenSpec.ofChange proofUselessSpec)

/-- ITS FALSE NEIGHBOUR: 'it returns false'. Refute it at one input. -/
def proofUselessWrong : ChangeSpec := { name := "proofUseless", fn := fun _ => fun
  | [d] => { results := [.lit (.bool false)], args := [d] }
  | _ => none }
def ProofUselessWrongFalsely : Prop := proofUselessRow.holds Tryz.pinned (OpenSpec.ofChange proofUselessWrong)

/-- 'ephemeristlaw09.ProofWaste': WHATEVER THE INPUT: true; the input reads as it did. -/
def proofWasteSpec : ChangeSpec := { name := "proofWaste", fn := fun _ => fun
  | [d1, d2, d3] => { results := [.lit (.bool true)], args := [d1, d2, d3] }
  | _ => none }
def proofWasteRow : OpenClaim := { program := "ytliligceejfakaagreatdoor", sum := "b22e1223a05fc4e73dd31a35aff6b2b223660707d04be238bd5290d2d877e1fa", func := "ephemerist/ephemeristlaw09.ProofWaste", spec := "proofWaste", inPlace := ["internal/bytealg.CountString", "internal/bytealg.IndexByteString", "internal/bytealg.IndexString", "internal/abi.NoEscape", "internal/bytealg.MakeNoZero"], unfollowed := true, recurses := true, named := ["ephemerist/proof.forms", "unicode/utf8.first", "unicode/utf8.acceptRanges", "internal/bytealg.MaxLen", "internal/strconv.uint64pow10", "math/bits.deBruijn32tab", "math/bits.deBruijn64tab"], plainKeys := false, apart := false, laid := [("math/bits.deBruijn32tab", laid_math_bits_deBruijn32tab), ("math/bits.deBruijn64tab", laid_math_bits_deBruijn64tab), ("internal/strconv.uint64pow10", laid_internal_strconv_uint64pow10), ("unicode/utf8.acceptRanges", laid_unicode_utf8_acceptRanges), ("ephemerist/proof.forms", laid_ephemerist_proof_forms), ("unicode/utf8.first", laid_unicode_utf8_first)] }
def ProofWasteSaid : Prop := proofWasteRow.holds Tryz.pinned (OpenSpec.ofChange proofWasteSpec)

/-- ITS FALSE NEIGHBOUR: 'it returns false'. Refute it at one input. -/
def proofWasteWrong : ChangeSpec := { name := "proofWaste", fn := fun _ => fun
  | [d1, d2, d3] => { results := [.lit (.bool false)], args := [d1, d2, d3] }
  | _ => none }
def ProofWasteWrongFalsely : Prop := proofWasteRow.holds Tryz.pinned (OpenSpec.ofChange proofWasteWrong)

/-- 'ephemeristlaw09.ProofLess': WHATEVER THE INPUT: true; the input reads as it did. -/
def proofLessSpec : ChangeSpec := { name := "proofLess", fn := fun _ => fun
  | [d1, d2, d3] => { results := [.lit (.bool true)], args := [d1, d2, d3] }
  | _ => none }
def proofLessRow : OpenClaim := { program := "ytliligceejfakaagreatdoor", sum := "b22e1223a05fc4e73dd31a35aff6b2b223660707d04be238bd5290d2d877e1fa", func := "ephemerist/ephemeristlaw09.ProofLess", spec := "proofLess", inPlace := ["internal/bytealg.CountString", "internal/bytealg.IndexByteString", "internal/bytealg.IndexString", "internal/abi.NoEscape", "internal/bytealg.MakeNoZero"], unfollowed := true, recurses := true, named := ["ephemerist/proof.forms", "unicode/utf8.first", "unicode/utf8.acceptRanges", "internal/bytealg.MaxLen", "internal/strconv.uint64pow10", "math/bits.deBruijn32tab", "math/bits.deBruijn64tab"], plainKeys := false, apart := false, laid := [("math/bits.deBruijn32tab", laid_math_bits_deBruijn32tab), ("math/bits.deBruijn64tab", laid_math_bits_deBruijn64tab), ("internal/strconv.uint64pow10", laid_internal_strconv_uint64pow10), ("unicode/utf8.acceptRanges", laid_unicode_utf8_acceptRanges), ("ephemerist/proof.forms", laid_ephemerist_proof_forms), ("unicode/utf8.first", laid_unicode_utf8_first)] }
def ProofLessSaid : Prop := proofLessRow.holds Tryz.pinned (OpenSpec.ofChange proofLessSpec)

/-- ITS FALSE NEIGHBOUR: 'it returns false'. Refute it at one input. -/
def proofLessWrong : ChangeSpec := { name := "proofLess", fn := fun _ => fun
  | [d1, d2, d3] => { results := [.lit (.bool false)], args := [d1, d2, d3] }
  | _ => none }
def ProofLessWrongFalsely : Prop := proofLessRow.holds Tryz.pinned (OpenSpec.ofChange proofLessWrong)

/-- 'ephemeristlaw09.ProofFurther': WHATEVER THE INPUT: true; the input reads as it did. -/
def proofFurtherSpec : ChangeSpec := { name := "proofFurther", fn := fun _ => fun
  | [d] => { results := [.lit (.bool true)], args := [d] }
  | _ => none }
def proofFurtherRow : OpenClaim := { program := "ytliligceejfakaagreatdoor", sum := "b22e1223a05fc4e73dd31a35aff6b2b223660707d04be238bd5290d2d877e1fa", func := "ephemerist/ephemeristlaw09.ProofFurther", spec := "proofFurther", inPlace := ["internal/bytealg.CountString", "internal/bytealg.IndexByteString", "internal/bytealg.IndexString", "internal/abi.NoEscape", "internal/bytealg.MakeNoZero"], unfollowed := true, recurses := true, named := ["ephemerist/proof.forms", "unicode/utf8.first", "unicode/utf8.acceptRanges", "internal/bytealg.MaxLen", "internal/strconv.uint64pow10", "math/bits.deBruijn32tab", "math/bits.deBruijn64tab"], plainKeys := false, apart := false, laid := [("math/bits.deBruijn32tab", laid_math_bits_deBruijn32tab), ("math/bits.deBruijn64tab", laid_math_bits_deBruijn64tab), ("internal/strconv.uint64pow10", laid_internal_strconv_uint64pow10), ("unicode/utf8.acceptRanges", laid_unicode_utf8_acceptRanges), ("ephemerist/proof.forms", laid_ephemerist_proof_forms), ("unicode/utf8.first", laid_unicode_utf8_first)] }
def ProofFurtherSaid : Prop := proofFurtherRow.holds Tryz.pinned (OpenSpec.ofChange proofFurtherSpec)

/-- ITS FALSE NEIGHBOUR: 'it returns false'. Refute it at one input. -/
def proofFurtherWrong : ChangeSpec := { name := "proofFurther", fn := fun _ => fun
  | [d] => { results := [.lit (.bool false)], args := [d] }
  | _ => none }
def ProofFurtherWrongFalsely : Prop := proofFurtherRow.holds Tryz.pinned (OpenSpec.ofChange proofFurtherWrong)

/- THE SECOND FORM. 'bulk': how many values and letters a reading holds, each counted each time it is reached (what is shared counts as often as it is met; a slice's spare places count too). A statement '..UptoSaid' is the law's where the arguments, and the package variables that the reading takes, are together of bulk at most 1048576: NARROWER than '..Said'. Prove '..Said' where nothing that the law and all that it calls make is longer than what came in: it says more and counts as full. Else prove '..UptoSaid'. A law counts once. -/
mutual
def uptoBulk {H : Type} : DataW H → Nat
  | .lit (.string bytes) => bytes.length + 1
  | .lit _ => 1
  | .nil => 1
  | .ptr d => uptoBulk d + 1
  | .slice elems spare => uptoBulkAll elems + uptoBulkAll spare + 1
  | .agg parts => uptoBulkAll parts + 1
  | .iface _ d => uptoBulk d + 1
  | .map entries => uptoBulkEntries entries + 1
  | .held _ => 1
def uptoBulkAll {H : Type} : List (DataW H) → Nat
  | [] => 0
  | d :: r => uptoBulk d + uptoBulkAll r
def uptoBulkEntries {H : Type} : List (Lit × DataW H) → Nat
  | [] => 0
  | x :: r => uptoBulkEntry x + uptoBulkEntries r
def uptoBulkEntry {H : Type} : Lit × DataW H → Nat
  | (.string bytes, d) => bytes.length + uptoBulk d + 1
  | (_, d) => uptoBulk d + 1
 end
def uptoSmall : (H : Type) → List (DataW H) → Bool := fun _ ds => decide (uptoBulkAll ds ≤ 1048576)
def OpenSpec.upto (s : _root_.Go.ChangeSpec) : _root_.Go.OpenSpec := { _root_.Go.OpenSpec.ofChange s with cond := some uptoSmall }

/-- 'ephemeristlaw09.ProofNows', WHERE WHAT IT READS IS OF BULK AT MOST 1048576: true; the input reads as it did. -/
def proofNowsUptoRow : OpenClaim := { program := "ytliligceejfakaagreatdoor", sum := "b22e1223a05fc4e73dd31a35aff6b2b223660707d04be238bd5290d2d877e1fa", func := "ephemerist/ephemeristlaw09.ProofNows", spec := "proofNows", inPlace := ["internal/bytealg.CountString", "internal/bytealg.IndexByteString", "internal/bytealg.IndexString", "internal/abi.NoEscape", "internal/bytealg.MakeNoZero"], unfollowed := true, recurses := true, named := ["ephemerist/proof.forms", "unicode/utf8.first", "unicode/utf8.acceptRanges", "internal/bytealg.MaxLen", "internal/strconv.uint64pow10", "math/bits.deBruijn32tab", "math/bits.deBruijn64tab"], plainKeys := false, apart := false, laid := [("math/bits.deBruijn32tab", laid_math_bits_deBruijn32tab), ("math/bits.deBruijn64tab", laid_math_bits_deBruijn64tab), ("internal/strconv.uint64pow10", laid_internal_strconv_uint64pow10), ("unicode/utf8.acceptRanges", laid_unicode_utf8_acceptRanges), ("ephemerist/proof.forms", laid_ephemerist_proof_forms), ("unicode/utf8.first", laid_unicode_utf8_first)], narrowed := true }
def ProofNowsUptoSaid : Prop := proofNowsUptoRow.holds Tryz.pinned (OpenSpec.upto proofNowsSpec)

/-- 'ephemeristlaw09.ProofChanged', WHERE WHAT IT READS IS OF BULK AT MOST 1048576: true; the input reads as it did. -/
def proofChangedUptoRow : OpenClaim := { program := "ytliligceejfakaagreatdoor", sum := "b22e1223a05fc4e73dd31a35aff6b2b223660707d04be238bd5290d2d877e1fa", func := "ephemerist/ephemeristlaw09.ProofChanged", spec := "proofChanged", inPlace := ["internal/bytealg.CountString", "internal/bytealg.IndexByteString", "internal/bytealg.IndexString", "internal/abi.NoEscape", "internal/bytealg.MakeNoZero"], unfollowed := true, recurses := true, named := ["ephemerist/proof.forms", "unicode/utf8.first", "unicode/utf8.acceptRanges", "internal/bytealg.MaxLen", "internal/strconv.uint64pow10", "math/bits.deBruijn32tab", "math/bits.deBruijn64tab"], plainKeys := false, apart := false, laid := [("math/bits.deBruijn32tab", laid_math_bits_deBruijn32tab), ("math/bits.deBruijn64tab", laid_math_bits_deBruijn64tab), ("internal/strconv.uint64pow10", laid_internal_strconv_uint64pow10), ("unicode/utf8.acceptRanges", laid_unicode_utf8_acceptRanges), ("ephemerist/proof.forms", laid_ephemerist_proof_forms), ("unicode/utf8.first", laid_unicode_utf8_first)], narrowed := true }
def ProofChangedUptoSaid : Prop := proofChangedUptoRow.holds Tryz.pinned (OpenSpec.upto proofChangedSpec)

/-- 'ephemeristlaw09.ProofReaders', WHERE WHAT IT READS IS OF BULK AT MOST 1048576: true; the input reads as it did. -/
def proofReadersUptoRow : OpenClaim := { program := "ytliligceejfakaagreatdoor", sum := "b22e1223a05fc4e73dd31a35aff6b2b223660707d04be238bd5290d2d877e1fa", func := "ephemerist/ephemeristlaw09.ProofReaders", spec := "proofReaders", inPlace := ["internal/bytealg.CountString", "internal/bytealg.IndexByteString", "internal/bytealg.IndexString", "internal/abi.NoEscape", "internal/bytealg.MakeNoZero"], unfollowed := true, recurses := true, named := ["ephemerist/proof.forms", "unicode/utf8.first", "unicode/utf8.acceptRanges", "internal/bytealg.MaxLen", "internal/strconv.uint64pow10", "math/bits.deBruijn32tab", "math/bits.deBruijn64tab"], plainKeys := false, apart := false, laid := [("math/bits.deBruijn32tab", laid_math_bits_deBruijn32tab), ("math/bits.deBruijn64tab", laid_math_bits_deBruijn64tab), ("internal/strconv.uint64pow10", laid_internal_strconv_uint64pow10), ("unicode/utf8.acceptRanges", laid_unicode_utf8_acceptRanges), ("ephemerist/proof.forms", laid_ephemerist_proof_forms), ("unicode/utf8.first", laid_unicode_utf8_first)], narrowed := true }
def ProofReadersUptoSaid : Prop := proofReadersUptoRow.holds Tryz.pinned (OpenSpec.upto proofReadersSpec)

/-- 'ephemeristlaw09.ProofRead', WHERE WHAT IT READS IS OF BULK AT MOST 1048576: true; the input reads as it did. -/
def proofReadUptoRow : OpenClaim := { program := "ytliligceejfakaagreatdoor", sum := "b22e1223a05fc4e73dd31a35aff6b2b223660707d04be238bd5290d2d877e1fa", func := "ephemerist/ephemeristlaw09.ProofRead", spec := "proofRead", inPlace := ["internal/bytealg.CountString", "internal/bytealg.IndexByteString", "internal/bytealg.IndexString", "internal/abi.NoEscape", "internal/bytealg.MakeNoZero"], unfollowed := true, recurses := true, named := ["ephemerist/proof.forms", "unicode/utf8.first", "unicode/utf8.acceptRanges", "internal/bytealg.MaxLen", "internal/strconv.uint64pow10", "math/bits.deBruijn32tab", "math/bits.deBruijn64tab"], plainKeys := false, apart := false, laid := [("math/bits.deBruijn32tab", laid_math_bits_deBruijn32tab), ("math/bits.deBruijn64tab", laid_math_bits_deBruijn64tab), ("internal/strconv.uint64pow10", laid_internal_strconv_uint64pow10), ("unicode/utf8.acceptRanges", laid_unicode_utf8_acceptRanges), ("ephemerist/proof.forms", laid_ephemerist_proof_forms), ("unicode/utf8.first", laid_unicode_utf8_first)], narrowed := true }
def ProofReadUptoSaid : Prop := proofReadUptoRow.holds Tryz.pinned (OpenSpec.upto proofReadSpec)

/-- 'ephemeristlaw09.ProofPasses', WHERE WHAT IT READS IS OF BULK AT MOST 1048576: true; the input reads as it did. -/
def proofPassesUptoRow : OpenClaim := { program := "ytliligceejfakaagreatdoor", sum := "b22e1223a05fc4e73dd31a35aff6b2b223660707d04be238bd5290d2d877e1fa", func := "ephemerist/ephemeristlaw09.ProofPasses", spec := "proofPasses", inPlace := ["internal/bytealg.CountString", "internal/bytealg.IndexByteString", "internal/bytealg.IndexString", "internal/abi.NoEscape", "internal/bytealg.MakeNoZero"], unfollowed := true, recurses := true, named := ["ephemerist/proof.forms", "unicode/utf8.first", "unicode/utf8.acceptRanges", "internal/bytealg.MaxLen", "internal/strconv.uint64pow10", "math/bits.deBruijn32tab", "math/bits.deBruijn64tab"], plainKeys := false, apart := false, laid := [("math/bits.deBruijn32tab", laid_math_bits_deBruijn32tab), ("math/bits.deBruijn64tab", laid_math_bits_deBruijn64tab), ("internal/strconv.uint64pow10", laid_internal_strconv_uint64pow10), ("unicode/utf8.acceptRanges", laid_unicode_utf8_acceptRanges), ("ephemerist/proof.forms", laid_ephemerist_proof_forms), ("unicode/utf8.first", laid_unicode_utf8_first)], narrowed := true }
def ProofPassesUptoSaid : Prop := proofPassesUptoRow.holds Tryz.pinned (OpenSpec.upto proofPassesSpec)

/-- 'ephemeristlaw09.ProofTwo', WHERE WHAT IT READS IS OF BULK AT MOST 1048576: true; the input reads as it did. -/
def proofTwoUptoRow : OpenClaim := { program := "ytliligceejfakaagreatdoor", sum := "b22e1223a05fc4e73dd31a35aff6b2b223660707d04be238bd5290d2d877e1fa", func := "ephemerist/ephemeristlaw09.ProofTwo", spec := "proofTwo", inPlace := ["internal/bytealg.CountString", "internal/bytealg.IndexByteString", "internal/bytealg.IndexString", "internal/abi.NoEscape", "internal/bytealg.MakeNoZero"], unfollowed := true, recurses := true, named := ["ephemerist/proof.forms", "unicode/utf8.first", "unicode/utf8.acceptRanges", "internal/bytealg.MaxLen", "internal/strconv.uint64pow10", "math/bits.deBruijn32tab", "math/bits.deBruijn64tab"], plainKeys := false, apart := false, laid := [("math/bits.deBruijn32tab", laid_math_bits_deBruijn32tab), ("math/bits.deBruijn64tab", laid_math_bits_deBruijn64tab), ("internal/strconv.uint64pow10", laid_internal_strconv_uint64pow10), ("unicode/utf8.acceptRanges", laid_unicode_utf8_acceptRanges), ("ephemerist/proof.forms", laid_ephemerist_proof_forms), ("unicode/utf8.first", laid_unicode_utf8_first)], narrowed := true }
def ProofTwoUptoSaid : Prop := proofTwoUptoRow.holds Tryz.pinned (OpenSpec.upto proofTwoSpec)

/-- 'ephemeristlaw09.ProofMissed', WHERE WHAT IT READS IS OF BULK AT MOST 1048576: true; the input reads as it did. -/
def proofMissedUptoRow : OpenClaim := { program := "ytliligceejfakaagreatdoor", sum := "b22e1223a05fc4e73dd31a35aff6b2b223660707d04be238bd5290d2d877e1fa", func := "ephemerist/ephemeristlaw09.ProofMissed", spec := "proofMissed", inPlace := ["internal/bytealg.CountString", "internal/bytealg.IndexByteString", "internal/bytealg.IndexString", "internal/abi.NoEscape", "internal/bytealg.MakeNoZero"], unfollowed := true, recurses := true, named := ["ephemerist/proof.forms", "unicode/utf8.first", "unicode/utf8.acceptRanges", "internal/bytealg.MaxLen", "internal/strconv.uint64pow10", "math/bits.deBruijn32tab", "math/bits.deBruijn64tab"], plainKeys := false, apart := false, laid := [("math/bits.deBruijn32tab", laid_math_bits_deBruijn32tab), ("math/bits.deBruijn64tab", laid_math_bits_deBruijn64tab), ("internal/strconv.uint64pow10", laid_internal_strconv_uint64pow10), ("unicode/utf8.acceptRanges", laid_unicode_utf8_acceptRanges), ("ephemerist/proof.forms", laid_ephemerist_proof_forms), ("unicode/utf8.first", laid_unicode_utf8_first)], narrowed := true }
def ProofMissedUptoSaid : Prop := proofMissedUptoRow.holds Tryz.pinned (OpenSpec.upto proofMissedSpec)

/-- 'ephemeristlaw09.ProofSeen', WHERE WHAT IT READS IS OF BULK AT MOST 1048576: true; the input reads as it did. -/
def proofSeenUptoRow : OpenClaim := { program := "ytliligceejfakaagreatdoor", sum := "b22e1223a05fc4e73dd31a35aff6b2b223660707d04be238bd5290d2d877e1fa", func := "ephemerist/ephemeristlaw09.ProofSeen", spec := "proofSeen", inPlace := ["internal/bytealg.CountString", "internal/bytealg.IndexByteString", "internal/bytealg.IndexString", "internal/abi.NoEscape", "internal/bytealg.MakeNoZero"], unfollowed := true, recurses := true, named := ["ephemerist/proof.forms", "unicode/utf8.first", "unicode/utf8.acceptRanges", "internal/bytealg.MaxLen", "internal/strconv.uint64pow10", "math/bits.deBruijn32tab", "math/bits.deBruijn64tab"], plainKeys := false, apart := false, laid := [("math/bits.deBruijn32tab", laid_math_bits_deBruijn32tab), ("math/bits.deBruijn64tab", laid_math_bits_deBruijn64tab), ("internal/strconv.uint64pow10", laid_internal_strconv_uint64pow10), ("unicode/utf8.acceptRanges", laid_unicode_utf8_acceptRanges), ("ephemerist/proof.forms", laid_ephemerist_proof_forms), ("unicode/utf8.first", laid_unicode_utf8_first)], narrowed := true }
def ProofSeenUptoSaid : Prop := proofSeenUptoRow.holds Tryz.pinned (OpenSpec.upto proofSeenSpec)

/-- 'ephemeristlaw09.ProofUseless', WHERE WHAT IT READS IS OF BULK AT MOST 1048576: true; the input reads as it did. -/
def proofUselessUptoRow : OpenClaim := { program := "ytliligceejfakaagreatdoor", sum := "b22e1223a05fc4e73dd31a35aff6b2b223660707d04be238bd5290d2d877e1fa", func := "ephemerist/ephemeristlaw09.ProofUseless", spec := "proofUseless", inPlace := ["internal/bytealg.CountString", "internal/bytealg.IndexByteString", "internal/bytealg.IndexString", "internal/abi.NoEscape", "internal/bytealg.MakeNoZero"], unfollowed := true, recurses := true, named := ["ephemerist/proof.forms", "unicode/utf8.first", "unicode/utf8.acceptRanges", "internal/bytealg.MaxLen", "internal/strconv.uint64pow10", "math/bits.deBruijn32tab", "math/bits.deBruijn64tab"], plainKeys := false, apart := false, laid := [("math/bits.deBruijn32tab", laid_math_bits_deBruijn32tab), ("math/bits.deBruijn64tab", laid_math_bits_deBruijn64tab), ("internal/strconv.uint64pow10", laid_internal_strconv_uint64pow10), ("unicode/utf8.acceptRanges", laid_unicode_utf8_acceptRanges), ("ephemerist/proof.forms", laid_ephemerist_proof_forms), ("unicode/utf8.first", laid_unicode_utf8_first)], narrowed := true }
def ProofUselessUptoSaid : Prop := proofUselessUptoRow.holds Tryz.pinned (OpenSpec.upto proofUselessSpec)

/-- 'ephemeristlaw09.ProofWaste', WHERE WHAT IT READS IS OF BULK AT MOST 1048576: true; the input reads as it did. -/
def proofWasteUptoRow : OpenClaim := { program := "ytliligceejfakaagreatdoor", sum := "b22e1223a05fc4e73dd31a35aff6b2b223660707d04be238bd5290d2d877e1fa", func := "ephemerist/ephemeristlaw09.ProofWaste", spec := "proofWaste", inPlace := ["internal/bytealg.CountString", "internal/bytealg.IndexByteString", "internal/bytealg.IndexString", "internal/abi.NoEscape", "internal/bytealg.MakeNoZero"], unfollowed := true, recurses := true, named := ["ephemerist/proof.forms", "unicode/utf8.first", "unicode/utf8.acceptRanges", "internal/bytealg.MaxLen", "internal/strconv.uint64pow10", "math/bits.deBruijn32tab", "math/bits.deBruijn64tab"], plainKeys := false, apart := false, laid := [("math/bits.deBruijn32tab", laid_math_bits_deBruijn32tab), ("math/bits.deBruijn64tab", laid_math_bits_deBruijn64tab), ("internal/strconv.uint64pow10", laid_internal_strconv_uint64pow10), ("unicode/utf8.acceptRanges", laid_unicode_utf8_acceptRanges), ("ephemerist/proof.forms", laid_ephemerist_proof_forms), ("unicode/utf8.first", laid_unicode_utf8_first)], narrowed := true }
def ProofWasteUptoSaid : Prop := proofWasteUptoRow.holds Tryz.pinned (OpenSpec.upto proofWasteSpec)

/-- 'ephemeristlaw09.ProofLess', WHERE WHAT IT READS IS OF BULK AT MOST 1048576: true; the input reads as it did. -/
def proofLessUptoRow : OpenClaim := { program := "ytliligceejfakaagreatdoor", sum := "b22e1223a05fc4e73dd31a35aff6b2b223660707d04be238bd5290d2d877e1fa", func := "ephemerist/ephemeristlaw09.ProofLess", spec := "proofLess", inPlace := ["internal/bytealg.CountString", "internal/bytealg.IndexByteString", "internal/bytealg.IndexString", "internal/abi.NoEscape", "internal/bytealg.MakeNoZero"], unfollowed := true, recurses := true, named := ["ephemerist/proof.forms", "unicode/utf8.first", "unicode/utf8.acceptRanges", "internal/bytealg.MaxLen", "internal/strconv.uint64pow10", "math/bits.deBruijn32tab", "math/bits.deBruijn64tab"], plainKeys := false, apart := false, laid := [("math/bits.deBruijn32tab", laid_math_bits_deBruijn32tab), ("math/bits.deBruijn64tab", laid_math_bits_deBruijn64tab), ("internal/strconv.uint64pow10", laid_internal_strconv_uint64pow10), ("unicode/utf8.acceptRanges", laid_unicode_utf8_acceptRanges), ("ephemerist/proof.forms", laid_ephemerist_proof_forms), ("unicode/utf8.first", laid_unicode_utf8_first)], narrowed := true }
def ProofLessUptoSaid : Prop := proofLessUptoRow.holds Tryz.pinned (OpenSpec.upto proofLessSpec)

/-- 'ephemeristlaw09.ProofFurther', WHERE WHAT IT READS IS OF BULK AT MOST 1048576: true; the input reads as it did. -/
def proofFurtherUptoRow : OpenClaim := { program := "ytliligceejfakaagreatdoor", sum := "b22e1223a05fc4e73dd31a35aff6b2b223660707d04be238bd5290d2d877e1fa", func := "ephemerist/ephemeristlaw09.ProofFurther", spec := "proofFurther", inPlace := ["internal/bytealg.CountString", "internal/bytealg.IndexByteString", "internal/bytealg.IndexString", "internal/abi.NoEscape", "internal/bytealg.MakeNoZero"], unfollowed := true, recurses := true, named := ["ephemerist/proof.forms", "unicode/utf8.first", "unicode/utf8.acceptRanges", "internal/bytealg.MaxLen", "internal/strconv.uint64pow10", "math/bits.deBruijn32tab", "math/bits.deBruijn64tab"], plainKeys := false, apart := false, laid := [("math/bits.deBruijn32tab", laid_math_bits_deBruijn32tab), ("math/bits.deBruijn64tab", laid_math_bits_deBruijn64tab), ("internal/strconv.uint64pow10", laid_internal_strconv_uint64pow10), ("unicode/utf8.acceptRanges", laid_unicode_utf8_acceptRanges), ("ephemerist/proof.forms", laid_ephemerist_proof_forms), ("unicode/utf8.first", laid_unicode_utf8_first)], narrowed := true }
def ProofFurtherUptoSaid : Prop := proofFurtherUptoRow.holds Tryz.pinned (OpenSpec.upto proofFurtherSpec)

end Rows
end Go.Proofs.YtliligceejfakaaGreatDoor

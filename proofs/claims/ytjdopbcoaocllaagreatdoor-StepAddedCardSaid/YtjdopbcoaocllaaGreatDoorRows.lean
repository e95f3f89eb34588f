/-
  NARROWER THAN 'FOR EVERY INPUT', by the rows' own cells (each row's printed sentence says how): StepFigures: laid · StepRounded: laid · StepParts: laid · StepProportional: laid · StepWords: laid · StepTrue: laid · StepProofs: laid · StepProved: laid · StepKeeps: laid · StepAdds: laid · StepAdded: laid · StepEven: laid.
  DERIVED. THE GIVEN ROWS OF THIS SEAT. 12 by the template 'for every input the law returns true; each argument reads behind the call as it read before'; 0 by the template 'total and deterministic' (their statements: YtjdopbcoaocllaaGreatDoorTotals.lean).
  GIVEN WITH THE SEED: the statements are not yours to turn. If you find one false, say at which input.
  Laid BY PROGRAM, IN A SANDBOX (cutbox-rows.mjs): the forced cells as the released guide's own fill.sh prints them over the translation e2bdbc8cbd310f25… (all of the seat's roots in one cut). By AI agents, Wed Nov 11 2026. No macro, syntax, notation, axiom, sorry.
-/
import Derived.Test.YtjdopbcoaocllaaGreatDoorChecked
import GoSem.PinnedTables
import GoSem.Claim
import GoSem.ClaimJoined
import GoSem.ClaimMapViews
import Derived.JoinedTies
import Derived.KernelRfl
namespace Go.Proofs.YtjdopbcoaocllaaGreatDoor
/- THE CELL 'sum', in the pinned program and in every row, IS THE sha256 OF THE DUMP (.gsa) THAT YtjdopbcoaocllaaGreatDoorProg.lean LOADS. Nothing in Lean hashes anything: it is a label: what it is worth is what the hold of that sum in a sandbox is worth. -/
noncomputable def Tryz.pinned : Pinned := { name := "ytjdopbcoaocllaagreatdoor", sum := "e2bdbc8cbd310f250786b341c8809e50d7431599d46c8712cfa70d0dee2ab783", checked := Tryz.checked }
namespace Rows
def none {H : Type} : Left H := { results := [], args := [] }

/- WHAT THE LISTED PACKAGE-LEVEL VARIABLES READ AS WHEN THE CALL BEGINS. Each datum BY PROGRAM (the guide's laid-datum.mjs) off the statement by which the dump's own 'gosem.cut.vars' lays the variable. In a bare row this is a premise. The card (YtjdopbcoaocllaaGreatDoorCards.lean) ties it to the program's text. -/
def laid_math_bits_deBruijn32tab {H : Type} : DataW H := .agg [.lit (.int .u8 0), .lit (.int .u8 1), .lit (.int .u8 28), .lit (.int .u8 2), .lit (.int .u8 29), .lit (.int .u8 14), .lit (.int .u8 24), .lit (.int .u8 3), .lit (.int .u8 30), .lit (.int .u8 22), .lit (.int .u8 20), .lit (.int .u8 15), .lit (.int .u8 25), .lit (.int .u8 17), .lit (.int .u8 4), .lit (.int .u8 8), .lit (.int .u8 31), .lit (.int .u8 27), .lit (.int .u8 13), .lit (.int .u8 23), .lit (.int .u8 21), .lit (.int .u8 19), .lit (.int .u8 16), .lit (.int .u8 7), .lit (.int .u8 26), .lit (.int .u8 12), .lit (.int .u8 18), .lit (.int .u8 6), .lit (.int .u8 11), .lit (.int .u8 5), .lit (.int .u8 10), .lit (.int .u8 9)]
def laid_math_bits_deBruijn64tab {H : Type} : DataW H := .agg [.lit (.int .u8 0), .lit (.int .u8 1), .lit (.int .u8 56), .lit (.int .u8 2), .lit (.int .u8 57), .lit (.int .u8 49), .lit (.int .u8 28), .lit (.int .u8 3), .lit (.int .u8 61), .lit (.int .u8 58), .lit (.int .u8 42), .lit (.int .u8 50), .lit (.int .u8 38), .lit (.int .u8 29), .lit (.int .u8 17), .lit (.int .u8 4), .lit (.int .u8 62), .lit (.int .u8 47), .lit (.int .u8 59), .lit (.int .u8 36), .lit (.int .u8 45), .lit (.int .u8 43), .lit (.int .u8 51), .lit (.int .u8 22), .lit (.int .u8 53), .lit (.int .u8 39), .lit (.int .u8 33), .lit (.int .u8 30), .lit (.int .u8 24), .lit (.int .u8 18), .lit (.int .u8 12), .lit (.int .u8 5), .lit (.int .u8 63), .lit (.int .u8 55), .lit (.int .u8 48), .lit (.int .u8 27), .lit (.int .u8 60), .lit (.int .u8 41), .lit (.int .u8 37), .lit (.int .u8 16), .lit (.int .u8 46), .lit (.int .u8 35), .lit (.int .u8 44), .lit (.int .u8 21), .lit (.int .u8 52), .lit (.int .u8 32), .lit (.int .u8 23), .lit (.int .u8 11), .lit (.int .u8 54), .lit (.int .u8 26), .lit (.int .u8 40), .lit (.int .u8 15), .lit (.int .u8 34), .lit (.int .u8 20), .lit (.int .u8 31), .lit (.int .u8 10), .lit (.int .u8 25), .lit (.int .u8 14), .lit (.int .u8 19), .lit (.int .u8 9), .lit (.int .u8 13), .lit (.int .u8 8), .lit (.int .u8 7), .lit (.int .u8 6)]
def laid_internal_strconv_uint64pow10 {H : Type} : DataW H := .agg [.lit (.int .u64 1), .lit (.int .u64 10), .lit (.int .u64 100), .lit (.int .u64 1000), .lit (.int .u64 10000), .lit (.int .u64 100000), .lit (.int .u64 1000000), .lit (.int .u64 10000000), .lit (.int .u64 100000000), .lit (.int .u64 1000000000), .lit (.int .u64 10000000000), .lit (.int .u64 100000000000), .lit (.int .u64 1000000000000), .lit (.int .u64 10000000000000), .lit (.int .u64 100000000000000), .lit (.int .u64 1000000000000000), .lit (.int .u64 10000000000000000), .lit (.int .u64 100000000000000000), .lit (.int .u64 1000000000000000000), .lit (.int .u64 10000000000000000000)]
def laid_unicode_utf8_acceptRanges {H : Type} : DataW H := .agg [.agg [.lit (.int .u8 128), .lit (.int .u8 191)], .agg [.lit (.int .u8 160), .lit (.int .u8 191)], .agg [.lit (.int .u8 128), .lit (.int .u8 159)], .agg [.lit (.int .u8 144), .lit (.int .u8 191)], .agg [.lit (.int .u8 128), .lit (.int .u8 143)], .agg [.lit (.int .u8 0), .lit (.int .u8 0)], .agg [.lit (.int .u8 0), .lit (.int .u8 0)], .agg [.lit (.int .u8 0), .lit (.int .u8 0)], .agg [.lit (.int .u8 0), .lit (.int .u8 0)], .agg [.lit (.int .u8 0), .lit (.int .u8 0)], .agg [.lit (.int .u8 0), .lit (.int .u8 0)], .agg [.lit (.int .u8 0), .lit (.int .u8 0)], .agg [.lit (.int .u8 0), .lit (.int .u8 0)], .agg [.lit (.int .u8 0), .lit (.int .u8 0)], .agg [.lit (.int .u8 0), .lit (.int .u8 0)], .agg [.lit (.int .u8 0), .lit (.int .u8 0)]]
def laid_ephemerist_step_words {H : Type} : DataW H := .agg [.lit (.string [116, 97, 98, 108, 101]), .lit (.string [118, 97, 108, 117, 101])]
/-- One of Go's own tables, pinned by name: the form's constant. -/
def laid_unicode_utf8_first : DataW Unit := Go.Pinned.utf8First

/-- 'ephemeristlaw05.StepFigures': WHATEVER THE INPUT: true; the input reads as it did. -/
def stepFiguresSpec : ChangeSpec := { name := "stepFigures", fn := fun _ => fun
  | [d1, d2, d3] => { results := [.lit (.bool true)], args := [d1, d2, d3] }
  | _ => none }
def stepFiguresRow : OpenClaim := { program := "ytjdopbcoaocllaagreatdoor", sum := "e2bdbc8cbd310f250786b341c8809e50d7431599d46c8712cfa70d0dee2ab783", func := "ephemerist/ephemeristlaw05.StepFigures", spec := "stepFigures", inPlace := ["slices.overlaps[int]", "internal/bytealg.CountString", "internal/bytealg.IndexByteString", "internal/bytealg.IndexString", "internal/abi.NoEscape", "internal/bytealg.MakeNoZero"], unfollowed := true, recurses := true, named := ["ephemerist/step.words", "unicode/utf8.first", "unicode/utf8.acceptRanges", "internal/bytealg.MaxLen", "internal/strconv.uint64pow10", "math/bits.deBruijn32tab", "math/bits.deBruijn64tab"], plainKeys := false, apart := false, laid := [("math/bits.deBruijn32tab", laid_math_bits_deBruijn32tab), ("math/bits.deBruijn64tab", laid_math_bits_deBruijn64tab), ("internal/strconv.uint64pow10", laid_internal_strconv_uint64pow10), ("unicode/utf8.acceptRanges", laid_unicode_utf8_acceptRanges), ("ephemerist/step.words", laid_ephemerist_step_words), ("unicode/utf8.first", laid_unicode_utf8_first)] }
def StepFiguresSaid : Prop := stepFiguresRow.holds Tryz.pinned (OpenSpec.ofChange stepFiguresSpec)

/-- ITS FALSE NEIGHBOUR: 'it returns false'. Refute it at one input. -/
def stepFiguresWrong : ChangeSpec := { name := "stepFigures", fn := fun _ => fun
  | [d1, d2, d3] => { results := [.lit (.bool false)], args := [d1, d2, d3] }
  | _ => none }
def StepFiguresWrongFalsely : Prop := stepFiguresRow.holds Tryz.pinned (OpenSpec.ofChange stepFiguresWrong)

/-- 'ephemeristlaw05.StepRounded': WHATEVER THE INPUT: true; the input reads as it did. -/
def stepRoundedSpec : ChangeSpec := { name := "stepRounded", fn := fun _ => fun
  | [d1, d2, d3, d4, d5] => { results := [.lit (.bool true)], args := [d1, d2, d3, d4, d5] }
  | _ => none }
def stepRoundedRow : OpenClaim := { program := "ytjdopbcoaocllaagreatdoor", sum := "e2bdbc8cbd310f250786b341c8809e50d7431599d46c8712cfa70d0dee2ab783", func := "ephemerist/ephemeristlaw05.StepRounded", spec := "stepRounded", inPlace := ["slices.overlaps[int]", "internal/bytealg.CountString", "internal/bytealg.IndexByteString", "internal/bytealg.IndexString", "internal/abi.NoEscape", "internal/bytealg.MakeNoZero"], unfollowed := true, recurses := true, named := ["ephemerist/step.words", "unicode/utf8.first", "unicode/utf8.acceptRanges", "internal/bytealg.MaxLen", "internal/strconv.uint64pow10", "math/bits.deBruijn32tab", "math/bits.deBruijn64tab"], plainKeys := false, apart := false, laid := [("math/bits.deBruijn32tab", laid_math_bits_deBruijn32tab), ("math/bits.deBruijn64tab", laid_math_bits_deBruijn64tab), ("internal/strconv.uint64pow10", laid_internal_strconv_uint64pow10), ("unicode/utf8.acceptRanges", laid_unicode_utf8_acceptRanges), ("ephemerist/step.words", laid_ephemerist_step_words), ("unicode/utf8.first", laid_unicode_utf8_first)] }
def StepRoundedSaid : Prop := stepRoundedRow.holds Tryz.pinned (OpenSpec.ofChange stepRoundedSpec)

/-- ITS FALSE NEIGHBOUR: 'it returns false'. Refute it at one input. -/
def stepRoundedWrong : ChangeSpec := { name := "stepRounded", fn := fun _ => fun
  | [d1, d2, d3, d4, d5] => { results := [.lit (.bool false)], args := [d1, d2, d3, d4, d5] }
  | _ => none }
def StepRoundedWrongFalsely : Prop := stepRoundedRow.holds Tryz.pinned (OpenSpec.ofChange stepRoundedWrong)

/-- 'ephemeristlaw05.StepParts': WHATEVER THE INPUT: true; the input reads as it did. -/
def stepPartsSpec : ChangeSpec := { name := "stepParts", fn := fun _ => fun
  | [d1, d2, d3] => { results := [.lit (.bool true)], args := [d1, d2, d3] }
  | _ => none }
def stepPartsRow : OpenClaim := { program := "ytjdopbcoaocllaagreatdoor", sum := "e2bdbc8cbd310f250786b341c8809e50d7431599d46c8712cfa70d0dee2ab783", func := "ephemerist/ephemeristlaw05.StepParts", spec := "stepParts", inPlace := ["slices.overlaps[int]", "internal/bytealg.CountString", "internal/bytealg.IndexByteString", "internal/bytealg.IndexString", "internal/abi.NoEscape", "internal/bytealg.MakeNoZero"], unfollowed := true, recurses := true, named := ["ephemerist/step.words", "unicode/utf8.first", "unicode/utf8.acceptRanges", "internal/bytealg.MaxLen", "internal/strconv.uint64pow10", "math/bits.deBruijn32tab", "math/bits.deBruijn64tab"], plainKeys := false, apart := false, laid := [("math/bits.deBruijn32tab", laid_math_bits_deBruijn32tab), ("math/bits.deBruijn64tab", laid_math_bits_deBruijn64tab), ("internal/strconv.uint64pow10", laid_internal_strconv_uint64pow10), ("unicode/utf8.acceptRanges", laid_unicode_utf8_acceptRanges), ("ephemerist/step.words", laid_ephemerist_step_words), ("unicode/utf8.first", laid_unicode_utf8_first)] }
def StepPartsSaid : Prop := stepPartsRow.holds Tryz.pinned (OpenSpec.ofChange stepPartsSpec)

/-- ITS FALSE NEIGHBOUR: 'it returns false'. Refute it at one input. -/
def stepPartsWrong : ChangeSpec := { name := "stepParts", fn := fun _ => fun
  | [d1, d2, d3] => { results := [.lit (.bool false)], args := [d1, d2, d3] }
  | _ => none }
def StepPartsWrongFalsely : Prop := stepPartsRow.holds Tryz.pinned (OpenSpec.ofChange stepPartsWrong)

/-- 'ephemeristlaw05.StepProportional': WHATEVER THE INPUT: true; the input reads as it did. -/
def stepProportionalSpec : ChangeSpec := { name := "stepProportional", fn := fun _ => fun
  | [d1, d2, d3] => { results := [.lit (.bool true)], args := [d1, d2, d3] }
  | _ => none }
def stepProportionalRow : OpenClaim := { program := "ytjdopbcoaocllaagreatdoor", sum := "e2bdbc8cbd310f250786b341c8809e50d7431599d46c8712cfa70d0dee2ab783", func := "ephemerist/ephemeristlaw05.StepProportional", spec := "stepProportional", inPlace := ["slices.overlaps[int]", "internal/bytealg.CountString", "internal/bytealg.IndexByteString", "internal/bytealg.IndexString", "internal/abi.NoEscape", "internal/bytealg.MakeNoZero"], unfollowed := true, recurses := true, named := ["ephemerist/step.words", "unicode/utf8.first", "unicode/utf8.acceptRanges", "internal/bytealg.MaxLen", "internal/strconv.uint64pow10", "math/bits.deBruijn32tab", "math/bits.deBruijn64tab"], plainKeys := false, apart := false, laid := [("math/bits.deBruijn32tab", laid_math_bits_deBruijn32tab), ("math/bits.deBruijn64tab", laid_math_bits_deBruijn64tab), ("internal/strconv.uint64pow10", laid_internal_strconv_uint64pow10), ("unicode/utf8.acceptRanges", laid_unicode_utf8_acceptRanges), ("ephemerist/step.words", laid_ephemerist_step_words), ("unicode/utf8.first", laid_unicode_utf8_first)] }
def StepProportionalSaid : Prop := stepProportionalRow.holds Tryz.pinned (OpenSpec.ofChange stepProportionalSpec)

/-- ITS FALSE NEIGHBOUR: 'it returns false'. Refute it at one input. -/
def stepProportionalWrong : ChangeSpec := { name := "stepProportional", fn := fun _ => fun
  | [d1, d2, d3] => { results := [.lit (.bool false)], args := [d1, d2, d3] }
  | _ => none }
def StepProportionalWrongFalsely : Prop := stepProportionalRow.holds Tryz.pinned (OpenSpec.ofChange stepProportionalWrong)

/-- 'ephemeristlaw05.StepWords': WHATEVER THE INPUT: true; the input reads as it did. -/
def stepWordsSpec : ChangeSpec := { name := "stepWords", fn := fun _ => fun
  | [d1, d2] => { results := [.lit (.bool true)], args := [d1, d2] }
  | _ => none }
def stepWordsRow : OpenClaim := { program := "ytjdopbcoaocllaagreatdoor", sum := "e2bdbc8cbd310f250786b341c8809e50d7431599d46c8712cfa70d0dee2ab783", func := "ephemerist/ephemeristlaw05.StepWords", spec := "stepWords", inPlace := ["slices.overlaps[int]", "internal/bytealg.CountString", "internal/bytealg.IndexByteString", "internal/bytealg.IndexString", "internal/abi.NoEscape", "internal/bytealg.MakeNoZero"], unfollowed := true, recurses := true, named := ["ephemerist/step.words", "unicode/utf8.first", "unicode/utf8.acceptRanges", "internal/bytealg.MaxLen", "internal/strconv.uint64pow10", "math/bits.deBruijn32tab", "math/bits.deBruijn64tab"], plainKeys := false, apart := false, laid := [("math/bits.deBruijn32tab", laid_math_bits_deBruijn32tab), ("math/bits.deBruijn64tab", laid_math_bits_deBruijn64tab), ("internal/strconv.uint64pow10", laid_internal_strconv_uint64pow10), ("unicode/utf8.acceptRanges", laid_unicode_utf8_acceptRanges), ("ephemerist/step.words", laid_ephemerist_step_words), ("unicode/utf8.first", laid_unicode_utf8_first)] }
def StepWordsSaid : Prop := stepWordsRow.holds Tryz.pinned (OpenSpec.ofChange stepWordsSpec)

/-- ITS FALSE NEIGHBOUR: 'it returns false'. Refute it at one input. -/
def stepWordsWrong : ChangeSpec := { name := "stepWords", fn := fun _ => fun
  | [d1, d2] => { results := [.lit (.bool false)], args := [d1, d2] }
  | _ => none }
def StepWordsWrongFalsely : Prop := stepWordsRow.holds Tryz.pinned (OpenSpec.ofChange stepWordsWrong)

/-- 'ephemeristlaw05.StepTrue': WHATEVER THE INPUT: true; the input reads as it did. -/
def stepTrueSpec : ChangeSpec := { name := "stepTrue", fn := fun _ => fun
  | [d1, d2, d3] => { results := [.lit (.bool true)], args := [d1, d2, d3] }
  | _ => none }
def stepTrueRow : OpenClaim := { program := "ytjdopbcoaocllaagreatdoor", sum := "e2bdbc8cbd310f250786b341c8809e50d7431599d46c8712cfa70d0dee2ab783", func := "ephemerist/ephemeristlaw05.StepTrue", spec := "stepTrue", inPlace := ["slices.overlaps[int]", "internal/bytealg.CountString", "internal/bytealg.IndexByteString", "internal/bytealg.IndexString", "internal/abi.NoEscape", "internal/bytealg.MakeNoZero"], unfollowed := true, recurses := true, named := ["ephemerist/step.words", "unicode/utf8.first", "unicode/utf8.acceptRanges", "internal/bytealg.MaxLen", "internal/strconv.uint64pow10", "math/bits.deBruijn32tab", "math/bits.deBruijn64tab"], plainKeys := false, apart := false, laid := [("math/bits.deBruijn32tab", laid_math_bits_deBruijn32tab), ("math/bits.deBruijn64tab", laid_math_bits_deBruijn64tab), ("internal/strconv.uint64pow10", laid_internal_strconv_uint64pow10), ("unicode/utf8.acceptRanges", laid_unicode_utf8_acceptRanges), ("ephemerist/step.words", laid_ephemerist_step_words), ("unicode/utf8.first", laid_unicode_utf8_first)] }
def StepTrueSaid : Prop := stepTrueRow.holds Tryz.pinned (OpenSpec.ofChange stepTrueSpec)

/-- ITS FALSE NEIGHBOUR: 'it returns false'. Refute it at one input. -/
def stepTrueWrong : ChangeSpec := { name := "stepTrue", fn := fun _ => fun
  | [d1, d2, d3] => { results := [.lit (.bool false)], args := [d1, d2, d3] }
  | _ => none }
def StepTrueWrongFalsely : Prop := stepTrueRow.holds Tryz.pinned (OpenSpec.ofChange stepTrueWrong)

/-- 'ephemeristlaw05.StepProofs': WHATEVER THE INPUT: true; the input reads as it did. -/
def stepProofsSpec : ChangeSpec := { name := "stepProofs", fn := fun _ => fun
  | [d1, d2] => { results := [.lit (.bool true)], args := [d1, d2] }
  | _ => none }
def stepProofsRow : OpenClaim := { program := "ytjdopbcoaocllaagreatdoor", sum := "e2bdbc8cbd310f250786b341c8809e50d7431599d46c8712cfa70d0dee2ab783", func := "ephemerist/ephemeristlaw05.StepProofs", spec := "stepProofs", inPlace := ["slices.overlaps[int]", "internal/bytealg.CountString", "internal/bytealg.IndexByteString", "internal/bytealg.IndexString", "internal/abi.NoEscape", "internal/bytealg.MakeNoZero"], unfollowed := true, recurses := true, named := ["ephemerist/step.words", "unicode/utf8.first", "unicode/utf8.acceptRanges", "internal/bytealg.MaxLen", "internal/strconv.uint64pow10", "math/bits.deBruijn32tab", "math/bits.deBruijn64tab"], plainKeys := false, apart := false, laid := [("math/bits.deBruijn32tab", laid_math_bits_deBruijn32tab), ("math/bits.deBruijn64tab", laid_math_bits_deBruijn64tab), ("internal/strconv.uint64pow10", laid_internal_strconv_uint64pow10), ("unicode/utf8.acceptRanges", laid_unicode_utf8_acceptRanges), ("ephemerist/step.words", laid_ephemerist_step_words), ("unicode/utf8.first", laid_unicode_utf8_first)] }
def StepProofsSaid : Prop := stepProofsRow.holds Tryz.pinned (OpenSpec.ofChange stepProofsSpec)

/-- ITS FALSE NEIGHBOUR: 'it returns false'. Refute it at one input. -/
def stepProofsWrong : ChangeSpec := { name := "stepProofs", fn := fun _ => fun
  | [d1, d2] => { results := [.lit (.bool false)], args := [d1, d2] }
  | _ => none }
def StepProofsWrongFalsely : Prop := stepProofsRow.holds Tryz.pinned (OpenSpec.ofChange stepProofsWrong)

/-- 'ephemeristlaw05.StepProved': WHATEVER THE INPUT: true; the input reads as it did. -/
def stepProvedSpec : ChangeSpec := { name := "stepProved", fn := fun _ => fun
  | [d1, d2, d3, d4] => { results := [.lit (.bool true)], args := [d1, d2, d3, d4] }
  | _ => none }
def stepProvedRow : OpenClaim := { program := "ytjdopbcoaocllaagreatdoor", sum := "e2bdbc8cbd310f250786b341c8809e50d7431599d46c8712cfa70d0dee2ab783", func := "ephemerist/ephemeristlaw05.StepProved", spec := "stepProved", inPlace := ["slices.overlaps[int]", "internal/bytealg.CountString", "internal/bytealg.IndexByteString", "internal/bytealg.IndexString", "internal/abi.NoEscape", "internal/bytealg.MakeNoZero"], unfollowed := true, recurses := true, named := ["ephemerist/step.words", "unicode/utf8.first", "unicode/utf8.acceptRanges", "internal/bytealg.MaxLen", "internal/strconv.uint64pow10", "math/bits.deBruijn32tab", "math/bits.deBruijn64tab"], plainKeys := false, apart := false, laid := [("math/bits.deBruijn32tab", laid_math_bits_deBruijn32tab), ("math/bits.deBruijn64tab", laid_math_bits_deBruijn64tab), ("internal/strconv.uint64pow10", laid_internal_strconv_uint64pow10), ("unicode/utf8.acceptRanges", laid_unicode_utf8_acceptRanges), ("ephemerist/step.words", laid_ephemerist_step_words), ("unicode/utf8.first", laid_unicode_utf8_first)] }
def StepProvedSaid : Prop := stepProvedRow.holds Tryz.pinned (OpenSpec.ofChange stepProvedSpec)

/-- ITS FALSE NEIGHBOUR: 'it returns false'. Refute it at one input. -/
def stepProvedWrong : ChangeSpec := { name := "stepProved", fn := fun _ => fun
  | [d1, d2, d3, d4] => { results := [.lit (.bool false)], args := [d1, d2, d3, d4] }
  | _ => none }
def StepProvedWrongFalsely : Prop := stepProvedRow.holds Tryz.pinned (OpenSpec.ofChange stepProvedWrong)

/-- 'ephemeristlaw05.StepKeeps': WHATEVER THE INPUT: true; the input reads as it did. -/
def stepKeepsSpec : ChangeSpec := { name := "stepKeeps", fn := fun _ => fun
  | [d1, d2] => { results := [.lit (.bool true)], args := [d1, d2] }
  | _ => none }
def stepKeepsRow : OpenClaim := { program := "ytjdopbcoaocllaagreatdoor", sum := "e2bdbc8cbd310f250786b341c8809e50d7431599d46c8712cfa70d0dee2ab783", func := "ephemerist/ephemeristlaw05.StepKeeps", spec := "stepKeeps", inPlace := ["slices.overlaps[int]", "internal/bytealg.CountString", "internal/bytealg.IndexByteString", "internal/bytealg.IndexString", "internal/abi.NoEscape", "internal/bytealg.MakeNoZero"], unfollowed := true, recurses := true, named := ["ephemerist/step.words", "unicode/utf8.first", "unicode/utf8.acceptRanges", "internal/bytealg.MaxLen", "internal/strconv.uint64pow10", "math/bits.deBruijn32tab", "math/bits.deBruijn64tab"], plainKeys := false, apart := false, laid := [("math/bits.deBruijn32tab", laid_math_bits_deBruijn32tab), ("math/bits.deBruijn64tab", laid_math_bits_deBruijn64tab), ("internal/strconv.uint64pow10", laid_internal_strconv_uint64pow10), ("unicode/utf8.acceptRanges", laid_unicode_utf8_acceptRanges), ("ephemerist/step.words", laid_ephemerist_step_words), ("unicode/utf8.first", laid_unicode_utf8_first)] }
def StepKeepsSaid : Prop := stepKeepsRow.holds Tryz.pinned (OpenSpec.ofChange stepKeepsSpec)

/-- ITS FALSE NEIGHBOUR: 'it returns false'. Refute it at one input. -/
def stepKeepsWrong : ChangeSpec := { name := "stepKeeps", fn := fun _ => fun
  | [d1, d2] => { results := [.lit (.bool false)], args := [d1, d2] }
  | _ => none }
def StepKeepsWrongFalsely : Prop := stepKeepsRow.holds Tryz.pinned (OpenSpec.ofChange stepKeepsWrong)

/-- 'ephemeristlaw05.StepAdds': WHATEVER THE INPUT: true; the input reads as it did. -/
def stepAddsSpec : ChangeSpec := { name := "stepAdds", fn := fun _ => fun
  | [d1, d2] => { results := [.lit (.bool true)], args := [d1, d2] }
  | _ => none }
def stepAddsRow : OpenClaim := { program := "ytjdopbcoaocllaagreatdoor", sum := "e2bdbc8cbd310f250786b341c8809e50d7431599d46c8712cfa70d0dee2ab783", func := "ephemerist/ephemeristlaw05.StepAdds", spec := "stepAdds", inPlace := ["slices.overlaps[int]", "internal/bytealg.CountString", "internal/bytealg.IndexByteString", "internal/bytealg.IndexString", "internal/abi.NoEscape", "internal/bytealg.MakeNoZero"], unfollowed := true, recurses := true, named := ["ephemerist/step.words", "unicode/utf8.first", "unicode/utf8.acceptRanges", "internal/bytealg.MaxLen", "internal/strconv.uint64pow10", "math/bits.deBruijn32tab", "math/bits.deBruijn64tab"], plainKeys := false, apart := false, laid := [("math/bits.deBruijn32tab", laid_math_bits_deBruijn32tab), ("math/bits.deBruijn64tab", laid_math_bits_deBruijn64tab), ("internal/strconv.uint64pow10", laid_internal_strconv_uint64pow10), ("unicode/utf8.acceptRanges", laid_unicode_utf8_acceptRanges), ("ephemerist/step.words", laid_ephemerist_step_words), ("unicode/utf8.first", laid_unicode_utf8_first)] }
def StepAddsSaid : Prop := stepAddsRow.holds Tryz.pinned (OpenSpec.ofChange stepAddsSpec)

/-- ITS FALSE NEIGHBOUR: 'it returns false'. Refute it at one input. -/
def stepAddsWrong : ChangeSpec := { name := "stepAdds", fn := fun _ => fun
  | [d1, d2] => { results := [.lit (.bool false)], args := [d1, d2] }
  | _ => none }
def StepAddsWrongFalsely : Prop := stepAddsRow.holds Tryz.pinned (OpenSpec.ofChange stepAddsWrong)

/-- 'ephemeristlaw05.StepAdded': WHATEVER THE INPUT: true; the input reads as it did. -/
def stepAddedSpec : ChangeSpec := { name := "stepAdded", fn := fun _ => fun
  | [d1, d2, d3] => { results := [.lit (.bool true)], args := [d1, d2, d3] }
  | _ => none }
def stepAddedRow : OpenClaim := { program := "ytjdopbcoaocllaagreatdoor", sum := "e2bdbc8cbd310f250786b341c8809e50d7431599d46c8712cfa70d0dee2ab783", func := "ephemerist/ephemeristlaw05.StepAdded", spec := "stepAdded", inPlace := ["slices.overlaps[int]", "internal/bytealg.CountString", "internal/bytealg.IndexByteString", "internal/bytealg.IndexString", "internal/abi.NoEscape", "internal/bytealg.MakeNoZero"], unfollowed := true, recurses := true, named := ["ephemerist/step.words", "unicode/utf8.first", "unicode/utf8.acceptRanges", "internal/bytealg.MaxLen", "internal/strconv.uint64pow10", "math/bits.deBruijn32tab", "math/bits.deBruijn64tab"], plainKeys := false, apart := false, laid := [("math/bits.deBruijn32tab", laid_math_bits_deBruijn32tab), ("math/bits.deBruijn64tab", laid_math_bits_deBruijn64tab), ("internal/strconv.uint64pow10", laid_internal_strconv_uint64pow10), ("unicode/utf8.acceptRanges", laid_unicode_utf8_acceptRanges), ("ephemerist/step.words", laid_ephemerist_step_words), ("unicode/utf8.first", laid_unicode_utf8_first)] }
def StepAddedSaid : Prop := stepAddedRow.holds Tryz.pinned (OpenSpec.ofChange stepAddedSpec)

/-- ITS FALSE NEIGHBOUR: 'it returns false'. Refute it at one input. -/
def stepAddedWrong : ChangeSpec := { name := "stepAdded", fn := fun _ => fun
  | [d1, d2, d3] => { results := [.lit (.bool false)], args := [d1, d2, d3] }
  | _ => none }
def StepAddedWrongFalsely : Prop := stepAddedRow.holds Tryz.pinned (OpenSpec.ofChange stepAddedWrong)

/-- 'ephemeristlaw05.StepEven': WHATEVER THE INPUT: true; the input reads as it did. -/
def stepEvenSpec : ChangeSpec := { name := "stepEven", fn := fun _ => fun
  | [d1, d2, d3, d4] => { results := [.lit (.bool true)], args := [d1, d2, d3, d4] }
  | _ => none }
def stepEvenRow : OpenClaim := { program := "ytjdopbcoaocllaagreatdoor", sum := "e2bdbc8cbd310f250786b341c8809e50d7431599d46c8712cfa70d0dee2ab783", func := "ephemerist/ephemeristlaw05.StepEven", spec := "stepEven", inPlace := ["slices.overlaps[int]", "internal/bytealg.CountString", "internal/bytealg.IndexByteString", "internal/bytealg.IndexString", "internal/abi.NoEscape", "internal/bytealg.MakeNoZero"], unfollowed := true, recurses := true, named := ["ephemerist/step.words", "unicode/utf8.first", "unicode/utf8.acceptRanges", "internal/bytealg.MaxLen", "internal/strconv.uint64pow10", "math/bits.deBruijn32tab", "math/bits.deBruijn64tab"], plainKeys := false, apart := false, laid := [("math/bits.deBruijn32tab", laid_math_bits_deBruijn32tab), ("math/bits.deBruijn64tab", laid_math_bits_deBruijn64tab), ("internal/strconv.uint64pow10", laid_internal_strconv_uint64pow10), ("unicode/utf8.acceptRanges", laid_unicode_utf8_acceptRanges), ("ephemerist/step.words", laid_ephemerist_step_words), ("unicode/utf8.first", laid_unicode_utf8_first)] }
def StepEvenSaid : Prop := stepEvenRow.holds Tryz.pinned (OpenSpec.ofChange stepEvenSpec)

/-- ITS FALSE NEIGHBOUR: 'it returns false'. Refute it at one input. -/
def stepEvenWrong : ChangeSpec := { name := "stepEven", fn := fun _ => fun
  | [d1, d2, d3, d4] => { results := [.lit (.bool false)], args := [d1, d2, d3, d4] }
  | _ => none }
def StepEvenWrongFalsely : Prop := stepEvenRow.holds Tryz.pinned (OpenSpec.ofChange stepEvenWrong)

/- THE SECOND FORM. 'bulk': how many values and letters a reading holds, each counted each time it is reached (what is shared counts as often as it is met; a slice's spare places count too). A statement '..UptoSaid' is the law's where the arguments, and the package variables that the reading takes, are together of bulk at most 1048576: NARROWER than '..Said'. Prove '..Said' where nothing that the law and all that it calls make is longer than what came in: it says more and counts as full. Else prove '..UptoSaid'. A law counts once. -/
mutual
def uptoBulk {H : Type} : DataW H → Nat
  | .lit (.string bytes) => bytes.length + 1
  | .lit _ => 1
  | .nil => 1
  | .ptr d => uptoBulk d + 1
  | .slice elems spare => uptoBulkAll elems + uptoBulkAll spare + 1
  | .agg parts => uptoBulkAll parts + 1
  | .iface _ d => uptoBulk d + 1
  | .map entries => uptoBulkEntries entries + 1
  | .held _ => 1
def uptoBulkAll {H : Type} : List (DataW H) → Nat
  | [] => 0
  | d :: r => uptoBulk d + uptoBulkAll r
def uptoBulkEntries {H : Type} : List (Lit × DataW H) → Nat
  | [] => 0
  | x :: r => uptoBulkEntry x + uptoBulkEntries r
def uptoBulkEntry {H : Type} : Lit × DataW H → Nat
  | (.string bytes, d) => bytes.length + uptoBulk d + 1
  | (_, d) => uptoBulk d + 1
 end
def uptoSmall : (H : Type) → List (DataW H) → Bool := fun _ ds => decide (uptoBulkAll ds ≤ 1048576)
def OpenSpec.upto (s : _root_.Go.ChangeSpec) : _root_.Go.OpenSpec := { _root_.Go.OpenSpec.ofChange s with cond := some uptoSmall }

/-- 'ephemeristlaw05.StepFigures', WHERE WHAT IT READS IS OF BULK AT MOST 1048576: true; the input reads as it did. -/
def stepFiguresUptoRow : OpenClaim := { program := "ytjdopbcoaocllaagreatdoor", sum := "e2bdbc8cbd310f250786b341c8809e50d7431599d46c8712cfa70d0dee2ab783", func := "ephemerist/ephemeristlaw05.StepFigures", spec := "stepFigures", inPlace := ["slices.overlaps[int]", "internal/bytealg.CountString", "internal/bytealg.IndexByteString", "internal/bytealg.IndexString", "internal/abi.NoEscape", "internal/bytealg.MakeNoZero"], unfollowed := true, recurses := true, named := ["ephemerist/step.words", "unicode/utf8.first", "unicode/utf8.acceptRanges", "internal/bytealg.MaxLen", "internal/strconv.uint64pow10", "math/bits.deBruijn32tab", "math/bits.deBruijn64tab"], plainKeys := false, apart := false, laid := [("math/bits.deBruijn32tab", laid_math_bits_deBruijn32tab), ("math/bits.deBruijn64tab", laid_math_bits_deBruijn64tab), ("internal/strconv.uint64pow10", laid_internal_strconv_uint64pow10), ("unicode/utf8.acceptRanges", laid_unicode_utf8_acceptRanges), ("ephemerist/step.words", laid_ephemerist_step_words), ("unicode/utf8.first", laid_unicode_utf8_first)], narrowed := true }
def StepFiguresUptoSaid : Prop := stepFiguresUptoRow.holds Tryz.pinned (OpenSpec.upto stepFiguresSpec)

/-- 'ephemeristlaw05.StepRounded', WHERE WHAT IT READS IS OF BULK AT MOST 1048576: true; the input reads as it did. -/
def stepRoundedUptoRow : OpenClaim := { program := "ytjdopbcoaocllaagreatdoor", sum := "e2bdbc8cbd310f250786b341c8809e50d7431599d46c8712cfa70d0dee2ab783", func := "ephemerist/ephemeristlaw05.StepRounded", spec := "stepRounded", inPlace := ["slices.overlaps[int]", "internal/bytealg.CountString", "internal/bytealg.IndexByteString", "internal/bytealg.IndexString", "internal/abi.NoEscape", "internal/bytealg.MakeNoZero"], unfollowed := true, recurses := true, named := ["ephemerist/step.words", "unicode/utf8.first", "unicode/utf8.acceptRanges", "internal/bytealg.MaxLen", "internal/strconv.uint64pow10", "math/bits.deBruijn32tab", "math/bits.deBruijn64tab"], plainKeys := false, apart := false, laid := [("math/bits.deBruijn32tab", laid_math_bits_deBruijn32tab), ("math/bits.deBruijn64tab", laid_math_bits_deBruijn64tab), ("internal/strconv.uint64pow10", laid_internal_strconv_uint64pow10), ("unicode/utf8.acceptRanges", laid_unicode_utf8_acceptRanges), ("ephemerist/step.words", laid_ephemerist_step_words), ("unicode/utf8.first", laid_unicode_utf8_first)], narrowed := true }
def StepRoundedUptoSaid : Prop := stepRoundedUptoRow.holds Tryz.pinned (OpenSpec.upto stepRoundedSpec)

/-- 'ephemeristlaw05.StepParts', WHERE WHAT IT READS IS OF BULK AT MOST 1048576: true; the input reads as it did. -/
def stepPartsUptoRow : OpenClaim := { program := "ytjdopbcoaocllaagreatdoor", sum := "e2bdbc8cbd310f250786b341c8809e50d7431599d46c8712cfa70d0dee2ab783", func := "ephemerist/ephemeristlaw05.StepParts", spec := "stepParts", inPlace := ["slices.overlaps[int]", "internal/bytealg.CountString", "internal/bytealg.IndexByteString", "internal/bytealg.IndexString", "internal/abi.NoEscape", "internal/bytealg.MakeNoZero"], unfollowed := true, recurses := true, named := ["ephemerist/step.words", "unicode/utf8.first", "unicode/utf8.acceptRanges", "internal/bytealg.MaxLen", "internal/strconv.uint64pow10", "math/bits.deBruijn32tab", "math/bits.deBruijn64tab"], plainKeys := false, apart := false, laid := [("math/bits.deBruijn32tab", laid_math_bits_deBruijn32tab), ("math/bits.deBruijn64tab", laid_math_bits_deBruijn64tab), ("internal/strconv.uint64pow10", laid_internal_strconv_uint64pow10), ("unicode/utf8.acceptRanges", laid_unicode_utf8_acceptRanges), ("ephemerist/step.words", laid_ephemerist_step_words), ("unicode/utf8.first", laid_unicode_utf8_first)], narrowed := true }
def StepPartsUptoSaid : Prop := stepPartsUptoRow.holds Tryz.pinned (OpenSpec.upto stepPartsSpec)

/-- 'ephemeristlaw05.StepProportional', WHERE WHAT IT READS IS OF BULK AT MOST 1048576: true; the input reads as it did. -/
def stepProportionalUptoRow : OpenClaim := { program := "ytjdopbcoaocllaagreatdoor", sum := "e2bdbc8cbd310f250786b341c8809e50d7431599d46c8712cfa70d0dee2ab783", func := "ephemerist/ephemeristlaw05.StepProportional", spec := "stepProportional", inPlace := ["slices.overlaps[int]", "internal/bytealg.CountString", "internal/bytealg.IndexByteString", "internal/bytealg.IndexString", "internal/abi.NoEscape", "internal/bytealg.MakeNoZero"], unfollowed := true, recurses := true, named := ["ephemerist/step.words", "unicode/utf8.first", "unicode/utf8.acceptRanges", "internal/bytealg.MaxLen", "internal/strconv.uint64pow10", "math/bits.deBruijn32tab", "math/bits.deBruijn64tab"], plainKeys := false, apart := false, laid := [("math/bits.deBruijn32tab", laid_math_bits_deBruijn32tab), ("math/bits.deBruijn64tab", laid_math_bits_deBruijn64tab), ("internal/strconv.uint64pow10", laid_internal_strconv_uint64pow10), ("unicode/utf8.acceptRanges", laid_unicode_utf8_acceptRanges), ("ephemerist/step.words", laid_ephemerist_step_words), ("unicode/utf8.first", laid_unicode_utf8_first)], narrowed := true }
def StepProportionalUptoSaid : Prop := stepProportionalUptoRow.holds Tryz.pinned (OpenSpec.upto stepProportionalSpec)

/-- 'ephemeristlaw05.StepWords', WHERE WHAT IT READS IS OF BULK AT MOST 1048576: true; the input reads as it did. -/
def stepWordsUptoRow : OpenClaim := { program := "ytjdopbcoaocllaagreatdoor", sum := "e2bdbc8cbd310f250786b341c8809e50d7431599d46c8712cfa70d0dee2ab783", func := "ephemerist/ephemeristlaw05.StepWords", spec := "stepWords", inPlace := ["slices.overlaps[int]", "internal/bytealg.CountString", "internal/bytealg.IndexByteString", "internal/bytealg.IndexString", "internal/abi.NoEscape", "internal/bytealg.MakeNoZero"], unfollowed := true, recurses := true, named := ["ephemerist/step.words", "unicode/utf8.first", "unicode/utf8.acceptRanges", "internal/bytealg.MaxLen", "internal/strconv.uint64pow10", "math/bits.deBruijn32tab", "math/bits.deBruijn64tab"], plainKeys := false, apart := false, laid := [("math/bits.deBruijn32tab", laid_math_bits_deBruijn32tab), ("math/bits.deBruijn64tab", laid_math_bits_deBruijn64tab), ("internal/strconv.uint64pow10", laid_internal_strconv_uint64pow10), ("unicode/utf8.acceptRanges", laid_unicode_utf8_acceptRanges), ("ephemerist/step.words", laid_ephemerist_step_words), ("unicode/utf8.first", laid_unicode_utf8_first)], narrowed := true }
def StepWordsUptoSaid : Prop := stepWordsUptoRow.holds Tryz.pinned (OpenSpec.upto stepWordsSpec)

/-- 'ephemeristlaw05.StepTrue', WHERE WHAT IT READS IS OF BULK AT MOST 1048576: true; the input reads as it did. -/
def stepTrueUptoRow : OpenClaim := { program := "ytjdopbcoaocllaagreatdoor", sum := "e2bdbc8cbd310f250786b341c8809e50d7431599d46c8712cfa70d0dee2ab783", func := "ephemerist/ephemeristlaw05.StepTrue", spec := "stepTrue", inPlace := ["slices.overlaps[int]", "internal/bytealg.CountString", "internal/bytealg.IndexByteString", "internal/bytealg.IndexString", "internal/abi.NoEscape", "internal/bytealg.MakeNoZero"], unfollowed := true, recurses := true, named := ["ephemerist/step.words", "unicode/utf8.first", "unicode/utf8.acceptRanges", "internal/bytealg.MaxLen", "internal/strconv.uint64pow10", "math/bits.deBruijn32tab", "math/bits.deBruijn64tab"], plainKeys := false, apart := false, laid := [("math/bits.deBruijn32tab", laid_math_bits_deBruijn32tab), ("math/bits.deBruijn64tab", laid_math_bits_deBruijn64tab), ("internal/strconv.uint64pow10", laid_internal_strconv_uint64pow10), ("unicode/utf8.acceptRanges", laid_unicode_utf8_acceptRanges), ("ephemerist/step.words", laid_ephemerist_step_words), ("unicode/utf8.first", laid_unicode_utf8_first)], narrowed := true }
def StepTrueUptoSaid : Prop := stepTrueUptoRow.holds Tryz.pinned (OpenSpec.upto stepTrueSpec)

/-- 'ephemeristlaw05.StepProofs', WHERE WHAT IT READS IS OF BULK AT MOST 1048576: true; the input reads as it did. -/
def stepProofsUptoRow : OpenClaim := { program := "ytjdopbcoaocllaagreatdoor", sum := "e2bdbc8cbd310f250786b341c8809e50d7431599d46c8712cfa70d0dee2ab783", func := "ephemerist/ephemeristlaw05.StepProofs", spec := "stepProofs", inPlace := ["slices.overlaps[int]", "internal/bytealg.CountString", "internal/bytealg.IndexByteString", "internal/bytealg.IndexString", "internal/abi.NoEscape", "internal/bytealg.MakeNoZero"], unfollowed := true, recurses := true, named := ["ephemerist/step.words", "unicode/utf8.first", "unicode/utf8.acceptRanges", "internal/bytealg.MaxLen", "internal/strconv.uint64pow10", "math/bits.deBruijn32tab", "math/bits.deBruijn64tab"], plainKeys := false, apart := false, laid := [("math/bits.deBruijn32tab", laid_math_bits_deBruijn32tab), ("math/bits.deBruijn64tab", laid_math_bits_deBruijn64tab), ("internal/strconv.uint64pow10", laid_internal_strconv_uint64pow10), ("unicode/utf8.acceptRanges", laid_unicode_utf8_acceptRanges), ("ephemerist/step.words", laid_ephemerist_step_words), ("unicode/utf8.first", laid_unicode_utf8_first)], narrowed := true }
def StepProofsUptoSaid : Prop := stepProofsUptoRow.holds Tryz.pinned (OpenSpec.upto stepProofsSpec)

/-- 'ephemeristlaw05.StepProved', WHERE WHAT IT READS IS OF BULK AT MOST 1048576: true; the input reads as it did. -/
def stepProvedUptoRow : OpenClaim := { program := "ytjdopbcoaocllaagreatdoor", sum := "e2bdbc8cbd310f250786b341c8809e50d7431599d46c8712cfa70d0dee2ab783", func := "ephemerist/ephemeristlaw05.StepProved", spec := "stepProved", inPlace := ["slices.overlaps[int]", "internal/bytealg.CountString", "internal/bytealg.IndexByteString", "internal/bytealg.IndexString", "internal/abi.NoEscape", "internal/bytealg.MakeNoZero"], unfollowed := true, recurses := true, named := ["ephemerist/step.words", "unicode/utf8.first", "unicode/utf8.acceptRanges", "internal/bytealg.MaxLen", "internal/strconv.uint64pow10", "math/bits.deBruijn32tab", "math/bits.deBruijn64tab"], plainKeys := false, apart := false, laid := [("math/bits.deBruijn32tab", laid_math_bits_deBruijn32tab), ("math/bits.deBruijn64tab", laid_math_bits_deBruijn64tab), ("internal/strconv.uint64pow10", laid_internal_strconv_uint64pow10), ("unicode/utf8.acceptRanges", laid_unicode_utf8_acceptRanges), ("ephemerist/step.words", laid_ephemerist_step_words), ("unicode/utf8.first", laid_unicode_utf8_first)], narrowed := true }
def StepProvedUptoSaid : Prop := stepProvedUptoRow.holds Tryz.pinned (OpenSpec.upto stepProvedSpec)

/-- 'ephemeristlaw05.StepKeeps', WHERE WHAT IT READS IS OF BULK AT MOST 1048576: true; the input reads as it did. -/
def stepKeepsUptoRow : OpenClaim := { program := "ytjdopbcoaocllaagreatdoor", sum := "e2bdbc8cbd310f250786b341c8809e50d7431599d46c8712cfa70d0dee2ab783", func := "ephemerist/ephemeristlaw05.StepKeeps", spec := "stepKeeps", inPlace := ["slices.overlaps[int]", "internal/bytealg.CountString", "internal/bytealg.IndexByteString", "internal/bytealg.IndexString", "internal/abi.NoEscape", "internal/bytealg.MakeNoZero"], unfollowed := true, recurses := true, named := ["ephemerist/step.words", "unicode/utf8.first", "unicode/utf8.acceptRanges", "internal/bytealg.MaxLen", "internal/strconv.uint64pow10", "math/bits.deBruijn32tab", "math/bits.deBruijn64tab"], plainKeys := false, apart := false, laid := [("math/bits.deBruijn32tab", laid_math_bits_deBruijn32tab), ("math/bits.deBruijn64tab", laid_math_bits_deBruijn64tab), ("internal/strconv.uint64pow10", laid_internal_strconv_uint64pow10), ("unicode/utf8.acceptRanges", laid_unicode_utf8_acceptRanges), ("ephemerist/step.words", laid_ephemerist_step_words), ("unicode/utf8.first", laid_unicode_utf8_first)], narrowed := true }
def StepKeepsUptoSaid : Prop := stepKeepsUptoRow.holds Tryz.pinned (OpenSpec.upto stepKeepsSpec)

/-- 'ephemeristlaw05.StepAdds', WHERE WHAT IT READS IS OF BULK AT MOST 1048576: true; the input reads as it did. -/
def stepAddsUptoRow : OpenClaim := { program := "ytjdopbcoaocllaagreatdoor", sum := "e2bdbc8cbd310f250786b341c8809e50d7431599d46c8712cfa70d0dee2ab783", func := "ephemerist/ephemeristlaw05.StepAdds", spec := "stepAdds", inPlace := ["slices.overlaps[int]", "internal/bytealg.CountString", "internal/bytealg.IndexByteString", "internal/bytealg.IndexString", "internal/abi.NoEscape", "internal/bytealg.MakeNoZero"], unfollowed := true, recurses := true, named := ["ephemerist/step.words", "unicode/utf8.first", "unicode/utf8.acceptRanges", "internal/bytealg.MaxLen", "internal/strconv.uint64pow10", "math/bits.deBruijn32tab", "math/bits.deBruijn64tab"], plainKeys := false, apart := false, laid := [("math/bits.deBruijn32tab", laid_math_bits_deBruijn32tab), ("math/bits.deBruijn64tab", laid_math_bits_deBruijn64tab), ("internal/strconv.uint64pow10", laid_internal_strconv_uint64pow10), ("unicode/utf8.acceptRanges", laid_unicode_utf8_acceptRanges), ("ephemerist/step.words", laid_ephemerist_step_words), ("unicode/utf8.first", laid_unicode_utf8_first)], narrowed := true }
def StepAddsUptoSaid : Prop := stepAddsUptoRow.holds Tryz.pinned (OpenSpec.upto stepAddsSpec)

/-- 'ephemeristlaw05.StepAdded', WHERE WHAT IT READS IS OF BULK AT MOST 1048576: true; the input reads as it did. -/
def stepAddedUptoRow : OpenClaim := { program := "ytjdopbcoaocllaagreatdoor", sum := "e2bdbc8cbd310f250786b341c8809e50d7431599d46c8712cfa70d0dee2ab783", func := "ephemerist/ephemeristlaw05.StepAdded", spec := "stepAdded", inPlace := ["slices.overlaps[int]", "internal/bytealg.CountString", "internal/bytealg.IndexByteString", "internal/bytealg.IndexString", "internal/abi.NoEscape", "internal/bytealg.MakeNoZero"], unfollowed := true, recurses := true, named := ["ephemerist/step.words", "unicode/utf8.first", "unicode/utf8.acceptRanges", "internal/bytealg.MaxLen", "internal/strconv.uint64pow10", "math/bits.deBruijn32tab", "math/bits.deBruijn64tab"], plainKeys := false, apart := false, laid := [("math/bits.deBruijn32tab", laid_math_bits_deBruijn32tab), ("math/bits.deBruijn64tab", laid_math_bits_deBruijn64tab), ("internal/strconv.uint64pow10", laid_internal_strconv_uint64pow10), ("unicode/utf8.acceptRanges", laid_unicode_utf8_acceptRanges), ("ephemerist/step.words", laid_ephemerist_step_words), ("unicode/utf8.first", laid_unicode_utf8_first)], narrowed := true }
def StepAddedUptoSaid : Prop := stepAddedUptoRow.holds Tryz.pinned (OpenSpec.upto stepAddedSpec)

/-- 'ephemeristlaw05.StepEven', WHERE WHAT IT READS IS OF BULK AT MOST 1048576: true; the input reads as it did. -/
def stepEvenUptoRow : OpenClaim := { program := "ytjdopbcoaocllaagreatdoor", sum := "e2bdbc8cbd310f250786b341c8809e50d7431599d46c8712cfa70d0dee2ab783", func := "ephemerist/ephemeristlaw05.StepEven", spec := "stepEven", inPlace := ["slices.overlaps[int]", "internal/bytealg.CountString", "internal/bytealg.IndexByteString", "internal/bytealg.IndexString", "internal/abi.NoEscape", "internal/bytealg.MakeNoZero"], unfollowed := true, recurses := true, named := ["ephemerist/step.words", "unicode/utf8.first", "unicode/utf8.acceptRanges", "internal/bytealg.MaxLen", "internal/strconv.uint64pow10", "math/bits.deBruijn32tab", "math/bits.deBruijn64tab"], plainKeys := false, apart := false, laid := [("math/bits.deBruijn32tab", laid_math_bits_deBruijn32tab), ("math/bits.deBruijn64tab", laid_math_bits_deBruijn64tab), ("internal/strconv.uint64pow10", laid_internal_strconv_uint64pow10), ("unicode/utf8.acceptRanges", laid_unicode_utf8_acceptRanges), ("ephemerist/step.words", laid_ephemerist_step_words), ("unicode/utf8.first", laid_unicode_utf8_first)], narrowed := true }
def StepEvenUptoSaid : Prop := stepEvenUptoRow.holds Tryz.pinned (OpenSpec.upto stepEvenSpec)

end Rows
end Go.Proofs.YtjdopbcoaocllaaGreatDoor

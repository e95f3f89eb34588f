/-
  NARROWER THAN 'FOR EVERY INPUT', by the rows' own cells (each row's printed sentence says how): PayMoneys: laid · PayCoins: laid · PayOwes: laid · PayPays: laid · PayTrue: laid · PayBounds: laid · PayEnds: laid · PayShares: laid · PayJust: laid · PayRates: laid · PayEnough: laid · PayMore: laid.
  DERIVED. THE GIVEN ROWS OF THIS SEAT. 12 by the template 'for every input the law returns true; each argument reads behind the call as it read before'; 0 by the template 'total and deterministic' (their statements: YtbjagnifnbmpeaaGreatDoorTotals.lean).
  GIVEN WITH THE SEED: the statements are not yours to turn. If you find one false, say at which input.
  Laid BY PROGRAM, IN A SANDBOX (cutbox-rows.mjs): the forced cells as the released guide's own fill.sh prints them over the translation c4b760388afdf36f… (all of the seat's roots in one cut). By AI agents, Wed Nov 11 2026. No macro, syntax, notation, axiom, sorry.
-/
import Derived.Test.YtbjagnifnbmpeaaGreatDoorChecked
import GoSem.PinnedTables
import GoSem.Claim
import GoSem.ClaimJoined
import GoSem.ClaimMapViews
import Derived.JoinedTies
import Derived.KernelRfl
namespace Go.Proofs.YtbjagnifnbmpeaaGreatDoor
/- THE CELL 'sum', in the pinned program and in every row, IS THE sha256 OF THE DUMP (.gsa) THAT YtbjagnifnbmpeaaGreatDoorProg.lean LOADS. Nothing in Lean hashes anything: it is a label: what it is worth is what the hold of that sum in a sandbox is worth. -/
noncomputable def Tryz.pinned : Pinned := { name := "ytbjagnifnbmpeaagreatdoor", sum := "c4b760388afdf36fa7aec9592842fec5dc36caf32f0eb327199d242c43f6a4a2", checked := Tryz.checked }
namespace Rows
def none {H : Type} : Left H := { results := [], args := [] }

/- WHAT THE LISTED PACKAGE-LEVEL VARIABLES READ AS WHEN THE CALL BEGINS. Each datum BY PROGRAM (the guide's laid-datum.mjs) off the statement by which the dump's own 'gosem.cut.vars' lays the variable. In a bare row this is a premise. The card (YtbjagnifnbmpeaaGreatDoorCards.lean) ties it to the program's text. -/
def laid_math_bits_deBruijn32tab {H : Type} : DataW H := .agg [.lit (.int .u8 0), .lit (.int .u8 1), .lit (.int .u8 28), .lit (.int .u8 2), .lit (.int .u8 29), .lit (.int .u8 14), .lit (.int .u8 24), .lit (.int .u8 3), .lit (.int .u8 30), .lit (.int .u8 22), .lit (.int .u8 20), .lit (.int .u8 15), .lit (.int .u8 25), .lit (.int .u8 17), .lit (.int .u8 4), .lit (.int .u8 8), .lit (.int .u8 31), .lit (.int .u8 27), .lit (.int .u8 13), .lit (.int .u8 23), .lit (.int .u8 21), .lit (.int .u8 19), .lit (.int .u8 16), .lit (.int .u8 7), .lit (.int .u8 26), .lit (.int .u8 12), .lit (.int .u8 18), .lit (.int .u8 6), .lit (.int .u8 11), .lit (.int .u8 5), .lit (.int .u8 10), .lit (.int .u8 9)]
def laid_math_bits_deBruijn64tab {H : Type} : DataW H := .agg [.lit (.int .u8 0), .lit (.int .u8 1), .lit (.int .u8 56), .lit (.int .u8 2), .lit (.int .u8 57), .lit (.int .u8 49), .lit (.int .u8 28), .lit (.int .u8 3), .lit (.int .u8 61), .lit (.int .u8 58), .lit (.int .u8 42), .lit (.int .u8 50), .lit (.int .u8 38), .lit (.int .u8 29), .lit (.int .u8 17), .lit (.int .u8 4), .lit (.int .u8 62), .lit (.int .u8 47), .lit (.int .u8 59), .lit (.int .u8 36), .lit (.int .u8 45), .lit (.int .u8 43), .lit (.int .u8 51), .lit (.int .u8 22), .lit (.int .u8 53), .lit (.int .u8 39), .lit (.int .u8 33), .lit (.int .u8 30), .lit (.int .u8 24), .lit (.int .u8 18), .lit (.int .u8 12), .lit (.int .u8 5), .lit (.int .u8 63), .lit (.int .u8 55), .lit (.int .u8 48), .lit (.int .u8 27), .lit (.int .u8 60), .lit (.int .u8 41), .lit (.int .u8 37), .lit (.int .u8 16), .lit (.int .u8 46), .lit (.int .u8 35), .lit (.int .u8 44), .lit (.int .u8 21), .lit (.int .u8 52), .lit (.int .u8 32), .lit (.int .u8 23), .lit (.int .u8 11), .lit (.int .u8 54), .lit (.int .u8 26), .lit (.int .u8 40), .lit (.int .u8 15), .lit (.int .u8 34), .lit (.int .u8 20), .lit (.int .u8 31), .lit (.int .u8 10), .lit (.int .u8 25), .lit (.int .u8 14), .lit (.int .u8 19), .lit (.int .u8 9), .lit (.int .u8 13), .lit (.int .u8 8), .lit (.int .u8 7), .lit (.int .u8 6)]
def laid_internal_strconv_uint64pow10 {H : Type} : DataW H := .agg [.lit (.int .u64 1), .lit (.int .u64 10), .lit (.int .u64 100), .lit (.int .u64 1000), .lit (.int .u64 10000), .lit (.int .u64 100000), .lit (.int .u64 1000000), .lit (.int .u64 10000000), .lit (.int .u64 100000000), .lit (.int .u64 1000000000), .lit (.int .u64 10000000000), .lit (.int .u64 100000000000), .lit (.int .u64 1000000000000), .lit (.int .u64 10000000000000), .lit (.int .u64 100000000000000), .lit (.int .u64 1000000000000000), .lit (.int .u64 10000000000000000), .lit (.int .u64 100000000000000000), .lit (.int .u64 1000000000000000000), .lit (.int .u64 10000000000000000000)]
def laid_unicode_utf8_acceptRanges {H : Type} : DataW H := .agg [.agg [.lit (.int .u8 128), .lit (.int .u8 191)], .agg [.lit (.int .u8 160), .lit (.int .u8 191)], .agg [.lit (.int .u8 128), .lit (.int .u8 159)], .agg [.lit (.int .u8 144), .lit (.int .u8 191)], .agg [.lit (.int .u8 128), .lit (.int .u8 143)], .agg [.lit (.int .u8 0), .lit (.int .u8 0)], .agg [.lit (.int .u8 0), .lit (.int .u8 0)], .agg [.lit (.int .u8 0), .lit (.int .u8 0)], .agg [.lit (.int .u8 0), .lit (.int .u8 0)], .agg [.lit (.int .u8 0), .lit (.int .u8 0)], .agg [.lit (.int .u8 0), .lit (.int .u8 0)], .agg [.lit (.int .u8 0), .lit (.int .u8 0)], .agg [.lit (.int .u8 0), .lit (.int .u8 0)], .agg [.lit (.int .u8 0), .lit (.int .u8 0)], .agg [.lit (.int .u8 0), .lit (.int .u8 0)], .agg [.lit (.int .u8 0), .lit (.int .u8 0)]]
def laid_ephemerist_pay_worth {H : Type} : DataW H := .agg [.lit (.int .i64 960), .lit (.int .i64 48), .lit (.int .i64 4), .lit (.int .i64 1)]
def laid_ephemerist_pay_highest {H : Type} : DataW H := .agg [.lit (.int .i64 999), .lit (.int .i64 19), .lit (.int .i64 11), .lit (.int .i64 3)]
def laid_ephemerist_pay_words {H : Type} : DataW H := .agg [.lit (.string [112, 97, 121]), .lit (.string [108, 105, 110, 101])]
/-- One of Go's own tables, pinned by name: the form's constant. -/
def laid_unicode_utf8_first : DataW Unit := Go.Pinned.utf8First

/-- 'ephemeristlaw08.PayMoneys': WHATEVER THE INPUT: true; the input reads as it did. -/
def payMoneysSpec : ChangeSpec := { name := "payMoneys", fn := fun _ => fun
  | [d1, d2] => { results := [.lit (.bool true)], args := [d1, d2] }
  | _ => none }
def payMoneysRow : OpenClaim := { program := "ytbjagnifnbmpeaagreatdoor", sum := "c4b760388afdf36fa7aec9592842fec5dc36caf32f0eb327199d242c43f6a4a2", func := "ephemerist/ephemeristlaw08.PayMoneys", spec := "payMoneys", inPlace := ["internal/bytealg.CountString", "internal/bytealg.IndexByteString", "internal/bytealg.IndexString", "internal/abi.NoEscape", "internal/bytealg.MakeNoZero"], unfollowed := true, recurses := true, named := ["ephemerist/pay.highest", "ephemerist/pay.worth", "ephemerist/pay.words", "unicode/utf8.first", "unicode/utf8.acceptRanges", "internal/bytealg.MaxLen", "internal/strconv.uint64pow10", "math/bits.deBruijn32tab", "math/bits.deBruijn64tab"], apart := false, laid := [("math/bits.deBruijn32tab", laid_math_bits_deBruijn32tab), ("math/bits.deBruijn64tab", laid_math_bits_deBruijn64tab), ("internal/strconv.uint64pow10", laid_internal_strconv_uint64pow10), ("unicode/utf8.acceptRanges", laid_unicode_utf8_acceptRanges), ("ephemerist/pay.worth", laid_ephemerist_pay_worth), ("ephemerist/pay.highest", laid_ephemerist_pay_highest), ("ephemerist/pay.words", laid_ephemerist_pay_words), ("unicode/utf8.first", laid_unicode_utf8_first)] }
def PayMoneysSaid : Prop := payMoneysRow.holds Tryz.pinned (OpenSpec.ofChange payMoneysSpec)

/-- ITS FALSE NEIGHBOUR: 'it returns false'. Refute it at one input. -/
def payMoneysWrong : ChangeSpec := { name := "payMoneys", fn := fun _ => fun
  | [d1, d2] => { results := [.lit (.bool false)], args := [d1, d2] }
  | _ => none }
def PayMoneysWrongFalsely : Prop := payMoneysRow.holds Tryz.pinned (OpenSpec.ofChange payMoneysWrong)

/-- 'ephemeristlaw08.PayCoins': WHATEVER THE INPUT: true; the input reads as it did. -/
def payCoinsSpec : ChangeSpec := { name := "payCoins", fn := fun _ => fun
  | [d1, d2, d3] => { results := [.lit (.bool true)], args := [d1, d2, d3] }
  | _ => none }
def payCoinsRow : OpenClaim := { program := "ytbjagnifnbmpeaagreatdoor", sum := "c4b760388afdf36fa7aec9592842fec5dc36caf32f0eb327199d242c43f6a4a2", func := "ephemerist/ephemeristlaw08.PayCoins", spec := "payCoins", inPlace := ["internal/bytealg.CountString", "internal/bytealg.IndexByteString", "internal/bytealg.IndexString", "internal/abi.NoEscape", "internal/bytealg.MakeNoZero"], unfollowed := true, recurses := true, named := ["ephemerist/pay.highest", "ephemerist/pay.worth", "ephemerist/pay.words", "unicode/utf8.first", "unicode/utf8.acceptRanges", "internal/bytealg.MaxLen", "internal/strconv.uint64pow10", "math/bits.deBruijn32tab", "math/bits.deBruijn64tab"], apart := false, laid := [("math/bits.deBruijn32tab", laid_math_bits_deBruijn32tab), ("math/bits.deBruijn64tab", laid_math_bits_deBruijn64tab), ("internal/strconv.uint64pow10", laid_internal_strconv_uint64pow10), ("unicode/utf8.acceptRanges", laid_unicode_utf8_acceptRanges), ("ephemerist/pay.worth", laid_ephemerist_pay_worth), ("ephemerist/pay.highest", laid_ephemerist_pay_highest), ("ephemerist/pay.words", laid_ephemerist_pay_words), ("unicode/utf8.first", laid_unicode_utf8_first)] }
def PayCoinsSaid : Prop := payCoinsRow.holds Tryz.pinned (OpenSpec.ofChange payCoinsSpec)

/-- ITS FALSE NEIGHBOUR: 'it returns false'. Refute it at one input. -/
def payCoinsWrong : ChangeSpec := { name := "payCoins", fn := fun _ => fun
  | [d1, d2, d3] => { results := [.lit (.bool false)], args := [d1, d2, d3] }
  | _ => none }
def PayCoinsWrongFalsely : Prop := payCoinsRow.holds Tryz.pinned (OpenSpec.ofChange payCoinsWrong)

/-- 'ephemeristlaw08.PayOwes': WHATEVER THE INPUT: true; the input reads as it did. -/
def payOwesSpec : ChangeSpec := { name := "payOwes", fn := fun _ => fun
  | [d1, d2] => { results := [.lit (.bool true)], args := [d1, d2] }
  | _ => none }
def payOwesRow : OpenClaim := { program := "ytbjagnifnbmpeaagreatdoor", sum := "c4b760388afdf36fa7aec9592842fec5dc36caf32f0eb327199d242c43f6a4a2", func := "ephemerist/ephemeristlaw08.PayOwes", spec := "payOwes", inPlace := ["internal/bytealg.CountString", "internal/bytealg.IndexByteString", "internal/bytealg.IndexString", "internal/abi.NoEscape", "internal/bytealg.MakeNoZero"], unfollowed := true, recurses := true, named := ["ephemerist/pay.highest", "ephemerist/pay.worth", "ephemerist/pay.words", "unicode/utf8.first", "unicode/utf8.acceptRanges", "internal/bytealg.MaxLen", "internal/strconv.uint64pow10", "math/bits.deBruijn32tab", "math/bits.deBruijn64tab"], apart := false, laid := [("math/bits.deBruijn32tab", laid_math_bits_deBruijn32tab), ("math/bits.deBruijn64tab", laid_math_bits_deBruijn64tab), ("internal/strconv.uint64pow10", laid_internal_strconv_uint64pow10), ("unicode/utf8.acceptRanges", laid_unicode_utf8_acceptRanges), ("ephemerist/pay.worth", laid_ephemerist_pay_worth), ("ephemerist/pay.highest", laid_ephemerist_pay_highest), ("ephemerist/pay.words", laid_ephemerist_pay_words), ("unicode/utf8.first", laid_unicode_utf8_first)] }
def PayOwesSaid : Prop := payOwesRow.holds Tryz.pinned (OpenSpec.ofChange payOwesSpec)

/-- ITS FALSE NEIGHBOUR: 'it returns false'. Refute it at one input. -/
def payOwesWrong : ChangeSpec := { name := "payOwes", fn := fun _ => fun
  | [d1, d2] => { results := [.lit (.bool false)], args := [d1, d2] }
  | _ => none }
def PayOwesWrongFalsely : Prop := payOwesRow.holds Tryz.pinned (OpenSpec.ofChange payOwesWrong)

/-- 'ephemeristlaw08.PayPays': WHATEVER THE INPUT: true; the input reads as it did. -/
def payPaysSpec : ChangeSpec := { name := "payPays", fn := fun _ => fun
  | [d1, d2, d3] => { results := [.lit (.bool true)], args := [d1, d2, d3] }
  | _ => none }
def payPaysRow : OpenClaim := { program := "ytbjagnifnbmpeaagreatdoor", sum := "c4b760388afdf36fa7aec9592842fec5dc36caf32f0eb327199d242c43f6a4a2", func := "ephemerist/ephemeristlaw08.PayPays", spec := "payPays", inPlace := ["internal/bytealg.CountString", "internal/bytealg.IndexByteString", "internal/bytealg.IndexString", "internal/abi.NoEscape", "internal/bytealg.MakeNoZero"], unfollowed := true, recurses := true, named := ["ephemerist/pay.highest", "ephemerist/pay.worth", "ephemerist/pay.words", "unicode/utf8.first", "unicode/utf8.acceptRanges", "internal/bytealg.MaxLen", "internal/strconv.uint64pow10", "math/bits.deBruijn32tab", "math/bits.deBruijn64tab"], apart := false, laid := [("math/bits.deBruijn32tab", laid_math_bits_deBruijn32tab), ("math/bits.deBruijn64tab", laid_math_bits_deBruijn64tab), ("internal/strconv.uint64pow10", laid_internal_strconv_uint64pow10), ("unicode/utf8.acceptRanges", laid_unicode_utf8_acceptRanges), ("ephemerist/pay.worth", laid_ephemerist_pay_worth), ("ephemerist/pay.highest", laid_ephemerist_pay_highest), ("ephemerist/pay.words", laid_ephemerist_pay_words), ("unicode/utf8.first", laid_unicode_utf8_first)] }
def PayPaysSaid : Prop := payPaysRow.holds Tryz.pinned (OpenSpec.ofChange payPaysSpec)

/-- ITS FALSE NEIGHBOUR: 'it returns false'. Refute it at one input. -/
def payPaysWrong : ChangeSpec := { name := "payPays", fn := fun _ => fun
  | [d1, d2, d3] => { results := [.lit (.bool false)], args := [d1, d2, d3] }
  | _ => none }
def PayPaysWrongFalsely : Prop := payPaysRow.holds Tryz.pinned (OpenSpec.ofChange payPaysWrong)

/-- 'ephemeristlaw08.PayTrue': WHATEVER THE INPUT: true; the input reads as it did. -/
def payTrueSpec : ChangeSpec := { name := "payTrue", fn := fun _ => fun
  | [d1, d2, d3, d4] => { results := [.lit (.bool true)], args := [d1, d2, d3, d4] }
  | _ => none }
def payTrueRow : OpenClaim := { program := "ytbjagnifnbmpeaagreatdoor", sum := "c4b760388afdf36fa7aec9592842fec5dc36caf32f0eb327199d242c43f6a4a2", func := "ephemerist/ephemeristlaw08.PayTrue", spec := "payTrue", inPlace := ["internal/bytealg.CountString", "internal/bytealg.IndexByteString", "internal/bytealg.IndexString", "internal/abi.NoEscape", "internal/bytealg.MakeNoZero"], unfollowed := true, recurses := true, named := ["ephemerist/pay.highest", "ephemerist/pay.worth", "ephemerist/pay.words", "unicode/utf8.first", "unicode/utf8.acceptRanges", "internal/bytealg.MaxLen", "internal/strconv.uint64pow10", "math/bits.deBruijn32tab", "math/bits.deBruijn64tab"], apart := false, laid := [("math/bits.deBruijn32tab", laid_math_bits_deBruijn32tab), ("math/bits.deBruijn64tab", laid_math_bits_deBruijn64tab), ("internal/strconv.uint64pow10", laid_internal_strconv_uint64pow10), ("unicode/utf8.acceptRanges", laid_unicode_utf8_acceptRanges), ("ephemerist/pay.worth", laid_ephemerist_pay_worth), ("ephemerist/pay.highest", laid_ephemerist_pay_highest), ("ephemerist/pay.words", laid_ephemerist_pay_words), ("unicode/utf8.first", laid_unicode_utf8_first)] }
def PayTrueSaid : Prop := payTrueRow.holds Tryz.pinned (OpenSpec.ofChange payTrueSpec)

/-- ITS FALSE NEIGHBOUR: 'it returns false'. Refute it at one input. -/
def payTrueWrong : ChangeSpec := { name := "payTrue", fn := fun _ => fun
  | [d1, d2, d3, d4] => { results := [.lit (.bool false)], args := [d1, d2, d3, d4] }
  | _ => none }
def PayTrueWrongFalsely : Prop := payTrueRow.holds Tryz.pinned (OpenSpec.ofChange payTrueWrong)

/-- 'ephemeristlaw08.PayBounds': WHATEVER THE INPUT: true; the input reads as it did. -/
def payBoundsSpec : ChangeSpec := { name := "payBounds", fn := fun _ => fun
  | [d1, d2] => { results := [.lit (.bool true)], args := [d1, d2] }
  | _ => none }
def payBoundsRow : OpenClaim := { program := "ytbjagnifnbmpeaagreatdoor", sum := "c4b760388afdf36fa7aec9592842fec5dc36caf32f0eb327199d242c43f6a4a2", func := "ephemerist/ephemeristlaw08.PayBounds", spec := "payBounds", inPlace := ["internal/bytealg.CountString", "internal/bytealg.IndexByteString", "internal/bytealg.IndexString", "internal/abi.NoEscape", "internal/bytealg.MakeNoZero"], unfollowed := true, recurses := true, named := ["ephemerist/pay.highest", "ephemerist/pay.worth", "ephemerist/pay.words", "unicode/utf8.first", "unicode/utf8.acceptRanges", "internal/bytealg.MaxLen", "internal/strconv.uint64pow10", "math/bits.deBruijn32tab", "math/bits.deBruijn64tab"], apart := false, laid := [("math/bits.deBruijn32tab", laid_math_bits_deBruijn32tab), ("math/bits.deBruijn64tab", laid_math_bits_deBruijn64tab), ("internal/strconv.uint64pow10", laid_internal_strconv_uint64pow10), ("unicode/utf8.acceptRanges", laid_unicode_utf8_acceptRanges), ("ephemerist/pay.worth", laid_ephemerist_pay_worth), ("ephemerist/pay.highest", laid_ephemerist_pay_highest), ("ephemerist/pay.words", laid_ephemerist_pay_words), ("unicode/utf8.first", laid_unicode_utf8_first)] }
def PayBoundsSaid : Prop := payBoundsRow.holds Tryz.pinned (OpenSpec.ofChange payBoundsSpec)

/-- ITS FALSE NEIGHBOUR: 'it returns false'. Refute it at one input. -/
def payBoundsWrong : ChangeSpec := { name := "payBounds", fn := fun _ => fun
  | [d1, d2] => { results := [.lit (.bool false)], args := [d1, d2] }
  | _ => none }
def PayBoundsWrongFalsely : Prop := payBoundsRow.holds Tryz.pinned (OpenSpec.ofChange payBoundsWrong)

/-- 'ephemeristlaw08.PayEnds': WHATEVER THE INPUT: true; the input reads as it did. -/
def payEndsSpec : ChangeSpec := { name := "payEnds", fn := fun _ => fun
  | [d1, d2, d3] => { results := [.lit (.bool true)], args := [d1, d2, d3] }
  | _ => none }
def payEndsRow : OpenClaim := { program := "ytbjagnifnbmpeaagreatdoor", sum := "c4b760388afdf36fa7aec9592842fec5dc36caf32f0eb327199d242c43f6a4a2", func := "ephemerist/ephemeristlaw08.PayEnds", spec := "payEnds", inPlace := ["internal/bytealg.CountString", "internal/bytealg.IndexByteString", "internal/bytealg.IndexString", "internal/abi.NoEscape", "internal/bytealg.MakeNoZero"], unfollowed := true, recurses := true, named := ["ephemerist/pay.highest", "ephemerist/pay.worth", "ephemerist/pay.words", "unicode/utf8.first", "unicode/utf8.acceptRanges", "internal/bytealg.MaxLen", "internal/strconv.uint64pow10", "math/bits.deBruijn32tab", "math/bits.deBruijn64tab"], apart := false, laid := [("math/bits.deBruijn32tab", laid_math_bits_deBruijn32tab), ("math/bits.deBruijn64tab", laid_math_bits_deBruijn64tab), ("internal/strconv.uint64pow10", laid_internal_strconv_uint64pow10), ("unicode/utf8.acceptRanges", laid_unicode_utf8_acceptRanges), ("ephemerist/pay.worth", laid_ephemerist_pay_worth), ("ephemerist/pay.highest", laid_ephemerist_pay_highest), ("ephemerist/pay.words", laid_ephemerist_pay_words), ("unicode/utf8.first", laid_unicode_utf8_first)] }
def PayEndsSaid : Prop := payEndsRow.holds Tryz.pinned (OpenSpec.ofChange payEndsSpec)

/-- ITS FALSE NEIGHBOUR: 'it returns false'. Refute it at one input. -/
def payEndsWrong : ChangeSpec := { name := "payEnds", fn := fun _ => fun
  | [d1, d2, d3] => { results := [.lit (.bool false)], args := [d1, d2, d3] }
  | _ => none }
def PayEndsWrongFalsely : Prop := payEndsRow.holds Tryz.pinned (OpenSpec.ofChange payEndsWrong)

/-- 'ephemeristlaw08.PayShares': WHATEVER THE INPUT: true; the input reads as it did. -/
def paySharesSpec : ChangeSpec := { name := "payShares", fn := fun _ => fun
  | [d1, d2] => { results := [.lit (.bool true)], args := [d1, d2] }
  | _ => none }
def paySharesRow : OpenClaim := { program := "ytbjagnifnbmpeaagreatdoor", sum := "c4b760388afdf36fa7aec9592842fec5dc36caf32f0eb327199d242c43f6a4a2", func := "ephemerist/ephemeristlaw08.PayShares", spec := "payShares", inPlace := ["internal/bytealg.CountString", "internal/bytealg.IndexByteString", "internal/bytealg.IndexString", "internal/abi.NoEscape", "internal/bytealg.MakeNoZero"], unfollowed := true, recurses := true, named := ["ephemerist/pay.highest", "ephemerist/pay.worth", "ephemerist/pay.words", "unicode/utf8.first", "unicode/utf8.acceptRanges", "internal/bytealg.MaxLen", "internal/strconv.uint64pow10", "math/bits.deBruijn32tab", "math/bits.deBruijn64tab"], apart := false, laid := [("math/bits.deBruijn32tab", laid_math_bits_deBruijn32tab), ("math/bits.deBruijn64tab", laid_math_bits_deBruijn64tab), ("internal/strconv.uint64pow10", laid_internal_strconv_uint64pow10), ("unicode/utf8.acceptRanges", laid_unicode_utf8_acceptRanges), ("ephemerist/pay.worth", laid_ephemerist_pay_worth), ("ephemerist/pay.highest", laid_ephemerist_pay_highest), ("ephemerist/pay.words", laid_ephemerist_pay_words), ("unicode/utf8.first", laid_unicode_utf8_first)] }
def PaySharesSaid : Prop := paySharesRow.holds Tryz.pinned (OpenSpec.ofChange paySharesSpec)

/-- ITS FALSE NEIGHBOUR: 'it returns false'. Refute it at one input. -/
def paySharesWrong : ChangeSpec := { name := "payShares", fn := fun _ => fun
  | [d1, d2] => { results := [.lit (.bool false)], args := [d1, d2] }
  | _ => none }
def PaySharesWrongFalsely : Prop := paySharesRow.holds Tryz.pinned (OpenSpec.ofChange paySharesWrong)

/-- 'ephemeristlaw08.PayJust': WHATEVER THE INPUT: true; the input reads as it did. -/
def payJustSpec : ChangeSpec := { name := "payJust", fn := fun _ => fun
  | [d1, d2, d3, d4] => { results := [.lit (.bool true)], args := [d1, d2, d3, d4] }
  | _ => none }
def payJustRow : OpenClaim := { program := "ytbjagnifnbmpeaagreatdoor", sum := "c4b760388afdf36fa7aec9592842fec5dc36caf32f0eb327199d242c43f6a4a2", func := "ephemerist/ephemeristlaw08.PayJust", spec := "payJust", inPlace := ["internal/bytealg.CountString", "internal/bytealg.IndexByteString", "internal/bytealg.IndexString", "internal/abi.NoEscape", "internal/bytealg.MakeNoZero"], unfollowed := true, recurses := true, named := ["ephemerist/pay.highest", "ephemerist/pay.worth", "ephemerist/pay.words", "unicode/utf8.first", "unicode/utf8.acceptRanges", "internal/bytealg.MaxLen", "internal/strconv.uint64pow10", "math/bits.deBruijn32tab", "math/bits.deBruijn64tab"], apart := false, laid := [("math/bits.deBruijn32tab", laid_math_bits_deBruijn32tab), ("math/bits.deBruijn64tab", laid_math_bits_deBruijn64tab), ("internal/strconv.uint64pow10", laid_internal_strconv_uint64pow10), ("unicode/utf8.acceptRanges", laid_unicode_utf8_acceptRanges), ("ephemerist/pay.worth", laid_ephemerist_pay_worth), ("ephemerist/pay.highest", laid_ephemerist_pay_highest), ("ephemerist/pay.words", laid_ephemerist_pay_words), ("unicode/utf8.first", laid_unicode_utf8_first)] }
def PayJustSaid : Prop := payJustRow.holds Tryz.pinned (OpenSpec.ofChange payJustSpec)

/-- ITS FALSE NEIGHBOUR: 'it returns false'. Refute it at one input. -/
def payJustWrong : ChangeSpec := { name := "payJust", fn := fun _ => fun
  | [d1, d2, d3, d4] => { results := [.lit (.bool false)], args := [d1, d2, d3, d4] }
  | _ => none }
def PayJustWrongFalsely : Prop := payJustRow.holds Tryz.pinned (OpenSpec.ofChange payJustWrong)

/-- 'ephemeristlaw08.PayRates': WHATEVER THE INPUT: true; the input reads as it did. -/
def payRatesSpec : ChangeSpec := { name := "payRates", fn := fun _ => fun
  | [d1, d2, d3] => { results := [.lit (.bool true)], args := [d1, d2, d3] }
  | _ => none }
def payRatesRow : OpenClaim := { program := "ytbjagnifnbmpeaagreatdoor", sum := "c4b760388afdf36fa7aec9592842fec5dc36caf32f0eb327199d242c43f6a4a2", func := "ephemerist/ephemeristlaw08.PayRates", spec := "payRates", inPlace := ["internal/bytealg.CountString", "internal/bytealg.IndexByteString", "internal/bytealg.IndexString", "internal/abi.NoEscape", "internal/bytealg.MakeNoZero"], unfollowed := true, recurses := true, named := ["ephemerist/pay.highest", "ephemerist/pay.worth", "ephemerist/pay.words", "unicode/utf8.first", "unicode/utf8.acceptRanges", "internal/bytealg.MaxLen", "internal/strconv.uint64pow10", "math/bits.deBruijn32tab", "math/bits.deBruijn64tab"], apart := false, laid := [("math/bits.deBruijn32tab", laid_math_bits_deBruijn32tab), ("math/bits.deBruijn64tab", laid_math_bits_deBruijn64tab), ("internal/strconv.uint64pow10", laid_internal_strconv_uint64pow10), ("unicode/utf8.acceptRanges", laid_unicode_utf8_acceptRanges), ("ephemerist/pay.worth", laid_ephemerist_pay_worth), ("ephemerist/pay.highest", laid_ephemerist_pay_highest), ("ephemerist/pay.words", laid_ephemerist_pay_words), ("unicode/utf8.first", laid_unicode_utf8_first)] }
def PayRatesSaid : Prop := payRatesRow.holds Tryz.pinned (OpenSpec.ofChange payRatesSpec)

/-- ITS FALSE NEIGHBOUR: 'it returns false'. Refute it at one input. -/
def payRatesWrong : ChangeSpec := { name := "payRates", fn := fun _ => fun
  | [d1, d2, d3] => { results := [.lit (.bool false)], args := [d1, d2, d3] }
  | _ => none }
def PayRatesWrongFalsely : Prop := payRatesRow.holds Tryz.pinned (OpenSpec.ofChange payRatesWrong)

/-- 'ephemeristlaw08.PayEnough': WHATEVER THE INPUT: true; the input reads as it did. -/
def payEnoughSpec : ChangeSpec := { name := "payEnough", fn := fun _ => fun
  | [d1, d2, d3, d4, d5] => { results := [.lit (.bool true)], args := [d1, d2, d3, d4, d5] }
  | _ => none }
def payEnoughRow : OpenClaim := { program := "ytbjagnifnbmpeaagreatdoor", sum := "c4b760388afdf36fa7aec9592842fec5dc36caf32f0eb327199d242c43f6a4a2", func := "ephemerist/ephemeristlaw08.PayEnough", spec := "payEnough", inPlace := ["internal/bytealg.CountString", "internal/bytealg.IndexByteString", "internal/bytealg.IndexString", "internal/abi.NoEscape", "internal/bytealg.MakeNoZero"], unfollowed := true, recurses := true, named := ["ephemerist/pay.highest", "ephemerist/pay.worth", "ephemerist/pay.words", "unicode/utf8.first", "unicode/utf8.acceptRanges", "internal/bytealg.MaxLen", "internal/strconv.uint64pow10", "math/bits.deBruijn32tab", "math/bits.deBruijn64tab"], apart := false, laid := [("math/bits.deBruijn32tab", laid_math_bits_deBruijn32tab), ("math/bits.deBruijn64tab", laid_math_bits_deBruijn64tab), ("internal/strconv.uint64pow10", laid_internal_strconv_uint64pow10), ("unicode/utf8.acceptRanges", laid_unicode_utf8_acceptRanges), ("ephemerist/pay.worth", laid_ephemerist_pay_worth), ("ephemerist/pay.highest", laid_ephemerist_pay_highest), ("ephemerist/pay.words", laid_ephemerist_pay_words), ("unicode/utf8.first", laid_unicode_utf8_first)] }
def PayEnoughSaid : Prop := payEnoughRow.holds Tryz.pinned (OpenSpec.ofChange payEnoughSpec)

/-- ITS FALSE NEIGHBOUR: 'it returns false'. Refute it at one input. -/
def payEnoughWrong : ChangeSpec := { name := "payEnough", fn := fun _ => fun
  | [d1, d2, d3, d4, d5] => { results := [.lit (.bool false)], args := [d1, d2, d3, d4, d5] }
  | _ => none }
def PayEnoughWrongFalsely : Prop := payEnoughRow.holds Tryz.pinned (OpenSpec.ofChange payEnoughWrong)

/-- 'ephemeristlaw08.PayMore': WHATEVER THE INPUT: true; the input reads as it did. -/
def payMoreSpec : ChangeSpec := { name := "payMore", fn := fun _ => fun
  | [d1, d2, d3, d4, d5] => { results := [.lit (.bool true)], args := [d1, d2, d3, d4, d5] }
  | _ => none }
def payMoreRow : OpenClaim := { program := "ytbjagnifnbmpeaagreatdoor", sum := "c4b760388afdf36fa7aec9592842fec5dc36caf32f0eb327199d242c43f6a4a2", func := "ephemerist/ephemeristlaw08.PayMore", spec := "payMore", inPlace := ["internal/bytealg.CountString", "internal/bytealg.IndexByteString", "internal/bytealg.IndexString", "internal/abi.NoEscape", "internal/bytealg.MakeNoZero"], unfollowed := true, recurses := true, named := ["ephemerist/pay.highest", "ephemerist/pay.worth", "ephemerist/pay.words", "unicode/utf8.first", "unicode/utf8.acceptRanges", "internal/bytealg.MaxLen", "internal/strconv.uint64pow10", "math/bits.deBruijn32tab", "math/bits.deBruijn64tab"], apart := false, laid := [("math/bits.deBruijn32tab", laid_math_bits_deBruijn32tab), ("math/bits.deBruijn64tab", laid_math_bits_deBruijn64tab), ("internal/strconv.uint64pow10", laid_internal_strconv_uint64pow10), ("unicode/utf8.acceptRanges", laid_unicode_utf8_acceptRanges), ("ephemerist/pay.worth", laid_ephemerist_pay_worth), ("ephemerist/pay.highest", laid_ephemerist_pay_highest), ("ephemerist/pay.words", laid_ephemerist_pay_words), ("unicode/utf8.first", laid_unicode_utf8_first)] }
def PayMoreSaid : Prop := payMoreRow.holds Tryz.pinned (OpenSpec.ofChange payMoreSpec)

/-- ITS FALSE NEIGHBOUR: 'it returns false'. Refute it at one input. -/
def payMoreWrong : ChangeSpec := { name := "payMore", fn := fun _ => fun
  | [d1, d2, d3, d4, d5] => { results := [.lit (.bool false)], args := [d1, d2, d3, d4, d5] }
  | _ => none }
def PayMoreWrongFalsely : Prop := payMoreRow.holds Tryz.pinned (OpenSpec.ofChange payMoreWrong)

/- THE SECOND FORM. 'bulk': how many values and letters a reading holds, each counted each time it is reached (what is shared counts as often as it is met; a slice's spare places count too). A statement '..UptoSaid' is the law's where the arguments, and the package variables that the reading takes, are together of bulk at most 1048576: NARROWER than '..Said'. Prove '..Said' where nothing that the law and all that it calls make is longer than what came in: it says more and counts as full. Else prove '..UptoSaid'. A law counts once. -/
mutual
def uptoBulk {H : Type} : DataW H → Nat
  | .lit (.string bytes) => bytes.length + 1
  | .lit _ => 1
  | .nil => 1
  | .ptr d => uptoBulk d + 1
  | .slice elems spare => uptoBulkAll elems + uptoBulkAll spare + 1
  | .agg parts => uptoBulkAll parts + 1
  | .iface _ d => uptoBulk d + 1
  | .map entries => uptoBulkEntries entries + 1
  | .held _ => 1
def uptoBulkAll {H : Type} : List (DataW H) → Nat
  | [] => 0
  | d :: r => uptoBulk d + uptoBulkAll r
def uptoBulkEntries {H : Type} : List (Lit × DataW H) → Nat
  | [] => 0
  | x :: r => uptoBulkEntry x + uptoBulkEntries r
def uptoBulkEntry {H : Type} : Lit × DataW H → Nat
  | (.string bytes, d) => bytes.length + uptoBulk d + 1
  | (_, d) => uptoBulk d + 1
 end
def uptoSmall : (H : Type) → List (DataW H) → Bool := fun _ ds => decide (uptoBulkAll ds ≤ 1048576)
def OpenSpec.upto (s : _root_.Go.ChangeSpec) : _root_.Go.OpenSpec := { _root_.Go.OpenSpec.ofChange s with cond := some uptoSmall }

/-- 'ephemeristlaw08.PayMoneys', WHERE WHAT IT READS IS OF BULK AT MOST 1048576: true; the input reads as it did. -/
def payMoneysUptoRow : OpenClaim := { program := "ytbjagnifnbmpeaagreatdoor", sum := "c4b760388afdf36fa7aec9592842fec5dc36caf32f0eb327199d242c43f6a4a2", func := "ephemerist/ephemeristlaw08.PayMoneys", spec := "payMoneys", inPlace := ["internal/bytealg.CountString", "internal/bytealg.IndexByteString", "internal/bytealg.IndexString", "internal/abi.NoEscape", "internal/bytealg.MakeNoZero"], unfollowed := true, recurses := true, named := ["ephemerist/pay.highest", "ephemerist/pay.worth", "ephemerist/pay.words", "unicode/utf8.first", "unicode/utf8.acceptRanges", "internal/bytealg.MaxLen", "internal/strconv.uint64pow10", "math/bits.deBruijn32tab", "math/bits.deBruijn64tab"], apart := false, laid := [("math/bits.deBruijn32tab", laid_math_bits_deBruijn32tab), ("math/bits.deBruijn64tab", laid_math_bits_deBruijn64tab), ("internal/strconv.uint64pow10", laid_internal_strconv_uint64pow10), ("unicode/utf8.acceptRanges", laid_unicode_utf8_acceptRanges), ("ephemerist/pay.worth", laid_ephemerist_pay_worth), ("ephemerist/pay.highest", laid_ephemerist_pay_highest), ("ephemerist/pay.words", laid_ephemerist_pay_words), ("unicode/utf8.first", laid_unicode_utf8_first)], narrowed := true }
def PayMoneysUptoSaid : Prop := payMoneysUptoRow.holds Tryz.pinned (OpenSpec.upto payMoneysSpec)

/-- 'ephemeristlaw08.PayCoins', WHERE WHAT IT READS IS OF BULK AT MOST 1048576: true; the input reads as it did. -/
def payCoinsUptoRow : OpenClaim := { program := "ytbjagnifnbmpeaagreatdoor", sum := "c4b760388afdf36fa7aec9592842fec5dc36caf32f0eb327199d242c43f6a4a2", func := "ephemerist/ephemeristlaw08.PayCoins", spec := "payCoins", inPlace := ["internal/bytealg.CountString", "internal/bytealg.IndexByteString", "internal/bytealg.IndexString", "internal/abi.NoEscape", "internal/bytealg.MakeNoZero"], unfollowed := true, recurses := true, named := ["ephemerist/pay.highest", "ephemerist/pay.worth", "ephemerist/pay.words", "unicode/utf8.first", "unicode/utf8.acceptRanges", "internal/bytealg.MaxLen", "internal/strconv.uint64pow10", "math/bits.deBruijn32tab", "math/bits.deBruijn64tab"], apart := false, laid := [("math/bits.deBruijn32tab", laid_math_bits_deBruijn32tab), ("math/bits.deBruijn64tab", laid_math_bits_deBruijn64tab), ("internal/strconv.uint64pow10", laid_internal_strconv_uint64pow10), ("unicode/utf8.acceptRanges", laid_unicode_utf8_acceptRanges), ("ephemerist/pay.worth", laid_ephemerist_pay_worth), ("ephemerist/pay.highest", laid_ephemerist_pay_highest), ("ephemerist/pay.words", laid_ephemerist_pay_words), ("unicode/utf8.first", laid_unicode_utf8_first)], narrowed := true }
def PayCoinsUptoSaid : Prop := payCoinsUptoRow.holds Tryz.pinned (OpenSpec.upto payCoinsSpec)

/-- 'ephemeristlaw08.PayOwes', WHERE WHAT IT READS IS OF BULK AT MOST 1048576: true; the input reads as it did. -/
def payOwesUptoRow : OpenClaim := { program := "ytbjagnifnbmpeaagreatdoor", sum := "c4b760388afdf36fa7aec9592842fec5dc36caf32f0eb327199d242c43f6a4a2", func := "ephemerist/ephemeristlaw08.PayOwes", spec := "payOwes", inPlace := ["internal/bytealg.CountString", "internal/bytealg.IndexByteString", "internal/bytealg.IndexString", "internal/abi.NoEscape", "internal/bytealg.MakeNoZero"], unfollowed := true, recurses := true, named := ["ephemerist/pay.highest", "ephemerist/pay.worth", "ephemerist/pay.words", "unicode/utf8.first", "unicode/utf8.acceptRanges", "internal/bytealg.MaxLen", "internal/strconv.uint64pow10", "math/bits.deBruijn32tab", "math/bits.deBruijn64tab"], apart := false, laid := [("math/bits.deBruijn32tab", laid_math_bits_deBruijn32tab), ("math/bits.deBruijn64tab", laid_math_bits_deBruijn64tab), ("internal/strconv.uint64pow10", laid_internal_strconv_uint64pow10), ("unicode/utf8.acceptRanges", laid_unicode_utf8_acceptRanges), ("ephemerist/pay.worth", laid_ephemerist_pay_worth), ("ephemerist/pay.highest", laid_ephemerist_pay_highest), ("ephemerist/pay.words", laid_ephemerist_pay_words), ("unicode/utf8.first", laid_unicode_utf8_first)], narrowed := true }
def PayOwesUptoSaid : Prop := payOwesUptoRow.holds Tryz.pinned (OpenSpec.upto payOwesSpec)

/-- 'ephemeristlaw08.PayPays', WHERE WHAT IT READS IS OF BULK AT MOST 1048576: true; the input reads as it did. -/
def payPaysUptoRow : OpenClaim := { program := "ytbjagnifnbmpeaagreatdoor", sum := "c4b760388afdf36fa7aec9592842fec5dc36caf32f0eb327199d242c43f6a4a2", func := "ephemerist/ephemeristlaw08.PayPays", spec := "payPays", inPlace := ["internal/bytealg.CountString", "internal/bytealg.IndexByteString", "internal/bytealg.IndexString", "internal/abi.NoEscape", "internal/bytealg.MakeNoZero"], unfollowed := true, recurses := true, named := ["ephemerist/pay.highest", "ephemerist/pay.worth", "ephemerist/pay.words", "unicode/utf8.first", "unicode/utf8.acceptRanges", "internal/bytealg.MaxLen", "internal/strconv.uint64pow10", "math/bits.deBruijn32tab", "math/bits.deBruijn64tab"], apart := false, laid := [("math/bits.deBruijn32tab", laid_math_bits_deBruijn32tab), ("math/bits.deBruijn64tab", laid_math_bits_deBruijn64tab), ("internal/strconv.uint64pow10", laid_internal_strconv_uint64pow10), ("unicode/utf8.acceptRanges", laid_unicode_utf8_acceptRanges), ("ephemerist/pay.worth", laid_ephemerist_pay_worth), ("ephemerist/pay.highest", laid_ephemerist_pay_highest), ("ephemerist/pay.words", laid_ephemerist_pay_words), ("unicode/utf8.first", laid_unicode_utf8_first)], narrowed := true }
def PayPaysUptoSaid : Prop := payPaysUptoRow.holds Tryz.pinned (OpenSpec.upto payPaysSpec)

/-- 'ephemeristlaw08.PayTrue', WHERE WHAT IT READS IS OF BULK AT MOST 1048576: true; the input reads as it did. -/
def payTrueUptoRow : OpenClaim := { program := "ytbjagnifnbmpeaagreatdoor", sum := "c4b760388afdf36fa7aec9592842fec5dc36caf32f0eb327199d242c43f6a4a2", func := "ephemerist/ephemeristlaw08.PayTrue", spec := "payTrue", inPlace := ["internal/bytealg.CountString", "internal/bytealg.IndexByteString", "internal/bytealg.IndexString", "internal/abi.NoEscape", "internal/bytealg.MakeNoZero"], unfollowed := true, recurses := true, named := ["ephemerist/pay.highest", "ephemerist/pay.worth", "ephemerist/pay.words", "unicode/utf8.first", "unicode/utf8.acceptRanges", "internal/bytealg.MaxLen", "internal/strconv.uint64pow10", "math/bits.deBruijn32tab", "math/bits.deBruijn64tab"], apart := false, laid := [("math/bits.deBruijn32tab", laid_math_bits_deBruijn32tab), ("math/bits.deBruijn64tab", laid_math_bits_deBruijn64tab), ("internal/strconv.uint64pow10", laid_internal_strconv_uint64pow10), ("unicode/utf8.acceptRanges", laid_unicode_utf8_acceptRanges), ("ephemerist/pay.worth", laid_ephemerist_pay_worth), ("ephemerist/pay.highest", laid_ephemerist_pay_highest), ("ephemerist/pay.words", laid_ephemerist_pay_words), ("unicode/utf8.first", laid_unicode_utf8_first)], narrowed := true }
def PayTrueUptoSaid : Prop := payTrueUptoRow.holds Tryz.pinned (OpenSpec.upto payTrueSpec)

/-- 'ephemeristlaw08.PayBounds', WHERE WHAT IT READS IS OF BULK AT MOST 1048576: true; the input reads as it did. -/
def payBoundsUptoRow : OpenClaim := { program := "ytbjagnifnbmpeaagreatdoor", sum := "c4b760388afdf36fa7aec9592842fec5dc36caf32f0eb327199d242c43f6a4a2", func := "ephemerist/ephemeristlaw08.PayBounds", spec := "payBounds", inPlace := ["internal/bytealg.CountString", "internal/bytealg.IndexByteString", "internal/bytealg.IndexString", "internal/abi.NoEscape", "internal/bytealg.MakeNoZero"], unfollowed := true, recurses := true, named := ["ephemerist/pay.highest", "ephemerist/pay.worth", "ephemerist/pay.words", "unicode/utf8.first", "unicode/utf8.acceptRanges", "internal/bytealg.MaxLen", "internal/strconv.uint64pow10", "math/bits.deBruijn32tab", "math/bits.deBruijn64tab"], apart := false, laid := [("math/bits.deBruijn32tab", laid_math_bits_deBruijn32tab), ("math/bits.deBruijn64tab", laid_math_bits_deBruijn64tab), ("internal/strconv.uint64pow10", laid_internal_strconv_uint64pow10), ("unicode/utf8.acceptRanges", laid_unicode_utf8_acceptRanges), ("ephemerist/pay.worth", laid_ephemerist_pay_worth), ("ephemerist/pay.highest", laid_ephemerist_pay_highest), ("ephemerist/pay.words", laid_ephemerist_pay_words), ("unicode/utf8.first", laid_unicode_utf8_first)], narrowed := true }
def PayBoundsUptoSaid : Prop := payBoundsUptoRow.holds Tryz.pinned (OpenSpec.upto payBoundsSpec)

/-- 'ephemeristlaw08.PayEnds', WHERE WHAT IT READS IS OF BULK AT MOST 1048576: true; the input reads as it did. -/
def payEndsUptoRow : OpenClaim := { program := "ytbjagnifnbmpeaagreatdoor", sum := "c4b760388afdf36fa7aec9592842fec5dc36caf32f0eb327199d242c43f6a4a2", func := "ephemerist/ephemeristlaw08.PayEnds", spec := "payEnds", inPlace := ["internal/bytealg.CountString", "internal/bytealg.IndexByteString", "internal/bytealg.IndexString", "internal/abi.NoEscape", "internal/bytealg.MakeNoZero"], unfollowed := true, recurses := true, named := ["ephemerist/pay.highest", "ephemerist/pay.worth", "ephemerist/pay.words", "unicode/utf8.first", "unicode/utf8.acceptRanges", "internal/bytealg.MaxLen", "internal/strconv.uint64pow10", "math/bits.deBruijn32tab", "math/bits.deBruijn64tab"], apart := false, laid := [("math/bits.deBruijn32tab", laid_math_bits_deBruijn32tab), ("math/bits.deBruijn64tab", laid_math_bits_deBruijn64tab), ("internal/strconv.uint64pow10", laid_internal_strconv_uint64pow10), ("unicode/utf8.acceptRanges", laid_unicode_utf8_acceptRanges), ("ephemerist/pay.worth", laid_ephemerist_pay_worth), ("ephemerist/pay.highest", laid_ephemerist_pay_highest), ("ephemerist/pay.words", laid_ephemerist_pay_words), ("unicode/utf8.first", laid_unicode_utf8_first)], narrowed := true }
def PayEndsUptoSaid : Prop := payEndsUptoRow.holds Tryz.pinned (OpenSpec.upto payEndsSpec)

/-- 'ephemeristlaw08.PayShares', WHERE WHAT IT READS IS OF BULK AT MOST 1048576: true; the input reads as it did. -/
def paySharesUptoRow : OpenClaim := { program := "ytbjagnifnbmpeaagreatdoor", sum := "c4b760388afdf36fa7aec9592842fec5dc36caf32f0eb327199d242c43f6a4a2", func := "ephemerist/ephemeristlaw08.PayShares", spec := "payShares", inPlace := ["internal/bytealg.CountString", "internal/bytealg.IndexByteString", "internal/bytealg.IndexString", "internal/abi.NoEscape", "internal/bytealg.MakeNoZero"], unfollowed := true, recurses := true, named := ["ephemerist/pay.highest", "ephemerist/pay.worth", "ephemerist/pay.words", "unicode/utf8.first", "unicode/utf8.acceptRanges", "internal/bytealg.MaxLen", "internal/strconv.uint64pow10", "math/bits.deBruijn32tab", "math/bits.deBruijn64tab"], apart := false, laid := [("math/bits.deBruijn32tab", laid_math_bits_deBruijn32tab), ("math/bits.deBruijn64tab", laid_math_bits_deBruijn64tab), ("internal/strconv.uint64pow10", laid_internal_strconv_uint64pow10), ("unicode/utf8.acceptRanges", laid_unicode_utf8_acceptRanges), ("ephemerist/pay.worth", laid_ephemerist_pay_worth), ("ephemerist/pay.highest", laid_ephemerist_pay_highest), ("ephemerist/pay.words", laid_ephemerist_pay_words), ("unicode/utf8.first", laid_unicode_utf8_first)], narrowed := true }
def PaySharesUptoSaid : Prop := paySharesUptoRow.holds Tryz.pinned (OpenSpec.upto paySharesSpec)

/-- 'ephemeristlaw08.PayJust', WHERE WHAT IT READS IS OF BULK AT MOST 1048576: true; the input reads as it did. -/
def payJustUptoRow : OpenClaim := { program := "ytbjagnifnbmpeaagreatdoor", sum := "c4b760388afdf36fa7aec9592842fec5dc36caf32f0eb327199d242c43f6a4a2", func := "ephemerist/ephemeristlaw08.PayJust", spec := "payJust", inPlace := ["internal/bytealg.CountString", "internal/bytealg.IndexByteString", "internal/bytealg.IndexString", "internal/abi.NoEscape", "internal/bytealg.MakeNoZero"], unfollowed := true, recurses := true, named := ["ephemerist/pay.highest", "ephemerist/pay.worth", "ephemerist/pay.words", "unicode/utf8.first", "unicode/utf8.acceptRanges", "internal/bytealg.MaxLen", "internal/strconv.uint64pow10", "math/bits.deBruijn32tab", "math/bits.deBruijn64tab"], apart := false, laid := [("math/bits.deBruijn32tab", laid_math_bits_deBruijn32tab), ("math/bits.deBruijn64tab", laid_math_bits_deBruijn64tab), ("internal/strconv.uint64pow10", laid_internal_strconv_uint64pow10), ("unicode/utf8.acceptRanges", laid_unicode_utf8_acceptRanges), ("ephemerist/pay.worth", laid_ephemerist_pay_worth), ("ephemerist/pay.highest", laid_ephemerist_pay_highest), ("ephemerist/pay.words", laid_ephemerist_pay_words), ("unicode/utf8.first", laid_unicode_utf8_first)], narrowed := true }
def PayJustUptoSaid : Prop := payJustUptoRow.holds Tryz.pinned (OpenSpec.upto payJustSpec)

/-- 'ephemeristlaw08.PayRates', WHERE WHAT IT READS IS OF BULK AT MOST 1048576: true; the input reads as it did. -/
def payRatesUptoRow : OpenClaim := { program := "ytbjagnifnbmpeaagreatdoor", sum := "c4b760388afdf36fa7aec9592842fec5dc36caf32f0eb327199d242c43f6a4a2", func := "ephemerist/ephemeristlaw08.PayRates", spec := "payRates", inPlace := ["internal/bytealg.CountString", "internal/bytealg.IndexByteString", "internal/bytealg.IndexString", "internal/abi.NoEscape", "internal/bytealg.MakeNoZero"], unfollowed := true, recurses := true, named := ["ephemerist/pay.highest", "ephemerist/pay.worth", "ephemerist/pay.words", "unicode/utf8.first", "unicode/utf8.acceptRanges", "internal/bytealg.MaxLen", "internal/strconv.uint64pow10", "math/bits.deBruijn32tab", "math/bits.deBruijn64tab"], apart := false, laid := [("math/bits.deBruijn32tab", laid_math_bits_deBruijn32tab), ("math/bits.deBruijn64tab", laid_math_bits_deBruijn64tab), ("internal/strconv.uint64pow10", laid_internal_strconv_uint64pow10), ("unicode/utf8.acceptRanges", laid_unicode_utf8_acceptRanges), ("ephemerist/pay.worth", laid_ephemerist_pay_worth), ("ephemerist/pay.highest", laid_ephemerist_pay_highest), ("ephemerist/pay.words", laid_ephemerist_pay_words), ("unicode/utf8.first", laid_unicode_utf8_first)], narrowed := true }
def PayRatesUptoSaid : Prop := payRatesUptoRow.holds Tryz.pinned (OpenSpec.upto payRatesSpec)

/-- 'ephemeristlaw08.PayEnough', WHERE WHAT IT READS IS OF BULK AT MOST 1048576: true; the input reads as it did. -/
def payEnoughUptoRow : OpenClaim := { program := "ytbjagnifnbmpeaagreatdoor", sum := "c4b760388afdf36fa7aec9592842fec5dc36caf32f0eb327199d242c43f6a4a2", func := "ephemerist/ephemeristlaw08.PayEnough", spec := "payEnough", inPlace := ["internal/bytealg.CountString", "internal/bytealg.IndexByteString", "internal/bytealg.IndexString", "internal/abi.NoEscape", "internal/bytealg.MakeNoZero"], unfollowed := true, recurses := true, named := ["ephemerist/pay.highest", "ephemerist/pay.worth", "ephemerist/pay.words", "unicode/utf8.first", "unicode/utf8.acceptRanges", "internal/bytealg.MaxLen", "internal/strconv.uint64pow10", "math/bits.deBruijn32tab", "math/bits.deBruijn64tab"], apart := false, laid := [("math/bits.deBruijn32tab", laid_math_bits_deBruijn32tab), ("math/bits.deBruijn64tab", laid_math_bits_deBruijn64tab), ("internal/strconv.uint64pow10", laid_internal_strconv_uint64pow10), ("unicode/utf8.acceptRanges", laid_unicode_utf8_acceptRanges), ("ephemerist/pay.worth", laid_ephemerist_pay_worth), ("ephemerist/pay.highest", laid_ephemerist_pay_highest), ("ephemerist/pay.words", laid_ephemerist_pay_words), ("unicode/utf8.first", laid_unicode_utf8_first)], narrowed := true }
def PayEnoughUptoSaid : Prop := payEnoughUptoRow.holds Tryz.pinned (OpenSpec.upto payEnoughSpec)

/-- 'ephemeristlaw08.PayMore', WHERE WHAT IT READS IS OF BULK AT MOST 1048576: true; the input reads as it did. -/
def payMoreUptoRow : OpenClaim := { program := "ytbjagnifnbmpeaagreatdoor", sum := "c4b760388afdf36fa7aec9592842fec5dc36caf32f0eb327199d242c43f6a4a2", func := "ephemerist/ephemeristlaw08.PayMore", spec := "payMore", inPlace := ["internal/bytealg.CountString", "internal/bytealg.IndexByteString", "internal/bytealg.IndexString", "internal/abi.NoEscape", "internal/bytealg.MakeNoZero"], unfollowed := true, recurses := true, named := ["ephemerist/pay.highest", "ephemerist/pay.worth", "ephemerist/pay.words", "unicode/utf8.first", "unicode/utf8.acceptRanges", "internal/bytealg.MaxLen", "internal/strconv.uint64pow10", "math/bits.deBruijn32tab", "math/bits.deBruijn64tab"], apart := false, laid := [("math/bits.deBruijn32tab", laid_math_bits_deBruijn32tab), ("math/bits.deBruijn64tab", laid_math_bits_deBruijn64tab), ("internal/strconv.uint64pow10", laid_internal_strconv_uint64pow10), ("unicode/utf8.acceptRanges", laid_unicode_utf8_acceptRanges), ("ephemerist/pay.worth", laid_ephemerist_pay_worth), ("ephemerist/pay.highest", laid_ephemerist_pay_highest), ("ephemerist/pay.words", laid_ephemerist_pay_words), ("unicode/utf8.first", laid_unicode_utf8_first)], narrowed := true }
def PayMoreUptoSaid : Prop := payMoreUptoRow.holds Tryz.pinned (OpenSpec.upto payMoreSpec)

end Rows
end Go.Proofs.YtbjagnifnbmpeaaGreatDoor

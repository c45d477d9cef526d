/-
  NARROWER THAN 'FOR EVERY INPUT', by the rows' own cells (each row's printed sentence says how): LightNames: laid · LightMaps: laid · LightParts: laid · LightTurns: laid · LightSpreads: laid · LightWaves: laid · LightTelegrams: laid · LightLosses: laid · LightStreams: laid · LightTexts: laid · LightCut: laid · LightKept: laid · LightBins: laid · LightFound: laid · LightBack: laid · TopEmberRing: laid.
  DERIVED. THE GIVEN ROWS OF THIS SEAT. 16 by the template 'for every input the law returns true; each argument reads behind the call as it read before'; 0 by the template 'total and deterministic' (their statements: YtfdkmmllemkogaaGreatDoorTotals.lean).
  GIVEN WITH THE SEED: the statements are not yours to turn. If you find one false, say at which input.
  Laid BY PROGRAM, IN A SANDBOX (cutbox-rows.mjs): the forced cells as the released guide's own fill.sh prints them over the translation ff6ec5a6a807d997… (all of the seat's roots in one cut). By AI agents, Wed Nov 11 2026. No macro, syntax, notation, axiom, sorry.
-/
import Derived.Test.YtfdkmmllemkogaaGreatDoorChecked
import GoSem.PinnedTables
import GoSem.Claim
import GoSem.ClaimJoined
import GoSem.ClaimMapViews
import Derived.JoinedTies
import Derived.KernelRfl
namespace Go.Proofs.YtfdkmmllemkogaaGreatDoor
/- THE CELL 'sum', in the pinned program and in every row, IS THE sha256 OF THE DUMP (.gsa) THAT YtfdkmmllemkogaaGreatDoorProg.lean LOADS. Nothing in Lean hashes anything: it is a label: what it is worth is what the hold of that sum in a sandbox is worth. -/
noncomputable def Tryz.pinned : Pinned := { name := "ytfdkmmllemkogaagreatdoor", sum := "ff6ec5a6a807d9979542d971ec683dcafebf8e034b2b680519316426f1fab572", checked := Tryz.checked }
namespace Rows
def none {H : Type} : Left H := { results := [], args := [] }

/- WHAT THE LISTED PACKAGE-LEVEL VARIABLES READ AS WHEN THE CALL BEGINS. Each datum BY PROGRAM (the guide's laid-datum.mjs) off the statement by which the dump's own 'gosem.cut.vars' lays the variable. In a bare row this is a premise. The card (YtfdkmmllemkogaaGreatDoorCards.lean) ties it to the program's text. -/
def laid_math_bits_deBruijn32tab {H : Type} : DataW H := .agg [.lit (.int .u8 0), .lit (.int .u8 1), .lit (.int .u8 28), .lit (.int .u8 2), .lit (.int .u8 29), .lit (.int .u8 14), .lit (.int .u8 24), .lit (.int .u8 3), .lit (.int .u8 30), .lit (.int .u8 22), .lit (.int .u8 20), .lit (.int .u8 15), .lit (.int .u8 25), .lit (.int .u8 17), .lit (.int .u8 4), .lit (.int .u8 8), .lit (.int .u8 31), .lit (.int .u8 27), .lit (.int .u8 13), .lit (.int .u8 23), .lit (.int .u8 21), .lit (.int .u8 19), .lit (.int .u8 16), .lit (.int .u8 7), .lit (.int .u8 26), .lit (.int .u8 12), .lit (.int .u8 18), .lit (.int .u8 6), .lit (.int .u8 11), .lit (.int .u8 5), .lit (.int .u8 10), .lit (.int .u8 9)]
def laid_math_bits_deBruijn64tab {H : Type} : DataW H := .agg [.lit (.int .u8 0), .lit (.int .u8 1), .lit (.int .u8 56), .lit (.int .u8 2), .lit (.int .u8 57), .lit (.int .u8 49), .lit (.int .u8 28), .lit (.int .u8 3), .lit (.int .u8 61), .lit (.int .u8 58), .lit (.int .u8 42), .lit (.int .u8 50), .lit (.int .u8 38), .lit (.int .u8 29), .lit (.int .u8 17), .lit (.int .u8 4), .lit (.int .u8 62), .lit (.int .u8 47), .lit (.int .u8 59), .lit (.int .u8 36), .lit (.int .u8 45), .lit (.int .u8 43), .lit (.int .u8 51), .lit (.int .u8 22), .lit (.int .u8 53), .lit (.int .u8 39), .lit (.int .u8 33), .lit (.int .u8 30), .lit (.int .u8 24), .lit (.int .u8 18), .lit (.int .u8 12), .lit (.int .u8 5), .lit (.int .u8 63), .lit (.int .u8 55), .lit (.int .u8 48), .lit (.int .u8 27), .lit (.int .u8 60), .lit (.int .u8 41), .lit (.int .u8 37), .lit (.int .u8 16), .lit (.int .u8 46), .lit (.int .u8 35), .lit (.int .u8 44), .lit (.int .u8 21), .lit (.int .u8 52), .lit (.int .u8 32), .lit (.int .u8 23), .lit (.int .u8 11), .lit (.int .u8 54), .lit (.int .u8 26), .lit (.int .u8 40), .lit (.int .u8 15), .lit (.int .u8 34), .lit (.int .u8 20), .lit (.int .u8 31), .lit (.int .u8 10), .lit (.int .u8 25), .lit (.int .u8 14), .lit (.int .u8 19), .lit (.int .u8 9), .lit (.int .u8 13), .lit (.int .u8 8), .lit (.int .u8 7), .lit (.int .u8 6)]
def laid_internal_strconv_uint64pow10 {H : Type} : DataW H := .agg [.lit (.int .u64 1), .lit (.int .u64 10), .lit (.int .u64 100), .lit (.int .u64 1000), .lit (.int .u64 10000), .lit (.int .u64 100000), .lit (.int .u64 1000000), .lit (.int .u64 10000000), .lit (.int .u64 100000000), .lit (.int .u64 1000000000), .lit (.int .u64 10000000000), .lit (.int .u64 100000000000), .lit (.int .u64 1000000000000), .lit (.int .u64 10000000000000), .lit (.int .u64 100000000000000), .lit (.int .u64 1000000000000000), .lit (.int .u64 10000000000000000), .lit (.int .u64 100000000000000000), .lit (.int .u64 1000000000000000000), .lit (.int .u64 10000000000000000000)]
def laid_unicode_utf8_acceptRanges {H : Type} : DataW H := .agg [.agg [.lit (.int .u8 128), .lit (.int .u8 191)], .agg [.lit (.int .u8 160), .lit (.int .u8 191)], .agg [.lit (.int .u8 128), .lit (.int .u8 159)], .agg [.lit (.int .u8 144), .lit (.int .u8 191)], .agg [.lit (.int .u8 128), .lit (.int .u8 143)], .agg [.lit (.int .u8 0), .lit (.int .u8 0)], .agg [.lit (.int .u8 0), .lit (.int .u8 0)], .agg [.lit (.int .u8 0), .lit (.int .u8 0)], .agg [.lit (.int .u8 0), .lit (.int .u8 0)], .agg [.lit (.int .u8 0), .lit (.int .u8 0)], .agg [.lit (.int .u8 0), .lit (.int .u8 0)], .agg [.lit (.int .u8 0), .lit (.int .u8 0)], .agg [.lit (.int .u8 0), .lit (.int .u8 0)], .agg [.lit (.int .u8 0), .lit (.int .u8 0)], .agg [.lit (.int .u8 0), .lit (.int .u8 0)], .agg [.lit (.int .u8 0), .lit (.int .u8 0)]]
def laid_strconv_ErrRange {H : Type} : DataW H := .iface "*errors.errorString" (.ptr (.agg [.lit (.string [118, 97, 108, 117, 101, 32, 111, 117, 116, 32, 111, 102, 32, 114, 97, 110, 103, 101])]))
def laid_strconv_ErrSyntax {H : Type} : DataW H := .iface "*errors.errorString" (.ptr (.agg [.lit (.string [105, 110, 118, 97, 108, 105, 100, 32, 115, 121, 110, 116, 97, 120])]))
/-- One of Go's own tables, pinned by name: the form's constant. -/
def laid_unicode_utf8_first : DataW Unit := Go.Pinned.utf8First

/-- 'spillagelaw01.LightNames': WHATEVER THE INPUT: true; the input reads as it did. -/
def lightNamesSpec : ChangeSpec := { name := "lightNames", fn := fun _ => fun
  | [d1, d2, d3] => { results := [.lit (.bool true)], args := [d1, d2, d3] }
  | _ => none }
def lightNamesRow : OpenClaim := { program := "ytfdkmmllemkogaagreatdoor", sum := "ff6ec5a6a807d9979542d971ec683dcafebf8e034b2b680519316426f1fab572", func := "spillage/spillagelaw01.LightNames", spec := "lightNames", inPlace := ["math.Float64bits", "math.Float64frombits", "math.archTrunc", "internal/abi.NoEscape", "internal/bytealg.MakeNoZero", "math.Float32bits"], unfollowed := true, recurses := true, named := ["internal/strconv.uint64pow10", "math/bits.deBruijn32tab", "math/bits.deBruijn64tab"], apart := false, laid := [("math/bits.deBruijn32tab", laid_math_bits_deBruijn32tab), ("math/bits.deBruijn64tab", laid_math_bits_deBruijn64tab), ("internal/strconv.uint64pow10", laid_internal_strconv_uint64pow10)] }
def LightNamesSaid : Prop := lightNamesRow.holds Tryz.pinned (OpenSpec.ofChange lightNamesSpec)

/-- ITS FALSE NEIGHBOUR: 'it returns false'. Refute it at one input. -/
def lightNamesWrong : ChangeSpec := { name := "lightNames", fn := fun _ => fun
  | [d1, d2, d3] => { results := [.lit (.bool false)], args := [d1, d2, d3] }
  | _ => none }
def LightNamesWrongFalsely : Prop := lightNamesRow.holds Tryz.pinned (OpenSpec.ofChange lightNamesWrong)

/-- 'spillagelaw01.LightMaps': WHATEVER THE INPUT: true; the input reads as it did. -/
def lightMapsSpec : ChangeSpec := { name := "lightMaps", fn := fun _ => fun
  | [d1, d2] => { results := [.lit (.bool true)], args := [d1, d2] }
  | _ => none }
def lightMapsRow : OpenClaim := { program := "ytfdkmmllemkogaagreatdoor", sum := "ff6ec5a6a807d9979542d971ec683dcafebf8e034b2b680519316426f1fab572", func := "spillage/spillagelaw01.LightMaps", spec := "lightMaps", inPlace := ["math.Float64bits", "math.Float64frombits", "math.archTrunc", "internal/abi.NoEscape", "internal/bytealg.MakeNoZero", "math.Float32bits"], unfollowed := true, recurses := true, named := ["internal/strconv.uint64pow10", "math/bits.deBruijn32tab", "math/bits.deBruijn64tab"], apart := false, laid := [("math/bits.deBruijn32tab", laid_math_bits_deBruijn32tab), ("math/bits.deBruijn64tab", laid_math_bits_deBruijn64tab), ("internal/strconv.uint64pow10", laid_internal_strconv_uint64pow10)] }
def LightMapsSaid : Prop := lightMapsRow.holds Tryz.pinned (OpenSpec.ofChange lightMapsSpec)

/-- ITS FALSE NEIGHBOUR: 'it returns false'. Refute it at one input. -/
def lightMapsWrong : ChangeSpec := { name := "lightMaps", fn := fun _ => fun
  | [d1, d2] => { results := [.lit (.bool false)], args := [d1, d2] }
  | _ => none }
def LightMapsWrongFalsely : Prop := lightMapsRow.holds Tryz.pinned (OpenSpec.ofChange lightMapsWrong)

/-- 'spillagelaw01.LightParts': WHATEVER THE INPUT: true; the input reads as it did. -/
def lightPartsSpec : ChangeSpec := { name := "lightParts", fn := fun _ => fun
  | [d1, d2, d3] => { results := [.lit (.bool true)], args := [d1, d2, d3] }
  | _ => none }
def lightPartsRow : OpenClaim := { program := "ytfdkmmllemkogaagreatdoor", sum := "ff6ec5a6a807d9979542d971ec683dcafebf8e034b2b680519316426f1fab572", func := "spillage/spillagelaw01.LightParts", spec := "lightParts", inPlace := ["math.Float64bits", "math.Float64frombits", "math.archTrunc", "internal/abi.NoEscape", "internal/bytealg.MakeNoZero", "math.Float32bits"], unfollowed := true, recurses := true, named := ["internal/strconv.uint64pow10", "math/bits.deBruijn32tab", "math/bits.deBruijn64tab"], apart := false, laid := [("math/bits.deBruijn32tab", laid_math_bits_deBruijn32tab), ("math/bits.deBruijn64tab", laid_math_bits_deBruijn64tab), ("internal/strconv.uint64pow10", laid_internal_strconv_uint64pow10)] }
def LightPartsSaid : Prop := lightPartsRow.holds Tryz.pinned (OpenSpec.ofChange lightPartsSpec)

/-- ITS FALSE NEIGHBOUR: 'it returns false'. Refute it at one input. -/
def lightPartsWrong : ChangeSpec := { name := "lightParts", fn := fun _ => fun
  | [d1, d2, d3] => { results := [.lit (.bool false)], args := [d1, d2, d3] }
  | _ => none }
def LightPartsWrongFalsely : Prop := lightPartsRow.holds Tryz.pinned (OpenSpec.ofChange lightPartsWrong)

/-- 'spillagelaw01.LightTurns': WHATEVER THE INPUT: true; the input reads as it did. -/
def lightTurnsSpec : ChangeSpec := { name := "lightTurns", fn := fun _ => fun
  | [d1, d2] => { results := [.lit (.bool true)], args := [d1, d2] }
  | _ => none }
def lightTurnsRow : OpenClaim := { program := "ytfdkmmllemkogaagreatdoor", sum := "ff6ec5a6a807d9979542d971ec683dcafebf8e034b2b680519316426f1fab572", func := "spillage/spillagelaw01.LightTurns", spec := "lightTurns", inPlace := ["math.Float64bits", "math.Float64frombits", "math.archTrunc", "internal/abi.NoEscape", "internal/bytealg.MakeNoZero", "math.Float32bits"], unfollowed := true, recurses := true, named := ["internal/strconv.uint64pow10", "math/bits.deBruijn32tab", "math/bits.deBruijn64tab"], apart := false, laid := [("math/bits.deBruijn32tab", laid_math_bits_deBruijn32tab), ("math/bits.deBruijn64tab", laid_math_bits_deBruijn64tab), ("internal/strconv.uint64pow10", laid_internal_strconv_uint64pow10)] }
def LightTurnsSaid : Prop := lightTurnsRow.holds Tryz.pinned (OpenSpec.ofChange lightTurnsSpec)

/-- ITS FALSE NEIGHBOUR: 'it returns false'. Refute it at one input. -/
def lightTurnsWrong : ChangeSpec := { name := "lightTurns", fn := fun _ => fun
  | [d1, d2] => { results := [.lit (.bool false)], args := [d1, d2] }
  | _ => none }
def LightTurnsWrongFalsely : Prop := lightTurnsRow.holds Tryz.pinned (OpenSpec.ofChange lightTurnsWrong)

/-- 'spillagelaw01.LightSpreads': WHATEVER THE INPUT: true; the input reads as it did. -/
def lightSpreadsSpec : ChangeSpec := { name := "lightSpreads", fn := fun _ => fun
  | [d1, d2] => { results := [.lit (.bool true)], args := [d1, d2] }
  | _ => none }
def lightSpreadsRow : OpenClaim := { program := "ytfdkmmllemkogaagreatdoor", sum := "ff6ec5a6a807d9979542d971ec683dcafebf8e034b2b680519316426f1fab572", func := "spillage/spillagelaw01.LightSpreads", spec := "lightSpreads", inPlace := ["math.Float64bits", "math.Float64frombits", "math.archTrunc", "internal/abi.NoEscape", "internal/bytealg.MakeNoZero", "math.Float32bits"], unfollowed := true, recurses := true, named := ["internal/strconv.uint64pow10", "math/bits.deBruijn32tab", "math/bits.deBruijn64tab"], apart := false, laid := [("math/bits.deBruijn32tab", laid_math_bits_deBruijn32tab), ("math/bits.deBruijn64tab", laid_math_bits_deBruijn64tab), ("internal/strconv.uint64pow10", laid_internal_strconv_uint64pow10)] }
def LightSpreadsSaid : Prop := lightSpreadsRow.holds Tryz.pinned (OpenSpec.ofChange lightSpreadsSpec)

/-- ITS FALSE NEIGHBOUR: 'it returns false'. Refute it at one input. -/
def lightSpreadsWrong : ChangeSpec := { name := "lightSpreads", fn := fun _ => fun
  | [d1, d2] => { results := [.lit (.bool false)], args := [d1, d2] }
  | _ => none }
def LightSpreadsWrongFalsely : Prop := lightSpreadsRow.holds Tryz.pinned (OpenSpec.ofChange lightSpreadsWrong)

/-- 'spillagelaw01.LightWaves': WHATEVER THE INPUT: true; the input reads as it did. -/
def lightWavesSpec : ChangeSpec := { name := "lightWaves", fn := fun _ => fun
  | [d1, d2] => { results := [.lit (.bool true)], args := [d1, d2] }
  | _ => none }
def lightWavesRow : OpenClaim := { program := "ytfdkmmllemkogaagreatdoor", sum := "ff6ec5a6a807d9979542d971ec683dcafebf8e034b2b680519316426f1fab572", func := "spillage/spillagelaw01.LightWaves", spec := "lightWaves", inPlace := ["math.Float64bits", "math.Float64frombits", "math.archTrunc", "internal/abi.NoEscape", "internal/bytealg.MakeNoZero", "math.Float32bits"], unfollowed := true, recurses := true, named := ["internal/strconv.uint64pow10", "math/bits.deBruijn32tab", "math/bits.deBruijn64tab"], apart := false, laid := [("math/bits.deBruijn32tab", laid_math_bits_deBruijn32tab), ("math/bits.deBruijn64tab", laid_math_bits_deBruijn64tab), ("internal/strconv.uint64pow10", laid_internal_strconv_uint64pow10)] }
def LightWavesSaid : Prop := lightWavesRow.holds Tryz.pinned (OpenSpec.ofChange lightWavesSpec)

/-- ITS FALSE NEIGHBOUR: 'it returns false'. Refute it at one input. -/
def lightWavesWrong : ChangeSpec := { name := "lightWaves", fn := fun _ => fun
  | [d1, d2] => { results := [.lit (.bool false)], args := [d1, d2] }
  | _ => none }
def LightWavesWrongFalsely : Prop := lightWavesRow.holds Tryz.pinned (OpenSpec.ofChange lightWavesWrong)

/-- 'spillagelaw01.LightTelegrams': WHATEVER THE INPUT: true; the input reads as it did. -/
def lightTelegramsSpec : ChangeSpec := { name := "lightTelegrams", fn := fun _ => fun
  | [d1, d2, d3] => { results := [.lit (.bool true)], args := [d1, d2, d3] }
  | _ => none }
def lightTelegramsRow : OpenClaim := { program := "ytfdkmmllemkogaagreatdoor", sum := "ff6ec5a6a807d9979542d971ec683dcafebf8e034b2b680519316426f1fab572", func := "spillage/spillagelaw01.LightTelegrams", spec := "lightTelegrams", inPlace := ["math.Float64bits", "math.Float64frombits", "math.archTrunc", "internal/abi.NoEscape", "internal/bytealg.MakeNoZero", "math.Float32bits"], unfollowed := true, recurses := true, named := ["internal/strconv.uint64pow10", "math/bits.deBruijn32tab", "math/bits.deBruijn64tab"], apart := false, laid := [("math/bits.deBruijn32tab", laid_math_bits_deBruijn32tab), ("math/bits.deBruijn64tab", laid_math_bits_deBruijn64tab), ("internal/strconv.uint64pow10", laid_internal_strconv_uint64pow10)] }
def LightTelegramsSaid : Prop := lightTelegramsRow.holds Tryz.pinned (OpenSpec.ofChange lightTelegramsSpec)

/-- ITS FALSE NEIGHBOUR: 'it returns false'. Refute it at one input. -/
def lightTelegramsWrong : ChangeSpec := { name := "lightTelegrams", fn := fun _ => fun
  | [d1, d2, d3] => { results := [.lit (.bool false)], args := [d1, d2, d3] }
  | _ => none }
def LightTelegramsWrongFalsely : Prop := lightTelegramsRow.holds Tryz.pinned (OpenSpec.ofChange lightTelegramsWrong)

/-- 'spillagelaw01.LightLosses': WHATEVER THE INPUT: true; the input reads as it did. -/
def lightLossesSpec : ChangeSpec := { name := "lightLosses", fn := fun _ => fun
  | [d1, d2] => { results := [.lit (.bool true)], args := [d1, d2] }
  | _ => none }
def lightLossesRow : OpenClaim := { program := "ytfdkmmllemkogaagreatdoor", sum := "ff6ec5a6a807d9979542d971ec683dcafebf8e034b2b680519316426f1fab572", func := "spillage/spillagelaw01.LightLosses", spec := "lightLosses", inPlace := ["math.Float64bits", "math.Float64frombits", "math.archTrunc", "internal/abi.NoEscape", "internal/bytealg.MakeNoZero", "math.Float32bits"], unfollowed := true, recurses := true, named := ["internal/strconv.uint64pow10", "math/bits.deBruijn32tab", "math/bits.deBruijn64tab"], apart := false, laid := [("math/bits.deBruijn32tab", laid_math_bits_deBruijn32tab), ("math/bits.deBruijn64tab", laid_math_bits_deBruijn64tab), ("internal/strconv.uint64pow10", laid_internal_strconv_uint64pow10)] }
def LightLossesSaid : Prop := lightLossesRow.holds Tryz.pinned (OpenSpec.ofChange lightLossesSpec)

/-- ITS FALSE NEIGHBOUR: 'it returns false'. Refute it at one input. -/
def lightLossesWrong : ChangeSpec := { name := "lightLosses", fn := fun _ => fun
  | [d1, d2] => { results := [.lit (.bool false)], args := [d1, d2] }
  | _ => none }
def LightLossesWrongFalsely : Prop := lightLossesRow.holds Tryz.pinned (OpenSpec.ofChange lightLossesWrong)

/-- 'spillagelaw01.LightStreams': WHATEVER THE INPUT: true; the input reads as it did. -/
def lightStreamsSpec : ChangeSpec := { name := "lightStreams", fn := fun _ => fun
  | [d1, d2] => { results := [.lit (.bool true)], args := [d1, d2] }
  | _ => none }
def lightStreamsRow : OpenClaim := { program := "ytfdkmmllemkogaagreatdoor", sum := "ff6ec5a6a807d9979542d971ec683dcafebf8e034b2b680519316426f1fab572", func := "spillage/spillagelaw01.LightStreams", spec := "lightStreams", inPlace := ["math.Float64bits", "math.Float64frombits", "math.archTrunc", "internal/abi.NoEscape", "internal/bytealg.MakeNoZero", "math.Float32bits", "math.Float32frombits"], unfollowed := true, recurses := true, named := ["internal/strconv.uint64pow10", "math/bits.deBruijn32tab", "math/bits.deBruijn64tab"], apart := false, laid := [("math/bits.deBruijn32tab", laid_math_bits_deBruijn32tab), ("math/bits.deBruijn64tab", laid_math_bits_deBruijn64tab), ("internal/strconv.uint64pow10", laid_internal_strconv_uint64pow10)] }
def LightStreamsSaid : Prop := lightStreamsRow.holds Tryz.pinned (OpenSpec.ofChange lightStreamsSpec)

/-- ITS FALSE NEIGHBOUR: 'it returns false'. Refute it at one input. -/
def lightStreamsWrong : ChangeSpec := { name := "lightStreams", fn := fun _ => fun
  | [d1, d2] => { results := [.lit (.bool false)], args := [d1, d2] }
  | _ => none }
def LightStreamsWrongFalsely : Prop := lightStreamsRow.holds Tryz.pinned (OpenSpec.ofChange lightStreamsWrong)

/-- 'spillagelaw01.LightTexts': WHATEVER THE INPUT: true; the input reads as it did. -/
def lightTextsSpec : ChangeSpec := { name := "lightTexts", fn := fun _ => fun
  | [d1, d2] => { results := [.lit (.bool true)], args := [d1, d2] }
  | _ => none }
def lightTextsRow : OpenClaim := { program := "ytfdkmmllemkogaagreatdoor", sum := "ff6ec5a6a807d9979542d971ec683dcafebf8e034b2b680519316426f1fab572", func := "spillage/spillagelaw01.LightTexts", spec := "lightTexts", inPlace := ["math.Float64bits", "math.Float64frombits", "math.archTrunc", "internal/abi.NoEscape", "internal/bytealg.MakeNoZero", "math.Float32bits", "internal/bytealg.IndexByteString", "internal/bytealg.IndexString", "internal/bytealg.CountString"], unfollowed := true, recurses := true, named := ["internal/strconv.uint64pow10", "math/bits.deBruijn32tab", "math/bits.deBruijn64tab", "internal/bytealg.MaxLen", "strconv.ErrSyntax", "strconv.ErrRange", "unicode/utf8.first", "unicode/utf8.acceptRanges"], apart := false, laid := [("math/bits.deBruijn32tab", laid_math_bits_deBruijn32tab), ("math/bits.deBruijn64tab", laid_math_bits_deBruijn64tab), ("internal/strconv.uint64pow10", laid_internal_strconv_uint64pow10), ("unicode/utf8.acceptRanges", laid_unicode_utf8_acceptRanges), ("strconv.ErrRange", laid_strconv_ErrRange), ("strconv.ErrSyntax", laid_strconv_ErrSyntax), ("unicode/utf8.first", laid_unicode_utf8_first)] }
def LightTextsSaid : Prop := lightTextsRow.holds Tryz.pinned (OpenSpec.ofChange lightTextsSpec)

/-- ITS FALSE NEIGHBOUR: 'it returns false'. Refute it at one input. -/
def lightTextsWrong : ChangeSpec := { name := "lightTexts", fn := fun _ => fun
  | [d1, d2] => { results := [.lit (.bool false)], args := [d1, d2] }
  | _ => none }
def LightTextsWrongFalsely : Prop := lightTextsRow.holds Tryz.pinned (OpenSpec.ofChange lightTextsWrong)

/-- 'spillagelaw01.LightCut': WHATEVER THE INPUT: true; the input reads as it did. -/
def lightCutSpec : ChangeSpec := { name := "lightCut", fn := fun _ => fun
  | [d1, d2] => { results := [.lit (.bool true)], args := [d1, d2] }
  | _ => none }
def lightCutRow : OpenClaim := { program := "ytfdkmmllemkogaagreatdoor", sum := "ff6ec5a6a807d9979542d971ec683dcafebf8e034b2b680519316426f1fab572", func := "spillage/spillagelaw01.LightCut", spec := "lightCut", inPlace := ["math.Float64bits", "math.Float64frombits", "math.archTrunc", "internal/abi.NoEscape", "internal/bytealg.MakeNoZero", "math.Float32bits"], unfollowed := true, recurses := true, named := ["internal/strconv.uint64pow10", "math/bits.deBruijn32tab", "math/bits.deBruijn64tab"], apart := false, laid := [("math/bits.deBruijn32tab", laid_math_bits_deBruijn32tab), ("math/bits.deBruijn64tab", laid_math_bits_deBruijn64tab), ("internal/strconv.uint64pow10", laid_internal_strconv_uint64pow10)] }
def LightCutSaid : Prop := lightCutRow.holds Tryz.pinned (OpenSpec.ofChange lightCutSpec)

/-- ITS FALSE NEIGHBOUR: 'it returns false'. Refute it at one input. -/
def lightCutWrong : ChangeSpec := { name := "lightCut", fn := fun _ => fun
  | [d1, d2] => { results := [.lit (.bool false)], args := [d1, d2] }
  | _ => none }
def LightCutWrongFalsely : Prop := lightCutRow.holds Tryz.pinned (OpenSpec.ofChange lightCutWrong)

/-- 'spillagelaw01.LightKept': WHATEVER THE INPUT: true; the input reads as it did. -/
def lightKeptSpec : ChangeSpec := { name := "lightKept", fn := fun _ => fun
  | [d1, d2] => { results := [.lit (.bool true)], args := [d1, d2] }
  | _ => none }
def lightKeptRow : OpenClaim := { program := "ytfdkmmllemkogaagreatdoor", sum := "ff6ec5a6a807d9979542d971ec683dcafebf8e034b2b680519316426f1fab572", func := "spillage/spillagelaw01.LightKept", spec := "lightKept", inPlace := ["math.Float64bits", "math.Float64frombits", "math.archTrunc", "internal/abi.NoEscape", "internal/bytealg.MakeNoZero", "math.Float32bits"], unfollowed := true, recurses := true, named := ["internal/strconv.uint64pow10", "math/bits.deBruijn32tab", "math/bits.deBruijn64tab"], apart := false, laid := [("math/bits.deBruijn32tab", laid_math_bits_deBruijn32tab), ("math/bits.deBruijn64tab", laid_math_bits_deBruijn64tab), ("internal/strconv.uint64pow10", laid_internal_strconv_uint64pow10)] }
def LightKeptSaid : Prop := lightKeptRow.holds Tryz.pinned (OpenSpec.ofChange lightKeptSpec)

/-- ITS FALSE NEIGHBOUR: 'it returns false'. Refute it at one input. -/
def lightKeptWrong : ChangeSpec := { name := "lightKept", fn := fun _ => fun
  | [d1, d2] => { results := [.lit (.bool false)], args := [d1, d2] }
  | _ => none }
def LightKeptWrongFalsely : Prop := lightKeptRow.holds Tryz.pinned (OpenSpec.ofChange lightKeptWrong)

/-- 'spillagelaw01.LightBins': WHATEVER THE INPUT: true; the input reads as it did. -/
def lightBinsSpec : ChangeSpec := { name := "lightBins", fn := fun _ => fun
  | [d1, d2] => { results := [.lit (.bool true)], args := [d1, d2] }
  | _ => none }
def lightBinsRow : OpenClaim := { program := "ytfdkmmllemkogaagreatdoor", sum := "ff6ec5a6a807d9979542d971ec683dcafebf8e034b2b680519316426f1fab572", func := "spillage/spillagelaw01.LightBins", spec := "lightBins", inPlace := ["math.Float64bits", "math.Float64frombits", "math.archTrunc", "internal/abi.NoEscape", "internal/bytealg.MakeNoZero", "math.Float32bits"], unfollowed := true, recurses := true, named := ["internal/strconv.uint64pow10", "math/bits.deBruijn32tab", "math/bits.deBruijn64tab"], apart := false, laid := [("math/bits.deBruijn32tab", laid_math_bits_deBruijn32tab), ("math/bits.deBruijn64tab", laid_math_bits_deBruijn64tab), ("internal/strconv.uint64pow10", laid_internal_strconv_uint64pow10)] }
def LightBinsSaid : Prop := lightBinsRow.holds Tryz.pinned (OpenSpec.ofChange lightBinsSpec)

/-- ITS FALSE NEIGHBOUR: 'it returns false'. Refute it at one input. -/
def lightBinsWrong : ChangeSpec := { name := "lightBins", fn := fun _ => fun
  | [d1, d2] => { results := [.lit (.bool false)], args := [d1, d2] }
  | _ => none }
def LightBinsWrongFalsely : Prop := lightBinsRow.holds Tryz.pinned (OpenSpec.ofChange lightBinsWrong)

/-- 'spillagelaw01.LightFound': WHATEVER THE INPUT: true; the input reads as it did. -/
def lightFoundSpec : ChangeSpec := { name := "lightFound", fn := fun _ => fun
  | [d1, d2, d3] => { results := [.lit (.bool true)], args := [d1, d2, d3] }
  | _ => none }
def lightFoundRow : OpenClaim := { program := "ytfdkmmllemkogaagreatdoor", sum := "ff6ec5a6a807d9979542d971ec683dcafebf8e034b2b680519316426f1fab572", func := "spillage/spillagelaw01.LightFound", spec := "lightFound", inPlace := ["math.Float64bits", "math.Float64frombits", "math.archTrunc", "internal/abi.NoEscape", "internal/bytealg.MakeNoZero", "math.Float32bits"], unfollowed := true, recurses := true, named := ["internal/strconv.uint64pow10", "math/bits.deBruijn32tab", "math/bits.deBruijn64tab"], apart := false, laid := [("math/bits.deBruijn32tab", laid_math_bits_deBruijn32tab), ("math/bits.deBruijn64tab", laid_math_bits_deBruijn64tab), ("internal/strconv.uint64pow10", laid_internal_strconv_uint64pow10)] }
def LightFoundSaid : Prop := lightFoundRow.holds Tryz.pinned (OpenSpec.ofChange lightFoundSpec)

/-- ITS FALSE NEIGHBOUR: 'it returns false'. Refute it at one input. -/
def lightFoundWrong : ChangeSpec := { name := "lightFound", fn := fun _ => fun
  | [d1, d2, d3] => { results := [.lit (.bool false)], args := [d1, d2, d3] }
  | _ => none }
def LightFoundWrongFalsely : Prop := lightFoundRow.holds Tryz.pinned (OpenSpec.ofChange lightFoundWrong)

/-- 'spillagelaw01.LightBack': WHATEVER THE INPUT: true; the input reads as it did. -/
def lightBackSpec : ChangeSpec := { name := "lightBack", fn := fun _ => fun
  | [d1, d2] => { results := [.lit (.bool true)], args := [d1, d2] }
  | _ => none }
def lightBackRow : OpenClaim := { program := "ytfdkmmllemkogaagreatdoor", sum := "ff6ec5a6a807d9979542d971ec683dcafebf8e034b2b680519316426f1fab572", func := "spillage/spillagelaw01.LightBack", spec := "lightBack", inPlace := ["math.Float64bits", "math.Float64frombits", "math.archTrunc", "internal/abi.NoEscape", "internal/bytealg.MakeNoZero", "math.Float32bits", "internal/bytealg.IndexByteString", "internal/bytealg.IndexString", "internal/bytealg.CountString", "math.Float32frombits"], unfollowed := true, recurses := true, named := ["internal/strconv.uint64pow10", "math/bits.deBruijn32tab", "math/bits.deBruijn64tab", "internal/bytealg.MaxLen", "strconv.ErrSyntax", "strconv.ErrRange", "unicode/utf8.first", "unicode/utf8.acceptRanges"], apart := false, laid := [("math/bits.deBruijn32tab", laid_math_bits_deBruijn32tab), ("math/bits.deBruijn64tab", laid_math_bits_deBruijn64tab), ("internal/strconv.uint64pow10", laid_internal_strconv_uint64pow10), ("unicode/utf8.acceptRanges", laid_unicode_utf8_acceptRanges), ("strconv.ErrRange", laid_strconv_ErrRange), ("strconv.ErrSyntax", laid_strconv_ErrSyntax), ("unicode/utf8.first", laid_unicode_utf8_first)] }
def LightBackSaid : Prop := lightBackRow.holds Tryz.pinned (OpenSpec.ofChange lightBackSpec)

/-- ITS FALSE NEIGHBOUR: 'it returns false'. Refute it at one input. -/
def lightBackWrong : ChangeSpec := { name := "lightBack", fn := fun _ => fun
  | [d1, d2] => { results := [.lit (.bool false)], args := [d1, d2] }
  | _ => none }
def LightBackWrongFalsely : Prop := lightBackRow.holds Tryz.pinned (OpenSpec.ofChange lightBackWrong)

/-- 'spillagetop.TopEmberRing': WHATEVER THE INPUT: true; the input reads as it did. -/
def topEmberRingSpec : ChangeSpec := { name := "topEmberRing", fn := fun _ => fun
  | [d1, d2] => { results := [.lit (.bool true)], args := [d1, d2] }
  | _ => none }
def topEmberRingRow : OpenClaim := { program := "ytfdkmmllemkogaagreatdoor", sum := "ff6ec5a6a807d9979542d971ec683dcafebf8e034b2b680519316426f1fab572", func := "spillage/spillagetop.TopEmberRing", spec := "topEmberRing", inPlace := ["math.Float64bits", "math.Float64frombits", "math.archTrunc", "internal/abi.NoEscape", "internal/bytealg.MakeNoZero", "internal/bytealg.IndexByteString", "internal/bytealg.IndexString", "internal/bytealg.CountString", "math.Float32bits", "math.Float32frombits"], unfollowed := true, recurses := true, named := ["internal/strconv.uint64pow10", "math/bits.deBruijn32tab", "math/bits.deBruijn64tab", "internal/bytealg.MaxLen", "strconv.ErrSyntax", "strconv.ErrRange", "unicode/utf8.first", "unicode/utf8.acceptRanges"], apart := false, laid := [("math/bits.deBruijn32tab", laid_math_bits_deBruijn32tab), ("math/bits.deBruijn64tab", laid_math_bits_deBruijn64tab), ("internal/strconv.uint64pow10", laid_internal_strconv_uint64pow10), ("unicode/utf8.acceptRanges", laid_unicode_utf8_acceptRanges), ("strconv.ErrRange", laid_strconv_ErrRange), ("strconv.ErrSyntax", laid_strconv_ErrSyntax), ("unicode/utf8.first", laid_unicode_utf8_first)] }
def TopEmberRingSaid : Prop := topEmberRingRow.holds Tryz.pinned (OpenSpec.ofChange topEmberRingSpec)

/-- ITS FALSE NEIGHBOUR: 'it returns false'. Refute it at one input. -/
def topEmberRingWrong : ChangeSpec := { name := "topEmberRing", fn := fun _ => fun
  | [d1, d2] => { results := [.lit (.bool false)], args := [d1, d2] }
  | _ => none }
def TopEmberRingWrongFalsely : Prop := topEmberRingRow.holds Tryz.pinned (OpenSpec.ofChange topEmberRingWrong)

/- THE SECOND FORM. 'bulk': how many values and letters a reading holds, each counted each time it is reached (what is shared counts as often as it is met; a slice's spare places count too). A statement '..UptoSaid' is the law's where the arguments, and the package variables that the reading takes, are together of bulk at most 1048576: NARROWER than '..Said'. Prove '..Said' where nothing that the law and all that it calls make is longer than what came in: it says more and counts as full. Else prove '..UptoSaid'. A law counts once. -/
mutual
def uptoBulk {H : Type} : DataW H → Nat
  | .lit (.string bytes) => bytes.length + 1
  | .lit _ => 1
  | .nil => 1
  | .ptr d => uptoBulk d + 1
  | .slice elems spare => uptoBulkAll elems + uptoBulkAll spare + 1
  | .agg parts => uptoBulkAll parts + 1
  | .iface _ d => uptoBulk d + 1
  | .map entries => uptoBulkEntries entries + 1
  | .held _ => 1
def uptoBulkAll {H : Type} : List (DataW H) → Nat
  | [] => 0
  | d :: r => uptoBulk d + uptoBulkAll r
def uptoBulkEntries {H : Type} : List (Lit × DataW H) → Nat
  | [] => 0
  | x :: r => uptoBulkEntry x + uptoBulkEntries r
def uptoBulkEntry {H : Type} : Lit × DataW H → Nat
  | (.string bytes, d) => bytes.length + uptoBulk d + 1
  | (_, d) => uptoBulk d + 1
 end
def uptoSmall : (H : Type) → List (DataW H) → Bool := fun _ ds => decide (uptoBulkAll ds ≤ 1048576)
def OpenSpec.upto (s : _root_.Go.ChangeSpec) : _root_.Go.OpenSpec := { _root_.Go.OpenSpec.ofChange s with cond := some uptoSmall }

/-- 'spillagelaw01.LightNames', WHERE WHAT IT READS IS OF BULK AT MOST 1048576: true; the input reads as it did. -/
def lightNamesUptoRow : OpenClaim := { program := "ytfdkmmllemkogaagreatdoor", sum := "ff6ec5a6a807d9979542d971ec683dcafebf8e034b2b680519316426f1fab572", func := "spillage/spillagelaw01.LightNames", spec := "lightNames", inPlace := ["math.Float64bits", "math.Float64frombits", "math.archTrunc", "internal/abi.NoEscape", "internal/bytealg.MakeNoZero", "math.Float32bits"], unfollowed := true, recurses := true, named := ["internal/strconv.uint64pow10", "math/bits.deBruijn32tab", "math/bits.deBruijn64tab"], apart := false, laid := [("math/bits.deBruijn32tab", laid_math_bits_deBruijn32tab), ("math/bits.deBruijn64tab", laid_math_bits_deBruijn64tab), ("internal/strconv.uint64pow10", laid_internal_strconv_uint64pow10)], narrowed := true }
def LightNamesUptoSaid : Prop := lightNamesUptoRow.holds Tryz.pinned (OpenSpec.upto lightNamesSpec)

/-- 'spillagelaw01.LightMaps', WHERE WHAT IT READS IS OF BULK AT MOST 1048576: true; the input reads as it did. -/
def lightMapsUptoRow : OpenClaim := { program := "ytfdkmmllemkogaagreatdoor", sum := "ff6ec5a6a807d9979542d971ec683dcafebf8e034b2b680519316426f1fab572", func := "spillage/spillagelaw01.LightMaps", spec := "lightMaps", inPlace := ["math.Float64bits", "math.Float64frombits", "math.archTrunc", "internal/abi.NoEscape", "internal/bytealg.MakeNoZero", "math.Float32bits"], unfollowed := true, recurses := true, named := ["internal/strconv.uint64pow10", "math/bits.deBruijn32tab", "math/bits.deBruijn64tab"], apart := false, laid := [("math/bits.deBruijn32tab", laid_math_bits_deBruijn32tab), ("math/bits.deBruijn64tab", laid_math_bits_deBruijn64tab), ("internal/strconv.uint64pow10", laid_internal_strconv_uint64pow10)], narrowed := true }
def LightMapsUptoSaid : Prop := lightMapsUptoRow.holds Tryz.pinned (OpenSpec.upto lightMapsSpec)

/-- 'spillagelaw01.LightParts', WHERE WHAT IT READS IS OF BULK AT MOST 1048576: true; the input reads as it did. -/
def lightPartsUptoRow : OpenClaim := { program := "ytfdkmmllemkogaagreatdoor", sum := "ff6ec5a6a807d9979542d971ec683dcafebf8e034b2b680519316426f1fab572", func := "spillage/spillagelaw01.LightParts", spec := "lightParts", inPlace := ["math.Float64bits", "math.Float64frombits", "math.archTrunc", "internal/abi.NoEscape", "internal/bytealg.MakeNoZero", "math.Float32bits"], unfollowed := true, recurses := true, named := ["internal/strconv.uint64pow10", "math/bits.deBruijn32tab", "math/bits.deBruijn64tab"], apart := false, laid := [("math/bits.deBruijn32tab", laid_math_bits_deBruijn32tab), ("math/bits.deBruijn64tab", laid_math_bits_deBruijn64tab), ("internal/strconv.uint64pow10", laid_internal_strconv_uint64pow10)], narrowed := true }
def LightPartsUptoSaid : Prop := lightPartsUptoRow.holds Tryz.pinned (OpenSpec.upto lightPartsSpec)

/-- 'spillagelaw01.LightTurns', WHERE WHAT IT READS IS OF BULK AT MOST 1048576: true; the input reads as it did. -/
def lightTurnsUptoRow : OpenClaim := { program := "ytfdkmmllemkogaagreatdoor", sum := "ff6ec5a6a807d9979542d971ec683dcafebf8e034b2b680519316426f1fab572", func := "spillage/spillagelaw01.LightTurns", spec := "lightTurns", inPlace := ["math.Float64bits", "math.Float64frombits", "math.archTrunc", "internal/abi.NoEscape", "internal/bytealg.MakeNoZero", "math.Float32bits"], unfollowed := true, recurses := true, named := ["internal/strconv.uint64pow10", "math/bits.deBruijn32tab", "math/bits.deBruijn64tab"], apart := false, laid := [("math/bits.deBruijn32tab", laid_math_bits_deBruijn32tab), ("math/bits.deBruijn64tab", laid_math_bits_deBruijn64tab), ("internal/strconv.uint64pow10", laid_internal_strconv_uint64pow10)], narrowed := true }
def LightTurnsUptoSaid : Prop := lightTurnsUptoRow.holds Tryz.pinned (OpenSpec.upto lightTurnsSpec)

/-- 'spillagelaw01.LightSpreads', WHERE WHAT IT READS IS OF BULK AT MOST 1048576: true; the input reads as it did. -/
def lightSpreadsUptoRow : OpenClaim := { program := "ytfdkmmllemkogaagreatdoor", sum := "ff6ec5a6a807d9979542d971ec683dcafebf8e034b2b680519316426f1fab572", func := "spillage/spillagelaw01.LightSpreads", spec := "lightSpreads", inPlace := ["math.Float64bits", "math.Float64frombits", "math.archTrunc", "internal/abi.NoEscape", "internal/bytealg.MakeNoZero", "math.Float32bits"], unfollowed := true, recurses := true, named := ["internal/strconv.uint64pow10", "math/bits.deBruijn32tab", "math/bits.deBruijn64tab"], apart := false, laid := [("math/bits.deBruijn32tab", laid_math_bits_deBruijn32tab), ("math/bits.deBruijn64tab", laid_math_bits_deBruijn64tab), ("internal/strconv.uint64pow10", laid_internal_strconv_uint64pow10)], narrowed := true }
def LightSpreadsUptoSaid : Prop := lightSpreadsUptoRow.holds Tryz.pinned (OpenSpec.upto lightSpreadsSpec)

/-- 'spillagelaw01.LightWaves', WHERE WHAT IT READS IS OF BULK AT MOST 1048576: true; the input reads as it did. -/
def lightWavesUptoRow : OpenClaim := { program := "ytfdkmmllemkogaagreatdoor", sum := "ff6ec5a6a807d9979542d971ec683dcafebf8e034b2b680519316426f1fab572", func := "spillage/spillagelaw01.LightWaves", spec := "lightWaves", inPlace := ["math.Float64bits", "math.Float64frombits", "math.archTrunc", "internal/abi.NoEscape", "internal/bytealg.MakeNoZero", "math.Float32bits"], unfollowed := true, recurses := true, named := ["internal/strconv.uint64pow10", "math/bits.deBruijn32tab", "math/bits.deBruijn64tab"], apart := false, laid := [("math/bits.deBruijn32tab", laid_math_bits_deBruijn32tab), ("math/bits.deBruijn64tab", laid_math_bits_deBruijn64tab), ("internal/strconv.uint64pow10", laid_internal_strconv_uint64pow10)], narrowed := true }
def LightWavesUptoSaid : Prop := lightWavesUptoRow.holds Tryz.pinned (OpenSpec.upto lightWavesSpec)

/-- 'spillagelaw01.LightTelegrams', WHERE WHAT IT READS IS OF BULK AT MOST 1048576: true; the input reads as it did. -/
def lightTelegramsUptoRow : OpenClaim := { program := "ytfdkmmllemkogaagreatdoor", sum := "ff6ec5a6a807d9979542d971ec683dcafebf8e034b2b680519316426f1fab572", func := "spillage/spillagelaw01.LightTelegrams", spec := "lightTelegrams", inPlace := ["math.Float64bits", "math.Float64frombits", "math.archTrunc", "internal/abi.NoEscape", "internal/bytealg.MakeNoZero", "math.Float32bits"], unfollowed := true, recurses := true, named := ["internal/strconv.uint64pow10", "math/bits.deBruijn32tab", "math/bits.deBruijn64tab"], apart := false, laid := [("math/bits.deBruijn32tab", laid_math_bits_deBruijn32tab), ("math/bits.deBruijn64tab", laid_math_bits_deBruijn64tab), ("internal/strconv.uint64pow10", laid_internal_strconv_uint64pow10)], narrowed := true }
def LightTelegramsUptoSaid : Prop := lightTelegramsUptoRow.holds Tryz.pinned (OpenSpec.upto lightTelegramsSpec)

/-- 'spillagelaw01.LightLosses', WHERE WHAT IT READS IS OF BULK AT MOST 1048576: true; the input reads as it did. -/
def lightLossesUptoRow : OpenClaim := { program := "ytfdkmmllemkogaagreatdoor", sum := "ff6ec5a6a807d9979542d971ec683dcafebf8e034b2b680519316426f1fab572", func := "spillage/spillagelaw01.LightLosses", spec := "lightLosses", inPlace := ["math.Float64bits", "math.Float64frombits", "math.archTrunc", "internal/abi.NoEscape", "internal/bytealg.MakeNoZero", "math.Float32bits"], unfollowed := true, recurses := true, named := ["internal/strconv.uint64pow10", "math/bits.deBruijn32tab", "math/bits.deBruijn64tab"], apart := false, laid := [("math/bits.deBruijn32tab", laid_math_bits_deBruijn32tab), ("math/bits.deBruijn64tab", laid_math_bits_deBruijn64tab), ("internal/strconv.uint64pow10", laid_internal_strconv_uint64pow10)], narrowed := true }
def LightLossesUptoSaid : Prop := lightLossesUptoRow.holds Tryz.pinned (OpenSpec.upto lightLossesSpec)

/-- 'spillagelaw01.LightStreams', WHERE WHAT IT READS IS OF BULK AT MOST 1048576: true; the input reads as it did. -/
def lightStreamsUptoRow : OpenClaim := { program := "ytfdkmmllemkogaagreatdoor", sum := "ff6ec5a6a807d9979542d971ec683dcafebf8e034b2b680519316426f1fab572", func := "spillage/spillagelaw01.LightStreams", spec := "lightStreams", inPlace := ["math.Float64bits", "math.Float64frombits", "math.archTrunc", "internal/abi.NoEscape", "internal/bytealg.MakeNoZero", "math.Float32bits", "math.Float32frombits"], unfollowed := true, recurses := true, named := ["internal/strconv.uint64pow10", "math/bits.deBruijn32tab", "math/bits.deBruijn64tab"], apart := false, laid := [("math/bits.deBruijn32tab", laid_math_bits_deBruijn32tab), ("math/bits.deBruijn64tab", laid_math_bits_deBruijn64tab), ("internal/strconv.uint64pow10", laid_internal_strconv_uint64pow10)], narrowed := true }
def LightStreamsUptoSaid : Prop := lightStreamsUptoRow.holds Tryz.pinned (OpenSpec.upto lightStreamsSpec)

/-- 'spillagelaw01.LightTexts', WHERE WHAT IT READS IS OF BULK AT MOST 1048576: true; the input reads as it did. -/
def lightTextsUptoRow : OpenClaim := { program := "ytfdkmmllemkogaagreatdoor", sum := "ff6ec5a6a807d9979542d971ec683dcafebf8e034b2b680519316426f1fab572", func := "spillage/spillagelaw01.LightTexts", spec := "lightTexts", inPlace := ["math.Float64bits", "math.Float64frombits", "math.archTrunc", "internal/abi.NoEscape", "internal/bytealg.MakeNoZero", "math.Float32bits", "internal/bytealg.IndexByteString", "internal/bytealg.IndexString", "internal/bytealg.CountString"], unfollowed := true, recurses := true, named := ["internal/strconv.uint64pow10", "math/bits.deBruijn32tab", "math/bits.deBruijn64tab", "internal/bytealg.MaxLen", "strconv.ErrSyntax", "strconv.ErrRange", "unicode/utf8.first", "unicode/utf8.acceptRanges"], apart := false, laid := [("math/bits.deBruijn32tab", laid_math_bits_deBruijn32tab), ("math/bits.deBruijn64tab", laid_math_bits_deBruijn64tab), ("internal/strconv.uint64pow10", laid_internal_strconv_uint64pow10), ("unicode/utf8.acceptRanges", laid_unicode_utf8_acceptRanges), ("strconv.ErrRange", laid_strconv_ErrRange), ("strconv.ErrSyntax", laid_strconv_ErrSyntax), ("unicode/utf8.first", laid_unicode_utf8_first)], narrowed := true }
def LightTextsUptoSaid : Prop := lightTextsUptoRow.holds Tryz.pinned (OpenSpec.upto lightTextsSpec)

/-- 'spillagelaw01.LightCut', WHERE WHAT IT READS IS OF BULK AT MOST 1048576: true; the input reads as it did. -/
def lightCutUptoRow : OpenClaim := { program := "ytfdkmmllemkogaagreatdoor", sum := "ff6ec5a6a807d9979542d971ec683dcafebf8e034b2b680519316426f1fab572", func := "spillage/spillagelaw01.LightCut", spec := "lightCut", inPlace := ["math.Float64bits", "math.Float64frombits", "math.archTrunc", "internal/abi.NoEscape", "internal/bytealg.MakeNoZero", "math.Float32bits"], unfollowed := true, recurses := true, named := ["internal/strconv.uint64pow10", "math/bits.deBruijn32tab", "math/bits.deBruijn64tab"], apart := false, laid := [("math/bits.deBruijn32tab", laid_math_bits_deBruijn32tab), ("math/bits.deBruijn64tab", laid_math_bits_deBruijn64tab), ("internal/strconv.uint64pow10", laid_internal_strconv_uint64pow10)], narrowed := true }
def LightCutUptoSaid : Prop := lightCutUptoRow.holds Tryz.pinned (OpenSpec.upto lightCutSpec)

/-- 'spillagelaw01.LightKept', WHERE WHAT IT READS IS OF BULK AT MOST 1048576: true; the input reads as it did. -/
def lightKeptUptoRow : OpenClaim := { program := "ytfdkmmllemkogaagreatdoor", sum := "ff6ec5a6a807d9979542d971ec683dcafebf8e034b2b680519316426f1fab572", func := "spillage/spillagelaw01.LightKept", spec := "lightKept", inPlace := ["math.Float64bits", "math.Float64frombits", "math.archTrunc", "internal/abi.NoEscape", "internal/bytealg.MakeNoZero", "math.Float32bits"], unfollowed := true, recurses := true, named := ["internal/strconv.uint64pow10", "math/bits.deBruijn32tab", "math/bits.deBruijn64tab"], apart := false, laid := [("math/bits.deBruijn32tab", laid_math_bits_deBruijn32tab), ("math/bits.deBruijn64tab", laid_math_bits_deBruijn64tab), ("internal/strconv.uint64pow10", laid_internal_strconv_uint64pow10)], narrowed := true }
def LightKeptUptoSaid : Prop := lightKeptUptoRow.holds Tryz.pinned (OpenSpec.upto lightKeptSpec)

/-- 'spillagelaw01.LightBins', WHERE WHAT IT READS IS OF BULK AT MOST 1048576: true; the input reads as it did. -/
def lightBinsUptoRow : OpenClaim := { program := "ytfdkmmllemkogaagreatdoor", sum := "ff6ec5a6a807d9979542d971ec683dcafebf8e034b2b680519316426f1fab572", func := "spillage/spillagelaw01.LightBins", spec := "lightBins", inPlace := ["math.Float64bits", "math.Float64frombits", "math.archTrunc", "internal/abi.NoEscape", "internal/bytealg.MakeNoZero", "math.Float32bits"], unfollowed := true, recurses := true, named := ["internal/strconv.uint64pow10", "math/bits.deBruijn32tab", "math/bits.deBruijn64tab"], apart := false, laid := [("math/bits.deBruijn32tab", laid_math_bits_deBruijn32tab), ("math/bits.deBruijn64tab", laid_math_bits_deBruijn64tab), ("internal/strconv.uint64pow10", laid_internal_strconv_uint64pow10)], narrowed := true }
def LightBinsUptoSaid : Prop := lightBinsUptoRow.holds Tryz.pinned (OpenSpec.upto lightBinsSpec)

/-- 'spillagelaw01.LightFound', WHERE WHAT IT READS IS OF BULK AT MOST 1048576: true; the input reads as it did. -/
def lightFoundUptoRow : OpenClaim := { program := "ytfdkmmllemkogaagreatdoor", sum := "ff6ec5a6a807d9979542d971ec683dcafebf8e034b2b680519316426f1fab572", func := "spillage/spillagelaw01.LightFound", spec := "lightFound", inPlace := ["math.Float64bits", "math.Float64frombits", "math.archTrunc", "internal/abi.NoEscape", "internal/bytealg.MakeNoZero", "math.Float32bits"], unfollowed := true, recurses := true, named := ["internal/strconv.uint64pow10", "math/bits.deBruijn32tab", "math/bits.deBruijn64tab"], apart := false, laid := [("math/bits.deBruijn32tab", laid_math_bits_deBruijn32tab), ("math/bits.deBruijn64tab", laid_math_bits_deBruijn64tab), ("internal/strconv.uint64pow10", laid_internal_strconv_uint64pow10)], narrowed := true }
def LightFoundUptoSaid : Prop := lightFoundUptoRow.holds Tryz.pinned (OpenSpec.upto lightFoundSpec)

/-- 'spillagelaw01.LightBack', WHERE WHAT IT READS IS OF BULK AT MOST 1048576: true; the input reads as it did. -/
def lightBackUptoRow : OpenClaim := { program := "ytfdkmmllemkogaagreatdoor", sum := "ff6ec5a6a807d9979542d971ec683dcafebf8e034b2b680519316426f1fab572", func := "spillage/spillagelaw01.LightBack", spec := "lightBack", inPlace := ["math.Float64bits", "math.Float64frombits", "math.archTrunc", "internal/abi.NoEscape", "internal/bytealg.MakeNoZero", "math.Float32bits", "internal/bytealg.IndexByteString", "internal/bytealg.IndexString", "internal/bytealg.CountString", "math.Float32frombits"], unfollowed := true, recurses := true, named := ["internal/strconv.uint64pow10", "math/bits.deBruijn32tab", "math/bits.deBruijn64tab", "internal/bytealg.MaxLen", "strconv.ErrSyntax", "strconv.ErrRange", "unicode/utf8.first", "unicode/utf8.acceptRanges"], apart := false, laid := [("math/bits.deBruijn32tab", laid_math_bits_deBruijn32tab), ("math/bits.deBruijn64tab", laid_math_bits_deBruijn64tab), ("internal/strconv.uint64pow10", laid_internal_strconv_uint64pow10), ("unicode/utf8.acceptRanges", laid_unicode_utf8_acceptRanges), ("strconv.ErrRange", laid_strconv_ErrRange), ("strconv.ErrSyntax", laid_strconv_ErrSyntax), ("unicode/utf8.first", laid_unicode_utf8_first)], narrowed := true }
def LightBackUptoSaid : Prop := lightBackUptoRow.holds Tryz.pinned (OpenSpec.upto lightBackSpec)

/-- 'spillagetop.TopEmberRing', WHERE WHAT IT READS IS OF BULK AT MOST 1048576: true; the input reads as it did. -/
def topEmberRingUptoRow : OpenClaim := { program := "ytfdkmmllemkogaagreatdoor", sum := "ff6ec5a6a807d9979542d971ec683dcafebf8e034b2b680519316426f1fab572", func := "spillage/spillagetop.TopEmberRing", spec := "topEmberRing", inPlace := ["math.Float64bits", "math.Float64frombits", "math.archTrunc", "internal/abi.NoEscape", "internal/bytealg.MakeNoZero", "internal/bytealg.IndexByteString", "internal/bytealg.IndexString", "internal/bytealg.CountString", "math.Float32bits", "math.Float32frombits"], unfollowed := true, recurses := true, named := ["internal/strconv.uint64pow10", "math/bits.deBruijn32tab", "math/bits.deBruijn64tab", "internal/bytealg.MaxLen", "strconv.ErrSyntax", "strconv.ErrRange", "unicode/utf8.first", "unicode/utf8.acceptRanges"], apart := false, laid := [("math/bits.deBruijn32tab", laid_math_bits_deBruijn32tab), ("math/bits.deBruijn64tab", laid_math_bits_deBruijn64tab), ("internal/strconv.uint64pow10", laid_internal_strconv_uint64pow10), ("unicode/utf8.acceptRanges", laid_unicode_utf8_acceptRanges), ("strconv.ErrRange", laid_strconv_ErrRange), ("strconv.ErrSyntax", laid_strconv_ErrSyntax), ("unicode/utf8.first", laid_unicode_utf8_first)], narrowed := true }
def TopEmberRingUptoSaid : Prop := topEmberRingUptoRow.holds Tryz.pinned (OpenSpec.upto topEmberRingSpec)

end Rows
end Go.Proofs.YtfdkmmllemkogaaGreatDoor

/-
  NARROWER THAN 'FOR EVERY INPUT', by the rows' own cells (each row's printed sentence says how): FnRatios: ifaces, laid · FnExactCodeName: laid · FnExactDecimal: laid · FnExactReadDecimal: laid · FnExactMakeRatio: ifaces, laid · FnExactAddRatio: ifaces, laid · FnExactSubRatio: ifaces, laid · FnExactMulRatio: ifaces, laid · FnExactDivRatio: ifaces, laid · FnExactRatioText: laid · FnExactReadRatio: laid.
  DERIVED. THE GIVEN ROWS OF THIS SEAT. 11 by the template 'for every input the law returns true; each argument reads behind the call as it read before'; 0 by the template 'total and deterministic' (their statements: YtdjkmefkfknobaaDoorTotals.lean).
  GIVEN WITH THE SEED: the statements are not yours to turn. If you find one false, say at which input.
  Laid BY PROGRAM, IN A SANDBOX (cutbox-rows.mjs): the forced cells as the released guide's own fill.sh prints them over the translation 33728b821a05d5d9… (all of the seat's roots in one cut). By AI agents, Wed Nov 11 2026. No macro, syntax, notation, axiom, sorry.
-/
import Derived.Test.YtdjkmefkfknobaaDoorChecked
import GoSem.Claim
import GoSem.ClaimJoined
import GoSem.ClaimMapViews
import Derived.JoinedTies
import Derived.KernelRfl
namespace Go.Proofs.YtdjkmefkfknobaaDoor
/- THE CELL 'sum', in the pinned program and in every row, IS THE sha256 OF THE DUMP (.gsa) THAT YtdjkmefkfknobaaDoorProg.lean LOADS. Nothing in Lean hashes anything: it is a label: what it is worth is what the hold of that sum in a sandbox is worth. -/
noncomputable def Tryd.pinned : Pinned := { name := "ytdjkmefkfknobaadoor", sum := "33728b821a05d5d99f7a9395dbb907706f2e07f7b8afa13ded4cbcfebe8171b5", checked := Tryd.checked }
namespace Rows
def none {H : Type} : Left H := { results := [], args := [] }

/- WHAT THE LISTED PACKAGE-LEVEL VARIABLES READ AS WHEN THE CALL BEGINS. Each datum BY PROGRAM (the guide's laid-datum.mjs) off the statement by which the dump's own 'gosem.cut.vars' lays the variable. In a bare row this is a premise. The card (YtdjkmefkfknobaaDoorCards.lean) ties it to the program's text. -/
def laid_math_bits_deBruijn32tab {H : Type} : DataW H := .agg [.lit (.int .u8 0), .lit (.int .u8 1), .lit (.int .u8 28), .lit (.int .u8 2), .lit (.int .u8 29), .lit (.int .u8 14), .lit (.int .u8 24), .lit (.int .u8 3), .lit (.int .u8 30), .lit (.int .u8 22), .lit (.int .u8 20), .lit (.int .u8 15), .lit (.int .u8 25), .lit (.int .u8 17), .lit (.int .u8 4), .lit (.int .u8 8), .lit (.int .u8 31), .lit (.int .u8 27), .lit (.int .u8 13), .lit (.int .u8 23), .lit (.int .u8 21), .lit (.int .u8 19), .lit (.int .u8 16), .lit (.int .u8 7), .lit (.int .u8 26), .lit (.int .u8 12), .lit (.int .u8 18), .lit (.int .u8 6), .lit (.int .u8 11), .lit (.int .u8 5), .lit (.int .u8 10), .lit (.int .u8 9)]
def laid_math_bits_deBruijn64tab {H : Type} : DataW H := .agg [.lit (.int .u8 0), .lit (.int .u8 1), .lit (.int .u8 56), .lit (.int .u8 2), .lit (.int .u8 57), .lit (.int .u8 49), .lit (.int .u8 28), .lit (.int .u8 3), .lit (.int .u8 61), .lit (.int .u8 58), .lit (.int .u8 42), .lit (.int .u8 50), .lit (.int .u8 38), .lit (.int .u8 29), .lit (.int .u8 17), .lit (.int .u8 4), .lit (.int .u8 62), .lit (.int .u8 47), .lit (.int .u8 59), .lit (.int .u8 36), .lit (.int .u8 45), .lit (.int .u8 43), .lit (.int .u8 51), .lit (.int .u8 22), .lit (.int .u8 53), .lit (.int .u8 39), .lit (.int .u8 33), .lit (.int .u8 30), .lit (.int .u8 24), .lit (.int .u8 18), .lit (.int .u8 12), .lit (.int .u8 5), .lit (.int .u8 63), .lit (.int .u8 55), .lit (.int .u8 48), .lit (.int .u8 27), .lit (.int .u8 60), .lit (.int .u8 41), .lit (.int .u8 37), .lit (.int .u8 16), .lit (.int .u8 46), .lit (.int .u8 35), .lit (.int .u8 44), .lit (.int .u8 21), .lit (.int .u8 52), .lit (.int .u8 32), .lit (.int .u8 23), .lit (.int .u8 11), .lit (.int .u8 54), .lit (.int .u8 26), .lit (.int .u8 40), .lit (.int .u8 15), .lit (.int .u8 34), .lit (.int .u8 20), .lit (.int .u8 31), .lit (.int .u8 10), .lit (.int .u8 25), .lit (.int .u8 14), .lit (.int .u8 19), .lit (.int .u8 9), .lit (.int .u8 13), .lit (.int .u8 8), .lit (.int .u8 7), .lit (.int .u8 6)]
def laid_internal_strconv_uint64pow10 {H : Type} : DataW H := .agg [.lit (.int .u64 1), .lit (.int .u64 10), .lit (.int .u64 100), .lit (.int .u64 1000), .lit (.int .u64 10000), .lit (.int .u64 100000), .lit (.int .u64 1000000), .lit (.int .u64 10000000), .lit (.int .u64 100000000), .lit (.int .u64 1000000000), .lit (.int .u64 10000000000), .lit (.int .u64 100000000000), .lit (.int .u64 1000000000000), .lit (.int .u64 10000000000000), .lit (.int .u64 100000000000000), .lit (.int .u64 1000000000000000), .lit (.int .u64 10000000000000000), .lit (.int .u64 100000000000000000), .lit (.int .u64 1000000000000000000), .lit (.int .u64 10000000000000000000)]
def laid_strconv_ErrRange {H : Type} : DataW H := .iface "*errors.errorString" (.ptr (.agg [.lit (.string [118, 97, 108, 117, 101, 32, 111, 117, 116, 32, 111, 102, 32, 114, 97, 110, 103, 101])]))
def laid_strconv_ErrSyntax {H : Type} : DataW H := .iface "*errors.errorString" (.ptr (.agg [.lit (.string [105, 110, 118, 97, 108, 105, 100, 32, 115, 121, 110, 116, 97, 120])]))
def laid_loop_example_g00921_impl_errNoDivisor {H : Type} : DataW H := .iface "*errors.errorString" (.ptr (.agg [.lit (.string [100, 105, 118, 105, 115, 105, 111, 110, 32, 98, 121, 32, 122, 101, 114, 111])]))
def laid_loop_example_g00921_impl_errTermRange {H : Type} : DataW H := .iface "*errors.errorString" (.ptr (.agg [.lit (.string [116, 101, 114, 109, 32, 111, 117, 116, 32, 111, 102, 32, 114, 97, 110, 103, 101])]))
def laid_loop_example_g00921_impl_codeNames {H : Type} : DataW H := .agg [.lit (.string [111, 107]), .lit (.string [105, 110, 118, 97, 108, 105, 100]), .lit (.string [114, 97, 110, 103, 101]), .lit (.string [110, 111, 116, 45, 102, 111, 117, 110, 100]), .lit (.string [101, 120, 105, 115, 116, 115]), .lit (.string [102, 117, 108, 108]), .lit (.string [115, 116, 97, 116, 101]), .lit (.string [115, 121, 110, 116, 97, 120]), .lit (.string [102, 111, 114, 109, 97, 116]), .lit (.string [108, 111, 111, 112]), .lit (.string [98, 114, 111, 107, 101, 110])]

/-- 'laws.FnRatios': WHATEVER THE INPUT: true; the input reads as it did. -/
def fnRatiosSpec : ChangeSpec := { name := "fnRatios", vars := ["loop.example/g00921/impl.errNoDivisor", "loop.example/g00921/impl.errTermRange"], fn := fun _ => fun
  | [d, g1, g2] => { results := [.lit (.bool true)], args := [d], vars := [g1, g2] }
  | _ => none }
def fnRatiosRow : OpenClaim := { program := "ytdjkmefkfknobaadoor", sum := "33728b821a05d5d99f7a9395dbb907706f2e07f7b8afa13ded4cbcfebe8171b5", func := "loop.example/g00921/laws.FnRatios", spec := "fnRatios", inPlace := ["internal/reflectlite.TypeOf", "internal/bytealg.IndexByteString", "internal/bytealg.IndexString"], unfollowed := true, recurses := true, named := ["loop.example/g00921/impl.errNoDivisor", "loop.example/g00921/impl.errTermRange", "internal/strconv.uint64pow10", "math/bits.deBruijn32tab", "math/bits.deBruijn64tab", "internal/bytealg.MaxLen", "strconv.ErrSyntax", "strconv.ErrRange"], ifaces := true, apart := false, laid := [("math/bits.deBruijn32tab", laid_math_bits_deBruijn32tab), ("math/bits.deBruijn64tab", laid_math_bits_deBruijn64tab), ("internal/strconv.uint64pow10", laid_internal_strconv_uint64pow10), ("strconv.ErrRange", laid_strconv_ErrRange), ("strconv.ErrSyntax", laid_strconv_ErrSyntax), ("loop.example/g00921/impl.errNoDivisor", laid_loop_example_g00921_impl_errNoDivisor), ("loop.example/g00921/impl.errTermRange", laid_loop_example_g00921_impl_errTermRange)] }
def FnRatiosSaid : Prop := fnRatiosRow.holds Tryd.pinned (OpenSpec.ofChange fnRatiosSpec)

/-- ITS FALSE NEIGHBOUR: 'it returns false'. Refute it at one input. -/
def fnRatiosWrong : ChangeSpec := { name := "fnRatios", vars := ["loop.example/g00921/impl.errNoDivisor", "loop.example/g00921/impl.errTermRange"], fn := fun _ => fun
  | [d, g1, g2] => { results := [.lit (.bool false)], args := [d], vars := [g1, g2] }
  | _ => none }
def FnRatiosWrongFalsely : Prop := fnRatiosRow.holds Tryd.pinned (OpenSpec.ofChange fnRatiosWrong)

/-- 'laws.FnExactCodeName': WHATEVER THE INPUT: true; the input reads as it did. -/
def fnExactCodeNameSpec : ChangeSpec := { name := "fnExactCodeName", vars := ["loop.example/g00921/impl.codeNames"], fn := fun _ => fun
  | [d, g1] => { results := [.lit (.bool true)], args := [d], vars := [g1] }
  | _ => none }
def fnExactCodeNameRow : OpenClaim := { program := "ytdjkmefkfknobaadoor", sum := "33728b821a05d5d99f7a9395dbb907706f2e07f7b8afa13ded4cbcfebe8171b5", func := "loop.example/g00921/laws.FnExactCodeName", spec := "fnExactCodeName", named := ["loop.example/g00921/impl.codeNames"], apart := false, laid := [("loop.example/g00921/impl.codeNames", laid_loop_example_g00921_impl_codeNames)] }
def FnExactCodeNameSaid : Prop := fnExactCodeNameRow.holds Tryd.pinned (OpenSpec.ofChange fnExactCodeNameSpec)

/-- ITS FALSE NEIGHBOUR: 'it returns false'. Refute it at one input. -/
def fnExactCodeNameWrong : ChangeSpec := { name := "fnExactCodeName", vars := ["loop.example/g00921/impl.codeNames"], fn := fun _ => fun
  | [d, g1] => { results := [.lit (.bool false)], args := [d], vars := [g1] }
  | _ => none }
def FnExactCodeNameWrongFalsely : Prop := fnExactCodeNameRow.holds Tryd.pinned (OpenSpec.ofChange fnExactCodeNameWrong)

/-- 'laws.FnExactDecimal': WHATEVER THE INPUT: true; the input reads as it did. -/
def fnExactDecimalSpec : ChangeSpec := { name := "fnExactDecimal", fn := fun _ => fun
  | [d] => { results := [.lit (.bool true)], args := [d] }
  | _ => none }
def fnExactDecimalRow : OpenClaim := { program := "ytdjkmefkfknobaadoor", sum := "33728b821a05d5d99f7a9395dbb907706f2e07f7b8afa13ded4cbcfebe8171b5", func := "loop.example/g00921/laws.FnExactDecimal", spec := "fnExactDecimal", named := ["internal/strconv.uint64pow10", "math/bits.deBruijn32tab", "math/bits.deBruijn64tab"], apart := false, laid := [("math/bits.deBruijn32tab", laid_math_bits_deBruijn32tab), ("math/bits.deBruijn64tab", laid_math_bits_deBruijn64tab), ("internal/strconv.uint64pow10", laid_internal_strconv_uint64pow10)] }
def FnExactDecimalSaid : Prop := fnExactDecimalRow.holds Tryd.pinned (OpenSpec.ofChange fnExactDecimalSpec)

/-- ITS FALSE NEIGHBOUR: 'it returns false'. Refute it at one input. -/
def fnExactDecimalWrong : ChangeSpec := { name := "fnExactDecimal", fn := fun _ => fun
  | [d] => { results := [.lit (.bool false)], args := [d] }
  | _ => none }
def FnExactDecimalWrongFalsely : Prop := fnExactDecimalRow.holds Tryd.pinned (OpenSpec.ofChange fnExactDecimalWrong)

/-- 'laws.FnExactReadDecimal': WHATEVER THE INPUT: true; the input reads as it did. -/
def fnExactReadDecimalSpec : ChangeSpec := { name := "fnExactReadDecimal", fn := fun _ => fun
  | [d] => { results := [.lit (.bool true)], args := [d] }
  | _ => none }
def fnExactReadDecimalRow : OpenClaim := { program := "ytdjkmefkfknobaadoor", sum := "33728b821a05d5d99f7a9395dbb907706f2e07f7b8afa13ded4cbcfebe8171b5", func := "loop.example/g00921/laws.FnExactReadDecimal", spec := "fnExactReadDecimal", named := ["strconv.ErrSyntax", "strconv.ErrRange", "internal/strconv.uint64pow10", "math/bits.deBruijn32tab", "math/bits.deBruijn64tab"], apart := false, laid := [("math/bits.deBruijn32tab", laid_math_bits_deBruijn32tab), ("math/bits.deBruijn64tab", laid_math_bits_deBruijn64tab), ("internal/strconv.uint64pow10", laid_internal_strconv_uint64pow10), ("strconv.ErrRange", laid_strconv_ErrRange), ("strconv.ErrSyntax", laid_strconv_ErrSyntax)] }
def FnExactReadDecimalSaid : Prop := fnExactReadDecimalRow.holds Tryd.pinned (OpenSpec.ofChange fnExactReadDecimalSpec)

/-- ITS FALSE NEIGHBOUR: 'it returns false'. Refute it at one input. -/
def fnExactReadDecimalWrong : ChangeSpec := { name := "fnExactReadDecimal", fn := fun _ => fun
  | [d] => { results := [.lit (.bool false)], args := [d] }
  | _ => none }
def FnExactReadDecimalWrongFalsely : Prop := fnExactReadDecimalRow.holds Tryd.pinned (OpenSpec.ofChange fnExactReadDecimalWrong)

/-- 'laws.FnExactMakeRatio': WHATEVER THE INPUT: true; the input reads as it did. -/
def fnExactMakeRatioSpec : ChangeSpec := { name := "fnExactMakeRatio", vars := ["loop.example/g00921/impl.errNoDivisor", "loop.example/g00921/impl.errTermRange"], fn := fun _ => fun
  | [d1, d2, g1, g2] => { results := [.lit (.bool true)], args := [d1, d2], vars := [g1, g2] }
  | _ => none }
def fnExactMakeRatioRow : OpenClaim := { program := "ytdjkmefkfknobaadoor", sum := "33728b821a05d5d99f7a9395dbb907706f2e07f7b8afa13ded4cbcfebe8171b5", func := "loop.example/g00921/laws.FnExactMakeRatio", spec := "fnExactMakeRatio", inPlace := ["internal/reflectlite.TypeOf"], unfollowed := true, recurses := true, named := ["loop.example/g00921/impl.errNoDivisor", "loop.example/g00921/impl.errTermRange"], ifaces := true, apart := false, laid := [("loop.example/g00921/impl.errNoDivisor", laid_loop_example_g00921_impl_errNoDivisor), ("loop.example/g00921/impl.errTermRange", laid_loop_example_g00921_impl_errTermRange)] }
def FnExactMakeRatioSaid : Prop := fnExactMakeRatioRow.holds Tryd.pinned (OpenSpec.ofChange fnExactMakeRatioSpec)

/-- ITS FALSE NEIGHBOUR: 'it returns false'. Refute it at one input. -/
def fnExactMakeRatioWrong : ChangeSpec := { name := "fnExactMakeRatio", vars := ["loop.example/g00921/impl.errNoDivisor", "loop.example/g00921/impl.errTermRange"], fn := fun _ => fun
  | [d1, d2, g1, g2] => { results := [.lit (.bool false)], args := [d1, d2], vars := [g1, g2] }
  | _ => none }
def FnExactMakeRatioWrongFalsely : Prop := fnExactMakeRatioRow.holds Tryd.pinned (OpenSpec.ofChange fnExactMakeRatioWrong)

/-- 'laws.FnExactAddRatio': WHATEVER THE INPUT: true; the input reads as it did. -/
def fnExactAddRatioSpec : ChangeSpec := { name := "fnExactAddRatio", vars := ["loop.example/g00921/impl.errNoDivisor", "loop.example/g00921/impl.errTermRange"], fn := fun _ => fun
  | [d1, d2, g1, g2] => { results := [.lit (.bool true)], args := [d1, d2], vars := [g1, g2] }
  | _ => none }
def fnExactAddRatioRow : OpenClaim := { program := "ytdjkmefkfknobaadoor", sum := "33728b821a05d5d99f7a9395dbb907706f2e07f7b8afa13ded4cbcfebe8171b5", func := "loop.example/g00921/laws.FnExactAddRatio", spec := "fnExactAddRatio", inPlace := ["internal/reflectlite.TypeOf"], unfollowed := true, recurses := true, named := ["loop.example/g00921/impl.errNoDivisor", "loop.example/g00921/impl.errTermRange"], ifaces := true, apart := false, laid := [("loop.example/g00921/impl.errNoDivisor", laid_loop_example_g00921_impl_errNoDivisor), ("loop.example/g00921/impl.errTermRange", laid_loop_example_g00921_impl_errTermRange)] }
def FnExactAddRatioSaid : Prop := fnExactAddRatioRow.holds Tryd.pinned (OpenSpec.ofChange fnExactAddRatioSpec)

/-- ITS FALSE NEIGHBOUR: 'it returns false'. Refute it at one input. -/
def fnExactAddRatioWrong : ChangeSpec := { name := "fnExactAddRatio", vars := ["loop.example/g00921/impl.errNoDivisor", "loop.example/g00921/impl.errTermRange"], fn := fun _ => fun
  | [d1, d2, g1, g2] => { results := [.lit (.bool false)], args := [d1, d2], vars := [g1, g2] }
  | _ => none }
def FnExactAddRatioWrongFalsely : Prop := fnExactAddRatioRow.holds Tryd.pinned (OpenSpec.ofChange fnExactAddRatioWrong)

/-- 'laws.FnExactSubRatio': WHATEVER THE INPUT: true; the input reads as it did. -/
def fnExactSubRatioSpec : ChangeSpec := { name := "fnExactSubRatio", vars := ["loop.example/g00921/impl.errNoDivisor", "loop.example/g00921/impl.errTermRange"], fn := fun _ => fun
  | [d1, d2, g1, g2] => { results := [.lit (.bool true)], args := [d1, d2], vars := [g1, g2] }
  | _ => none }
def fnExactSubRatioRow : OpenClaim := { program := "ytdjkmefkfknobaadoor", sum := "33728b821a05d5d99f7a9395dbb907706f2e07f7b8afa13ded4cbcfebe8171b5", func := "loop.example/g00921/laws.FnExactSubRatio", spec := "fnExactSubRatio", inPlace := ["internal/reflectlite.TypeOf"], unfollowed := true, recurses := true, named := ["loop.example/g00921/impl.errNoDivisor", "loop.example/g00921/impl.errTermRange"], ifaces := true, apart := false, laid := [("loop.example/g00921/impl.errNoDivisor", laid_loop_example_g00921_impl_errNoDivisor), ("loop.example/g00921/impl.errTermRange", laid_loop_example_g00921_impl_errTermRange)] }
def FnExactSubRatioSaid : Prop := fnExactSubRatioRow.holds Tryd.pinned (OpenSpec.ofChange fnExactSubRatioSpec)

/-- ITS FALSE NEIGHBOUR: 'it returns false'. Refute it at one input. -/
def fnExactSubRatioWrong : ChangeSpec := { name := "fnExactSubRatio", vars := ["loop.example/g00921/impl.errNoDivisor", "loop.example/g00921/impl.errTermRange"], fn := fun _ => fun
  | [d1, d2, g1, g2] => { results := [.lit (.bool false)], args := [d1, d2], vars := [g1, g2] }
  | _ => none }
def FnExactSubRatioWrongFalsely : Prop := fnExactSubRatioRow.holds Tryd.pinned (OpenSpec.ofChange fnExactSubRatioWrong)

/-- 'laws.FnExactMulRatio': WHATEVER THE INPUT: true; the input reads as it did. -/
def fnExactMulRatioSpec : ChangeSpec := { name := "fnExactMulRatio", vars := ["loop.example/g00921/impl.errNoDivisor", "loop.example/g00921/impl.errTermRange"], fn := fun _ => fun
  | [d1, d2, g1, g2] => { results := [.lit (.bool true)], args := [d1, d2], vars := [g1, g2] }
  | _ => none }
def fnExactMulRatioRow : OpenClaim := { program := "ytdjkmefkfknobaadoor", sum := "33728b821a05d5d99f7a9395dbb907706f2e07f7b8afa13ded4cbcfebe8171b5", func := "loop.example/g00921/laws.FnExactMulRatio", spec := "fnExactMulRatio", inPlace := ["internal/reflectlite.TypeOf"], unfollowed := true, recurses := true, named := ["loop.example/g00921/impl.errNoDivisor", "loop.example/g00921/impl.errTermRange"], ifaces := true, apart := false, laid := [("loop.example/g00921/impl.errNoDivisor", laid_loop_example_g00921_impl_errNoDivisor), ("loop.example/g00921/impl.errTermRange", laid_loop_example_g00921_impl_errTermRange)] }
def FnExactMulRatioSaid : Prop := fnExactMulRatioRow.holds Tryd.pinned (OpenSpec.ofChange fnExactMulRatioSpec)

/-- ITS FALSE NEIGHBOUR: 'it returns false'. Refute it at one input. -/
def fnExactMulRatioWrong : ChangeSpec := { name := "fnExactMulRatio", vars := ["loop.example/g00921/impl.errNoDivisor", "loop.example/g00921/impl.errTermRange"], fn := fun _ => fun
  | [d1, d2, g1, g2] => { results := [.lit (.bool false)], args := [d1, d2], vars := [g1, g2] }
  | _ => none }
def FnExactMulRatioWrongFalsely : Prop := fnExactMulRatioRow.holds Tryd.pinned (OpenSpec.ofChange fnExactMulRatioWrong)

/-- 'laws.FnExactDivRatio': WHATEVER THE INPUT: true; the input reads as it did. -/
def fnExactDivRatioSpec : ChangeSpec := { name := "fnExactDivRatio", vars := ["loop.example/g00921/impl.errNoDivisor", "loop.example/g00921/impl.errTermRange"], fn := fun _ => fun
  | [d1, d2, g1, g2] => { results := [.lit (.bool true)], args := [d1, d2], vars := [g1, g2] }
  | _ => none }
def fnExactDivRatioRow : OpenClaim := { program := "ytdjkmefkfknobaadoor", sum := "33728b821a05d5d99f7a9395dbb907706f2e07f7b8afa13ded4cbcfebe8171b5", func := "loop.example/g00921/laws.FnExactDivRatio", spec := "fnExactDivRatio", inPlace := ["internal/reflectlite.TypeOf"], unfollowed := true, recurses := true, named := ["loop.example/g00921/impl.errNoDivisor", "loop.example/g00921/impl.errTermRange"], ifaces := true, apart := false, laid := [("loop.example/g00921/impl.errNoDivisor", laid_loop_example_g00921_impl_errNoDivisor), ("loop.example/g00921/impl.errTermRange", laid_loop_example_g00921_impl_errTermRange)] }
def FnExactDivRatioSaid : Prop := fnExactDivRatioRow.holds Tryd.pinned (OpenSpec.ofChange fnExactDivRatioSpec)

/-- ITS FALSE NEIGHBOUR: 'it returns false'. Refute it at one input. -/
def fnExactDivRatioWrong : ChangeSpec := { name := "fnExactDivRatio", vars := ["loop.example/g00921/impl.errNoDivisor", "loop.example/g00921/impl.errTermRange"], fn := fun _ => fun
  | [d1, d2, g1, g2] => { results := [.lit (.bool false)], args := [d1, d2], vars := [g1, g2] }
  | _ => none }
def FnExactDivRatioWrongFalsely : Prop := fnExactDivRatioRow.holds Tryd.pinned (OpenSpec.ofChange fnExactDivRatioWrong)

/-- 'laws.FnExactRatioText': WHATEVER THE INPUT: true; the input reads as it did. -/
def fnExactRatioTextSpec : ChangeSpec := { name := "fnExactRatioText", fn := fun _ => fun
  | [d] => { results := [.lit (.bool true)], args := [d] }
  | _ => none }
def fnExactRatioTextRow : OpenClaim := { program := "ytdjkmefkfknobaadoor", sum := "33728b821a05d5d99f7a9395dbb907706f2e07f7b8afa13ded4cbcfebe8171b5", func := "loop.example/g00921/laws.FnExactRatioText", spec := "fnExactRatioText", named := ["internal/strconv.uint64pow10", "math/bits.deBruijn32tab", "math/bits.deBruijn64tab"], apart := false, laid := [("math/bits.deBruijn32tab", laid_math_bits_deBruijn32tab), ("math/bits.deBruijn64tab", laid_math_bits_deBruijn64tab), ("internal/strconv.uint64pow10", laid_internal_strconv_uint64pow10)] }
def FnExactRatioTextSaid : Prop := fnExactRatioTextRow.holds Tryd.pinned (OpenSpec.ofChange fnExactRatioTextSpec)

/-- ITS FALSE NEIGHBOUR: 'it returns false'. Refute it at one input. -/
def fnExactRatioTextWrong : ChangeSpec := { name := "fnExactRatioText", fn := fun _ => fun
  | [d] => { results := [.lit (.bool false)], args := [d] }
  | _ => none }
def FnExactRatioTextWrongFalsely : Prop := fnExactRatioTextRow.holds Tryd.pinned (OpenSpec.ofChange fnExactRatioTextWrong)

/-- 'laws.FnExactReadRatio': WHATEVER THE INPUT: true; the input reads as it did. -/
def fnExactReadRatioSpec : ChangeSpec := { name := "fnExactReadRatio", fn := fun _ => fun
  | [d] => { results := [.lit (.bool true)], args := [d] }
  | _ => none }
def fnExactReadRatioRow : OpenClaim := { program := "ytdjkmefkfknobaadoor", sum := "33728b821a05d5d99f7a9395dbb907706f2e07f7b8afa13ded4cbcfebe8171b5", func := "loop.example/g00921/laws.FnExactReadRatio", spec := "fnExactReadRatio", inPlace := ["internal/bytealg.IndexByteString", "internal/bytealg.IndexString"], named := ["internal/bytealg.MaxLen", "strconv.ErrSyntax", "strconv.ErrRange", "internal/strconv.uint64pow10", "math/bits.deBruijn32tab", "math/bits.deBruijn64tab"], apart := false, laid := [("math/bits.deBruijn32tab", laid_math_bits_deBruijn32tab), ("math/bits.deBruijn64tab", laid_math_bits_deBruijn64tab), ("internal/strconv.uint64pow10", laid_internal_strconv_uint64pow10), ("strconv.ErrRange", laid_strconv_ErrRange), ("strconv.ErrSyntax", laid_strconv_ErrSyntax)] }
def FnExactReadRatioSaid : Prop := fnExactReadRatioRow.holds Tryd.pinned (OpenSpec.ofChange fnExactReadRatioSpec)

/-- ITS FALSE NEIGHBOUR: 'it returns false'. Refute it at one input. -/
def fnExactReadRatioWrong : ChangeSpec := { name := "fnExactReadRatio", fn := fun _ => fun
  | [d] => { results := [.lit (.bool false)], args := [d] }
  | _ => none }
def FnExactReadRatioWrongFalsely : Prop := fnExactReadRatioRow.holds Tryd.pinned (OpenSpec.ofChange fnExactReadRatioWrong)

/- THE SECOND FORM. 'bulk': how many values and letters a reading holds, each counted each time it is reached (what is shared counts as often as it is met; a slice's spare places count too). A statement '..UptoSaid' is the law's where the arguments, and the package variables that the reading takes, are together of bulk at most 1048576: NARROWER than '..Said'. Prove '..Said' where nothing that the law and all that it calls make is longer than what came in: it says more and counts as full. Else prove '..UptoSaid'. A law counts once. -/
mutual
def uptoBulk {H : Type} : DataW H → Nat
  | .lit (.string bytes) => bytes.length + 1
  | .lit _ => 1
  | .nil => 1
  | .ptr d => uptoBulk d + 1
  | .slice elems spare => uptoBulkAll elems + uptoBulkAll spare + 1
  | .agg parts => uptoBulkAll parts + 1
  | .iface _ d => uptoBulk d + 1
  | .map entries => uptoBulkEntries entries + 1
  | .held _ => 1
def uptoBulkAll {H : Type} : List (DataW H) → Nat
  | [] => 0
  | d :: r => uptoBulk d + uptoBulkAll r
def uptoBulkEntries {H : Type} : List (Lit × DataW H) → Nat
  | [] => 0
  | x :: r => uptoBulkEntry x + uptoBulkEntries r
def uptoBulkEntry {H : Type} : Lit × DataW H → Nat
  | (.string bytes, d) => bytes.length + uptoBulk d + 1
  | (_, d) => uptoBulk d + 1
 end
def uptoSmall : (H : Type) → List (DataW H) → Bool := fun _ ds => decide (uptoBulkAll ds ≤ 1048576)
def OpenSpec.upto (s : _root_.Go.ChangeSpec) : _root_.Go.OpenSpec := { _root_.Go.OpenSpec.ofChange s with cond := some uptoSmall }

/-- 'laws.FnRatios', WHERE WHAT IT READS IS OF BULK AT MOST 1048576: true; the input reads as it did. -/
def fnRatiosUptoRow : OpenClaim := { program := "ytdjkmefkfknobaadoor", sum := "33728b821a05d5d99f7a9395dbb907706f2e07f7b8afa13ded4cbcfebe8171b5", func := "loop.example/g00921/laws.FnRatios", spec := "fnRatios", inPlace := ["internal/reflectlite.TypeOf", "internal/bytealg.IndexByteString", "internal/bytealg.IndexString"], unfollowed := true, recurses := true, named := ["loop.example/g00921/impl.errNoDivisor", "loop.example/g00921/impl.errTermRange", "internal/strconv.uint64pow10", "math/bits.deBruijn32tab", "math/bits.deBruijn64tab", "internal/bytealg.MaxLen", "strconv.ErrSyntax", "strconv.ErrRange"], ifaces := true, apart := false, laid := [("math/bits.deBruijn32tab", laid_math_bits_deBruijn32tab), ("math/bits.deBruijn64tab", laid_math_bits_deBruijn64tab), ("internal/strconv.uint64pow10", laid_internal_strconv_uint64pow10), ("strconv.ErrRange", laid_strconv_ErrRange), ("strconv.ErrSyntax", laid_strconv_ErrSyntax), ("loop.example/g00921/impl.errNoDivisor", laid_loop_example_g00921_impl_errNoDivisor), ("loop.example/g00921/impl.errTermRange", laid_loop_example_g00921_impl_errTermRange)], narrowed := true }
def FnRatiosUptoSaid : Prop := fnRatiosUptoRow.holds Tryd.pinned (OpenSpec.upto fnRatiosSpec)

/-- 'laws.FnExactCodeName', WHERE WHAT IT READS IS OF BULK AT MOST 1048576: true; the input reads as it did. -/
def fnExactCodeNameUptoRow : OpenClaim := { program := "ytdjkmefkfknobaadoor", sum := "33728b821a05d5d99f7a9395dbb907706f2e07f7b8afa13ded4cbcfebe8171b5", func := "loop.example/g00921/laws.FnExactCodeName", spec := "fnExactCodeName", named := ["loop.example/g00921/impl.codeNames"], apart := false, laid := [("loop.example/g00921/impl.codeNames", laid_loop_example_g00921_impl_codeNames)], narrowed := true }
def FnExactCodeNameUptoSaid : Prop := fnExactCodeNameUptoRow.holds Tryd.pinned (OpenSpec.upto fnExactCodeNameSpec)

/-- 'laws.FnExactDecimal', WHERE WHAT IT READS IS OF BULK AT MOST 1048576: true; the input reads as it did. -/
def fnExactDecimalUptoRow : OpenClaim := { program := "ytdjkmefkfknobaadoor", sum := "33728b821a05d5d99f7a9395dbb907706f2e07f7b8afa13ded4cbcfebe8171b5", func := "loop.example/g00921/laws.FnExactDecimal", spec := "fnExactDecimal", named := ["internal/strconv.uint64pow10", "math/bits.deBruijn32tab", "math/bits.deBruijn64tab"], apart := false, laid := [("math/bits.deBruijn32tab", laid_math_bits_deBruijn32tab), ("math/bits.deBruijn64tab", laid_math_bits_deBruijn64tab), ("internal/strconv.uint64pow10", laid_internal_strconv_uint64pow10)], narrowed := true }
def FnExactDecimalUptoSaid : Prop := fnExactDecimalUptoRow.holds Tryd.pinned (OpenSpec.upto fnExactDecimalSpec)

/-- 'laws.FnExactReadDecimal', WHERE WHAT IT READS IS OF BULK AT MOST 1048576: true; the input reads as it did. -/
def fnExactReadDecimalUptoRow : OpenClaim := { program := "ytdjkmefkfknobaadoor", sum := "33728b821a05d5d99f7a9395dbb907706f2e07f7b8afa13ded4cbcfebe8171b5", func := "loop.example/g00921/laws.FnExactReadDecimal", spec := "fnExactReadDecimal", named := ["strconv.ErrSyntax", "strconv.ErrRange", "internal/strconv.uint64pow10", "math/bits.deBruijn32tab", "math/bits.deBruijn64tab"], apart := false, laid := [("math/bits.deBruijn32tab", laid_math_bits_deBruijn32tab), ("math/bits.deBruijn64tab", laid_math_bits_deBruijn64tab), ("internal/strconv.uint64pow10", laid_internal_strconv_uint64pow10), ("strconv.ErrRange", laid_strconv_ErrRange), ("strconv.ErrSyntax", laid_strconv_ErrSyntax)], narrowed := true }
def FnExactReadDecimalUptoSaid : Prop := fnExactReadDecimalUptoRow.holds Tryd.pinned (OpenSpec.upto fnExactReadDecimalSpec)

/-- 'laws.FnExactMakeRatio', WHERE WHAT IT READS IS OF BULK AT MOST 1048576: true; the input reads as it did. -/
def fnExactMakeRatioUptoRow : OpenClaim := { program := "ytdjkmefkfknobaadoor", sum := "33728b821a05d5d99f7a9395dbb907706f2e07f7b8afa13ded4cbcfebe8171b5", func := "loop.example/g00921/laws.FnExactMakeRatio", spec := "fnExactMakeRatio", inPlace := ["internal/reflectlite.TypeOf"], unfollowed := true, recurses := true, named := ["loop.example/g00921/impl.errNoDivisor", "loop.example/g00921/impl.errTermRange"], ifaces := true, apart := false, laid := [("loop.example/g00921/impl.errNoDivisor", laid_loop_example_g00921_impl_errNoDivisor), ("loop.example/g00921/impl.errTermRange", laid_loop_example_g00921_impl_errTermRange)], narrowed := true }
def FnExactMakeRatioUptoSaid : Prop := fnExactMakeRatioUptoRow.holds Tryd.pinned (OpenSpec.upto fnExactMakeRatioSpec)

/-- 'laws.FnExactAddRatio', WHERE WHAT IT READS IS OF BULK AT MOST 1048576: true; the input reads as it did. -/
def fnExactAddRatioUptoRow : OpenClaim := { program := "ytdjkmefkfknobaadoor", sum := "33728b821a05d5d99f7a9395dbb907706f2e07f7b8afa13ded4cbcfebe8171b5", func := "loop.example/g00921/laws.FnExactAddRatio", spec := "fnExactAddRatio", inPlace := ["internal/reflectlite.TypeOf"], unfollowed := true, recurses := true, named := ["loop.example/g00921/impl.errNoDivisor", "loop.example/g00921/impl.errTermRange"], ifaces := true, apart := false, laid := [("loop.example/g00921/impl.errNoDivisor", laid_loop_example_g00921_impl_errNoDivisor), ("loop.example/g00921/impl.errTermRange", laid_loop_example_g00921_impl_errTermRange)], narrowed := true }
def FnExactAddRatioUptoSaid : Prop := fnExactAddRatioUptoRow.holds Tryd.pinned (OpenSpec.upto fnExactAddRatioSpec)

/-- 'laws.FnExactSubRatio', WHERE WHAT IT READS IS OF BULK AT MOST 1048576: true; the input reads as it did. -/
def fnExactSubRatioUptoRow : OpenClaim := { program := "ytdjkmefkfknobaadoor", sum := "33728b821a05d5d99f7a9395dbb907706f2e07f7b8afa13ded4cbcfebe8171b5", func := "loop.example/g00921/laws.FnExactSubRatio", spec := "fnExactSubRatio", inPlace := ["internal/reflectlite.TypeOf"], unfollowed := true, recurses := true, named := ["loop.example/g00921/impl.errNoDivisor", "loop.example/g00921/impl.errTermRange"], ifaces := true, apart := false, laid := [("loop.example/g00921/impl.errNoDivisor", laid_loop_example_g00921_impl_errNoDivisor), ("loop.example/g00921/impl.errTermRange", laid_loop_example_g00921_impl_errTermRange)], narrowed := true }
def FnExactSubRatioUptoSaid : Prop := fnExactSubRatioUptoRow.holds Tryd.pinned (OpenSpec.upto fnExactSubRatioSpec)

/-- 'laws.FnExactMulRatio', WHERE WHAT IT READS IS OF BULK AT MOST 1048576: true; the input reads as it did. -/
def fnExactMulRatioUptoRow : OpenClaim := { program := "ytdjkmefkfknobaadoor", sum := "33728b821a05d5d99f7a9395dbb907706f2e07f7b8afa13ded4cbcfebe8171b5", func := "loop.example/g00921/laws.FnExactMulRatio", spec := "fnExactMulRatio", inPlace := ["internal/reflectlite.TypeOf"], unfollowed := true, recurses := true, named := ["loop.example/g00921/impl.errNoDivisor", "loop.example/g00921/impl.errTermRange"], ifaces := true, apart := false, laid := [("loop.example/g00921/impl.errNoDivisor", laid_loop_example_g00921_impl_errNoDivisor), ("loop.example/g00921/impl.errTermRange", laid_loop_example_g00921_impl_errTermRange)], narrowed := true }
def FnExactMulRatioUptoSaid : Prop := fnExactMulRatioUptoRow.holds Tryd.pinned (OpenSpec.upto fnExactMulRatioSpec)

/-- 'laws.FnExactDivRatio', WHERE WHAT IT READS IS OF BULK AT MOST 1048576: true; the input reads as it did. -/
def fnExactDivRatioUptoRow : OpenClaim := { program := "ytdjkmefkfknobaadoor", sum := "33728b821a05d5d99f7a9395dbb907706f2e07f7b8afa13ded4cbcfebe8171b5", func := "loop.example/g00921/laws.FnExactDivRatio", spec := "fnExactDivRatio", inPlace := ["internal/reflectlite.TypeOf"], unfollowed := true, recurses := true, named := ["loop.example/g00921/impl.errNoDivisor", "loop.example/g00921/impl.errTermRange"], ifaces := true, apart := false, laid := [("loop.example/g00921/impl.errNoDivisor", laid_loop_example_g00921_impl_errNoDivisor), ("loop.example/g00921/impl.errTermRange", laid_loop_example_g00921_impl_errTermRange)], narrowed := true }
def FnExactDivRatioUptoSaid : Prop := fnExactDivRatioUptoRow.holds Tryd.pinned (OpenSpec.upto fnExactDivRatioSpec)

/-- 'laws.FnExactRatioText', WHERE WHAT IT READS IS OF BULK AT MOST 1048576: true; the input reads as it did. -/
def fnExactRatioTextUptoRow : OpenClaim := { program := "ytdjkmefkfknobaadoor", sum := "33728b821a05d5d99f7a9395dbb907706f2e07f7b8afa13ded4cbcfebe8171b5", func := "loop.example/g00921/laws.FnExactRatioText", spec := "fnExactRatioText", named := ["internal/strconv.uint64pow10", "math/bits.deBruijn32tab", "math/bits.deBruijn64tab"], apart := false, laid := [("math/bits.deBruijn32tab", laid_math_bits_deBruijn32tab), ("math/bits.deBruijn64tab", laid_math_bits_deBruijn64tab), ("internal/strconv.uint64pow10", laid_internal_strconv_uint64pow10)], narrowed := true }
def FnExactRatioTextUptoSaid : Prop := fnExactRatioTextUptoRow.holds Tryd.pinned (OpenSpec.upto fnExactRatioTextSpec)

/-- 'laws.FnExactReadRatio', WHERE WHAT IT READS IS OF BULK AT MOST 1048576: true; the input reads as it did. -/
def fnExactReadRatioUptoRow : OpenClaim := { program := "ytdjkmefkfknobaadoor", sum := "33728b821a05d5d99f7a9395dbb907706f2e07f7b8afa13ded4cbcfebe8171b5", func := "loop.example/g00921/laws.FnExactReadRatio", spec := "fnExactReadRatio", inPlace := ["internal/bytealg.IndexByteString", "internal/bytealg.IndexString"], named := ["internal/bytealg.MaxLen", "strconv.ErrSyntax", "strconv.ErrRange", "internal/strconv.uint64pow10", "math/bits.deBruijn32tab", "math/bits.deBruijn64tab"], apart := false, laid := [("math/bits.deBruijn32tab", laid_math_bits_deBruijn32tab), ("math/bits.deBruijn64tab", laid_math_bits_deBruijn64tab), ("internal/strconv.uint64pow10", laid_internal_strconv_uint64pow10), ("strconv.ErrRange", laid_strconv_ErrRange), ("strconv.ErrSyntax", laid_strconv_ErrSyntax)], narrowed := true }
def FnExactReadRatioUptoSaid : Prop := fnExactReadRatioUptoRow.holds Tryd.pinned (OpenSpec.upto fnExactReadRatioSpec)

end Rows
end Go.Proofs.YtdjkmefkfknobaaDoor

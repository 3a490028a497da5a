/-
  NARROWER THAN 'FOR EVERY INPUT', by the rows' own cells (each row's printed sentence says how): FnEpis: ifaces, laid · FnExactEpiFaults: laid · FnExactValidEpi: laid · FnExactSunOf: ifaces, laid · FnExactRingOf: ifaces, laid · FnExactCarrierOf: ifaces, laid · FnExactPlanetOf: ifaces, laid · FnExactEpiRatio: laid · FnExactEpisFor: laid · FnExactCageOf: ifaces, laid · FnExactSideOf: ifaces, laid · FnExactEpiText: laid · FnExactReadEpi: laid.
  DERIVED. THE GIVEN ROWS OF THIS SEAT. 13 by the template 'for every input the law returns true; each argument reads behind the call as it read before'; 0 by the template 'total and deterministic' (their statements: YtcklcledchboiaaDoorTotals.lean).
  GIVEN WITH THE SEED: the statements are not yours to turn. If you find one false, say at which input.
  Laid BY PROGRAM, IN A SANDBOX (cutbox-rows.mjs): the forced cells as the released guide's own fill.sh prints them over the translation 963c5c6909c3de59… (all of the seat's roots in one cut). By AI agents, Wed Nov 11 2026. No macro, syntax, notation, axiom, sorry.
-/
import Derived.Test.YtcklcledchboiaaDoorChecked
import GoSem.Claim
import GoSem.ClaimJoined
import GoSem.ClaimMapViews
import Derived.JoinedTies
import Derived.KernelRfl
namespace Go.Proofs.YtcklcledchboiaaDoor
/- THE CELL 'sum', in the pinned program and in every row, IS THE sha256 OF THE DUMP (.gsa) THAT YtcklcledchboiaaDoorProg.lean LOADS. Nothing in Lean hashes anything: it is a label: what it is worth is what the hold of that sum in a sandbox is worth. -/
noncomputable def Tryd.pinned : Pinned := { name := "ytcklcledchboiaadoor", sum := "963c5c6909c3de5955a21edd1321dd6ec90180819172781bb60db2f64535c9cd", checked := Tryd.checked }
namespace Rows
def none {H : Type} : Left H := { results := [], args := [] }

/- WHAT THE LISTED PACKAGE-LEVEL VARIABLES READ AS WHEN THE CALL BEGINS. Each datum BY PROGRAM (the guide's laid-datum.mjs) off the statement by which the dump's own 'gosem.cut.vars' lays the variable. In a bare row this is a premise. The card (YtcklcledchboiaaDoorCards.lean) ties it to the program's text. -/
def laid_loop_example_g00921_impl_errNoDivisor {H : Type} : DataW H := .iface "*errors.errorString" (.ptr (.agg [.lit (.string [100, 105, 118, 105, 115, 105, 111, 110, 32, 98, 121, 32, 122, 101, 114, 111])]))
def laid_loop_example_g00921_impl_errTermRange {H : Type} : DataW H := .iface "*errors.errorString" (.ptr (.agg [.lit (.string [116, 101, 114, 109, 32, 111, 117, 116, 32, 111, 102, 32, 114, 97, 110, 103, 101])]))
def laid_loop_example_g00921_impl_planetSines {H : Type} : DataW H := .agg [.lit (.int .i64 1000000), .lit (.int .i64 866025), .lit (.int .i64 707106), .lit (.int .i64 587785), .lit (.int .i64 500000), .lit (.int .i64 433883), .lit (.int .i64 382683)]
def laid_math_bits_deBruijn32tab {H : Type} : DataW H := .agg [.lit (.int .u8 0), .lit (.int .u8 1), .lit (.int .u8 28), .lit (.int .u8 2), .lit (.int .u8 29), .lit (.int .u8 14), .lit (.int .u8 24), .lit (.int .u8 3), .lit (.int .u8 30), .lit (.int .u8 22), .lit (.int .u8 20), .lit (.int .u8 15), .lit (.int .u8 25), .lit (.int .u8 17), .lit (.int .u8 4), .lit (.int .u8 8), .lit (.int .u8 31), .lit (.int .u8 27), .lit (.int .u8 13), .lit (.int .u8 23), .lit (.int .u8 21), .lit (.int .u8 19), .lit (.int .u8 16), .lit (.int .u8 7), .lit (.int .u8 26), .lit (.int .u8 12), .lit (.int .u8 18), .lit (.int .u8 6), .lit (.int .u8 11), .lit (.int .u8 5), .lit (.int .u8 10), .lit (.int .u8 9)]
def laid_math_bits_deBruijn64tab {H : Type} : DataW H := .agg [.lit (.int .u8 0), .lit (.int .u8 1), .lit (.int .u8 56), .lit (.int .u8 2), .lit (.int .u8 57), .lit (.int .u8 49), .lit (.int .u8 28), .lit (.int .u8 3), .lit (.int .u8 61), .lit (.int .u8 58), .lit (.int .u8 42), .lit (.int .u8 50), .lit (.int .u8 38), .lit (.int .u8 29), .lit (.int .u8 17), .lit (.int .u8 4), .lit (.int .u8 62), .lit (.int .u8 47), .lit (.int .u8 59), .lit (.int .u8 36), .lit (.int .u8 45), .lit (.int .u8 43), .lit (.int .u8 51), .lit (.int .u8 22), .lit (.int .u8 53), .lit (.int .u8 39), .lit (.int .u8 33), .lit (.int .u8 30), .lit (.int .u8 24), .lit (.int .u8 18), .lit (.int .u8 12), .lit (.int .u8 5), .lit (.int .u8 63), .lit (.int .u8 55), .lit (.int .u8 48), .lit (.int .u8 27), .lit (.int .u8 60), .lit (.int .u8 41), .lit (.int .u8 37), .lit (.int .u8 16), .lit (.int .u8 46), .lit (.int .u8 35), .lit (.int .u8 44), .lit (.int .u8 21), .lit (.int .u8 52), .lit (.int .u8 32), .lit (.int .u8 23), .lit (.int .u8 11), .lit (.int .u8 54), .lit (.int .u8 26), .lit (.int .u8 40), .lit (.int .u8 15), .lit (.int .u8 34), .lit (.int .u8 20), .lit (.int .u8 31), .lit (.int .u8 10), .lit (.int .u8 25), .lit (.int .u8 14), .lit (.int .u8 19), .lit (.int .u8 9), .lit (.int .u8 13), .lit (.int .u8 8), .lit (.int .u8 7), .lit (.int .u8 6)]
def laid_internal_strconv_uint64pow10 {H : Type} : DataW H := .agg [.lit (.int .u64 1), .lit (.int .u64 10), .lit (.int .u64 100), .lit (.int .u64 1000), .lit (.int .u64 10000), .lit (.int .u64 100000), .lit (.int .u64 1000000), .lit (.int .u64 10000000), .lit (.int .u64 100000000), .lit (.int .u64 1000000000), .lit (.int .u64 10000000000), .lit (.int .u64 100000000000), .lit (.int .u64 1000000000000), .lit (.int .u64 10000000000000), .lit (.int .u64 100000000000000), .lit (.int .u64 1000000000000000), .lit (.int .u64 10000000000000000), .lit (.int .u64 100000000000000000), .lit (.int .u64 1000000000000000000), .lit (.int .u64 10000000000000000000)]
def laid_strconv_ErrRange {H : Type} : DataW H := .iface "*errors.errorString" (.ptr (.agg [.lit (.string [118, 97, 108, 117, 101, 32, 111, 117, 116, 32, 111, 102, 32, 114, 97, 110, 103, 101])]))
def laid_strconv_ErrSyntax {H : Type} : DataW H := .iface "*errors.errorString" (.ptr (.agg [.lit (.string [105, 110, 118, 97, 108, 105, 100, 32, 115, 121, 110, 116, 97, 120])]))

/-- 'laws.FnEpis': WHATEVER THE INPUT: true; the input reads as it did. -/
def fnEpisSpec : ChangeSpec := { name := "fnEpis", vars := ["loop.example/g00921/impl.planetSines", "loop.example/g00921/impl.errNoDivisor", "loop.example/g00921/impl.errTermRange"], fn := fun _ => fun
  | [d, g1, g2, g3] => { results := [.lit (.bool true)], args := [d], vars := [g1, g2, g3] }
  | _ => none }
def fnEpisRow : OpenClaim := { program := "ytcklcledchboiaadoor", sum := "963c5c6909c3de5955a21edd1321dd6ec90180819172781bb60db2f64535c9cd", func := "loop.example/g00921/laws.FnEpis", spec := "fnEpis", inPlace := ["internal/reflectlite.TypeOf"], unfollowed := true, recurses := true, named := ["loop.example/g00921/impl.planetSines", "loop.example/g00921/impl.errNoDivisor", "loop.example/g00921/impl.errTermRange"], ifaces := true, apart := false, laid := [("loop.example/g00921/impl.errNoDivisor", laid_loop_example_g00921_impl_errNoDivisor), ("loop.example/g00921/impl.errTermRange", laid_loop_example_g00921_impl_errTermRange), ("loop.example/g00921/impl.planetSines", laid_loop_example_g00921_impl_planetSines)] }
def FnEpisSaid : Prop := fnEpisRow.holds Tryd.pinned (OpenSpec.ofChange fnEpisSpec)

/-- ITS FALSE NEIGHBOUR: 'it returns false'. Refute it at one input. -/
def fnEpisWrong : ChangeSpec := { name := "fnEpis", vars := ["loop.example/g00921/impl.planetSines", "loop.example/g00921/impl.errNoDivisor", "loop.example/g00921/impl.errTermRange"], fn := fun _ => fun
  | [d, g1, g2, g3] => { results := [.lit (.bool false)], args := [d], vars := [g1, g2, g3] }
  | _ => none }
def FnEpisWrongFalsely : Prop := fnEpisRow.holds Tryd.pinned (OpenSpec.ofChange fnEpisWrong)

/-- 'laws.FnExactEpiFaults': WHATEVER THE INPUT: true; the input reads as it did. -/
def fnExactEpiFaultsSpec : ChangeSpec := { name := "fnExactEpiFaults", vars := ["loop.example/g00921/impl.planetSines"], fn := fun _ => fun
  | [d, g1] => { results := [.lit (.bool true)], args := [d], vars := [g1] }
  | _ => none }
def fnExactEpiFaultsRow : OpenClaim := { program := "ytcklcledchboiaadoor", sum := "963c5c6909c3de5955a21edd1321dd6ec90180819172781bb60db2f64535c9cd", func := "loop.example/g00921/laws.FnExactEpiFaults", spec := "fnExactEpiFaults", unfollowed := true, recurses := true, named := ["loop.example/g00921/impl.planetSines"], apart := false, laid := [("loop.example/g00921/impl.planetSines", laid_loop_example_g00921_impl_planetSines)] }
def FnExactEpiFaultsSaid : Prop := fnExactEpiFaultsRow.holds Tryd.pinned (OpenSpec.ofChange fnExactEpiFaultsSpec)

/-- ITS FALSE NEIGHBOUR: 'it returns false'. Refute it at one input. -/
def fnExactEpiFaultsWrong : ChangeSpec := { name := "fnExactEpiFaults", vars := ["loop.example/g00921/impl.planetSines"], fn := fun _ => fun
  | [d, g1] => { results := [.lit (.bool false)], args := [d], vars := [g1] }
  | _ => none }
def FnExactEpiFaultsWrongFalsely : Prop := fnExactEpiFaultsRow.holds Tryd.pinned (OpenSpec.ofChange fnExactEpiFaultsWrong)

/-- 'laws.FnExactValidEpi': WHATEVER THE INPUT: true; the input reads as it did. -/
def fnExactValidEpiSpec : ChangeSpec := { name := "fnExactValidEpi", vars := ["loop.example/g00921/impl.planetSines"], fn := fun _ => fun
  | [d, g1] => { results := [.lit (.bool true)], args := [d], vars := [g1] }
  | _ => none }
def fnExactValidEpiRow : OpenClaim := { program := "ytcklcledchboiaadoor", sum := "963c5c6909c3de5955a21edd1321dd6ec90180819172781bb60db2f64535c9cd", func := "loop.example/g00921/laws.FnExactValidEpi", spec := "fnExactValidEpi", unfollowed := true, recurses := true, named := ["loop.example/g00921/impl.planetSines"], apart := false, laid := [("loop.example/g00921/impl.planetSines", laid_loop_example_g00921_impl_planetSines)] }
def FnExactValidEpiSaid : Prop := fnExactValidEpiRow.holds Tryd.pinned (OpenSpec.ofChange fnExactValidEpiSpec)

/-- ITS FALSE NEIGHBOUR: 'it returns false'. Refute it at one input. -/
def fnExactValidEpiWrong : ChangeSpec := { name := "fnExactValidEpi", vars := ["loop.example/g00921/impl.planetSines"], fn := fun _ => fun
  | [d, g1] => { results := [.lit (.bool false)], args := [d], vars := [g1] }
  | _ => none }
def FnExactValidEpiWrongFalsely : Prop := fnExactValidEpiRow.holds Tryd.pinned (OpenSpec.ofChange fnExactValidEpiWrong)

/-- 'laws.FnExactSunOf': WHATEVER THE INPUT: true; the input reads as it did. -/
def fnExactSunOfSpec : ChangeSpec := { name := "fnExactSunOf", vars := ["loop.example/g00921/impl.planetSines", "loop.example/g00921/impl.errNoDivisor", "loop.example/g00921/impl.errTermRange"], fn := fun _ => fun
  | [d1, d2, d3, g1, g2, g3] => { results := [.lit (.bool true)], args := [d1, d2, d3], vars := [g1, g2, g3] }
  | _ => none }
def fnExactSunOfRow : OpenClaim := { program := "ytcklcledchboiaadoor", sum := "963c5c6909c3de5955a21edd1321dd6ec90180819172781bb60db2f64535c9cd", func := "loop.example/g00921/laws.FnExactSunOf", spec := "fnExactSunOf", inPlace := ["internal/reflectlite.TypeOf"], unfollowed := true, recurses := true, named := ["loop.example/g00921/impl.planetSines", "loop.example/g00921/impl.errNoDivisor", "loop.example/g00921/impl.errTermRange"], ifaces := true, apart := false, laid := [("loop.example/g00921/impl.errNoDivisor", laid_loop_example_g00921_impl_errNoDivisor), ("loop.example/g00921/impl.errTermRange", laid_loop_example_g00921_impl_errTermRange), ("loop.example/g00921/impl.planetSines", laid_loop_example_g00921_impl_planetSines)] }
def FnExactSunOfSaid : Prop := fnExactSunOfRow.holds Tryd.pinned (OpenSpec.ofChange fnExactSunOfSpec)

/-- ITS FALSE NEIGHBOUR: 'it returns false'. Refute it at one input. -/
def fnExactSunOfWrong : ChangeSpec := { name := "fnExactSunOf", vars := ["loop.example/g00921/impl.planetSines", "loop.example/g00921/impl.errNoDivisor", "loop.example/g00921/impl.errTermRange"], fn := fun _ => fun
  | [d1, d2, d3, g1, g2, g3] => { results := [.lit (.bool false)], args := [d1, d2, d3], vars := [g1, g2, g3] }
  | _ => none }
def FnExactSunOfWrongFalsely : Prop := fnExactSunOfRow.holds Tryd.pinned (OpenSpec.ofChange fnExactSunOfWrong)

/-- 'laws.FnExactRingOf': WHATEVER THE INPUT: true; the input reads as it did. -/
def fnExactRingOfSpec : ChangeSpec := { name := "fnExactRingOf", vars := ["loop.example/g00921/impl.planetSines", "loop.example/g00921/impl.errNoDivisor", "loop.example/g00921/impl.errTermRange"], fn := fun _ => fun
  | [d1, d2, d3, g1, g2, g3] => { results := [.lit (.bool true)], args := [d1, d2, d3], vars := [g1, g2, g3] }
  | _ => none }
def fnExactRingOfRow : OpenClaim := { program := "ytcklcledchboiaadoor", sum := "963c5c6909c3de5955a21edd1321dd6ec90180819172781bb60db2f64535c9cd", func := "loop.example/g00921/laws.FnExactRingOf", spec := "fnExactRingOf", inPlace := ["internal/reflectlite.TypeOf"], unfollowed := true, recurses := true, named := ["loop.example/g00921/impl.planetSines", "loop.example/g00921/impl.errNoDivisor", "loop.example/g00921/impl.errTermRange"], ifaces := true, apart := false, laid := [("loop.example/g00921/impl.errNoDivisor", laid_loop_example_g00921_impl_errNoDivisor), ("loop.example/g00921/impl.errTermRange", laid_loop_example_g00921_impl_errTermRange), ("loop.example/g00921/impl.planetSines", laid_loop_example_g00921_impl_planetSines)] }
def FnExactRingOfSaid : Prop := fnExactRingOfRow.holds Tryd.pinned (OpenSpec.ofChange fnExactRingOfSpec)

/-- ITS FALSE NEIGHBOUR: 'it returns false'. Refute it at one input. -/
def fnExactRingOfWrong : ChangeSpec := { name := "fnExactRingOf", vars := ["loop.example/g00921/impl.planetSines", "loop.example/g00921/impl.errNoDivisor", "loop.example/g00921/impl.errTermRange"], fn := fun _ => fun
  | [d1, d2, d3, g1, g2, g3] => { results := [.lit (.bool false)], args := [d1, d2, d3], vars := [g1, g2, g3] }
  | _ => none }
def FnExactRingOfWrongFalsely : Prop := fnExactRingOfRow.holds Tryd.pinned (OpenSpec.ofChange fnExactRingOfWrong)

/-- 'laws.FnExactCarrierOf': WHATEVER THE INPUT: true; the input reads as it did. -/
def fnExactCarrierOfSpec : ChangeSpec := { name := "fnExactCarrierOf", vars := ["loop.example/g00921/impl.planetSines", "loop.example/g00921/impl.errNoDivisor", "loop.example/g00921/impl.errTermRange"], fn := fun _ => fun
  | [d1, d2, d3, g1, g2, g3] => { results := [.lit (.bool true)], args := [d1, d2, d3], vars := [g1, g2, g3] }
  | _ => none }
def fnExactCarrierOfRow : OpenClaim := { program := "ytcklcledchboiaadoor", sum := "963c5c6909c3de5955a21edd1321dd6ec90180819172781bb60db2f64535c9cd", func := "loop.example/g00921/laws.FnExactCarrierOf", spec := "fnExactCarrierOf", inPlace := ["internal/reflectlite.TypeOf"], unfollowed := true, recurses := true, named := ["loop.example/g00921/impl.planetSines", "loop.example/g00921/impl.errNoDivisor", "loop.example/g00921/impl.errTermRange"], ifaces := true, apart := false, laid := [("loop.example/g00921/impl.errNoDivisor", laid_loop_example_g00921_impl_errNoDivisor), ("loop.example/g00921/impl.errTermRange", laid_loop_example_g00921_impl_errTermRange), ("loop.example/g00921/impl.planetSines", laid_loop_example_g00921_impl_planetSines)] }
def FnExactCarrierOfSaid : Prop := fnExactCarrierOfRow.holds Tryd.pinned (OpenSpec.ofChange fnExactCarrierOfSpec)

/-- ITS FALSE NEIGHBOUR: 'it returns false'. Refute it at one input. -/
def fnExactCarrierOfWrong : ChangeSpec := { name := "fnExactCarrierOf", vars := ["loop.example/g00921/impl.planetSines", "loop.example/g00921/impl.errNoDivisor", "loop.example/g00921/impl.errTermRange"], fn := fun _ => fun
  | [d1, d2, d3, g1, g2, g3] => { results := [.lit (.bool false)], args := [d1, d2, d3], vars := [g1, g2, g3] }
  | _ => none }
def FnExactCarrierOfWrongFalsely : Prop := fnExactCarrierOfRow.holds Tryd.pinned (OpenSpec.ofChange fnExactCarrierOfWrong)

/-- 'laws.FnExactPlanetOf': WHATEVER THE INPUT: true; the input reads as it did. -/
def fnExactPlanetOfSpec : ChangeSpec := { name := "fnExactPlanetOf", vars := ["loop.example/g00921/impl.planetSines", "loop.example/g00921/impl.errNoDivisor", "loop.example/g00921/impl.errTermRange"], fn := fun _ => fun
  | [d1, d2, d3, g1, g2, g3] => { results := [.lit (.bool true)], args := [d1, d2, d3], vars := [g1, g2, g3] }
  | _ => none }
def fnExactPlanetOfRow : OpenClaim := { program := "ytcklcledchboiaadoor", sum := "963c5c6909c3de5955a21edd1321dd6ec90180819172781bb60db2f64535c9cd", func := "loop.example/g00921/laws.FnExactPlanetOf", spec := "fnExactPlanetOf", inPlace := ["internal/reflectlite.TypeOf"], unfollowed := true, recurses := true, named := ["loop.example/g00921/impl.planetSines", "loop.example/g00921/impl.errNoDivisor", "loop.example/g00921/impl.errTermRange"], ifaces := true, apart := false, laid := [("loop.example/g00921/impl.errNoDivisor", laid_loop_example_g00921_impl_errNoDivisor), ("loop.example/g00921/impl.errTermRange", laid_loop_example_g00921_impl_errTermRange), ("loop.example/g00921/impl.planetSines", laid_loop_example_g00921_impl_planetSines)] }
def FnExactPlanetOfSaid : Prop := fnExactPlanetOfRow.holds Tryd.pinned (OpenSpec.ofChange fnExactPlanetOfSpec)

/-- ITS FALSE NEIGHBOUR: 'it returns false'. Refute it at one input. -/
def fnExactPlanetOfWrong : ChangeSpec := { name := "fnExactPlanetOf", vars := ["loop.example/g00921/impl.planetSines", "loop.example/g00921/impl.errNoDivisor", "loop.example/g00921/impl.errTermRange"], fn := fun _ => fun
  | [d1, d2, d3, g1, g2, g3] => { results := [.lit (.bool false)], args := [d1, d2, d3], vars := [g1, g2, g3] }
  | _ => none }
def FnExactPlanetOfWrongFalsely : Prop := fnExactPlanetOfRow.holds Tryd.pinned (OpenSpec.ofChange fnExactPlanetOfWrong)

/-- 'laws.FnExactEpiRatio': WHATEVER THE INPUT: true; the input reads as it did. -/
def fnExactEpiRatioSpec : ChangeSpec := { name := "fnExactEpiRatio", vars := ["loop.example/g00921/impl.planetSines"], fn := fun _ => fun
  | [d1, d2, d3, g1] => { results := [.lit (.bool true)], args := [d1, d2, d3], vars := [g1] }
  | _ => none }
def fnExactEpiRatioRow : OpenClaim := { program := "ytcklcledchboiaadoor", sum := "963c5c6909c3de5955a21edd1321dd6ec90180819172781bb60db2f64535c9cd", func := "loop.example/g00921/laws.FnExactEpiRatio", spec := "fnExactEpiRatio", unfollowed := true, recurses := true, named := ["loop.example/g00921/impl.planetSines"], apart := false, laid := [("loop.example/g00921/impl.planetSines", laid_loop_example_g00921_impl_planetSines)] }
def FnExactEpiRatioSaid : Prop := fnExactEpiRatioRow.holds Tryd.pinned (OpenSpec.ofChange fnExactEpiRatioSpec)

/-- ITS FALSE NEIGHBOUR: 'it returns false'. Refute it at one input. -/
def fnExactEpiRatioWrong : ChangeSpec := { name := "fnExactEpiRatio", vars := ["loop.example/g00921/impl.planetSines"], fn := fun _ => fun
  | [d1, d2, d3, g1] => { results := [.lit (.bool false)], args := [d1, d2, d3], vars := [g1] }
  | _ => none }
def FnExactEpiRatioWrongFalsely : Prop := fnExactEpiRatioRow.holds Tryd.pinned (OpenSpec.ofChange fnExactEpiRatioWrong)

/-- 'laws.FnExactEpisFor': WHATEVER THE INPUT: true; the input reads as it did. -/
def fnExactEpisForSpec : ChangeSpec := { name := "fnExactEpisFor", vars := ["loop.example/g00921/impl.planetSines"], fn := fun _ => fun
  | [d1, d2, d3, d4, g1] => { results := [.lit (.bool true)], args := [d1, d2, d3, d4], vars := [g1] }
  | _ => none }
def fnExactEpisForRow : OpenClaim := { program := "ytcklcledchboiaadoor", sum := "963c5c6909c3de5955a21edd1321dd6ec90180819172781bb60db2f64535c9cd", func := "loop.example/g00921/laws.FnExactEpisFor", spec := "fnExactEpisFor", unfollowed := true, recurses := true, named := ["loop.example/g00921/impl.planetSines"], apart := false, laid := [("loop.example/g00921/impl.planetSines", laid_loop_example_g00921_impl_planetSines)] }
def FnExactEpisForSaid : Prop := fnExactEpisForRow.holds Tryd.pinned (OpenSpec.ofChange fnExactEpisForSpec)

/-- ITS FALSE NEIGHBOUR: 'it returns false'. Refute it at one input. -/
def fnExactEpisForWrong : ChangeSpec := { name := "fnExactEpisFor", vars := ["loop.example/g00921/impl.planetSines"], fn := fun _ => fun
  | [d1, d2, d3, d4, g1] => { results := [.lit (.bool false)], args := [d1, d2, d3, d4], vars := [g1] }
  | _ => none }
def FnExactEpisForWrongFalsely : Prop := fnExactEpisForRow.holds Tryd.pinned (OpenSpec.ofChange fnExactEpisForWrong)

/-- 'laws.FnExactCageOf': WHATEVER THE INPUT: true; the input reads as it did. -/
def fnExactCageOfSpec : ChangeSpec := { name := "fnExactCageOf", vars := ["loop.example/g00921/impl.errNoDivisor", "loop.example/g00921/impl.errTermRange"], fn := fun _ => fun
  | [d1, d2, g1, g2] => { results := [.lit (.bool true)], args := [d1, d2], vars := [g1, g2] }
  | _ => none }
def fnExactCageOfRow : OpenClaim := { program := "ytcklcledchboiaadoor", sum := "963c5c6909c3de5955a21edd1321dd6ec90180819172781bb60db2f64535c9cd", func := "loop.example/g00921/laws.FnExactCageOf", spec := "fnExactCageOf", inPlace := ["internal/reflectlite.TypeOf"], unfollowed := true, recurses := true, named := ["loop.example/g00921/impl.errNoDivisor", "loop.example/g00921/impl.errTermRange"], ifaces := true, apart := false, laid := [("loop.example/g00921/impl.errNoDivisor", laid_loop_example_g00921_impl_errNoDivisor), ("loop.example/g00921/impl.errTermRange", laid_loop_example_g00921_impl_errTermRange)] }
def FnExactCageOfSaid : Prop := fnExactCageOfRow.holds Tryd.pinned (OpenSpec.ofChange fnExactCageOfSpec)

/-- ITS FALSE NEIGHBOUR: 'it returns false'. Refute it at one input. -/
def fnExactCageOfWrong : ChangeSpec := { name := "fnExactCageOf", vars := ["loop.example/g00921/impl.errNoDivisor", "loop.example/g00921/impl.errTermRange"], fn := fun _ => fun
  | [d1, d2, g1, g2] => { results := [.lit (.bool false)], args := [d1, d2], vars := [g1, g2] }
  | _ => none }
def FnExactCageOfWrongFalsely : Prop := fnExactCageOfRow.holds Tryd.pinned (OpenSpec.ofChange fnExactCageOfWrong)

/-- 'laws.FnExactSideOf': WHATEVER THE INPUT: true; the input reads as it did. -/
def fnExactSideOfSpec : ChangeSpec := { name := "fnExactSideOf", vars := ["loop.example/g00921/impl.errNoDivisor", "loop.example/g00921/impl.errTermRange"], fn := fun _ => fun
  | [d1, d2, g1, g2] => { results := [.lit (.bool true)], args := [d1, d2], vars := [g1, g2] }
  | _ => none }
def fnExactSideOfRow : OpenClaim := { program := "ytcklcledchboiaadoor", sum := "963c5c6909c3de5955a21edd1321dd6ec90180819172781bb60db2f64535c9cd", func := "loop.example/g00921/laws.FnExactSideOf", spec := "fnExactSideOf", inPlace := ["internal/reflectlite.TypeOf"], unfollowed := true, recurses := true, named := ["loop.example/g00921/impl.errNoDivisor", "loop.example/g00921/impl.errTermRange"], ifaces := true, apart := false, laid := [("loop.example/g00921/impl.errNoDivisor", laid_loop_example_g00921_impl_errNoDivisor), ("loop.example/g00921/impl.errTermRange", laid_loop_example_g00921_impl_errTermRange)] }
def FnExactSideOfSaid : Prop := fnExactSideOfRow.holds Tryd.pinned (OpenSpec.ofChange fnExactSideOfSpec)

/-- ITS FALSE NEIGHBOUR: 'it returns false'. Refute it at one input. -/
def fnExactSideOfWrong : ChangeSpec := { name := "fnExactSideOf", vars := ["loop.example/g00921/impl.errNoDivisor", "loop.example/g00921/impl.errTermRange"], fn := fun _ => fun
  | [d1, d2, g1, g2] => { results := [.lit (.bool false)], args := [d1, d2], vars := [g1, g2] }
  | _ => none }
def FnExactSideOfWrongFalsely : Prop := fnExactSideOfRow.holds Tryd.pinned (OpenSpec.ofChange fnExactSideOfWrong)

/-- 'laws.FnExactEpiText': WHATEVER THE INPUT: true; the input reads as it did. -/
def fnExactEpiTextSpec : ChangeSpec := { name := "fnExactEpiText", vars := ["loop.example/g00921/impl.planetSines"], fn := fun _ => fun
  | [d, g1] => { results := [.lit (.bool true)], args := [d], vars := [g1] }
  | _ => none }
def fnExactEpiTextRow : OpenClaim := { program := "ytcklcledchboiaadoor", sum := "963c5c6909c3de5955a21edd1321dd6ec90180819172781bb60db2f64535c9cd", func := "loop.example/g00921/laws.FnExactEpiText", spec := "fnExactEpiText", unfollowed := true, recurses := true, named := ["loop.example/g00921/impl.planetSines", "internal/strconv.uint64pow10", "math/bits.deBruijn32tab", "math/bits.deBruijn64tab"], apart := false, laid := [("math/bits.deBruijn32tab", laid_math_bits_deBruijn32tab), ("math/bits.deBruijn64tab", laid_math_bits_deBruijn64tab), ("internal/strconv.uint64pow10", laid_internal_strconv_uint64pow10), ("loop.example/g00921/impl.planetSines", laid_loop_example_g00921_impl_planetSines)] }
def FnExactEpiTextSaid : Prop := fnExactEpiTextRow.holds Tryd.pinned (OpenSpec.ofChange fnExactEpiTextSpec)

/-- ITS FALSE NEIGHBOUR: 'it returns false'. Refute it at one input. -/
def fnExactEpiTextWrong : ChangeSpec := { name := "fnExactEpiText", vars := ["loop.example/g00921/impl.planetSines"], fn := fun _ => fun
  | [d, g1] => { results := [.lit (.bool false)], args := [d], vars := [g1] }
  | _ => none }
def FnExactEpiTextWrongFalsely : Prop := fnExactEpiTextRow.holds Tryd.pinned (OpenSpec.ofChange fnExactEpiTextWrong)

/-- 'laws.FnExactReadEpi': WHATEVER THE INPUT: true; the input reads as it did. -/
def fnExactReadEpiSpec : ChangeSpec := { name := "fnExactReadEpi", vars := ["loop.example/g00921/impl.planetSines"], fn := fun _ => fun
  | [d, g1] => { results := [.lit (.bool true)], args := [d], vars := [g1] }
  | _ => none }
def fnExactReadEpiRow : OpenClaim := { program := "ytcklcledchboiaadoor", sum := "963c5c6909c3de5955a21edd1321dd6ec90180819172781bb60db2f64535c9cd", func := "loop.example/g00921/laws.FnExactReadEpi", spec := "fnExactReadEpi", unfollowed := true, recurses := true, named := ["strconv.ErrSyntax", "strconv.ErrRange", "internal/strconv.uint64pow10", "math/bits.deBruijn32tab", "math/bits.deBruijn64tab", "loop.example/g00921/impl.planetSines"], apart := false, laid := [("math/bits.deBruijn32tab", laid_math_bits_deBruijn32tab), ("math/bits.deBruijn64tab", laid_math_bits_deBruijn64tab), ("internal/strconv.uint64pow10", laid_internal_strconv_uint64pow10), ("strconv.ErrRange", laid_strconv_ErrRange), ("strconv.ErrSyntax", laid_strconv_ErrSyntax), ("loop.example/g00921/impl.planetSines", laid_loop_example_g00921_impl_planetSines)] }
def FnExactReadEpiSaid : Prop := fnExactReadEpiRow.holds Tryd.pinned (OpenSpec.ofChange fnExactReadEpiSpec)

/-- ITS FALSE NEIGHBOUR: 'it returns false'. Refute it at one input. -/
def fnExactReadEpiWrong : ChangeSpec := { name := "fnExactReadEpi", vars := ["loop.example/g00921/impl.planetSines"], fn := fun _ => fun
  | [d, g1] => { results := [.lit (.bool false)], args := [d], vars := [g1] }
  | _ => none }
def FnExactReadEpiWrongFalsely : Prop := fnExactReadEpiRow.holds Tryd.pinned (OpenSpec.ofChange fnExactReadEpiWrong)

/- THE SECOND FORM. 'bulk': how many values and letters a reading holds, each counted each time it is reached (what is shared counts as often as it is met; a slice's spare places count too). A statement '..UptoSaid' is the law's where the arguments, and the package variables that the reading takes, are together of bulk at most 1048576: NARROWER than '..Said'. Prove '..Said' where nothing that the law and all that it calls make is longer than what came in: it says more and counts as full. Else prove '..UptoSaid'. A law counts once. -/
mutual
def uptoBulk {H : Type} : DataW H → Nat
  | .lit (.string bytes) => bytes.length + 1
  | .lit _ => 1
  | .nil => 1
  | .ptr d => uptoBulk d + 1
  | .slice elems spare => uptoBulkAll elems + uptoBulkAll spare + 1
  | .agg parts => uptoBulkAll parts + 1
  | .iface _ d => uptoBulk d + 1
  | .map entries => uptoBulkEntries entries + 1
  | .held _ => 1
def uptoBulkAll {H : Type} : List (DataW H) → Nat
  | [] => 0
  | d :: r => uptoBulk d + uptoBulkAll r
def uptoBulkEntries {H : Type} : List (Lit × DataW H) → Nat
  | [] => 0
  | x :: r => uptoBulkEntry x + uptoBulkEntries r
def uptoBulkEntry {H : Type} : Lit × DataW H → Nat
  | (.string bytes, d) => bytes.length + uptoBulk d + 1
  | (_, d) => uptoBulk d + 1
 end
def uptoSmall : (H : Type) → List (DataW H) → Bool := fun _ ds => decide (uptoBulkAll ds ≤ 1048576)
def OpenSpec.upto (s : _root_.Go.ChangeSpec) : _root_.Go.OpenSpec := { _root_.Go.OpenSpec.ofChange s with cond := some uptoSmall }

/-- 'laws.FnEpis', WHERE WHAT IT READS IS OF BULK AT MOST 1048576: true; the input reads as it did. -/
def fnEpisUptoRow : OpenClaim := { program := "ytcklcledchboiaadoor", sum := "963c5c6909c3de5955a21edd1321dd6ec90180819172781bb60db2f64535c9cd", func := "loop.example/g00921/laws.FnEpis", spec := "fnEpis", inPlace := ["internal/reflectlite.TypeOf"], unfollowed := true, recurses := true, named := ["loop.example/g00921/impl.planetSines", "loop.example/g00921/impl.errNoDivisor", "loop.example/g00921/impl.errTermRange"], ifaces := true, apart := false, laid := [("loop.example/g00921/impl.errNoDivisor", laid_loop_example_g00921_impl_errNoDivisor), ("loop.example/g00921/impl.errTermRange", laid_loop_example_g00921_impl_errTermRange), ("loop.example/g00921/impl.planetSines", laid_loop_example_g00921_impl_planetSines)], narrowed := true }
def FnEpisUptoSaid : Prop := fnEpisUptoRow.holds Tryd.pinned (OpenSpec.upto fnEpisSpec)

/-- 'laws.FnExactEpiFaults', WHERE WHAT IT READS IS OF BULK AT MOST 1048576: true; the input reads as it did. -/
def fnExactEpiFaultsUptoRow : OpenClaim := { program := "ytcklcledchboiaadoor", sum := "963c5c6909c3de5955a21edd1321dd6ec90180819172781bb60db2f64535c9cd", func := "loop.example/g00921/laws.FnExactEpiFaults", spec := "fnExactEpiFaults", unfollowed := true, recurses := true, named := ["loop.example/g00921/impl.planetSines"], apart := false, laid := [("loop.example/g00921/impl.planetSines", laid_loop_example_g00921_impl_planetSines)], narrowed := true }
def FnExactEpiFaultsUptoSaid : Prop := fnExactEpiFaultsUptoRow.holds Tryd.pinned (OpenSpec.upto fnExactEpiFaultsSpec)

/-- 'laws.FnExactValidEpi', WHERE WHAT IT READS IS OF BULK AT MOST 1048576: true; the input reads as it did. -/
def fnExactValidEpiUptoRow : OpenClaim := { program := "ytcklcledchboiaadoor", sum := "963c5c6909c3de5955a21edd1321dd6ec90180819172781bb60db2f64535c9cd", func := "loop.example/g00921/laws.FnExactValidEpi", spec := "fnExactValidEpi", unfollowed := true, recurses := true, named := ["loop.example/g00921/impl.planetSines"], apart := false, laid := [("loop.example/g00921/impl.planetSines", laid_loop_example_g00921_impl_planetSines)], narrowed := true }
def FnExactValidEpiUptoSaid : Prop := fnExactValidEpiUptoRow.holds Tryd.pinned (OpenSpec.upto fnExactValidEpiSpec)

/-- 'laws.FnExactSunOf', WHERE WHAT IT READS IS OF BULK AT MOST 1048576: true; the input reads as it did. -/
def fnExactSunOfUptoRow : OpenClaim := { program := "ytcklcledchboiaadoor", sum := "963c5c6909c3de5955a21edd1321dd6ec90180819172781bb60db2f64535c9cd", func := "loop.example/g00921/laws.FnExactSunOf", spec := "fnExactSunOf", inPlace := ["internal/reflectlite.TypeOf"], unfollowed := true, recurses := true, named := ["loop.example/g00921/impl.planetSines", "loop.example/g00921/impl.errNoDivisor", "loop.example/g00921/impl.errTermRange"], ifaces := true, apart := false, laid := [("loop.example/g00921/impl.errNoDivisor", laid_loop_example_g00921_impl_errNoDivisor), ("loop.example/g00921/impl.errTermRange", laid_loop_example_g00921_impl_errTermRange), ("loop.example/g00921/impl.planetSines", laid_loop_example_g00921_impl_planetSines)], narrowed := true }
def FnExactSunOfUptoSaid : Prop := fnExactSunOfUptoRow.holds Tryd.pinned (OpenSpec.upto fnExactSunOfSpec)

/-- 'laws.FnExactRingOf', WHERE WHAT IT READS IS OF BULK AT MOST 1048576: true; the input reads as it did. -/
def fnExactRingOfUptoRow : OpenClaim := { program := "ytcklcledchboiaadoor", sum := "963c5c6909c3de5955a21edd1321dd6ec90180819172781bb60db2f64535c9cd", func := "loop.example/g00921/laws.FnExactRingOf", spec := "fnExactRingOf", inPlace := ["internal/reflectlite.TypeOf"], unfollowed := true, recurses := true, named := ["loop.example/g00921/impl.planetSines", "loop.example/g00921/impl.errNoDivisor", "loop.example/g00921/impl.errTermRange"], ifaces := true, apart := false, laid := [("loop.example/g00921/impl.errNoDivisor", laid_loop_example_g00921_impl_errNoDivisor), ("loop.example/g00921/impl.errTermRange", laid_loop_example_g00921_impl_errTermRange), ("loop.example/g00921/impl.planetSines", laid_loop_example_g00921_impl_planetSines)], narrowed := true }
def FnExactRingOfUptoSaid : Prop := fnExactRingOfUptoRow.holds Tryd.pinned (OpenSpec.upto fnExactRingOfSpec)

/-- 'laws.FnExactCarrierOf', WHERE WHAT IT READS IS OF BULK AT MOST 1048576: true; the input reads as it did. -/
def fnExactCarrierOfUptoRow : OpenClaim := { program := "ytcklcledchboiaadoor", sum := "963c5c6909c3de5955a21edd1321dd6ec90180819172781bb60db2f64535c9cd", func := "loop.example/g00921/laws.FnExactCarrierOf", spec := "fnExactCarrierOf", inPlace := ["internal/reflectlite.TypeOf"], unfollowed := true, recurses := true, named := ["loop.example/g00921/impl.planetSines", "loop.example/g00921/impl.errNoDivisor", "loop.example/g00921/impl.errTermRange"], ifaces := true, apart := false, laid := [("loop.example/g00921/impl.errNoDivisor", laid_loop_example_g00921_impl_errNoDivisor), ("loop.example/g00921/impl.errTermRange", laid_loop_example_g00921_impl_errTermRange), ("loop.example/g00921/impl.planetSines", laid_loop_example_g00921_impl_planetSines)], narrowed := true }
def FnExactCarrierOfUptoSaid : Prop := fnExactCarrierOfUptoRow.holds Tryd.pinned (OpenSpec.upto fnExactCarrierOfSpec)

/-- 'laws.FnExactPlanetOf', WHERE WHAT IT READS IS OF BULK AT MOST 1048576: true; the input reads as it did. -/
def fnExactPlanetOfUptoRow : OpenClaim := { program := "ytcklcledchboiaadoor", sum := "963c5c6909c3de5955a21edd1321dd6ec90180819172781bb60db2f64535c9cd", func := "loop.example/g00921/laws.FnExactPlanetOf", spec := "fnExactPlanetOf", inPlace := ["internal/reflectlite.TypeOf"], unfollowed := true, recurses := true, named := ["loop.example/g00921/impl.planetSines", "loop.example/g00921/impl.errNoDivisor", "loop.example/g00921/impl.errTermRange"], ifaces := true, apart := false, laid := [("loop.example/g00921/impl.errNoDivisor", laid_loop_example_g00921_impl_errNoDivisor), ("loop.example/g00921/impl.errTermRange", laid_loop_example_g00921_impl_errTermRange), ("loop.example/g00921/impl.planetSines", laid_loop_example_g00921_impl_planetSines)], narrowed := true }
def FnExactPlanetOfUptoSaid : Prop := fnExactPlanetOfUptoRow.holds Tryd.pinned (OpenSpec.upto fnExactPlanetOfSpec)

/-- 'laws.FnExactEpiRatio', WHERE WHAT IT READS IS OF BULK AT MOST 1048576: true; the input reads as it did. -/
def fnExactEpiRatioUptoRow : OpenClaim := { program := "ytcklcledchboiaadoor", sum := "963c5c6909c3de5955a21edd1321dd6ec90180819172781bb60db2f64535c9cd", func := "loop.example/g00921/laws.FnExactEpiRatio", spec := "fnExactEpiRatio", unfollowed := true, recurses := true, named := ["loop.example/g00921/impl.planetSines"], apart := false, laid := [("loop.example/g00921/impl.planetSines", laid_loop_example_g00921_impl_planetSines)], narrowed := true }
def FnExactEpiRatioUptoSaid : Prop := fnExactEpiRatioUptoRow.holds Tryd.pinned (OpenSpec.upto fnExactEpiRatioSpec)

/-- 'laws.FnExactEpisFor', WHERE WHAT IT READS IS OF BULK AT MOST 1048576: true; the input reads as it did. -/
def fnExactEpisForUptoRow : OpenClaim := { program := "ytcklcledchboiaadoor", sum := "963c5c6909c3de5955a21edd1321dd6ec90180819172781bb60db2f64535c9cd", func := "loop.example/g00921/laws.FnExactEpisFor", spec := "fnExactEpisFor", unfollowed := true, recurses := true, named := ["loop.example/g00921/impl.planetSines"], apart := false, laid := [("loop.example/g00921/impl.planetSines", laid_loop_example_g00921_impl_planetSines)], narrowed := true }
def FnExactEpisForUptoSaid : Prop := fnExactEpisForUptoRow.holds Tryd.pinned (OpenSpec.upto fnExactEpisForSpec)

/-- 'laws.FnExactCageOf', WHERE WHAT IT READS IS OF BULK AT MOST 1048576: true; the input reads as it did. -/
def fnExactCageOfUptoRow : OpenClaim := { program := "ytcklcledchboiaadoor", sum := "963c5c6909c3de5955a21edd1321dd6ec90180819172781bb60db2f64535c9cd", func := "loop.example/g00921/laws.FnExactCageOf", spec := "fnExactCageOf", inPlace := ["internal/reflectlite.TypeOf"], unfollowed := true, recurses := true, named := ["loop.example/g00921/impl.errNoDivisor", "loop.example/g00921/impl.errTermRange"], ifaces := true, apart := false, laid := [("loop.example/g00921/impl.errNoDivisor", laid_loop_example_g00921_impl_errNoDivisor), ("loop.example/g00921/impl.errTermRange", laid_loop_example_g00921_impl_errTermRange)], narrowed := true }
def FnExactCageOfUptoSaid : Prop := fnExactCageOfUptoRow.holds Tryd.pinned (OpenSpec.upto fnExactCageOfSpec)

/-- 'laws.FnExactSideOf', WHERE WHAT IT READS IS OF BULK AT MOST 1048576: true; the input reads as it did. -/
def fnExactSideOfUptoRow : OpenClaim := { program := "ytcklcledchboiaadoor", sum := "963c5c6909c3de5955a21edd1321dd6ec90180819172781bb60db2f64535c9cd", func := "loop.example/g00921/laws.FnExactSideOf", spec := "fnExactSideOf", inPlace := ["internal/reflectlite.TypeOf"], unfollowed := true, recurses := true, named := ["loop.example/g00921/impl.errNoDivisor", "loop.example/g00921/impl.errTermRange"], ifaces := true, apart := false, laid := [("loop.example/g00921/impl.errNoDivisor", laid_loop_example_g00921_impl_errNoDivisor), ("loop.example/g00921/impl.errTermRange", laid_loop_example_g00921_impl_errTermRange)], narrowed := true }
def FnExactSideOfUptoSaid : Prop := fnExactSideOfUptoRow.holds Tryd.pinned (OpenSpec.upto fnExactSideOfSpec)

/-- 'laws.FnExactEpiText', WHERE WHAT IT READS IS OF BULK AT MOST 1048576: true; the input reads as it did. -/
def fnExactEpiTextUptoRow : OpenClaim := { program := "ytcklcledchboiaadoor", sum := "963c5c6909c3de5955a21edd1321dd6ec90180819172781bb60db2f64535c9cd", func := "loop.example/g00921/laws.FnExactEpiText", spec := "fnExactEpiText", unfollowed := true, recurses := true, named := ["loop.example/g00921/impl.planetSines", "internal/strconv.uint64pow10", "math/bits.deBruijn32tab", "math/bits.deBruijn64tab"], apart := false, laid := [("math/bits.deBruijn32tab", laid_math_bits_deBruijn32tab), ("math/bits.deBruijn64tab", laid_math_bits_deBruijn64tab), ("internal/strconv.uint64pow10", laid_internal_strconv_uint64pow10), ("loop.example/g00921/impl.planetSines", laid_loop_example_g00921_impl_planetSines)], narrowed := true }
def FnExactEpiTextUptoSaid : Prop := fnExactEpiTextUptoRow.holds Tryd.pinned (OpenSpec.upto fnExactEpiTextSpec)

/-- 'laws.FnExactReadEpi', WHERE WHAT IT READS IS OF BULK AT MOST 1048576: true; the input reads as it did. -/
def fnExactReadEpiUptoRow : OpenClaim := { program := "ytcklcledchboiaadoor", sum := "963c5c6909c3de5955a21edd1321dd6ec90180819172781bb60db2f64535c9cd", func := "loop.example/g00921/laws.FnExactReadEpi", spec := "fnExactReadEpi", unfollowed := true, recurses := true, named := ["strconv.ErrSyntax", "strconv.ErrRange", "internal/strconv.uint64pow10", "math/bits.deBruijn32tab", "math/bits.deBruijn64tab", "loop.example/g00921/impl.planetSines"], apart := false, laid := [("math/bits.deBruijn32tab", laid_math_bits_deBruijn32tab), ("math/bits.deBruijn64tab", laid_math_bits_deBruijn64tab), ("internal/strconv.uint64pow10", laid_internal_strconv_uint64pow10), ("strconv.ErrRange", laid_strconv_ErrRange), ("strconv.ErrSyntax", laid_strconv_ErrSyntax), ("loop.example/g00921/impl.planetSines", laid_loop_example_g00921_impl_planetSines)], narrowed := true }
def FnExactReadEpiUptoSaid : Prop := fnExactReadEpiUptoRow.holds Tryd.pinned (OpenSpec.upto fnExactReadEpiSpec)

end Rows
end Go.Proofs.YtcklcledchboiaaDoor

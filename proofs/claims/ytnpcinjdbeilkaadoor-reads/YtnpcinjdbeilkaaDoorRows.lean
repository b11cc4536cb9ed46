/-
  NARROWER THAN 'FOR EVERY INPUT', by the rows' own cells (each row's printed sentence says how): Reads: laid · Catches: laid · Told: laid · Anyhow: laid · More: laid · Leaves: laid.
  DERIVED. THE GIVEN ROWS OF THIS SEAT. 6 by the template 'for every input the law returns true; each argument reads behind the call as it read before'; 0 by the template 'total and deterministic' (their statements: YtnpcinjdbeilkaaDoorTotals.lean).
  GIVEN WITH THE SEED: the statements are not yours to turn. If you find one false, say at which input.
  Laid BY PROGRAM, IN A SANDBOX (cutbox-rows.mjs): the forced cells as the released guide's own fill.sh prints them over the translation 0613c9ac54dd0df6… (all of the seat's roots in one cut). By AI agents, Wed Nov 11 2026. No macro, syntax, notation, axiom, sorry.
-/
import Derived.Test.YtnpcinjdbeilkaaDoorChecked
import GoSem.Claim
import GoSem.ClaimJoined
import GoSem.ClaimMapViews
import Derived.JoinedTies
import Derived.KernelRfl
namespace Go.Proofs.YtnpcinjdbeilkaaDoor
/- THE CELL 'sum', in the pinned program and in every row, IS THE sha256 OF THE DUMP (.gsa) THAT YtnpcinjdbeilkaaDoorProg.lean LOADS. Nothing in Lean hashes anything: it is a label: what it is worth is what the hold of that sum in a sandbox is worth. -/
noncomputable def Tryd.pinned : Pinned := { name := "ytnpcinjdbeilkaadoor", sum := "0613c9ac54dd0df64bca8dfff19fb0d6ab2c7359471789485a74302e9323d97b", checked := Tryd.checked }
namespace Rows
def none {H : Type} : Left H := { results := [], args := [] }

/- WHAT THE LISTED PACKAGE-LEVEL VARIABLES READ AS WHEN THE CALL BEGINS. Each datum BY PROGRAM (the guide's laid-datum.mjs) off the statement by which the dump's own 'gosem.cut.vars' lays the variable. In a bare row this is a premise. The card (YtnpcinjdbeilkaaDoorCards.lean) ties it to the program's text. -/
def laid_errors_errorType {H : Type} : DataW H := .iface "internal/reflectlite.rtype" (.agg [.ptr (.lit (.string [101, 114, 114, 111, 114]))])
def laid_spring_pool_ErrContrary {H : Type} : DataW H := .iface "*errors.errorString" (.ptr (.agg [.lit (.string [110, 111, 32, 116, 101, 120, 116, 32, 102, 105, 116, 115])]))
def laid_spring_pool_ErrNoBlock {H : Type} : DataW H := .iface "*errors.errorString" (.ptr (.agg [.lit (.string [116, 104, 101, 114, 101, 32, 105, 115, 32, 110, 111, 32, 115, 117, 99, 104, 32, 98, 108, 111, 99, 107])]))
def laid_spring_pool_ErrCertain {H : Type} : DataW H := .iface "*errors.errorString" (.ptr (.agg [.lit (.string [116, 104, 101, 32, 98, 108, 111, 99, 107, 32, 105, 115, 32, 99, 101, 114, 116, 97, 105, 110])]))
def laid_spring_wire_ErrHead {H : Type} : DataW H := .iface "*errors.errorString" (.ptr (.agg [.lit (.string [116, 104, 101, 32, 100, 114, 111, 112, 32, 101, 110, 100, 115, 32, 97, 104, 101, 97, 100, 32, 111, 102, 32, 105, 116, 115, 32, 100, 97, 116, 97])]))
def laid_spring_wire_ErrLength {H : Type} : DataW H := .iface "*errors.errorString" (.ptr (.agg [.lit (.string [110, 111, 32, 116, 101, 120, 116, 32, 116, 104, 97, 116, 32, 99, 97, 110, 32, 98, 101, 32, 115, 101, 110, 116, 32, 104, 97, 115, 32, 116, 104, 105, 115, 32, 108, 101, 110, 103, 116, 104])]))
def laid_spring_wire_ErrSize {H : Type} : DataW H := .iface "*errors.errorString" (.ptr (.agg [.lit (.string [110, 111, 32, 116, 101, 120, 116, 32, 111, 102, 32, 116, 104, 105, 115, 32, 108, 101, 110, 103, 116, 104, 32, 105, 115, 32, 115, 101, 110, 116, 32, 105, 110, 32, 98, 108, 111, 99, 107, 115, 32, 111, 102, 32, 116, 104, 105, 115, 32, 115, 105, 122, 101])]))
def laid_spring_wire_ErrEnd {H : Type} : DataW H := .iface "*errors.errorString" (.ptr (.agg [.lit (.string [116, 104, 101, 32, 100, 114, 111, 112, 32, 100, 111, 101, 115, 32, 110, 111, 116, 32, 101, 110, 100, 32, 119, 104, 101, 114, 101, 32, 105, 116, 115, 32, 115, 105, 122, 101, 32, 115, 97, 121, 115])]))
def laid_spring_wire_ErrSum {H : Type} : DataW H := .iface "*errors.errorString" (.ptr (.agg [.lit (.string [116, 104, 101, 32, 115, 117, 109, 32, 105, 115, 32, 110, 111, 116, 32, 116, 104, 97, 116, 32, 111, 102, 32, 116, 104, 101, 32, 98, 121, 116, 101, 115, 32, 97, 104, 101, 97, 100, 32, 111, 102, 32, 105, 116])]))
def laid_spring_wire_ErrStray {H : Type} : DataW H := .iface "*errors.errorString" (.ptr (.agg [.lit (.string [97, 32, 98, 121, 116, 101, 32, 98, 101, 104, 105, 110, 100, 32, 116, 104, 101, 32, 116, 101, 120, 116, 39, 115, 32, 101, 110, 100, 32, 105, 115, 32, 110, 111, 116, 32, 48])]))
def laid_spring_gather_ErrMany {H : Type} : DataW H := .iface "*errors.errorString" (.ptr (.agg [.lit (.string [116, 104, 101, 114, 101, 32, 97, 114, 101, 32, 116, 111, 111, 32, 109, 97, 110, 121, 32, 100, 114, 111, 112, 115])]))
def laid_spring_gather_ErrNone {H : Type} : DataW H := .iface "*errors.errorString" (.ptr (.agg [.lit (.string [116, 104, 101, 114, 101, 32, 105, 115, 32, 110, 111, 32, 100, 114, 111, 112])]))
def laid_math_bits_deBruijn64tab {H : Type} : DataW H := .agg [.lit (.int .u8 0), .lit (.int .u8 1), .lit (.int .u8 56), .lit (.int .u8 2), .lit (.int .u8 57), .lit (.int .u8 49), .lit (.int .u8 28), .lit (.int .u8 3), .lit (.int .u8 61), .lit (.int .u8 58), .lit (.int .u8 42), .lit (.int .u8 50), .lit (.int .u8 38), .lit (.int .u8 29), .lit (.int .u8 17), .lit (.int .u8 4), .lit (.int .u8 62), .lit (.int .u8 47), .lit (.int .u8 59), .lit (.int .u8 36), .lit (.int .u8 45), .lit (.int .u8 43), .lit (.int .u8 51), .lit (.int .u8 22), .lit (.int .u8 53), .lit (.int .u8 39), .lit (.int .u8 33), .lit (.int .u8 30), .lit (.int .u8 24), .lit (.int .u8 18), .lit (.int .u8 12), .lit (.int .u8 5), .lit (.int .u8 63), .lit (.int .u8 55), .lit (.int .u8 48), .lit (.int .u8 27), .lit (.int .u8 60), .lit (.int .u8 41), .lit (.int .u8 37), .lit (.int .u8 16), .lit (.int .u8 46), .lit (.int .u8 35), .lit (.int .u8 44), .lit (.int .u8 21), .lit (.int .u8 52), .lit (.int .u8 32), .lit (.int .u8 23), .lit (.int .u8 11), .lit (.int .u8 54), .lit (.int .u8 26), .lit (.int .u8 40), .lit (.int .u8 15), .lit (.int .u8 34), .lit (.int .u8 20), .lit (.int .u8 31), .lit (.int .u8 10), .lit (.int .u8 25), .lit (.int .u8 14), .lit (.int .u8 19), .lit (.int .u8 9), .lit (.int .u8 13), .lit (.int .u8 8), .lit (.int .u8 7), .lit (.int .u8 6)]

/-- 'springlaw.Reads': WHATEVER THE INPUT: true; the input reads as it did. -/
def readsSpec : ChangeSpec := { name := "reads", fn := fun _ => fun
  | [d] => { results := [.lit (.bool true)], args := [d] }
  | _ => none }
def readsRow : OpenClaim := { program := "ytnpcinjdbeilkaadoor", sum := "0613c9ac54dd0df64bca8dfff19fb0d6ab2c7359471789485a74302e9323d97b", func := "spring/springlaw.Reads", spec := "reads", inPlace := ["internal/reflectlite.ValueOf", "(internal/reflectlite.Value).Type", "(internal/reflectlite.Value).IsNil", "internal/reflectlite.TypeOf", "(internal/reflectlite.Value).Elem", "(internal/reflectlite.Value).Set"], unfollowed := true, recurses := true, named := ["spring/wire.ErrHead", "spring/wire.ErrLength", "spring/wire.ErrSize", "spring/wire.ErrEnd", "spring/wire.ErrSum", "spring/wire.ErrStray", "spring/pool.ErrContrary", "spring/gather.ErrMany", "spring/gather.ErrNone", "spring/pool.ErrNoBlock", "spring/pool.ErrCertain", "errors.errorType"], plainKeys := false, apart := false, laid := [("errors.errorType", laid_errors_errorType), ("spring/pool.ErrContrary", laid_spring_pool_ErrContrary), ("spring/pool.ErrNoBlock", laid_spring_pool_ErrNoBlock), ("spring/pool.ErrCertain", laid_spring_pool_ErrCertain), ("spring/wire.ErrHead", laid_spring_wire_ErrHead), ("spring/wire.ErrLength", laid_spring_wire_ErrLength), ("spring/wire.ErrSize", laid_spring_wire_ErrSize), ("spring/wire.ErrEnd", laid_spring_wire_ErrEnd), ("spring/wire.ErrSum", laid_spring_wire_ErrSum), ("spring/wire.ErrStray", laid_spring_wire_ErrStray), ("spring/gather.ErrMany", laid_spring_gather_ErrMany), ("spring/gather.ErrNone", laid_spring_gather_ErrNone)] }
def ReadsSaid : Prop := readsRow.holds Tryd.pinned (OpenSpec.ofChange readsSpec)

/-- ITS FALSE NEIGHBOUR: 'it returns false'. Refute it at one input. -/
def readsWrong : ChangeSpec := { name := "reads", fn := fun _ => fun
  | [d] => { results := [.lit (.bool false)], args := [d] }
  | _ => none }
def ReadsWrongFalsely : Prop := readsRow.holds Tryd.pinned (OpenSpec.ofChange readsWrong)

/-- 'springlaw.Catches': WHATEVER THE INPUT: true; the input reads as it did. -/
def catchesSpec : ChangeSpec := { name := "catches", fn := fun _ => fun
  | [d] => { results := [.lit (.bool true)], args := [d] }
  | _ => none }
def catchesRow : OpenClaim := { program := "ytnpcinjdbeilkaadoor", sum := "0613c9ac54dd0df64bca8dfff19fb0d6ab2c7359471789485a74302e9323d97b", func := "spring/springlaw.Catches", spec := "catches", inPlace := ["internal/reflectlite.ValueOf", "(internal/reflectlite.Value).Type", "(internal/reflectlite.Value).IsNil", "internal/reflectlite.TypeOf", "(internal/reflectlite.Value).Elem", "(internal/reflectlite.Value).Set"], unfollowed := true, recurses := true, named := ["spring/gather.ErrMany", "spring/gather.ErrNone", "spring/wire.ErrHead", "spring/wire.ErrLength", "spring/wire.ErrSize", "spring/wire.ErrEnd", "spring/wire.ErrSum", "spring/wire.ErrStray", "spring/pool.ErrContrary", "math/bits.deBruijn64tab", "spring/pool.ErrNoBlock", "spring/pool.ErrCertain", "errors.errorType"], plainKeys := false, apart := false, laid := [("math/bits.deBruijn64tab", laid_math_bits_deBruijn64tab), ("errors.errorType", laid_errors_errorType), ("spring/pool.ErrContrary", laid_spring_pool_ErrContrary), ("spring/pool.ErrNoBlock", laid_spring_pool_ErrNoBlock), ("spring/pool.ErrCertain", laid_spring_pool_ErrCertain), ("spring/wire.ErrHead", laid_spring_wire_ErrHead), ("spring/wire.ErrLength", laid_spring_wire_ErrLength), ("spring/wire.ErrSize", laid_spring_wire_ErrSize), ("spring/wire.ErrEnd", laid_spring_wire_ErrEnd), ("spring/wire.ErrSum", laid_spring_wire_ErrSum), ("spring/wire.ErrStray", laid_spring_wire_ErrStray), ("spring/gather.ErrMany", laid_spring_gather_ErrMany), ("spring/gather.ErrNone", laid_spring_gather_ErrNone)] }
def CatchesSaid : Prop := catchesRow.holds Tryd.pinned (OpenSpec.ofChange catchesSpec)

/-- ITS FALSE NEIGHBOUR: 'it returns false'. Refute it at one input. -/
def catchesWrong : ChangeSpec := { name := "catches", fn := fun _ => fun
  | [d] => { results := [.lit (.bool false)], args := [d] }
  | _ => none }
def CatchesWrongFalsely : Prop := catchesRow.holds Tryd.pinned (OpenSpec.ofChange catchesWrong)

/-- 'springlaw.Told': WHATEVER THE INPUT: true; the input reads as it did. -/
def toldSpec : ChangeSpec := { name := "told", fn := fun _ => fun
  | [d1, d2, d3] => { results := [.lit (.bool true)], args := [d1, d2, d3] }
  | _ => none }
def toldRow : OpenClaim := { program := "ytnpcinjdbeilkaadoor", sum := "0613c9ac54dd0df64bca8dfff19fb0d6ab2c7359471789485a74302e9323d97b", func := "spring/springlaw.Told", spec := "told", inPlace := ["internal/reflectlite.ValueOf", "(internal/reflectlite.Value).Type", "(internal/reflectlite.Value).IsNil", "internal/reflectlite.TypeOf", "(internal/reflectlite.Value).Elem", "(internal/reflectlite.Value).Set"], unfollowed := true, recurses := true, named := ["spring/gather.ErrMany", "spring/gather.ErrNone", "spring/wire.ErrHead", "spring/wire.ErrLength", "spring/wire.ErrSize", "spring/wire.ErrEnd", "spring/wire.ErrSum", "spring/wire.ErrStray", "spring/pool.ErrContrary", "math/bits.deBruijn64tab", "spring/pool.ErrNoBlock", "spring/pool.ErrCertain", "errors.errorType"], plainKeys := false, apart := false, laid := [("math/bits.deBruijn64tab", laid_math_bits_deBruijn64tab), ("errors.errorType", laid_errors_errorType), ("spring/pool.ErrContrary", laid_spring_pool_ErrContrary), ("spring/pool.ErrNoBlock", laid_spring_pool_ErrNoBlock), ("spring/pool.ErrCertain", laid_spring_pool_ErrCertain), ("spring/wire.ErrHead", laid_spring_wire_ErrHead), ("spring/wire.ErrLength", laid_spring_wire_ErrLength), ("spring/wire.ErrSize", laid_spring_wire_ErrSize), ("spring/wire.ErrEnd", laid_spring_wire_ErrEnd), ("spring/wire.ErrSum", laid_spring_wire_ErrSum), ("spring/wire.ErrStray", laid_spring_wire_ErrStray), ("spring/gather.ErrMany", laid_spring_gather_ErrMany), ("spring/gather.ErrNone", laid_spring_gather_ErrNone)] }
def ToldSaid : Prop := toldRow.holds Tryd.pinned (OpenSpec.ofChange toldSpec)

/-- ITS FALSE NEIGHBOUR: 'it returns false'. Refute it at one input. -/
def toldWrong : ChangeSpec := { name := "told", fn := fun _ => fun
  | [d1, d2, d3] => { results := [.lit (.bool false)], args := [d1, d2, d3] }
  | _ => none }
def ToldWrongFalsely : Prop := toldRow.holds Tryd.pinned (OpenSpec.ofChange toldWrong)

/-- 'springlaw.Anyhow': WHATEVER THE INPUT: true; the input reads as it did. -/
def anyhowSpec : ChangeSpec := { name := "anyhow", fn := fun _ => fun
  | [d1, d2, d3, d4] => { results := [.lit (.bool true)], args := [d1, d2, d3, d4] }
  | _ => none }
def anyhowRow : OpenClaim := { program := "ytnpcinjdbeilkaadoor", sum := "0613c9ac54dd0df64bca8dfff19fb0d6ab2c7359471789485a74302e9323d97b", func := "spring/springlaw.Anyhow", spec := "anyhow", inPlace := ["internal/reflectlite.ValueOf", "(internal/reflectlite.Value).Type", "(internal/reflectlite.Value).IsNil", "internal/reflectlite.TypeOf", "(internal/reflectlite.Value).Elem", "(internal/reflectlite.Value).Set"], unfollowed := true, recurses := true, named := ["spring/gather.ErrMany", "spring/gather.ErrNone", "spring/wire.ErrHead", "spring/wire.ErrLength", "spring/wire.ErrSize", "spring/wire.ErrEnd", "spring/wire.ErrSum", "spring/wire.ErrStray", "spring/pool.ErrContrary", "math/bits.deBruijn64tab", "spring/pool.ErrNoBlock", "spring/pool.ErrCertain", "errors.errorType"], plainKeys := false, apart := false, laid := [("math/bits.deBruijn64tab", laid_math_bits_deBruijn64tab), ("errors.errorType", laid_errors_errorType), ("spring/pool.ErrContrary", laid_spring_pool_ErrContrary), ("spring/pool.ErrNoBlock", laid_spring_pool_ErrNoBlock), ("spring/pool.ErrCertain", laid_spring_pool_ErrCertain), ("spring/wire.ErrHead", laid_spring_wire_ErrHead), ("spring/wire.ErrLength", laid_spring_wire_ErrLength), ("spring/wire.ErrSize", laid_spring_wire_ErrSize), ("spring/wire.ErrEnd", laid_spring_wire_ErrEnd), ("spring/wire.ErrSum", laid_spring_wire_ErrSum), ("spring/wire.ErrStray", laid_spring_wire_ErrStray), ("spring/gather.ErrMany", laid_spring_gather_ErrMany), ("spring/gather.ErrNone", laid_spring_gather_ErrNone)] }
def AnyhowSaid : Prop := anyhowRow.holds Tryd.pinned (OpenSpec.ofChange anyhowSpec)

/-- ITS FALSE NEIGHBOUR: 'it returns false'. Refute it at one input. -/
def anyhowWrong : ChangeSpec := { name := "anyhow", fn := fun _ => fun
  | [d1, d2, d3, d4] => { results := [.lit (.bool false)], args := [d1, d2, d3, d4] }
  | _ => none }
def AnyhowWrongFalsely : Prop := anyhowRow.holds Tryd.pinned (OpenSpec.ofChange anyhowWrong)

/-- 'springlaw.More': WHATEVER THE INPUT: true; the input reads as it did. -/
def moreSpec : ChangeSpec := { name := "more", fn := fun _ => fun
  | [d1, d2, d3, d4] => { results := [.lit (.bool true)], args := [d1, d2, d3, d4] }
  | _ => none }
def moreRow : OpenClaim := { program := "ytnpcinjdbeilkaadoor", sum := "0613c9ac54dd0df64bca8dfff19fb0d6ab2c7359471789485a74302e9323d97b", func := "spring/springlaw.More", spec := "more", inPlace := ["internal/reflectlite.ValueOf", "(internal/reflectlite.Value).Type", "(internal/reflectlite.Value).IsNil", "internal/reflectlite.TypeOf", "(internal/reflectlite.Value).Elem", "(internal/reflectlite.Value).Set"], unfollowed := true, recurses := true, named := ["spring/gather.ErrMany", "spring/gather.ErrNone", "spring/wire.ErrHead", "spring/wire.ErrLength", "spring/wire.ErrSize", "spring/wire.ErrEnd", "spring/wire.ErrSum", "spring/wire.ErrStray", "spring/pool.ErrContrary", "math/bits.deBruijn64tab", "spring/pool.ErrNoBlock", "spring/pool.ErrCertain", "errors.errorType"], plainKeys := false, apart := false, laid := [("math/bits.deBruijn64tab", laid_math_bits_deBruijn64tab), ("errors.errorType", laid_errors_errorType), ("spring/pool.ErrContrary", laid_spring_pool_ErrContrary), ("spring/pool.ErrNoBlock", laid_spring_pool_ErrNoBlock), ("spring/pool.ErrCertain", laid_spring_pool_ErrCertain), ("spring/wire.ErrHead", laid_spring_wire_ErrHead), ("spring/wire.ErrLength", laid_spring_wire_ErrLength), ("spring/wire.ErrSize", laid_spring_wire_ErrSize), ("spring/wire.ErrEnd", laid_spring_wire_ErrEnd), ("spring/wire.ErrSum", laid_spring_wire_ErrSum), ("spring/wire.ErrStray", laid_spring_wire_ErrStray), ("spring/gather.ErrMany", laid_spring_gather_ErrMany), ("spring/gather.ErrNone", laid_spring_gather_ErrNone)] }
def MoreSaid : Prop := moreRow.holds Tryd.pinned (OpenSpec.ofChange moreSpec)

/-- ITS FALSE NEIGHBOUR: 'it returns false'. Refute it at one input. -/
def moreWrong : ChangeSpec := { name := "more", fn := fun _ => fun
  | [d1, d2, d3, d4] => { results := [.lit (.bool false)], args := [d1, d2, d3, d4] }
  | _ => none }
def MoreWrongFalsely : Prop := moreRow.holds Tryd.pinned (OpenSpec.ofChange moreWrong)

/-- 'springlaw.Leaves': WHATEVER THE INPUT: true; the input reads as it did. -/
def leavesSpec : ChangeSpec := { name := "leaves", fn := fun _ => fun
  | [d1, d2, d3] => { results := [.lit (.bool true)], args := [d1, d2, d3] }
  | _ => none }
def leavesRow : OpenClaim := { program := "ytnpcinjdbeilkaadoor", sum := "0613c9ac54dd0df64bca8dfff19fb0d6ab2c7359471789485a74302e9323d97b", func := "spring/springlaw.Leaves", spec := "leaves", inPlace := ["internal/reflectlite.ValueOf", "(internal/reflectlite.Value).Type", "(internal/reflectlite.Value).IsNil", "internal/reflectlite.TypeOf", "(internal/reflectlite.Value).Elem", "(internal/reflectlite.Value).Set"], unfollowed := true, recurses := true, named := ["spring/gather.ErrMany", "spring/gather.ErrNone", "spring/wire.ErrHead", "spring/wire.ErrLength", "spring/wire.ErrSize", "spring/wire.ErrEnd", "spring/wire.ErrSum", "spring/wire.ErrStray", "spring/pool.ErrContrary", "math/bits.deBruijn64tab", "spring/pool.ErrNoBlock", "spring/pool.ErrCertain", "errors.errorType"], plainKeys := false, apart := false, laid := [("math/bits.deBruijn64tab", laid_math_bits_deBruijn64tab), ("errors.errorType", laid_errors_errorType), ("spring/pool.ErrContrary", laid_spring_pool_ErrContrary), ("spring/pool.ErrNoBlock", laid_spring_pool_ErrNoBlock), ("spring/pool.ErrCertain", laid_spring_pool_ErrCertain), ("spring/wire.ErrHead", laid_spring_wire_ErrHead), ("spring/wire.ErrLength", laid_spring_wire_ErrLength), ("spring/wire.ErrSize", laid_spring_wire_ErrSize), ("spring/wire.ErrEnd", laid_spring_wire_ErrEnd), ("spring/wire.ErrSum", laid_spring_wire_ErrSum), ("spring/wire.ErrStray", laid_spring_wire_ErrStray), ("spring/gather.ErrMany", laid_spring_gather_ErrMany), ("spring/gather.ErrNone", laid_spring_gather_ErrNone)] }
def LeavesSaid : Prop := leavesRow.holds Tryd.pinned (OpenSpec.ofChange leavesSpec)

/-- ITS FALSE NEIGHBOUR: 'it returns false'. Refute it at one input. -/
def leavesWrong : ChangeSpec := { name := "leaves", fn := fun _ => fun
  | [d1, d2, d3] => { results := [.lit (.bool false)], args := [d1, d2, d3] }
  | _ => none }
def LeavesWrongFalsely : Prop := leavesRow.holds Tryd.pinned (OpenSpec.ofChange leavesWrong)

/- THE SECOND FORM. 'bulk': how many values and letters a reading holds, each counted each time it is reached (what is shared counts as often as it is met; a slice's spare places count too). A statement '..UptoSaid' is the law's where the arguments, and the package variables that the reading takes, are together of bulk at most 1048576: NARROWER than '..Said'. Prove '..Said' where nothing that the law and all that it calls make is longer than what came in: it says more and counts as full. Else prove '..UptoSaid'. A law counts once. -/
mutual
def uptoBulk {H : Type} : DataW H → Nat
  | .lit (.string bytes) => bytes.length + 1
  | .lit _ => 1
  | .nil => 1
  | .ptr d => uptoBulk d + 1
  | .slice elems spare => uptoBulkAll elems + uptoBulkAll spare + 1
  | .agg parts => uptoBulkAll parts + 1
  | .iface _ d => uptoBulk d + 1
  | .map entries => uptoBulkEntries entries + 1
  | .held _ => 1
def uptoBulkAll {H : Type} : List (DataW H) → Nat
  | [] => 0
  | d :: r => uptoBulk d + uptoBulkAll r
def uptoBulkEntries {H : Type} : List (Lit × DataW H) → Nat
  | [] => 0
  | x :: r => uptoBulkEntry x + uptoBulkEntries r
def uptoBulkEntry {H : Type} : Lit × DataW H → Nat
  | (.string bytes, d) => bytes.length + uptoBulk d + 1
  | (_, d) => uptoBulk d + 1
 end
def uptoSmall : (H : Type) → List (DataW H) → Bool := fun _ ds => decide (uptoBulkAll ds ≤ 1048576)
def OpenSpec.upto (s : _root_.Go.ChangeSpec) : _root_.Go.OpenSpec := { _root_.Go.OpenSpec.ofChange s with cond := some uptoSmall }

/-- 'springlaw.Reads', WHERE WHAT IT READS IS OF BULK AT MOST 1048576: true; the input reads as it did. -/
def readsUptoRow : OpenClaim := { program := "ytnpcinjdbeilkaadoor", sum := "0613c9ac54dd0df64bca8dfff19fb0d6ab2c7359471789485a74302e9323d97b", func := "spring/springlaw.Reads", spec := "reads", inPlace := ["internal/reflectlite.ValueOf", "(internal/reflectlite.Value).Type", "(internal/reflectlite.Value).IsNil", "internal/reflectlite.TypeOf", "(internal/reflectlite.Value).Elem", "(internal/reflectlite.Value).Set"], unfollowed := true, recurses := true, named := ["spring/wire.ErrHead", "spring/wire.ErrLength", "spring/wire.ErrSize", "spring/wire.ErrEnd", "spring/wire.ErrSum", "spring/wire.ErrStray", "spring/pool.ErrContrary", "spring/gather.ErrMany", "spring/gather.ErrNone", "spring/pool.ErrNoBlock", "spring/pool.ErrCertain", "errors.errorType"], plainKeys := false, apart := false, laid := [("errors.errorType", laid_errors_errorType), ("spring/pool.ErrContrary", laid_spring_pool_ErrContrary), ("spring/pool.ErrNoBlock", laid_spring_pool_ErrNoBlock), ("spring/pool.ErrCertain", laid_spring_pool_ErrCertain), ("spring/wire.ErrHead", laid_spring_wire_ErrHead), ("spring/wire.ErrLength", laid_spring_wire_ErrLength), ("spring/wire.ErrSize", laid_spring_wire_ErrSize), ("spring/wire.ErrEnd", laid_spring_wire_ErrEnd), ("spring/wire.ErrSum", laid_spring_wire_ErrSum), ("spring/wire.ErrStray", laid_spring_wire_ErrStray), ("spring/gather.ErrMany", laid_spring_gather_ErrMany), ("spring/gather.ErrNone", laid_spring_gather_ErrNone)], narrowed := true }
def ReadsUptoSaid : Prop := readsUptoRow.holds Tryd.pinned (OpenSpec.upto readsSpec)

/-- 'springlaw.Catches', WHERE WHAT IT READS IS OF BULK AT MOST 1048576: true; the input reads as it did. -/
def catchesUptoRow : OpenClaim := { program := "ytnpcinjdbeilkaadoor", sum := "0613c9ac54dd0df64bca8dfff19fb0d6ab2c7359471789485a74302e9323d97b", func := "spring/springlaw.Catches", spec := "catches", inPlace := ["internal/reflectlite.ValueOf", "(internal/reflectlite.Value).Type", "(internal/reflectlite.Value).IsNil", "internal/reflectlite.TypeOf", "(internal/reflectlite.Value).Elem", "(internal/reflectlite.Value).Set"], unfollowed := true, recurses := true, named := ["spring/gather.ErrMany", "spring/gather.ErrNone", "spring/wire.ErrHead", "spring/wire.ErrLength", "spring/wire.ErrSize", "spring/wire.ErrEnd", "spring/wire.ErrSum", "spring/wire.ErrStray", "spring/pool.ErrContrary", "math/bits.deBruijn64tab", "spring/pool.ErrNoBlock", "spring/pool.ErrCertain", "errors.errorType"], plainKeys := false, apart := false, laid := [("math/bits.deBruijn64tab", laid_math_bits_deBruijn64tab), ("errors.errorType", laid_errors_errorType), ("spring/pool.ErrContrary", laid_spring_pool_ErrContrary), ("spring/pool.ErrNoBlock", laid_spring_pool_ErrNoBlock), ("spring/pool.ErrCertain", laid_spring_pool_ErrCertain), ("spring/wire.ErrHead", laid_spring_wire_ErrHead), ("spring/wire.ErrLength", laid_spring_wire_ErrLength), ("spring/wire.ErrSize", laid_spring_wire_ErrSize), ("spring/wire.ErrEnd", laid_spring_wire_ErrEnd), ("spring/wire.ErrSum", laid_spring_wire_ErrSum), ("spring/wire.ErrStray", laid_spring_wire_ErrStray), ("spring/gather.ErrMany", laid_spring_gather_ErrMany), ("spring/gather.ErrNone", laid_spring_gather_ErrNone)], narrowed := true }
def CatchesUptoSaid : Prop := catchesUptoRow.holds Tryd.pinned (OpenSpec.upto catchesSpec)

/-- 'springlaw.Told', WHERE WHAT IT READS IS OF BULK AT MOST 1048576: true; the input reads as it did. -/
def toldUptoRow : OpenClaim := { program := "ytnpcinjdbeilkaadoor", sum := "0613c9ac54dd0df64bca8dfff19fb0d6ab2c7359471789485a74302e9323d97b", func := "spring/springlaw.Told", spec := "told", inPlace := ["internal/reflectlite.ValueOf", "(internal/reflectlite.Value).Type", "(internal/reflectlite.Value).IsNil", "internal/reflectlite.TypeOf", "(internal/reflectlite.Value).Elem", "(internal/reflectlite.Value).Set"], unfollowed := true, recurses := true, named := ["spring/gather.ErrMany", "spring/gather.ErrNone", "spring/wire.ErrHead", "spring/wire.ErrLength", "spring/wire.ErrSize", "spring/wire.ErrEnd", "spring/wire.ErrSum", "spring/wire.ErrStray", "spring/pool.ErrContrary", "math/bits.deBruijn64tab", "spring/pool.ErrNoBlock", "spring/pool.ErrCertain", "errors.errorType"], plainKeys := false, apart := false, laid := [("math/bits.deBruijn64tab", laid_math_bits_deBruijn64tab), ("errors.errorType", laid_errors_errorType), ("spring/pool.ErrContrary", laid_spring_pool_ErrContrary), ("spring/pool.ErrNoBlock", laid_spring_pool_ErrNoBlock), ("spring/pool.ErrCertain", laid_spring_pool_ErrCertain), ("spring/wire.ErrHead", laid_spring_wire_ErrHead), ("spring/wire.ErrLength", laid_spring_wire_ErrLength), ("spring/wire.ErrSize", laid_spring_wire_ErrSize), ("spring/wire.ErrEnd", laid_spring_wire_ErrEnd), ("spring/wire.ErrSum", laid_spring_wire_ErrSum), ("spring/wire.ErrStray", laid_spring_wire_ErrStray), ("spring/gather.ErrMany", laid_spring_gather_ErrMany), ("spring/gather.ErrNone", laid_spring_gather_ErrNone)], narrowed := true }
def ToldUptoSaid : Prop := toldUptoRow.holds Tryd.pinned (OpenSpec.upto toldSpec)

/-- 'springlaw.Anyhow', WHERE WHAT IT READS IS OF BULK AT MOST 1048576: true; the input reads as it did. -/
def anyhowUptoRow : OpenClaim := { program := "ytnpcinjdbeilkaadoor", sum := "0613c9ac54dd0df64bca8dfff19fb0d6ab2c7359471789485a74302e9323d97b", func := "spring/springlaw.Anyhow", spec := "anyhow", inPlace := ["internal/reflectlite.ValueOf", "(internal/reflectlite.Value).Type", "(internal/reflectlite.Value).IsNil", "internal/reflectlite.TypeOf", "(internal/reflectlite.Value).Elem", "(internal/reflectlite.Value).Set"], unfollowed := true, recurses := true, named := ["spring/gather.ErrMany", "spring/gather.ErrNone", "spring/wire.ErrHead", "spring/wire.ErrLength", "spring/wire.ErrSize", "spring/wire.ErrEnd", "spring/wire.ErrSum", "spring/wire.ErrStray", "spring/pool.ErrContrary", "math/bits.deBruijn64tab", "spring/pool.ErrNoBlock", "spring/pool.ErrCertain", "errors.errorType"], plainKeys := false, apart := false, laid := [("math/bits.deBruijn64tab", laid_math_bits_deBruijn64tab), ("errors.errorType", laid_errors_errorType), ("spring/pool.ErrContrary", laid_spring_pool_ErrContrary), ("spring/pool.ErrNoBlock", laid_spring_pool_ErrNoBlock), ("spring/pool.ErrCertain", laid_spring_pool_ErrCertain), ("spring/wire.ErrHead", laid_spring_wire_ErrHead), ("spring/wire.ErrLength", laid_spring_wire_ErrLength), ("spring/wire.ErrSize", laid_spring_wire_ErrSize), ("spring/wire.ErrEnd", laid_spring_wire_ErrEnd), ("spring/wire.ErrSum", laid_spring_wire_ErrSum), ("spring/wire.ErrStray", laid_spring_wire_ErrStray), ("spring/gather.ErrMany", laid_spring_gather_ErrMany), ("spring/gather.ErrNone", laid_spring_gather_ErrNone)], narrowed := true }
def AnyhowUptoSaid : Prop := anyhowUptoRow.holds Tryd.pinned (OpenSpec.upto anyhowSpec)

/-- 'springlaw.More', WHERE WHAT IT READS IS OF BULK AT MOST 1048576: true; the input reads as it did. -/
def moreUptoRow : OpenClaim := { program := "ytnpcinjdbeilkaadoor", sum := "0613c9ac54dd0df64bca8dfff19fb0d6ab2c7359471789485a74302e9323d97b", func := "spring/springlaw.More", spec := "more", inPlace := ["internal/reflectlite.ValueOf", "(internal/reflectlite.Value).Type", "(internal/reflectlite.Value).IsNil", "internal/reflectlite.TypeOf", "(internal/reflectlite.Value).Elem", "(internal/reflectlite.Value).Set"], unfollowed := true, recurses := true, named := ["spring/gather.ErrMany", "spring/gather.ErrNone", "spring/wire.ErrHead", "spring/wire.ErrLength", "spring/wire.ErrSize", "spring/wire.ErrEnd", "spring/wire.ErrSum", "spring/wire.ErrStray", "spring/pool.ErrContrary", "math/bits.deBruijn64tab", "spring/pool.ErrNoBlock", "spring/pool.ErrCertain", "errors.errorType"], plainKeys := false, apart := false, laid := [("math/bits.deBruijn64tab", laid_math_bits_deBruijn64tab), ("errors.errorType", laid_errors_errorType), ("spring/pool.ErrContrary", laid_spring_pool_ErrContrary), ("spring/pool.ErrNoBlock", laid_spring_pool_ErrNoBlock), ("spring/pool.ErrCertain", laid_spring_pool_ErrCertain), ("spring/wire.ErrHead", laid_spring_wire_ErrHead), ("spring/wire.ErrLength", laid_spring_wire_ErrLength), ("spring/wire.ErrSize", laid_spring_wire_ErrSize), ("spring/wire.ErrEnd", laid_spring_wire_ErrEnd), ("spring/wire.ErrSum", laid_spring_wire_ErrSum), ("spring/wire.ErrStray", laid_spring_wire_ErrStray), ("spring/gather.ErrMany", laid_spring_gather_ErrMany), ("spring/gather.ErrNone", laid_spring_gather_ErrNone)], narrowed := true }
def MoreUptoSaid : Prop := moreUptoRow.holds Tryd.pinned (OpenSpec.upto moreSpec)

/-- 'springlaw.Leaves', WHERE WHAT IT READS IS OF BULK AT MOST 1048576: true; the input reads as it did. -/
def leavesUptoRow : OpenClaim := { program := "ytnpcinjdbeilkaadoor", sum := "0613c9ac54dd0df64bca8dfff19fb0d6ab2c7359471789485a74302e9323d97b", func := "spring/springlaw.Leaves", spec := "leaves", inPlace := ["internal/reflectlite.ValueOf", "(internal/reflectlite.Value).Type", "(internal/reflectlite.Value).IsNil", "internal/reflectlite.TypeOf", "(internal/reflectlite.Value).Elem", "(internal/reflectlite.Value).Set"], unfollowed := true, recurses := true, named := ["spring/gather.ErrMany", "spring/gather.ErrNone", "spring/wire.ErrHead", "spring/wire.ErrLength", "spring/wire.ErrSize", "spring/wire.ErrEnd", "spring/wire.ErrSum", "spring/wire.ErrStray", "spring/pool.ErrContrary", "math/bits.deBruijn64tab", "spring/pool.ErrNoBlock", "spring/pool.ErrCertain", "errors.errorType"], plainKeys := false, apart := false, laid := [("math/bits.deBruijn64tab", laid_math_bits_deBruijn64tab), ("errors.errorType", laid_errors_errorType), ("spring/pool.ErrContrary", laid_spring_pool_ErrContrary), ("spring/pool.ErrNoBlock", laid_spring_pool_ErrNoBlock), ("spring/pool.ErrCertain", laid_spring_pool_ErrCertain), ("spring/wire.ErrHead", laid_spring_wire_ErrHead), ("spring/wire.ErrLength", laid_spring_wire_ErrLength), ("spring/wire.ErrSize", laid_spring_wire_ErrSize), ("spring/wire.ErrEnd", laid_spring_wire_ErrEnd), ("spring/wire.ErrSum", laid_spring_wire_ErrSum), ("spring/wire.ErrStray", laid_spring_wire_ErrStray), ("spring/gather.ErrMany", laid_spring_gather_ErrMany), ("spring/gather.ErrNone", laid_spring_gather_ErrNone)], narrowed := true }
def LeavesUptoSaid : Prop := leavesUptoRow.holds Tryd.pinned (OpenSpec.upto leavesSpec)

end Rows
end Go.Proofs.YtnpcinjdbeilkaaDoor

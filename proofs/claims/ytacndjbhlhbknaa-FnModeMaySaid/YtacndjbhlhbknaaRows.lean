/-
  No cell of these rows narrows 'for every input' (looked for: loops, veiled, ifaces, maps, wideKeys, modest, calm, conditions, laid).
  DERIVED. THE GIVEN ROWS OF THIS SEAT. 16 by the template 'for every input the law returns true; each argument reads behind the call as it read before'; 0 by the template 'total and deterministic' (their statements: YtacndjbhlhbknaaTotals.lean).
  GIVEN WITH THE SEED: the statements are not yours to turn. If you find one false, say at which input.
  Laid BY PROGRAM, IN A SANDBOX (cutbox-rows.mjs): the forced cells as the released guide's own fill.sh prints them over the translation 352c017e8829b492… (all of the seat's roots in one cut). By AI agents, Wed Nov 11 2026. No macro, syntax, notation, axiom, sorry.
-/
import Derived.Test.YtacndjbhlhbknaaChecked
import GoSem.Claim
import GoSem.ClaimJoined
import GoSem.ClaimMapViews
import Derived.JoinedTies
import Derived.KernelRfl
namespace Go.Proofs.Ytacndjbhlhbknaa
/- THE CELL 'sum', in the pinned program and in every row, IS THE sha256 OF THE DUMP (.gsa) THAT YtacndjbhlhbknaaProg.lean LOADS. Nothing in Lean hashes anything: it is a label: what it is worth is what the hold of that sum in a sandbox is worth. -/
noncomputable def Try.pinned : Pinned := { name := "ytacndjbhlhbknaa", sum := "352c017e8829b4925aef181e957086fc30bf4dd2cf21546aff7263061bd33082", checked := Try.checked }
namespace Rows
def none {H : Type} : Left H := { results := [], args := [] }

/-- 'laws.FnCredOk': WHATEVER THE INPUT: true; the input reads as it did. -/
def fnCredOkSpec : ChangeSpec := { name := "fnCredOk", fn := fun _ => fun
  | [d] => { results := [.lit (.bool true)], args := [d] }
  | _ => none }
def fnCredOkRow : OpenClaim := { program := "ytacndjbhlhbknaa", sum := "352c017e8829b4925aef181e957086fc30bf4dd2cf21546aff7263061bd33082", func := "loop.example/quarterdeck/laws.FnCredOk", spec := "fnCredOk", apart := false }
def FnCredOkSaid : Prop := fnCredOkRow.holds Try.pinned (OpenSpec.ofChange fnCredOkSpec)

/-- ITS FALSE NEIGHBOUR: 'it returns false'. Refute it at one input. -/
def fnCredOkWrong : ChangeSpec := { name := "fnCredOk", fn := fun _ => fun
  | [d] => { results := [.lit (.bool false)], args := [d] }
  | _ => none }
def FnCredOkWrongFalsely : Prop := fnCredOkRow.holds Try.pinned (OpenSpec.ofChange fnCredOkWrong)

/-- 'laws.FnModeMay': WHATEVER THE INPUT: true; the input reads as it did. -/
def fnModeMaySpec : ChangeSpec := { name := "fnModeMay", fn := fun _ => fun
  | [d] => { results := [.lit (.bool true)], args := [d] }
  | _ => none }
def fnModeMayRow : OpenClaim := { program := "ytacndjbhlhbknaa", sum := "352c017e8829b4925aef181e957086fc30bf4dd2cf21546aff7263061bd33082", func := "loop.example/quarterdeck/laws.FnModeMay", spec := "fnModeMay", unfollowed := true, recurses := true, apart := false }
def FnModeMaySaid : Prop := fnModeMayRow.holds Try.pinned (OpenSpec.ofChange fnModeMaySpec)

/-- ITS FALSE NEIGHBOUR: 'it returns false'. Refute it at one input. -/
def fnModeMayWrong : ChangeSpec := { name := "fnModeMay", fn := fun _ => fun
  | [d] => { results := [.lit (.bool false)], args := [d] }
  | _ => none }
def FnModeMayWrongFalsely : Prop := fnModeMayRow.holds Try.pinned (OpenSpec.ofChange fnModeMayWrong)

/-- 'laws.FnModeText': WHATEVER THE INPUT: true; the input reads as it did. -/
def fnModeTextSpec : ChangeSpec := { name := "fnModeText", fn := fun _ => fun
  | [d] => { results := [.lit (.bool true)], args := [d] }
  | _ => none }
def fnModeTextRow : OpenClaim := { program := "ytacndjbhlhbknaa", sum := "352c017e8829b4925aef181e957086fc30bf4dd2cf21546aff7263061bd33082", func := "loop.example/quarterdeck/laws.FnModeText", spec := "fnModeText", unfollowed := true, recurses := true, apart := false }
def FnModeTextSaid : Prop := fnModeTextRow.holds Try.pinned (OpenSpec.ofChange fnModeTextSpec)

/-- ITS FALSE NEIGHBOUR: 'it returns false'. Refute it at one input. -/
def fnModeTextWrong : ChangeSpec := { name := "fnModeText", fn := fun _ => fun
  | [d] => { results := [.lit (.bool false)], args := [d] }
  | _ => none }
def FnModeTextWrongFalsely : Prop := fnModeTextRow.holds Try.pinned (OpenSpec.ofChange fnModeTextWrong)

/-- 'laws.FnModeRead': WHATEVER THE INPUT: true; the input reads as it did. -/
def fnModeReadSpec : ChangeSpec := { name := "fnModeRead", fn := fun _ => fun
  | [d] => { results := [.lit (.bool true)], args := [d] }
  | _ => none }
def fnModeReadRow : OpenClaim := { program := "ytacndjbhlhbknaa", sum := "352c017e8829b4925aef181e957086fc30bf4dd2cf21546aff7263061bd33082", func := "loop.example/quarterdeck/laws.FnModeRead", spec := "fnModeRead", unfollowed := true, recurses := true, apart := false }
def FnModeReadSaid : Prop := fnModeReadRow.holds Try.pinned (OpenSpec.ofChange fnModeReadSpec)

/-- ITS FALSE NEIGHBOUR: 'it returns false'. Refute it at one input. -/
def fnModeReadWrong : ChangeSpec := { name := "fnModeRead", fn := fun _ => fun
  | [d] => { results := [.lit (.bool false)], args := [d] }
  | _ => none }
def FnModeReadWrongFalsely : Prop := fnModeReadRow.holds Try.pinned (OpenSpec.ofChange fnModeReadWrong)

/-- 'laws.FnCredBecome': WHATEVER THE INPUT: true; the input reads as it did. -/
def fnCredBecomeSpec : ChangeSpec := { name := "fnCredBecome", fn := fun _ => fun
  | [d] => { results := [.lit (.bool true)], args := [d] }
  | _ => none }
def fnCredBecomeRow : OpenClaim := { program := "ytacndjbhlhbknaa", sum := "352c017e8829b4925aef181e957086fc30bf4dd2cf21546aff7263061bd33082", func := "loop.example/quarterdeck/laws.FnCredBecome", spec := "fnCredBecome", apart := false }
def FnCredBecomeSaid : Prop := fnCredBecomeRow.holds Try.pinned (OpenSpec.ofChange fnCredBecomeSpec)

/-- ITS FALSE NEIGHBOUR: 'it returns false'. Refute it at one input. -/
def fnCredBecomeWrong : ChangeSpec := { name := "fnCredBecome", fn := fun _ => fun
  | [d] => { results := [.lit (.bool false)], args := [d] }
  | _ => none }
def FnCredBecomeWrongFalsely : Prop := fnCredBecomeRow.holds Try.pinned (OpenSpec.ofChange fnCredBecomeWrong)

/-- 'laws.FnCredRun': WHATEVER THE INPUT: true; the input reads as it did. -/
def fnCredRunSpec : ChangeSpec := { name := "fnCredRun", fn := fun _ => fun
  | [d] => { results := [.lit (.bool true)], args := [d] }
  | _ => none }
def fnCredRunRow : OpenClaim := { program := "ytacndjbhlhbknaa", sum := "352c017e8829b4925aef181e957086fc30bf4dd2cf21546aff7263061bd33082", func := "loop.example/quarterdeck/laws.FnCredRun", spec := "fnCredRun", apart := false }
def FnCredRunSaid : Prop := fnCredRunRow.holds Try.pinned (OpenSpec.ofChange fnCredRunSpec)

/-- ITS FALSE NEIGHBOUR: 'it returns false'. Refute it at one input. -/
def fnCredRunWrong : ChangeSpec := { name := "fnCredRun", fn := fun _ => fun
  | [d] => { results := [.lit (.bool false)], args := [d] }
  | _ => none }
def FnCredRunWrongFalsely : Prop := fnCredRunRow.holds Try.pinned (OpenSpec.ofChange fnCredRunWrong)

/-- 'laws.FnCredSignal': WHATEVER THE INPUT: true; the input reads as it did. -/
def fnCredSignalSpec : ChangeSpec := { name := "fnCredSignal", fn := fun _ => fun
  | [d] => { results := [.lit (.bool true)], args := [d] }
  | _ => none }
def fnCredSignalRow : OpenClaim := { program := "ytacndjbhlhbknaa", sum := "352c017e8829b4925aef181e957086fc30bf4dd2cf21546aff7263061bd33082", func := "loop.example/quarterdeck/laws.FnCredSignal", spec := "fnCredSignal", apart := false }
def FnCredSignalSaid : Prop := fnCredSignalRow.holds Try.pinned (OpenSpec.ofChange fnCredSignalSpec)

/-- ITS FALSE NEIGHBOUR: 'it returns false'. Refute it at one input. -/
def fnCredSignalWrong : ChangeSpec := { name := "fnCredSignal", fn := fun _ => fun
  | [d] => { results := [.lit (.bool false)], args := [d] }
  | _ => none }
def FnCredSignalWrongFalsely : Prop := fnCredSignalRow.holds Try.pinned (OpenSpec.ofChange fnCredSignalWrong)

/-- 'laws.FnModeFirst': WHATEVER THE INPUT: true; the input reads as it did. -/
def fnModeFirstSpec : ChangeSpec := { name := "fnModeFirst", fn := fun _ => fun
  | [d] => { results := [.lit (.bool true)], args := [d] }
  | _ => none }
def fnModeFirstRow : OpenClaim := { program := "ytacndjbhlhbknaa", sum := "352c017e8829b4925aef181e957086fc30bf4dd2cf21546aff7263061bd33082", func := "loop.example/quarterdeck/laws.FnModeFirst", spec := "fnModeFirst", unfollowed := true, recurses := true, apart := false }
def FnModeFirstSaid : Prop := fnModeFirstRow.holds Try.pinned (OpenSpec.ofChange fnModeFirstSpec)

/-- ITS FALSE NEIGHBOUR: 'it returns false'. Refute it at one input. -/
def fnModeFirstWrong : ChangeSpec := { name := "fnModeFirst", fn := fun _ => fun
  | [d] => { results := [.lit (.bool false)], args := [d] }
  | _ => none }
def FnModeFirstWrongFalsely : Prop := fnModeFirstRow.holds Try.pinned (OpenSpec.ofChange fnModeFirstWrong)

/-- 'laws.FnCredGone': WHATEVER THE INPUT: true; the input reads as it did. -/
def fnCredGoneSpec : ChangeSpec := { name := "fnCredGone", fn := fun _ => fun
  | [d] => { results := [.lit (.bool true)], args := [d] }
  | _ => none }
def fnCredGoneRow : OpenClaim := { program := "ytacndjbhlhbknaa", sum := "352c017e8829b4925aef181e957086fc30bf4dd2cf21546aff7263061bd33082", func := "loop.example/quarterdeck/laws.FnCredGone", spec := "fnCredGone", apart := false }
def FnCredGoneSaid : Prop := fnCredGoneRow.holds Try.pinned (OpenSpec.ofChange fnCredGoneSpec)

/-- ITS FALSE NEIGHBOUR: 'it returns false'. Refute it at one input. -/
def fnCredGoneWrong : ChangeSpec := { name := "fnCredGone", fn := fun _ => fun
  | [d] => { results := [.lit (.bool false)], args := [d] }
  | _ => none }
def FnCredGoneWrongFalsely : Prop := fnCredGoneRow.holds Try.pinned (OpenSpec.ofChange fnCredGoneWrong)

/-- 'laws.FnExactCredOk': WHATEVER THE INPUT: true; the input reads as it did. -/
def fnExactCredOkSpec : ChangeSpec := { name := "fnExactCredOk", fn := fun _ => fun
  | [d] => { results := [.lit (.bool true)], args := [d] }
  | _ => none }
def fnExactCredOkRow : OpenClaim := { program := "ytacndjbhlhbknaa", sum := "352c017e8829b4925aef181e957086fc30bf4dd2cf21546aff7263061bd33082", func := "loop.example/quarterdeck/laws.FnExactCredOk", spec := "fnExactCredOk", apart := false }
def FnExactCredOkSaid : Prop := fnExactCredOkRow.holds Try.pinned (OpenSpec.ofChange fnExactCredOkSpec)

/-- ITS FALSE NEIGHBOUR: 'it returns false'. Refute it at one input. -/
def fnExactCredOkWrong : ChangeSpec := { name := "fnExactCredOk", fn := fun _ => fun
  | [d] => { results := [.lit (.bool false)], args := [d] }
  | _ => none }
def FnExactCredOkWrongFalsely : Prop := fnExactCredOkRow.holds Try.pinned (OpenSpec.ofChange fnExactCredOkWrong)

/-- 'laws.FnExactModeMay': WHATEVER THE INPUT: true; the input reads as it did. -/
def fnExactModeMaySpec : ChangeSpec := { name := "fnExactModeMay", fn := fun _ => fun
  | [d1, d2, d3, d4, d5] => { results := [.lit (.bool true)], args := [d1, d2, d3, d4, d5] }
  | _ => none }
def fnExactModeMayRow : OpenClaim := { program := "ytacndjbhlhbknaa", sum := "352c017e8829b4925aef181e957086fc30bf4dd2cf21546aff7263061bd33082", func := "loop.example/quarterdeck/laws.FnExactModeMay", spec := "fnExactModeMay", unfollowed := true, recurses := true, apart := false }
def FnExactModeMaySaid : Prop := fnExactModeMayRow.holds Try.pinned (OpenSpec.ofChange fnExactModeMaySpec)

/-- ITS FALSE NEIGHBOUR: 'it returns false'. Refute it at one input. -/
def fnExactModeMayWrong : ChangeSpec := { name := "fnExactModeMay", fn := fun _ => fun
  | [d1, d2, d3, d4, d5] => { results := [.lit (.bool false)], args := [d1, d2, d3, d4, d5] }
  | _ => none }
def FnExactModeMayWrongFalsely : Prop := fnExactModeMayRow.holds Try.pinned (OpenSpec.ofChange fnExactModeMayWrong)

/-- 'laws.FnExactModeText': WHATEVER THE INPUT: true; the input reads as it did. -/
def fnExactModeTextSpec : ChangeSpec := { name := "fnExactModeText", fn := fun _ => fun
  | [d] => { results := [.lit (.bool true)], args := [d] }
  | _ => none }
def fnExactModeTextRow : OpenClaim := { program := "ytacndjbhlhbknaa", sum := "352c017e8829b4925aef181e957086fc30bf4dd2cf21546aff7263061bd33082", func := "loop.example/quarterdeck/laws.FnExactModeText", spec := "fnExactModeText", unfollowed := true, recurses := true, apart := false }
def FnExactModeTextSaid : Prop := fnExactModeTextRow.holds Try.pinned (OpenSpec.ofChange fnExactModeTextSpec)

/-- ITS FALSE NEIGHBOUR: 'it returns false'. Refute it at one input. -/
def fnExactModeTextWrong : ChangeSpec := { name := "fnExactModeText", fn := fun _ => fun
  | [d] => { results := [.lit (.bool false)], args := [d] }
  | _ => none }
def FnExactModeTextWrongFalsely : Prop := fnExactModeTextRow.holds Try.pinned (OpenSpec.ofChange fnExactModeTextWrong)

/-- 'laws.FnExactModeRead': WHATEVER THE INPUT: true; the input reads as it did. -/
def fnExactModeReadSpec : ChangeSpec := { name := "fnExactModeRead", fn := fun _ => fun
  | [d] => { results := [.lit (.bool true)], args := [d] }
  | _ => none }
def fnExactModeReadRow : OpenClaim := { program := "ytacndjbhlhbknaa", sum := "352c017e8829b4925aef181e957086fc30bf4dd2cf21546aff7263061bd33082", func := "loop.example/quarterdeck/laws.FnExactModeRead", spec := "fnExactModeRead", apart := false }
def FnExactModeReadSaid : Prop := fnExactModeReadRow.holds Try.pinned (OpenSpec.ofChange fnExactModeReadSpec)

/-- ITS FALSE NEIGHBOUR: 'it returns false'. Refute it at one input. -/
def fnExactModeReadWrong : ChangeSpec := { name := "fnExactModeRead", fn := fun _ => fun
  | [d] => { results := [.lit (.bool false)], args := [d] }
  | _ => none }
def FnExactModeReadWrongFalsely : Prop := fnExactModeReadRow.holds Try.pinned (OpenSpec.ofChange fnExactModeReadWrong)

/-- 'laws.FnExactCredBecome': WHATEVER THE INPUT: true; the input reads as it did. -/
def fnExactCredBecomeSpec : ChangeSpec := { name := "fnExactCredBecome", fn := fun _ => fun
  | [d1, d2] => { results := [.lit (.bool true)], args := [d1, d2] }
  | _ => none }
def fnExactCredBecomeRow : OpenClaim := { program := "ytacndjbhlhbknaa", sum := "352c017e8829b4925aef181e957086fc30bf4dd2cf21546aff7263061bd33082", func := "loop.example/quarterdeck/laws.FnExactCredBecome", spec := "fnExactCredBecome", apart := false }
def FnExactCredBecomeSaid : Prop := fnExactCredBecomeRow.holds Try.pinned (OpenSpec.ofChange fnExactCredBecomeSpec)

/-- ITS FALSE NEIGHBOUR: 'it returns false'. Refute it at one input. -/
def fnExactCredBecomeWrong : ChangeSpec := { name := "fnExactCredBecome", fn := fun _ => fun
  | [d1, d2] => { results := [.lit (.bool false)], args := [d1, d2] }
  | _ => none }
def FnExactCredBecomeWrongFalsely : Prop := fnExactCredBecomeRow.holds Try.pinned (OpenSpec.ofChange fnExactCredBecomeWrong)

/-- 'laws.FnExactCredRun': WHATEVER THE INPUT: true; the input reads as it did. -/
def fnExactCredRunSpec : ChangeSpec := { name := "fnExactCredRun", fn := fun _ => fun
  | [d1, d2] => { results := [.lit (.bool true)], args := [d1, d2] }
  | _ => none }
def fnExactCredRunRow : OpenClaim := { program := "ytacndjbhlhbknaa", sum := "352c017e8829b4925aef181e957086fc30bf4dd2cf21546aff7263061bd33082", func := "loop.example/quarterdeck/laws.FnExactCredRun", spec := "fnExactCredRun", apart := false }
def FnExactCredRunSaid : Prop := fnExactCredRunRow.holds Try.pinned (OpenSpec.ofChange fnExactCredRunSpec)

/-- ITS FALSE NEIGHBOUR: 'it returns false'. Refute it at one input. -/
def fnExactCredRunWrong : ChangeSpec := { name := "fnExactCredRun", fn := fun _ => fun
  | [d1, d2] => { results := [.lit (.bool false)], args := [d1, d2] }
  | _ => none }
def FnExactCredRunWrongFalsely : Prop := fnExactCredRunRow.holds Try.pinned (OpenSpec.ofChange fnExactCredRunWrong)

/-- 'laws.FnExactCredSignal': WHATEVER THE INPUT: true; the input reads as it did. -/
def fnExactCredSignalSpec : ChangeSpec := { name := "fnExactCredSignal", fn := fun _ => fun
  | [d1, d2] => { results := [.lit (.bool true)], args := [d1, d2] }
  | _ => none }
def fnExactCredSignalRow : OpenClaim := { program := "ytacndjbhlhbknaa", sum := "352c017e8829b4925aef181e957086fc30bf4dd2cf21546aff7263061bd33082", func := "loop.example/quarterdeck/laws.FnExactCredSignal", spec := "fnExactCredSignal", apart := false }
def FnExactCredSignalSaid : Prop := fnExactCredSignalRow.holds Try.pinned (OpenSpec.ofChange fnExactCredSignalSpec)

/-- ITS FALSE NEIGHBOUR: 'it returns false'. Refute it at one input. -/
def fnExactCredSignalWrong : ChangeSpec := { name := "fnExactCredSignal", fn := fun _ => fun
  | [d1, d2] => { results := [.lit (.bool false)], args := [d1, d2] }
  | _ => none }
def FnExactCredSignalWrongFalsely : Prop := fnExactCredSignalRow.holds Try.pinned (OpenSpec.ofChange fnExactCredSignalWrong)

/- THE SECOND FORM. 'bulk': how many values and letters a reading holds, each counted each time it is reached (what is shared counts as often as it is met; a slice's spare places count too). A statement '..UptoSaid' is the law's where the arguments, and the package variables that the reading takes, are together of bulk at most 1048576: NARROWER than '..Said'. Prove '..Said' where nothing that the law and all that it calls make is longer than what came in: it says more and counts as full. Else prove '..UptoSaid'. A law counts once. -/
mutual
def uptoBulk {H : Type} : DataW H → Nat
  | .lit (.string bytes) => bytes.length + 1
  | .lit _ => 1
  | .nil => 1
  | .ptr d => uptoBulk d + 1
  | .slice elems spare => uptoBulkAll elems + uptoBulkAll spare + 1
  | .agg parts => uptoBulkAll parts + 1
  | .iface _ d => uptoBulk d + 1
  | .map entries => uptoBulkEntries entries + 1
  | .held _ => 1
def uptoBulkAll {H : Type} : List (DataW H) → Nat
  | [] => 0
  | d :: r => uptoBulk d + uptoBulkAll r
def uptoBulkEntries {H : Type} : List (Lit × DataW H) → Nat
  | [] => 0
  | x :: r => uptoBulkEntry x + uptoBulkEntries r
def uptoBulkEntry {H : Type} : Lit × DataW H → Nat
  | (.string bytes, d) => bytes.length + uptoBulk d + 1
  | (_, d) => uptoBulk d + 1
 end
def uptoSmall : (H : Type) → List (DataW H) → Bool := fun _ ds => decide (uptoBulkAll ds ≤ 1048576)
def OpenSpec.upto (s : _root_.Go.ChangeSpec) : _root_.Go.OpenSpec := { _root_.Go.OpenSpec.ofChange s with cond := some uptoSmall }

/-- 'laws.FnCredOk', WHERE WHAT IT READS IS OF BULK AT MOST 1048576: true; the input reads as it did. -/
def fnCredOkUptoRow : OpenClaim := { program := "ytacndjbhlhbknaa", sum := "352c017e8829b4925aef181e957086fc30bf4dd2cf21546aff7263061bd33082", func := "loop.example/quarterdeck/laws.FnCredOk", spec := "fnCredOk", apart := false, narrowed := true }
def FnCredOkUptoSaid : Prop := fnCredOkUptoRow.holds Try.pinned (OpenSpec.upto fnCredOkSpec)

/-- 'laws.FnModeMay', WHERE WHAT IT READS IS OF BULK AT MOST 1048576: true; the input reads as it did. -/
def fnModeMayUptoRow : OpenClaim := { program := "ytacndjbhlhbknaa", sum := "352c017e8829b4925aef181e957086fc30bf4dd2cf21546aff7263061bd33082", func := "loop.example/quarterdeck/laws.FnModeMay", spec := "fnModeMay", unfollowed := true, recurses := true, apart := false, narrowed := true }
def FnModeMayUptoSaid : Prop := fnModeMayUptoRow.holds Try.pinned (OpenSpec.upto fnModeMaySpec)

/-- 'laws.FnModeText', WHERE WHAT IT READS IS OF BULK AT MOST 1048576: true; the input reads as it did. -/
def fnModeTextUptoRow : OpenClaim := { program := "ytacndjbhlhbknaa", sum := "352c017e8829b4925aef181e957086fc30bf4dd2cf21546aff7263061bd33082", func := "loop.example/quarterdeck/laws.FnModeText", spec := "fnModeText", unfollowed := true, recurses := true, apart := false, narrowed := true }
def FnModeTextUptoSaid : Prop := fnModeTextUptoRow.holds Try.pinned (OpenSpec.upto fnModeTextSpec)

/-- 'laws.FnModeRead', WHERE WHAT IT READS IS OF BULK AT MOST 1048576: true; the input reads as it did. -/
def fnModeReadUptoRow : OpenClaim := { program := "ytacndjbhlhbknaa", sum := "352c017e8829b4925aef181e957086fc30bf4dd2cf21546aff7263061bd33082", func := "loop.example/quarterdeck/laws.FnModeRead", spec := "fnModeRead", unfollowed := true, recurses := true, apart := false, narrowed := true }
def FnModeReadUptoSaid : Prop := fnModeReadUptoRow.holds Try.pinned (OpenSpec.upto fnModeReadSpec)

/-- 'laws.FnCredBecome', WHERE WHAT IT READS IS OF BULK AT MOST 1048576: true; the input reads as it did. -/
def fnCredBecomeUptoRow : OpenClaim := { program := "ytacndjbhlhbknaa", sum := "352c017e8829b4925aef181e957086fc30bf4dd2cf21546aff7263061bd33082", func := "loop.example/quarterdeck/laws.FnCredBecome", spec := "fnCredBecome", apart := false, narrowed := true }
def FnCredBecomeUptoSaid : Prop := fnCredBecomeUptoRow.holds Try.pinned (OpenSpec.upto fnCredBecomeSpec)

/-- 'laws.FnCredRun', WHERE WHAT IT READS IS OF BULK AT MOST 1048576: true; the input reads as it did. -/
def fnCredRunUptoRow : OpenClaim := { program := "ytacndjbhlhbknaa", sum := "352c017e8829b4925aef181e957086fc30bf4dd2cf21546aff7263061bd33082", func := "loop.example/quarterdeck/laws.FnCredRun", spec := "fnCredRun", apart := false, narrowed := true }
def FnCredRunUptoSaid : Prop := fnCredRunUptoRow.holds Try.pinned (OpenSpec.upto fnCredRunSpec)

/-- 'laws.FnCredSignal', WHERE WHAT IT READS IS OF BULK AT MOST 1048576: true; the input reads as it did. -/
def fnCredSignalUptoRow : OpenClaim := { program := "ytacndjbhlhbknaa", sum := "352c017e8829b4925aef181e957086fc30bf4dd2cf21546aff7263061bd33082", func := "loop.example/quarterdeck/laws.FnCredSignal", spec := "fnCredSignal", apart := false, narrowed := true }
def FnCredSignalUptoSaid : Prop := fnCredSignalUptoRow.holds Try.pinned (OpenSpec.upto fnCredSignalSpec)

/-- 'laws.FnModeFirst', WHERE WHAT IT READS IS OF BULK AT MOST 1048576: true; the input reads as it did. -/
def fnModeFirstUptoRow : OpenClaim := { program := "ytacndjbhlhbknaa", sum := "352c017e8829b4925aef181e957086fc30bf4dd2cf21546aff7263061bd33082", func := "loop.example/quarterdeck/laws.FnModeFirst", spec := "fnModeFirst", unfollowed := true, recurses := true, apart := false, narrowed := true }
def FnModeFirstUptoSaid : Prop := fnModeFirstUptoRow.holds Try.pinned (OpenSpec.upto fnModeFirstSpec)

/-- 'laws.FnCredGone', WHERE WHAT IT READS IS OF BULK AT MOST 1048576: true; the input reads as it did. -/
def fnCredGoneUptoRow : OpenClaim := { program := "ytacndjbhlhbknaa", sum := "352c017e8829b4925aef181e957086fc30bf4dd2cf21546aff7263061bd33082", func := "loop.example/quarterdeck/laws.FnCredGone", spec := "fnCredGone", apart := false, narrowed := true }
def FnCredGoneUptoSaid : Prop := fnCredGoneUptoRow.holds Try.pinned (OpenSpec.upto fnCredGoneSpec)

/-- 'laws.FnExactCredOk', WHERE WHAT IT READS IS OF BULK AT MOST 1048576: true; the input reads as it did. -/
def fnExactCredOkUptoRow : OpenClaim := { program := "ytacndjbhlhbknaa", sum := "352c017e8829b4925aef181e957086fc30bf4dd2cf21546aff7263061bd33082", func := "loop.example/quarterdeck/laws.FnExactCredOk", spec := "fnExactCredOk", apart := false, narrowed := true }
def FnExactCredOkUptoSaid : Prop := fnExactCredOkUptoRow.holds Try.pinned (OpenSpec.upto fnExactCredOkSpec)

/-- 'laws.FnExactModeMay', WHERE WHAT IT READS IS OF BULK AT MOST 1048576: true; the input reads as it did. -/
def fnExactModeMayUptoRow : OpenClaim := { program := "ytacndjbhlhbknaa", sum := "352c017e8829b4925aef181e957086fc30bf4dd2cf21546aff7263061bd33082", func := "loop.example/quarterdeck/laws.FnExactModeMay", spec := "fnExactModeMay", unfollowed := true, recurses := true, apart := false, narrowed := true }
def FnExactModeMayUptoSaid : Prop := fnExactModeMayUptoRow.holds Try.pinned (OpenSpec.upto fnExactModeMaySpec)

/-- 'laws.FnExactModeText', WHERE WHAT IT READS IS OF BULK AT MOST 1048576: true; the input reads as it did. -/
def fnExactModeTextUptoRow : OpenClaim := { program := "ytacndjbhlhbknaa", sum := "352c017e8829b4925aef181e957086fc30bf4dd2cf21546aff7263061bd33082", func := "loop.example/quarterdeck/laws.FnExactModeText", spec := "fnExactModeText", unfollowed := true, recurses := true, apart := false, narrowed := true }
def FnExactModeTextUptoSaid : Prop := fnExactModeTextUptoRow.holds Try.pinned (OpenSpec.upto fnExactModeTextSpec)

/-- 'laws.FnExactModeRead', WHERE WHAT IT READS IS OF BULK AT MOST 1048576: true; the input reads as it did. -/
def fnExactModeReadUptoRow : OpenClaim := { program := "ytacndjbhlhbknaa", sum := "352c017e8829b4925aef181e957086fc30bf4dd2cf21546aff7263061bd33082", func := "loop.example/quarterdeck/laws.FnExactModeRead", spec := "fnExactModeRead", apart := false, narrowed := true }
def FnExactModeReadUptoSaid : Prop := fnExactModeReadUptoRow.holds Try.pinned (OpenSpec.upto fnExactModeReadSpec)

/-- 'laws.FnExactCredBecome', WHERE WHAT IT READS IS OF BULK AT MOST 1048576: true; the input reads as it did. -/
def fnExactCredBecomeUptoRow : OpenClaim := { program := "ytacndjbhlhbknaa", sum := "352c017e8829b4925aef181e957086fc30bf4dd2cf21546aff7263061bd33082", func := "loop.example/quarterdeck/laws.FnExactCredBecome", spec := "fnExactCredBecome", apart := false, narrowed := true }
def FnExactCredBecomeUptoSaid : Prop := fnExactCredBecomeUptoRow.holds Try.pinned (OpenSpec.upto fnExactCredBecomeSpec)

/-- 'laws.FnExactCredRun', WHERE WHAT IT READS IS OF BULK AT MOST 1048576: true; the input reads as it did. -/
def fnExactCredRunUptoRow : OpenClaim := { program := "ytacndjbhlhbknaa", sum := "352c017e8829b4925aef181e957086fc30bf4dd2cf21546aff7263061bd33082", func := "loop.example/quarterdeck/laws.FnExactCredRun", spec := "fnExactCredRun", apart := false, narrowed := true }
def FnExactCredRunUptoSaid : Prop := fnExactCredRunUptoRow.holds Try.pinned (OpenSpec.upto fnExactCredRunSpec)

/-- 'laws.FnExactCredSignal', WHERE WHAT IT READS IS OF BULK AT MOST 1048576: true; the input reads as it did. -/
def fnExactCredSignalUptoRow : OpenClaim := { program := "ytacndjbhlhbknaa", sum := "352c017e8829b4925aef181e957086fc30bf4dd2cf21546aff7263061bd33082", func := "loop.example/quarterdeck/laws.FnExactCredSignal", spec := "fnExactCredSignal", apart := false, narrowed := true }
def FnExactCredSignalUptoSaid : Prop := fnExactCredSignalUptoRow.holds Try.pinned (OpenSpec.upto fnExactCredSignalSpec)

end Rows
end Go.Proofs.Ytacndjbhlhbknaa

/-
  No cell of these rows narrows 'for every input' (looked for: loops, veiled, ifaces, maps, wideKeys, modest, calm, conditions, laid).
  DERIVED. THE GIVEN ROWS OF THIS SEAT. 19 by the template 'for every input the law returns true; each argument reads behind the call as it read before'; 0 by the template 'total and deterministic' (their statements: YtncinocpdeokgaaTotals.lean).
  GIVEN WITH THE SEED: the statements are not yours to turn. If you find one false, say at which input.
  Laid BY PROGRAM, IN A SANDBOX (cutbox-rows.mjs): the forced cells as the released guide's own fill.sh prints them over the translation f33bdcd800d6ac6e… (all of the seat's roots in one cut). By AI agents, Wed Nov 11 2026. No macro, syntax, notation, axiom, sorry.
-/
import Derived.Test.YtncinocpdeokgaaChecked
import GoSem.Claim
import GoSem.ClaimJoined
import GoSem.ClaimMapViews
import Derived.JoinedTies
import Derived.KernelRfl
namespace Go.Proofs.Ytncinocpdeokgaa
/- THE CELL 'sum', in the pinned program and in every row, IS THE sha256 OF THE DUMP (.gsa) THAT YtncinocpdeokgaaProg.lean LOADS. Nothing in Lean hashes anything: it is a label: what it is worth is what the hold of that sum in a sandbox is worth. -/
noncomputable def Try.pinned : Pinned := { name := "ytncinocpdeokgaa", sum := "f33bdcd800d6ac6ee161cfcf78a6af8f4ca075fa1743be72b2ed1fbf9c137100", checked := Try.checked }
namespace Rows
def none {H : Type} : Left H := { results := [], args := [] }

/-- 'laws.FnSigsNew': WHATEVER THE INPUT: true; the input reads as it did. -/
def fnSigsNewSpec : ChangeSpec := { name := "fnSigsNew", fn := fun _ => fun
  | [d] => { results := [.lit (.bool true)], args := [d] }
  | _ => none }
def fnSigsNewRow : OpenClaim := { program := "ytncinocpdeokgaa", sum := "f33bdcd800d6ac6ee161cfcf78a6af8f4ca075fa1743be72b2ed1fbf9c137100", func := "loop.example/quarterdeck/laws.FnSigsNew", spec := "fnSigsNew", apart := false }
def FnSigsNewSaid : Prop := fnSigsNewRow.holds Try.pinned (OpenSpec.ofChange fnSigsNewSpec)

/-- ITS FALSE NEIGHBOUR: 'it returns false'. Refute it at one input. -/
def fnSigsNewWrong : ChangeSpec := { name := "fnSigsNew", fn := fun _ => fun
  | [d] => { results := [.lit (.bool false)], args := [d] }
  | _ => none }
def FnSigsNewWrongFalsely : Prop := fnSigsNewRow.holds Try.pinned (OpenSpec.ofChange fnSigsNewWrong)

/-- 'laws.FnSigsOk': WHATEVER THE INPUT: true; the input reads as it did. -/
def fnSigsOkSpec : ChangeSpec := { name := "fnSigsOk", fn := fun _ => fun
  | [d] => { results := [.lit (.bool true)], args := [d] }
  | _ => none }
def fnSigsOkRow : OpenClaim := { program := "ytncinocpdeokgaa", sum := "f33bdcd800d6ac6ee161cfcf78a6af8f4ca075fa1743be72b2ed1fbf9c137100", func := "loop.example/quarterdeck/laws.FnSigsOk", spec := "fnSigsOk", apart := false }
def FnSigsOkSaid : Prop := fnSigsOkRow.holds Try.pinned (OpenSpec.ofChange fnSigsOkSpec)

/-- ITS FALSE NEIGHBOUR: 'it returns false'. Refute it at one input. -/
def fnSigsOkWrong : ChangeSpec := { name := "fnSigsOk", fn := fun _ => fun
  | [d] => { results := [.lit (.bool false)], args := [d] }
  | _ => none }
def FnSigsOkWrongFalsely : Prop := fnSigsOkRow.holds Try.pinned (OpenSpec.ofChange fnSigsOkWrong)

/-- 'laws.FnSigsSet': WHATEVER THE INPUT: true; the input reads as it did. -/
def fnSigsSetSpec : ChangeSpec := { name := "fnSigsSet", fn := fun _ => fun
  | [d] => { results := [.lit (.bool true)], args := [d] }
  | _ => none }
def fnSigsSetRow : OpenClaim := { program := "ytncinocpdeokgaa", sum := "f33bdcd800d6ac6ee161cfcf78a6af8f4ca075fa1743be72b2ed1fbf9c137100", func := "loop.example/quarterdeck/laws.FnSigsSet", spec := "fnSigsSet", apart := false }
def FnSigsSetSaid : Prop := fnSigsSetRow.holds Try.pinned (OpenSpec.ofChange fnSigsSetSpec)

/-- ITS FALSE NEIGHBOUR: 'it returns false'. Refute it at one input. -/
def fnSigsSetWrong : ChangeSpec := { name := "fnSigsSet", fn := fun _ => fun
  | [d] => { results := [.lit (.bool false)], args := [d] }
  | _ => none }
def FnSigsSetWrongFalsely : Prop := fnSigsSetRow.holds Try.pinned (OpenSpec.ofChange fnSigsSetWrong)

/-- 'laws.FnSigsBlock': WHATEVER THE INPUT: true; the input reads as it did. -/
def fnSigsBlockSpec : ChangeSpec := { name := "fnSigsBlock", fn := fun _ => fun
  | [d] => { results := [.lit (.bool true)], args := [d] }
  | _ => none }
def fnSigsBlockRow : OpenClaim := { program := "ytncinocpdeokgaa", sum := "f33bdcd800d6ac6ee161cfcf78a6af8f4ca075fa1743be72b2ed1fbf9c137100", func := "loop.example/quarterdeck/laws.FnSigsBlock", spec := "fnSigsBlock", apart := false }
def FnSigsBlockSaid : Prop := fnSigsBlockRow.holds Try.pinned (OpenSpec.ofChange fnSigsBlockSpec)

/-- ITS FALSE NEIGHBOUR: 'it returns false'. Refute it at one input. -/
def fnSigsBlockWrong : ChangeSpec := { name := "fnSigsBlock", fn := fun _ => fun
  | [d] => { results := [.lit (.bool false)], args := [d] }
  | _ => none }
def FnSigsBlockWrongFalsely : Prop := fnSigsBlockRow.holds Try.pinned (OpenSpec.ofChange fnSigsBlockWrong)

/-- 'laws.FnSigsSend': WHATEVER THE INPUT: true; the input reads as it did. -/
def fnSigsSendSpec : ChangeSpec := { name := "fnSigsSend", fn := fun _ => fun
  | [d] => { results := [.lit (.bool true)], args := [d] }
  | _ => none }
def fnSigsSendRow : OpenClaim := { program := "ytncinocpdeokgaa", sum := "f33bdcd800d6ac6ee161cfcf78a6af8f4ca075fa1743be72b2ed1fbf9c137100", func := "loop.example/quarterdeck/laws.FnSigsSend", spec := "fnSigsSend", apart := false }
def FnSigsSendSaid : Prop := fnSigsSendRow.holds Try.pinned (OpenSpec.ofChange fnSigsSendSpec)

/-- ITS FALSE NEIGHBOUR: 'it returns false'. Refute it at one input. -/
def fnSigsSendWrong : ChangeSpec := { name := "fnSigsSend", fn := fun _ => fun
  | [d] => { results := [.lit (.bool false)], args := [d] }
  | _ => none }
def FnSigsSendWrongFalsely : Prop := fnSigsSendRow.holds Try.pinned (OpenSpec.ofChange fnSigsSendWrong)

/-- 'laws.FnSigsNext': WHATEVER THE INPUT: true; the input reads as it did. -/
def fnSigsNextSpec : ChangeSpec := { name := "fnSigsNext", fn := fun _ => fun
  | [d] => { results := [.lit (.bool true)], args := [d] }
  | _ => none }
def fnSigsNextRow : OpenClaim := { program := "ytncinocpdeokgaa", sum := "f33bdcd800d6ac6ee161cfcf78a6af8f4ca075fa1743be72b2ed1fbf9c137100", func := "loop.example/quarterdeck/laws.FnSigsNext", spec := "fnSigsNext", apart := false }
def FnSigsNextSaid : Prop := fnSigsNextRow.holds Try.pinned (OpenSpec.ofChange fnSigsNextSpec)

/-- ITS FALSE NEIGHBOUR: 'it returns false'. Refute it at one input. -/
def fnSigsNextWrong : ChangeSpec := { name := "fnSigsNext", fn := fun _ => fun
  | [d] => { results := [.lit (.bool false)], args := [d] }
  | _ => none }
def FnSigsNextWrongFalsely : Prop := fnSigsNextRow.holds Try.pinned (OpenSpec.ofChange fnSigsNextWrong)

/-- 'laws.FnSigsFork': WHATEVER THE INPUT: true; the input reads as it did. -/
def fnSigsForkSpec : ChangeSpec := { name := "fnSigsFork", fn := fun _ => fun
  | [d] => { results := [.lit (.bool true)], args := [d] }
  | _ => none }
def fnSigsForkRow : OpenClaim := { program := "ytncinocpdeokgaa", sum := "f33bdcd800d6ac6ee161cfcf78a6af8f4ca075fa1743be72b2ed1fbf9c137100", func := "loop.example/quarterdeck/laws.FnSigsFork", spec := "fnSigsFork", apart := false }
def FnSigsForkSaid : Prop := fnSigsForkRow.holds Try.pinned (OpenSpec.ofChange fnSigsForkSpec)

/-- ITS FALSE NEIGHBOUR: 'it returns false'. Refute it at one input. -/
def fnSigsForkWrong : ChangeSpec := { name := "fnSigsFork", fn := fun _ => fun
  | [d] => { results := [.lit (.bool false)], args := [d] }
  | _ => none }
def FnSigsForkWrongFalsely : Prop := fnSigsForkRow.holds Try.pinned (OpenSpec.ofChange fnSigsForkWrong)

/-- 'laws.FnSigsRun': WHATEVER THE INPUT: true; the input reads as it did. -/
def fnSigsRunSpec : ChangeSpec := { name := "fnSigsRun", fn := fun _ => fun
  | [d] => { results := [.lit (.bool true)], args := [d] }
  | _ => none }
def fnSigsRunRow : OpenClaim := { program := "ytncinocpdeokgaa", sum := "f33bdcd800d6ac6ee161cfcf78a6af8f4ca075fa1743be72b2ed1fbf9c137100", func := "loop.example/quarterdeck/laws.FnSigsRun", spec := "fnSigsRun", apart := false }
def FnSigsRunSaid : Prop := fnSigsRunRow.holds Try.pinned (OpenSpec.ofChange fnSigsRunSpec)

/-- ITS FALSE NEIGHBOUR: 'it returns false'. Refute it at one input. -/
def fnSigsRunWrong : ChangeSpec := { name := "fnSigsRun", fn := fun _ => fun
  | [d] => { results := [.lit (.bool false)], args := [d] }
  | _ => none }
def FnSigsRunWrongFalsely : Prop := fnSigsRunRow.holds Try.pinned (OpenSpec.ofChange fnSigsRunWrong)

/-- 'laws.FnSigsDrain': WHATEVER THE INPUT: true; the input reads as it did. -/
def fnSigsDrainSpec : ChangeSpec := { name := "fnSigsDrain", fn := fun _ => fun
  | [d] => { results := [.lit (.bool true)], args := [d] }
  | _ => none }
def fnSigsDrainRow : OpenClaim := { program := "ytncinocpdeokgaa", sum := "f33bdcd800d6ac6ee161cfcf78a6af8f4ca075fa1743be72b2ed1fbf9c137100", func := "loop.example/quarterdeck/laws.FnSigsDrain", spec := "fnSigsDrain", apart := false }
def FnSigsDrainSaid : Prop := fnSigsDrainRow.holds Try.pinned (OpenSpec.ofChange fnSigsDrainSpec)

/-- ITS FALSE NEIGHBOUR: 'it returns false'. Refute it at one input. -/
def fnSigsDrainWrong : ChangeSpec := { name := "fnSigsDrain", fn := fun _ => fun
  | [d] => { results := [.lit (.bool false)], args := [d] }
  | _ => none }
def FnSigsDrainWrongFalsely : Prop := fnSigsDrainRow.holds Try.pinned (OpenSpec.ofChange fnSigsDrainWrong)

/-- 'laws.FnSigsBlocked': WHATEVER THE INPUT: true; the input reads as it did. -/
def fnSigsBlockedSpec : ChangeSpec := { name := "fnSigsBlocked", fn := fun _ => fun
  | [d] => { results := [.lit (.bool true)], args := [d] }
  | _ => none }
def fnSigsBlockedRow : OpenClaim := { program := "ytncinocpdeokgaa", sum := "f33bdcd800d6ac6ee161cfcf78a6af8f4ca075fa1743be72b2ed1fbf9c137100", func := "loop.example/quarterdeck/laws.FnSigsBlocked", spec := "fnSigsBlocked", apart := false }
def FnSigsBlockedSaid : Prop := fnSigsBlockedRow.holds Try.pinned (OpenSpec.ofChange fnSigsBlockedSpec)

/-- ITS FALSE NEIGHBOUR: 'it returns false'. Refute it at one input. -/
def fnSigsBlockedWrong : ChangeSpec := { name := "fnSigsBlocked", fn := fun _ => fun
  | [d] => { results := [.lit (.bool false)], args := [d] }
  | _ => none }
def FnSigsBlockedWrongFalsely : Prop := fnSigsBlockedRow.holds Try.pinned (OpenSpec.ofChange fnSigsBlockedWrong)

/-- 'laws.FnSigsTurn': WHATEVER THE INPUT: true; the input reads as it did. -/
def fnSigsTurnSpec : ChangeSpec := { name := "fnSigsTurn", fn := fun _ => fun
  | [d] => { results := [.lit (.bool true)], args := [d] }
  | _ => none }
def fnSigsTurnRow : OpenClaim := { program := "ytncinocpdeokgaa", sum := "f33bdcd800d6ac6ee161cfcf78a6af8f4ca075fa1743be72b2ed1fbf9c137100", func := "loop.example/quarterdeck/laws.FnSigsTurn", spec := "fnSigsTurn", apart := false }
def FnSigsTurnSaid : Prop := fnSigsTurnRow.holds Try.pinned (OpenSpec.ofChange fnSigsTurnSpec)

/-- ITS FALSE NEIGHBOUR: 'it returns false'. Refute it at one input. -/
def fnSigsTurnWrong : ChangeSpec := { name := "fnSigsTurn", fn := fun _ => fun
  | [d] => { results := [.lit (.bool false)], args := [d] }
  | _ => none }
def FnSigsTurnWrongFalsely : Prop := fnSigsTurnRow.holds Try.pinned (OpenSpec.ofChange fnSigsTurnWrong)

/-- 'laws.FnExactSigsNew': WHATEVER THE INPUT: true; the input reads as it did. -/
def fnExactSigsNewSpec : ChangeSpec := { name := "fnExactSigsNew", fn := fun _ => fun
  | [] => { results := [.lit (.bool true)], args := [] }
  | _ => none }
def fnExactSigsNewRow : OpenClaim := { program := "ytncinocpdeokgaa", sum := "f33bdcd800d6ac6ee161cfcf78a6af8f4ca075fa1743be72b2ed1fbf9c137100", func := "loop.example/quarterdeck/laws.FnExactSigsNew", spec := "fnExactSigsNew", apart := false }
def FnExactSigsNewSaid : Prop := fnExactSigsNewRow.holds Try.pinned (OpenSpec.ofChange fnExactSigsNewSpec)

/-- ITS FALSE NEIGHBOUR: 'it returns false'. Refute it at one input. -/
def fnExactSigsNewWrong : ChangeSpec := { name := "fnExactSigsNew", fn := fun _ => fun
  | [] => { results := [.lit (.bool false)], args := [] }
  | _ => none }
def FnExactSigsNewWrongFalsely : Prop := fnExactSigsNewRow.holds Try.pinned (OpenSpec.ofChange fnExactSigsNewWrong)

/-- 'laws.FnExactSigsOk': WHATEVER THE INPUT: true; the input reads as it did. -/
def fnExactSigsOkSpec : ChangeSpec := { name := "fnExactSigsOk", fn := fun _ => fun
  | [d] => { results := [.lit (.bool true)], args := [d] }
  | _ => none }
def fnExactSigsOkRow : OpenClaim := { program := "ytncinocpdeokgaa", sum := "f33bdcd800d6ac6ee161cfcf78a6af8f4ca075fa1743be72b2ed1fbf9c137100", func := "loop.example/quarterdeck/laws.FnExactSigsOk", spec := "fnExactSigsOk", apart := false }
def FnExactSigsOkSaid : Prop := fnExactSigsOkRow.holds Try.pinned (OpenSpec.ofChange fnExactSigsOkSpec)

/-- ITS FALSE NEIGHBOUR: 'it returns false'. Refute it at one input. -/
def fnExactSigsOkWrong : ChangeSpec := { name := "fnExactSigsOk", fn := fun _ => fun
  | [d] => { results := [.lit (.bool false)], args := [d] }
  | _ => none }
def FnExactSigsOkWrongFalsely : Prop := fnExactSigsOkRow.holds Try.pinned (OpenSpec.ofChange fnExactSigsOkWrong)

/-- 'laws.FnExactSigsSet': WHATEVER THE INPUT: true; the input reads as it did. -/
def fnExactSigsSetSpec : ChangeSpec := { name := "fnExactSigsSet", fn := fun _ => fun
  | [d1, d2, d3] => { results := [.lit (.bool true)], args := [d1, d2, d3] }
  | _ => none }
def fnExactSigsSetRow : OpenClaim := { program := "ytncinocpdeokgaa", sum := "f33bdcd800d6ac6ee161cfcf78a6af8f4ca075fa1743be72b2ed1fbf9c137100", func := "loop.example/quarterdeck/laws.FnExactSigsSet", spec := "fnExactSigsSet", apart := false }
def FnExactSigsSetSaid : Prop := fnExactSigsSetRow.holds Try.pinned (OpenSpec.ofChange fnExactSigsSetSpec)

/-- ITS FALSE NEIGHBOUR: 'it returns false'. Refute it at one input. -/
def fnExactSigsSetWrong : ChangeSpec := { name := "fnExactSigsSet", fn := fun _ => fun
  | [d1, d2, d3] => { results := [.lit (.bool false)], args := [d1, d2, d3] }
  | _ => none }
def FnExactSigsSetWrongFalsely : Prop := fnExactSigsSetRow.holds Try.pinned (OpenSpec.ofChange fnExactSigsSetWrong)

/-- 'laws.FnExactSigsBlock': WHATEVER THE INPUT: true; the input reads as it did. -/
def fnExactSigsBlockSpec : ChangeSpec := { name := "fnExactSigsBlock", fn := fun _ => fun
  | [d1, d2] => { results := [.lit (.bool true)], args := [d1, d2] }
  | _ => none }
def fnExactSigsBlockRow : OpenClaim := { program := "ytncinocpdeokgaa", sum := "f33bdcd800d6ac6ee161cfcf78a6af8f4ca075fa1743be72b2ed1fbf9c137100", func := "loop.example/quarterdeck/laws.FnExactSigsBlock", spec := "fnExactSigsBlock", apart := false }
def FnExactSigsBlockSaid : Prop := fnExactSigsBlockRow.holds Try.pinned (OpenSpec.ofChange fnExactSigsBlockSpec)

/-- ITS FALSE NEIGHBOUR: 'it returns false'. Refute it at one input. -/
def fnExactSigsBlockWrong : ChangeSpec := { name := "fnExactSigsBlock", fn := fun _ => fun
  | [d1, d2] => { results := [.lit (.bool false)], args := [d1, d2] }
  | _ => none }
def FnExactSigsBlockWrongFalsely : Prop := fnExactSigsBlockRow.holds Try.pinned (OpenSpec.ofChange fnExactSigsBlockWrong)

/-- 'laws.FnExactSigsSend': WHATEVER THE INPUT: true; the input reads as it did. -/
def fnExactSigsSendSpec : ChangeSpec := { name := "fnExactSigsSend", fn := fun _ => fun
  | [d1, d2] => { results := [.lit (.bool true)], args := [d1, d2] }
  | _ => none }
def fnExactSigsSendRow : OpenClaim := { program := "ytncinocpdeokgaa", sum := "f33bdcd800d6ac6ee161cfcf78a6af8f4ca075fa1743be72b2ed1fbf9c137100", func := "loop.example/quarterdeck/laws.FnExactSigsSend", spec := "fnExactSigsSend", apart := false }
def FnExactSigsSendSaid : Prop := fnExactSigsSendRow.holds Try.pinned (OpenSpec.ofChange fnExactSigsSendSpec)

/-- ITS FALSE NEIGHBOUR: 'it returns false'. Refute it at one input. -/
def fnExactSigsSendWrong : ChangeSpec := { name := "fnExactSigsSend", fn := fun _ => fun
  | [d1, d2] => { results := [.lit (.bool false)], args := [d1, d2] }
  | _ => none }
def FnExactSigsSendWrongFalsely : Prop := fnExactSigsSendRow.holds Try.pinned (OpenSpec.ofChange fnExactSigsSendWrong)

/-- 'laws.FnExactSigsNext': WHATEVER THE INPUT: true; the input reads as it did. -/
def fnExactSigsNextSpec : ChangeSpec := { name := "fnExactSigsNext", fn := fun _ => fun
  | [d] => { results := [.lit (.bool true)], args := [d] }
  | _ => none }
def fnExactSigsNextRow : OpenClaim := { program := "ytncinocpdeokgaa", sum := "f33bdcd800d6ac6ee161cfcf78a6af8f4ca075fa1743be72b2ed1fbf9c137100", func := "loop.example/quarterdeck/laws.FnExactSigsNext", spec := "fnExactSigsNext", apart := false }
def FnExactSigsNextSaid : Prop := fnExactSigsNextRow.holds Try.pinned (OpenSpec.ofChange fnExactSigsNextSpec)

/-- ITS FALSE NEIGHBOUR: 'it returns false'. Refute it at one input. -/
def fnExactSigsNextWrong : ChangeSpec := { name := "fnExactSigsNext", fn := fun _ => fun
  | [d] => { results := [.lit (.bool false)], args := [d] }
  | _ => none }
def FnExactSigsNextWrongFalsely : Prop := fnExactSigsNextRow.holds Try.pinned (OpenSpec.ofChange fnExactSigsNextWrong)

/-- 'laws.FnExactSigsFork': WHATEVER THE INPUT: true; the input reads as it did. -/
def fnExactSigsForkSpec : ChangeSpec := { name := "fnExactSigsFork", fn := fun _ => fun
  | [d] => { results := [.lit (.bool true)], args := [d] }
  | _ => none }
def fnExactSigsForkRow : OpenClaim := { program := "ytncinocpdeokgaa", sum := "f33bdcd800d6ac6ee161cfcf78a6af8f4ca075fa1743be72b2ed1fbf9c137100", func := "loop.example/quarterdeck/laws.FnExactSigsFork", spec := "fnExactSigsFork", apart := false }
def FnExactSigsForkSaid : Prop := fnExactSigsForkRow.holds Try.pinned (OpenSpec.ofChange fnExactSigsForkSpec)

/-- ITS FALSE NEIGHBOUR: 'it returns false'. Refute it at one input. -/
def fnExactSigsForkWrong : ChangeSpec := { name := "fnExactSigsFork", fn := fun _ => fun
  | [d] => { results := [.lit (.bool false)], args := [d] }
  | _ => none }
def FnExactSigsForkWrongFalsely : Prop := fnExactSigsForkRow.holds Try.pinned (OpenSpec.ofChange fnExactSigsForkWrong)

/-- 'laws.FnExactSigsRun': WHATEVER THE INPUT: true; the input reads as it did. -/
def fnExactSigsRunSpec : ChangeSpec := { name := "fnExactSigsRun", fn := fun _ => fun
  | [d] => { results := [.lit (.bool true)], args := [d] }
  | _ => none }
def fnExactSigsRunRow : OpenClaim := { program := "ytncinocpdeokgaa", sum := "f33bdcd800d6ac6ee161cfcf78a6af8f4ca075fa1743be72b2ed1fbf9c137100", func := "loop.example/quarterdeck/laws.FnExactSigsRun", spec := "fnExactSigsRun", apart := false }
def FnExactSigsRunSaid : Prop := fnExactSigsRunRow.holds Try.pinned (OpenSpec.ofChange fnExactSigsRunSpec)

/-- ITS FALSE NEIGHBOUR: 'it returns false'. Refute it at one input. -/
def fnExactSigsRunWrong : ChangeSpec := { name := "fnExactSigsRun", fn := fun _ => fun
  | [d] => { results := [.lit (.bool false)], args := [d] }
  | _ => none }
def FnExactSigsRunWrongFalsely : Prop := fnExactSigsRunRow.holds Try.pinned (OpenSpec.ofChange fnExactSigsRunWrong)

/- THE SECOND FORM. 'bulk': how many values and letters a reading holds, each counted each time it is reached (what is shared counts as often as it is met; a slice's spare places count too). A statement '..UptoSaid' is the law's where the arguments, and the package variables that the reading takes, are together of bulk at most 1048576: NARROWER than '..Said'. Prove '..Said' where nothing that the law and all that it calls make is longer than what came in: it says more and counts as full. Else prove '..UptoSaid'. A law counts once. -/
mutual
def uptoBulk {H : Type} : DataW H → Nat
  | .lit (.string bytes) => bytes.length + 1
  | .lit _ => 1
  | .nil => 1
  | .ptr d => uptoBulk d + 1
  | .slice elems spare => uptoBulkAll elems + uptoBulkAll spare + 1
  | .agg parts => uptoBulkAll parts + 1
  | .iface _ d => uptoBulk d + 1
  | .map entries => uptoBulkEntries entries + 1
  | .held _ => 1
def uptoBulkAll {H : Type} : List (DataW H) → Nat
  | [] => 0
  | d :: r => uptoBulk d + uptoBulkAll r
def uptoBulkEntries {H : Type} : List (Lit × DataW H) → Nat
  | [] => 0
  | x :: r => uptoBulkEntry x + uptoBulkEntries r
def uptoBulkEntry {H : Type} : Lit × DataW H → Nat
  | (.string bytes, d) => bytes.length + uptoBulk d + 1
  | (_, d) => uptoBulk d + 1
 end
def uptoSmall : (H : Type) → List (DataW H) → Bool := fun _ ds => decide (uptoBulkAll ds ≤ 1048576)
def OpenSpec.upto (s : _root_.Go.ChangeSpec) : _root_.Go.OpenSpec := { _root_.Go.OpenSpec.ofChange s with cond := some uptoSmall }

/-- 'laws.FnSigsNew', WHERE WHAT IT READS IS OF BULK AT MOST 1048576: true; the input reads as it did. -/
def fnSigsNewUptoRow : OpenClaim := { program := "ytncinocpdeokgaa", sum := "f33bdcd800d6ac6ee161cfcf78a6af8f4ca075fa1743be72b2ed1fbf9c137100", func := "loop.example/quarterdeck/laws.FnSigsNew", spec := "fnSigsNew", apart := false, narrowed := true }
def FnSigsNewUptoSaid : Prop := fnSigsNewUptoRow.holds Try.pinned (OpenSpec.upto fnSigsNewSpec)

/-- 'laws.FnSigsOk', WHERE WHAT IT READS IS OF BULK AT MOST 1048576: true; the input reads as it did. -/
def fnSigsOkUptoRow : OpenClaim := { program := "ytncinocpdeokgaa", sum := "f33bdcd800d6ac6ee161cfcf78a6af8f4ca075fa1743be72b2ed1fbf9c137100", func := "loop.example/quarterdeck/laws.FnSigsOk", spec := "fnSigsOk", apart := false, narrowed := true }
def FnSigsOkUptoSaid : Prop := fnSigsOkUptoRow.holds Try.pinned (OpenSpec.upto fnSigsOkSpec)

/-- 'laws.FnSigsSet', WHERE WHAT IT READS IS OF BULK AT MOST 1048576: true; the input reads as it did. -/
def fnSigsSetUptoRow : OpenClaim := { program := "ytncinocpdeokgaa", sum := "f33bdcd800d6ac6ee161cfcf78a6af8f4ca075fa1743be72b2ed1fbf9c137100", func := "loop.example/quarterdeck/laws.FnSigsSet", spec := "fnSigsSet", apart := false, narrowed := true }
def FnSigsSetUptoSaid : Prop := fnSigsSetUptoRow.holds Try.pinned (OpenSpec.upto fnSigsSetSpec)

/-- 'laws.FnSigsBlock', WHERE WHAT IT READS IS OF BULK AT MOST 1048576: true; the input reads as it did. -/
def fnSigsBlockUptoRow : OpenClaim := { program := "ytncinocpdeokgaa", sum := "f33bdcd800d6ac6ee161cfcf78a6af8f4ca075fa1743be72b2ed1fbf9c137100", func := "loop.example/quarterdeck/laws.FnSigsBlock", spec := "fnSigsBlock", apart := false, narrowed := true }
def FnSigsBlockUptoSaid : Prop := fnSigsBlockUptoRow.holds Try.pinned (OpenSpec.upto fnSigsBlockSpec)

/-- 'laws.FnSigsSend', WHERE WHAT IT READS IS OF BULK AT MOST 1048576: true; the input reads as it did. -/
def fnSigsSendUptoRow : OpenClaim := { program := "ytncinocpdeokgaa", sum := "f33bdcd800d6ac6ee161cfcf78a6af8f4ca075fa1743be72b2ed1fbf9c137100", func := "loop.example/quarterdeck/laws.FnSigsSend", spec := "fnSigsSend", apart := false, narrowed := true }
def FnSigsSendUptoSaid : Prop := fnSigsSendUptoRow.holds Try.pinned (OpenSpec.upto fnSigsSendSpec)

/-- 'laws.FnSigsNext', WHERE WHAT IT READS IS OF BULK AT MOST 1048576: true; the input reads as it did. -/
def fnSigsNextUptoRow : OpenClaim := { program := "ytncinocpdeokgaa", sum := "f33bdcd800d6ac6ee161cfcf78a6af8f4ca075fa1743be72b2ed1fbf9c137100", func := "loop.example/quarterdeck/laws.FnSigsNext", spec := "fnSigsNext", apart := false, narrowed := true }
def FnSigsNextUptoSaid : Prop := fnSigsNextUptoRow.holds Try.pinned (OpenSpec.upto fnSigsNextSpec)

/-- 'laws.FnSigsFork', WHERE WHAT IT READS IS OF BULK AT MOST 1048576: true; the input reads as it did. -/
def fnSigsForkUptoRow : OpenClaim := { program := "ytncinocpdeokgaa", sum := "f33bdcd800d6ac6ee161cfcf78a6af8f4ca075fa1743be72b2ed1fbf9c137100", func := "loop.example/quarterdeck/laws.FnSigsFork", spec := "fnSigsFork", apart := false, narrowed := true }
def FnSigsForkUptoSaid : Prop := fnSigsForkUptoRow.holds Try.pinned (OpenSpec.upto fnSigsForkSpec)

/-- 'laws.FnSigsRun', WHERE WHAT IT READS IS OF BULK AT MOST 1048576: true; the input reads as it did. -/
def fnSigsRunUptoRow : OpenClaim := { program := "ytncinocpdeokgaa", sum := "f33bdcd800d6ac6ee161cfcf78a6af8f4ca075fa1743be72b2ed1fbf9c137100", func := "loop.example/quarterdeck/laws.FnSigsRun", spec := "fnSigsRun", apart := false, narrowed := true }
def FnSigsRunUptoSaid : Prop := fnSigsRunUptoRow.holds Try.pinned (OpenSpec.upto fnSigsRunSpec)

/-- 'laws.FnSigsDrain', WHERE WHAT IT READS IS OF BULK AT MOST 1048576: true; the input reads as it did. -/
def fnSigsDrainUptoRow : OpenClaim := { program := "ytncinocpdeokgaa", sum := "f33bdcd800d6ac6ee161cfcf78a6af8f4ca075fa1743be72b2ed1fbf9c137100", func := "loop.example/quarterdeck/laws.FnSigsDrain", spec := "fnSigsDrain", apart := false, narrowed := true }
def FnSigsDrainUptoSaid : Prop := fnSigsDrainUptoRow.holds Try.pinned (OpenSpec.upto fnSigsDrainSpec)

/-- 'laws.FnSigsBlocked', WHERE WHAT IT READS IS OF BULK AT MOST 1048576: true; the input reads as it did. -/
def fnSigsBlockedUptoRow : OpenClaim := { program := "ytncinocpdeokgaa", sum := "f33bdcd800d6ac6ee161cfcf78a6af8f4ca075fa1743be72b2ed1fbf9c137100", func := "loop.example/quarterdeck/laws.FnSigsBlocked", spec := "fnSigsBlocked", apart := false, narrowed := true }
def FnSigsBlockedUptoSaid : Prop := fnSigsBlockedUptoRow.holds Try.pinned (OpenSpec.upto fnSigsBlockedSpec)

/-- 'laws.FnSigsTurn', WHERE WHAT IT READS IS OF BULK AT MOST 1048576: true; the input reads as it did. -/
def fnSigsTurnUptoRow : OpenClaim := { program := "ytncinocpdeokgaa", sum := "f33bdcd800d6ac6ee161cfcf78a6af8f4ca075fa1743be72b2ed1fbf9c137100", func := "loop.example/quarterdeck/laws.FnSigsTurn", spec := "fnSigsTurn", apart := false, narrowed := true }
def FnSigsTurnUptoSaid : Prop := fnSigsTurnUptoRow.holds Try.pinned (OpenSpec.upto fnSigsTurnSpec)

/-- 'laws.FnExactSigsNew', WHERE WHAT IT READS IS OF BULK AT MOST 1048576: true; the input reads as it did. -/
def fnExactSigsNewUptoRow : OpenClaim := { program := "ytncinocpdeokgaa", sum := "f33bdcd800d6ac6ee161cfcf78a6af8f4ca075fa1743be72b2ed1fbf9c137100", func := "loop.example/quarterdeck/laws.FnExactSigsNew", spec := "fnExactSigsNew", apart := false, narrowed := true }
def FnExactSigsNewUptoSaid : Prop := fnExactSigsNewUptoRow.holds Try.pinned (OpenSpec.upto fnExactSigsNewSpec)

/-- 'laws.FnExactSigsOk', WHERE WHAT IT READS IS OF BULK AT MOST 1048576: true; the input reads as it did. -/
def fnExactSigsOkUptoRow : OpenClaim := { program := "ytncinocpdeokgaa", sum := "f33bdcd800d6ac6ee161cfcf78a6af8f4ca075fa1743be72b2ed1fbf9c137100", func := "loop.example/quarterdeck/laws.FnExactSigsOk", spec := "fnExactSigsOk", apart := false, narrowed := true }
def FnExactSigsOkUptoSaid : Prop := fnExactSigsOkUptoRow.holds Try.pinned (OpenSpec.upto fnExactSigsOkSpec)

/-- 'laws.FnExactSigsSet', WHERE WHAT IT READS IS OF BULK AT MOST 1048576: true; the input reads as it did. -/
def fnExactSigsSetUptoRow : OpenClaim := { program := "ytncinocpdeokgaa", sum := "f33bdcd800d6ac6ee161cfcf78a6af8f4ca075fa1743be72b2ed1fbf9c137100", func := "loop.example/quarterdeck/laws.FnExactSigsSet", spec := "fnExactSigsSet", apart := false, narrowed := true }
def FnExactSigsSetUptoSaid : Prop := fnExactSigsSetUptoRow.holds Try.pinned (OpenSpec.upto fnExactSigsSetSpec)

/-- 'laws.FnExactSigsBlock', WHERE WHAT IT READS IS OF BULK AT MOST 1048576: true; the input reads as it did. -/
def fnExactSigsBlockUptoRow : OpenClaim := { program := "ytncinocpdeokgaa", sum := "f33bdcd800d6ac6ee161cfcf78a6af8f4ca075fa1743be72b2ed1fbf9c137100", func := "loop.example/quarterdeck/laws.FnExactSigsBlock", spec := "fnExactSigsBlock", apart := false, narrowed := true }
def FnExactSigsBlockUptoSaid : Prop := fnExactSigsBlockUptoRow.holds Try.pinned (OpenSpec.upto fnExactSigsBlockSpec)

/-- 'laws.FnExactSigsSend', WHERE WHAT IT READS IS OF BULK AT MOST 1048576: true; the input reads as it did. -/
def fnExactSigsSendUptoRow : OpenClaim := { program := "ytncinocpdeokgaa", sum := "f33bdcd800d6ac6ee161cfcf78a6af8f4ca075fa1743be72b2ed1fbf9c137100", func := "loop.example/quarterdeck/laws.FnExactSigsSend", spec := "fnExactSigsSend", apart := false, narrowed := true }
def FnExactSigsSendUptoSaid : Prop := fnExactSigsSendUptoRow.holds Try.pinned (OpenSpec.upto fnExactSigsSendSpec)

/-- 'laws.FnExactSigsNext', WHERE WHAT IT READS IS OF BULK AT MOST 1048576: true; the input reads as it did. -/
def fnExactSigsNextUptoRow : OpenClaim := { program := "ytncinocpdeokgaa", sum := "f33bdcd800d6ac6ee161cfcf78a6af8f4ca075fa1743be72b2ed1fbf9c137100", func := "loop.example/quarterdeck/laws.FnExactSigsNext", spec := "fnExactSigsNext", apart := false, narrowed := true }
def FnExactSigsNextUptoSaid : Prop := fnExactSigsNextUptoRow.holds Try.pinned (OpenSpec.upto fnExactSigsNextSpec)

/-- 'laws.FnExactSigsFork', WHERE WHAT IT READS IS OF BULK AT MOST 1048576: true; the input reads as it did. -/
def fnExactSigsForkUptoRow : OpenClaim := { program := "ytncinocpdeokgaa", sum := "f33bdcd800d6ac6ee161cfcf78a6af8f4ca075fa1743be72b2ed1fbf9c137100", func := "loop.example/quarterdeck/laws.FnExactSigsFork", spec := "fnExactSigsFork", apart := false, narrowed := true }
def FnExactSigsForkUptoSaid : Prop := fnExactSigsForkUptoRow.holds Try.pinned (OpenSpec.upto fnExactSigsForkSpec)

/-- 'laws.FnExactSigsRun', WHERE WHAT IT READS IS OF BULK AT MOST 1048576: true; the input reads as it did. -/
def fnExactSigsRunUptoRow : OpenClaim := { program := "ytncinocpdeokgaa", sum := "f33bdcd800d6ac6ee161cfcf78a6af8f4ca075fa1743be72b2ed1fbf9c137100", func := "loop.example/quarterdeck/laws.FnExactSigsRun", spec := "fnExactSigsRun", apart := false, narrowed := true }
def FnExactSigsRunUptoSaid : Prop := fnExactSigsRunUptoRow.holds Try.pinned (OpenSpec.upto fnExactSigsRunSpec)

end Rows
end Go.Proofs.Ytncinocpdeokgaa

/-
  No cell of these rows narrows 'for every input' (looked for: loops, veiled, ifaces, maps, wideKeys, modest, calm, conditions, laid).
  DERIVED. THE GIVEN ROWS OF THIS SEAT. 16 by the template 'for every input the law returns true; each argument reads behind the call as it read before'; 0 by the template 'total and deterministic' (their statements: YtpmigekejipohaaTotals.lean).
  GIVEN WITH THE SEED: the statements are not yours to turn. If you find one false, say at which input.
  Laid BY PROGRAM, IN A SANDBOX (cutbox-rows.mjs): the forced cells as the released guide's own fill.sh prints them over the translation b86fde710de5ae5d… (all of the seat's roots in one cut). By AI agents, Wed Nov 11 2026. No macro, syntax, notation, axiom, sorry.
-/
import Derived.Test.YtpmigekejipohaaChecked
import GoSem.Claim
import GoSem.ClaimJoined
import GoSem.ClaimMapViews
import Derived.JoinedTies
import Derived.KernelRfl
namespace Go.Proofs.Ytpmigekejipohaa
/- THE CELL 'sum', in the pinned program and in every row, IS THE sha256 OF THE DUMP (.gsa) THAT YtpmigekejipohaaProg.lean LOADS. Nothing in Lean hashes anything: it is a label: what it is worth is what the hold of that sum in a sandbox is worth. -/
noncomputable def Try.pinned : Pinned := { name := "ytpmigekejipohaa", sum := "b86fde710de5ae5d26a50e3d250072a63df2a5b7b11031bf2e8691527c6910e1", checked := Try.checked }
namespace Rows
def none {H : Type} : Left H := { results := [], args := [] }

/-- 'laws.FnLockNew': WHATEVER THE INPUT: true; the input reads as it did. -/
def fnLockNewSpec : ChangeSpec := { name := "fnLockNew", fn := fun _ => fun
  | [d] => { results := [.lit (.bool true)], args := [d] }
  | _ => none }
def fnLockNewRow : OpenClaim := { program := "ytpmigekejipohaa", sum := "b86fde710de5ae5d26a50e3d250072a63df2a5b7b11031bf2e8691527c6910e1", func := "loop.example/quarterdeck/laws.FnLockNew", spec := "fnLockNew", unfollowed := true, recurses := true, plainKeys := false, apart := false }
def FnLockNewSaid : Prop := fnLockNewRow.holds Try.pinned (OpenSpec.ofChange fnLockNewSpec)

/-- ITS FALSE NEIGHBOUR: 'it returns false'. Refute it at one input. -/
def fnLockNewWrong : ChangeSpec := { name := "fnLockNew", fn := fun _ => fun
  | [d] => { results := [.lit (.bool false)], args := [d] }
  | _ => none }
def FnLockNewWrongFalsely : Prop := fnLockNewRow.holds Try.pinned (OpenSpec.ofChange fnLockNewWrong)

/-- 'laws.FnLockOk': WHATEVER THE INPUT: true; the input reads as it did. -/
def fnLockOkSpec : ChangeSpec := { name := "fnLockOk", fn := fun _ => fun
  | [d] => { results := [.lit (.bool true)], args := [d] }
  | _ => none }
def fnLockOkRow : OpenClaim := { program := "ytpmigekejipohaa", sum := "b86fde710de5ae5d26a50e3d250072a63df2a5b7b11031bf2e8691527c6910e1", func := "loop.example/quarterdeck/laws.FnLockOk", spec := "fnLockOk", unfollowed := true, recurses := true, plainKeys := false, apart := false }
def FnLockOkSaid : Prop := fnLockOkRow.holds Try.pinned (OpenSpec.ofChange fnLockOkSpec)

/-- ITS FALSE NEIGHBOUR: 'it returns false'. Refute it at one input. -/
def fnLockOkWrong : ChangeSpec := { name := "fnLockOk", fn := fun _ => fun
  | [d] => { results := [.lit (.bool false)], args := [d] }
  | _ => none }
def FnLockOkWrongFalsely : Prop := fnLockOkRow.holds Try.pinned (OpenSpec.ofChange fnLockOkWrong)

/-- 'laws.FnLockStep': WHATEVER THE INPUT: true; the input reads as it did. -/
def fnLockStepSpec : ChangeSpec := { name := "fnLockStep", fn := fun _ => fun
  | [d] => { results := [.lit (.bool true)], args := [d] }
  | _ => none }
def fnLockStepRow : OpenClaim := { program := "ytpmigekejipohaa", sum := "b86fde710de5ae5d26a50e3d250072a63df2a5b7b11031bf2e8691527c6910e1", func := "loop.example/quarterdeck/laws.FnLockStep", spec := "fnLockStep", unfollowed := true, recurses := true, plainKeys := false, apart := false }
def FnLockStepSaid : Prop := fnLockStepRow.holds Try.pinned (OpenSpec.ofChange fnLockStepSpec)

/-- ITS FALSE NEIGHBOUR: 'it returns false'. Refute it at one input. -/
def fnLockStepWrong : ChangeSpec := { name := "fnLockStep", fn := fun _ => fun
  | [d] => { results := [.lit (.bool false)], args := [d] }
  | _ => none }
def FnLockStepWrongFalsely : Prop := fnLockStepRow.holds Try.pinned (OpenSpec.ofChange fnLockStepWrong)

/-- 'laws.FnLockRun': WHATEVER THE INPUT: true; the input reads as it did. -/
def fnLockRunSpec : ChangeSpec := { name := "fnLockRun", fn := fun _ => fun
  | [d1, d2] => { results := [.lit (.bool true)], args := [d1, d2] }
  | _ => none }
def fnLockRunRow : OpenClaim := { program := "ytpmigekejipohaa", sum := "b86fde710de5ae5d26a50e3d250072a63df2a5b7b11031bf2e8691527c6910e1", func := "loop.example/quarterdeck/laws.FnLockRun", spec := "fnLockRun", unfollowed := true, recurses := true, plainKeys := false, apart := false }
def FnLockRunSaid : Prop := fnLockRunRow.holds Try.pinned (OpenSpec.ofChange fnLockRunSpec)

/-- ITS FALSE NEIGHBOUR: 'it returns false'. Refute it at one input. -/
def fnLockRunWrong : ChangeSpec := { name := "fnLockRun", fn := fun _ => fun
  | [d1, d2] => { results := [.lit (.bool false)], args := [d1, d2] }
  | _ => none }
def FnLockRunWrongFalsely : Prop := fnLockRunRow.holds Try.pinned (OpenSpec.ofChange fnLockRunWrong)

/-- 'laws.FnLockIn': WHATEVER THE INPUT: true; the input reads as it did. -/
def fnLockInSpec : ChangeSpec := { name := "fnLockIn", fn := fun _ => fun
  | [d] => { results := [.lit (.bool true)], args := [d] }
  | _ => none }
def fnLockInRow : OpenClaim := { program := "ytpmigekejipohaa", sum := "b86fde710de5ae5d26a50e3d250072a63df2a5b7b11031bf2e8691527c6910e1", func := "loop.example/quarterdeck/laws.FnLockIn", spec := "fnLockIn", unfollowed := true, recurses := true, plainKeys := false, apart := false }
def FnLockInSaid : Prop := fnLockInRow.holds Try.pinned (OpenSpec.ofChange fnLockInSpec)

/-- ITS FALSE NEIGHBOUR: 'it returns false'. Refute it at one input. -/
def fnLockInWrong : ChangeSpec := { name := "fnLockIn", fn := fun _ => fun
  | [d] => { results := [.lit (.bool false)], args := [d] }
  | _ => none }
def FnLockInWrongFalsely : Prop := fnLockInRow.holds Try.pinned (OpenSpec.ofChange fnLockInWrong)

/-- 'laws.FnLockAll': WHATEVER THE INPUT: true; the input reads as it did. -/
def fnLockAllSpec : ChangeSpec := { name := "fnLockAll", fn := fun _ => fun
  | [d] => { results := [.lit (.bool true)], args := [d] }
  | _ => none }
def fnLockAllRow : OpenClaim := { program := "ytpmigekejipohaa", sum := "b86fde710de5ae5d26a50e3d250072a63df2a5b7b11031bf2e8691527c6910e1", func := "loop.example/quarterdeck/laws.FnLockAll", spec := "fnLockAll", unfollowed := true, recurses := true, plainKeys := false, apart := false }
def FnLockAllSaid : Prop := fnLockAllRow.holds Try.pinned (OpenSpec.ofChange fnLockAllSpec)

/-- ITS FALSE NEIGHBOUR: 'it returns false'. Refute it at one input. -/
def fnLockAllWrong : ChangeSpec := { name := "fnLockAll", fn := fun _ => fun
  | [d] => { results := [.lit (.bool false)], args := [d] }
  | _ => none }
def FnLockAllWrongFalsely : Prop := fnLockAllRow.holds Try.pinned (OpenSpec.ofChange fnLockAllWrong)

/-- 'laws.FnLockOne': WHATEVER THE INPUT: true; the input reads as it did. -/
def fnLockOneSpec : ChangeSpec := { name := "fnLockOne", fn := fun _ => fun
  | [d1, d2] => { results := [.lit (.bool true)], args := [d1, d2] }
  | _ => none }
def fnLockOneRow : OpenClaim := { program := "ytpmigekejipohaa", sum := "b86fde710de5ae5d26a50e3d250072a63df2a5b7b11031bf2e8691527c6910e1", func := "loop.example/quarterdeck/laws.FnLockOne", spec := "fnLockOne", unfollowed := true, recurses := true, plainKeys := false, apart := false }
def FnLockOneSaid : Prop := fnLockOneRow.holds Try.pinned (OpenSpec.ofChange fnLockOneSpec)

/-- ITS FALSE NEIGHBOUR: 'it returns false'. Refute it at one input. -/
def fnLockOneWrong : ChangeSpec := { name := "fnLockOne", fn := fun _ => fun
  | [d1, d2] => { results := [.lit (.bool false)], args := [d1, d2] }
  | _ => none }
def FnLockOneWrongFalsely : Prop := fnLockOneRow.holds Try.pinned (OpenSpec.ofChange fnLockOneWrong)

/-- 'laws.FnLockEnds': WHATEVER THE INPUT: true; the input reads as it did. -/
def fnLockEndsSpec : ChangeSpec := { name := "fnLockEnds", fn := fun _ => fun
  | [d1, d2] => { results := [.lit (.bool true)], args := [d1, d2] }
  | _ => none }
def fnLockEndsRow : OpenClaim := { program := "ytpmigekejipohaa", sum := "b86fde710de5ae5d26a50e3d250072a63df2a5b7b11031bf2e8691527c6910e1", func := "loop.example/quarterdeck/laws.FnLockEnds", spec := "fnLockEnds", unfollowed := true, recurses := true, plainKeys := false, apart := false }
def FnLockEndsSaid : Prop := fnLockEndsRow.holds Try.pinned (OpenSpec.ofChange fnLockEndsSpec)

/-- ITS FALSE NEIGHBOUR: 'it returns false'. Refute it at one input. -/
def fnLockEndsWrong : ChangeSpec := { name := "fnLockEnds", fn := fun _ => fun
  | [d1, d2] => { results := [.lit (.bool false)], args := [d1, d2] }
  | _ => none }
def FnLockEndsWrongFalsely : Prop := fnLockEndsRow.holds Try.pinned (OpenSpec.ofChange fnLockEndsWrong)

/-- 'laws.FnLockQuick': WHATEVER THE INPUT: true; the input reads as it did. -/
def fnLockQuickSpec : ChangeSpec := { name := "fnLockQuick", fn := fun _ => fun
  | [d] => { results := [.lit (.bool true)], args := [d] }
  | _ => none }
def fnLockQuickRow : OpenClaim := { program := "ytpmigekejipohaa", sum := "b86fde710de5ae5d26a50e3d250072a63df2a5b7b11031bf2e8691527c6910e1", func := "loop.example/quarterdeck/laws.FnLockQuick", spec := "fnLockQuick", unfollowed := true, recurses := true, plainKeys := false, apart := false }
def FnLockQuickSaid : Prop := fnLockQuickRow.holds Try.pinned (OpenSpec.ofChange fnLockQuickSpec)

/-- ITS FALSE NEIGHBOUR: 'it returns false'. Refute it at one input. -/
def fnLockQuickWrong : ChangeSpec := { name := "fnLockQuick", fn := fun _ => fun
  | [d] => { results := [.lit (.bool false)], args := [d] }
  | _ => none }
def FnLockQuickWrongFalsely : Prop := fnLockQuickRow.holds Try.pinned (OpenSpec.ofChange fnLockQuickWrong)

/-- 'laws.FnLockWord': WHATEVER THE INPUT: true; the input reads as it did. -/
def fnLockWordSpec : ChangeSpec := { name := "fnLockWord", fn := fun _ => fun
  | [d1, d2] => { results := [.lit (.bool true)], args := [d1, d2] }
  | _ => none }
def fnLockWordRow : OpenClaim := { program := "ytpmigekejipohaa", sum := "b86fde710de5ae5d26a50e3d250072a63df2a5b7b11031bf2e8691527c6910e1", func := "loop.example/quarterdeck/laws.FnLockWord", spec := "fnLockWord", unfollowed := true, recurses := true, plainKeys := false, apart := false }
def FnLockWordSaid : Prop := fnLockWordRow.holds Try.pinned (OpenSpec.ofChange fnLockWordSpec)

/-- ITS FALSE NEIGHBOUR: 'it returns false'. Refute it at one input. -/
def fnLockWordWrong : ChangeSpec := { name := "fnLockWord", fn := fun _ => fun
  | [d1, d2] => { results := [.lit (.bool false)], args := [d1, d2] }
  | _ => none }
def FnLockWordWrongFalsely : Prop := fnLockWordRow.holds Try.pinned (OpenSpec.ofChange fnLockWordWrong)

/-- 'laws.FnExactLockNew': WHATEVER THE INPUT: true; the input reads as it did. -/
def fnExactLockNewSpec : ChangeSpec := { name := "fnExactLockNew", fn := fun _ => fun
  | [d1, d2] => { results := [.lit (.bool true)], args := [d1, d2] }
  | _ => none }
def fnExactLockNewRow : OpenClaim := { program := "ytpmigekejipohaa", sum := "b86fde710de5ae5d26a50e3d250072a63df2a5b7b11031bf2e8691527c6910e1", func := "loop.example/quarterdeck/laws.FnExactLockNew", spec := "fnExactLockNew", plainKeys := false, apart := false }
def FnExactLockNewSaid : Prop := fnExactLockNewRow.holds Try.pinned (OpenSpec.ofChange fnExactLockNewSpec)

/-- ITS FALSE NEIGHBOUR: 'it returns false'. Refute it at one input. -/
def fnExactLockNewWrong : ChangeSpec := { name := "fnExactLockNew", fn := fun _ => fun
  | [d1, d2] => { results := [.lit (.bool false)], args := [d1, d2] }
  | _ => none }
def FnExactLockNewWrongFalsely : Prop := fnExactLockNewRow.holds Try.pinned (OpenSpec.ofChange fnExactLockNewWrong)

/-- 'laws.FnExactLockOk': WHATEVER THE INPUT: true; the input reads as it did. -/
def fnExactLockOkSpec : ChangeSpec := { name := "fnExactLockOk", fn := fun _ => fun
  | [d] => { results := [.lit (.bool true)], args := [d] }
  | _ => none }
def fnExactLockOkRow : OpenClaim := { program := "ytpmigekejipohaa", sum := "b86fde710de5ae5d26a50e3d250072a63df2a5b7b11031bf2e8691527c6910e1", func := "loop.example/quarterdeck/laws.FnExactLockOk", spec := "fnExactLockOk", unfollowed := true, recurses := true, plainKeys := false, apart := false }
def FnExactLockOkSaid : Prop := fnExactLockOkRow.holds Try.pinned (OpenSpec.ofChange fnExactLockOkSpec)

/-- ITS FALSE NEIGHBOUR: 'it returns false'. Refute it at one input. -/
def fnExactLockOkWrong : ChangeSpec := { name := "fnExactLockOk", fn := fun _ => fun
  | [d] => { results := [.lit (.bool false)], args := [d] }
  | _ => none }
def FnExactLockOkWrongFalsely : Prop := fnExactLockOkRow.holds Try.pinned (OpenSpec.ofChange fnExactLockOkWrong)

/-- 'laws.FnExactLockStep': WHATEVER THE INPUT: true; the input reads as it did. -/
def fnExactLockStepSpec : ChangeSpec := { name := "fnExactLockStep", fn := fun _ => fun
  | [d1, d2] => { results := [.lit (.bool true)], args := [d1, d2] }
  | _ => none }
def fnExactLockStepRow : OpenClaim := { program := "ytpmigekejipohaa", sum := "b86fde710de5ae5d26a50e3d250072a63df2a5b7b11031bf2e8691527c6910e1", func := "loop.example/quarterdeck/laws.FnExactLockStep", spec := "fnExactLockStep", unfollowed := true, recurses := true, plainKeys := false, apart := false }
def FnExactLockStepSaid : Prop := fnExactLockStepRow.holds Try.pinned (OpenSpec.ofChange fnExactLockStepSpec)

/-- ITS FALSE NEIGHBOUR: 'it returns false'. Refute it at one input. -/
def fnExactLockStepWrong : ChangeSpec := { name := "fnExactLockStep", fn := fun _ => fun
  | [d1, d2] => { results := [.lit (.bool false)], args := [d1, d2] }
  | _ => none }
def FnExactLockStepWrongFalsely : Prop := fnExactLockStepRow.holds Try.pinned (OpenSpec.ofChange fnExactLockStepWrong)

/-- 'laws.FnExactLockRun': WHATEVER THE INPUT: true; the input reads as it did. -/
def fnExactLockRunSpec : ChangeSpec := { name := "fnExactLockRun", fn := fun _ => fun
  | [d1, d2] => { results := [.lit (.bool true)], args := [d1, d2] }
  | _ => none }
def fnExactLockRunRow : OpenClaim := { program := "ytpmigekejipohaa", sum := "b86fde710de5ae5d26a50e3d250072a63df2a5b7b11031bf2e8691527c6910e1", func := "loop.example/quarterdeck/laws.FnExactLockRun", spec := "fnExactLockRun", unfollowed := true, recurses := true, plainKeys := false, apart := false }
def FnExactLockRunSaid : Prop := fnExactLockRunRow.holds Try.pinned (OpenSpec.ofChange fnExactLockRunSpec)

/-- ITS FALSE NEIGHBOUR: 'it returns false'. Refute it at one input. -/
def fnExactLockRunWrong : ChangeSpec := { name := "fnExactLockRun", fn := fun _ => fun
  | [d1, d2] => { results := [.lit (.bool false)], args := [d1, d2] }
  | _ => none }
def FnExactLockRunWrongFalsely : Prop := fnExactLockRunRow.holds Try.pinned (OpenSpec.ofChange fnExactLockRunWrong)

/-- 'laws.FnExactLockIn': WHATEVER THE INPUT: true; the input reads as it did. -/
def fnExactLockInSpec : ChangeSpec := { name := "fnExactLockIn", fn := fun _ => fun
  | [d] => { results := [.lit (.bool true)], args := [d] }
  | _ => none }
def fnExactLockInRow : OpenClaim := { program := "ytpmigekejipohaa", sum := "b86fde710de5ae5d26a50e3d250072a63df2a5b7b11031bf2e8691527c6910e1", func := "loop.example/quarterdeck/laws.FnExactLockIn", spec := "fnExactLockIn", unfollowed := true, recurses := true, plainKeys := false, apart := false }
def FnExactLockInSaid : Prop := fnExactLockInRow.holds Try.pinned (OpenSpec.ofChange fnExactLockInSpec)

/-- ITS FALSE NEIGHBOUR: 'it returns false'. Refute it at one input. -/
def fnExactLockInWrong : ChangeSpec := { name := "fnExactLockIn", fn := fun _ => fun
  | [d] => { results := [.lit (.bool false)], args := [d] }
  | _ => none }
def FnExactLockInWrongFalsely : Prop := fnExactLockInRow.holds Try.pinned (OpenSpec.ofChange fnExactLockInWrong)

/-- 'laws.FnExactLockAll': WHATEVER THE INPUT: true; the input reads as it did. -/
def fnExactLockAllSpec : ChangeSpec := { name := "fnExactLockAll", fn := fun _ => fun
  | [d1, d2] => { results := [.lit (.bool true)], args := [d1, d2] }
  | _ => none }
def fnExactLockAllRow : OpenClaim := { program := "ytpmigekejipohaa", sum := "b86fde710de5ae5d26a50e3d250072a63df2a5b7b11031bf2e8691527c6910e1", func := "loop.example/quarterdeck/laws.FnExactLockAll", spec := "fnExactLockAll", unfollowed := true, recurses := true, plainKeys := false, apart := false }
def FnExactLockAllSaid : Prop := fnExactLockAllRow.holds Try.pinned (OpenSpec.ofChange fnExactLockAllSpec)

/-- ITS FALSE NEIGHBOUR: 'it returns false'. Refute it at one input. -/
def fnExactLockAllWrong : ChangeSpec := { name := "fnExactLockAll", fn := fun _ => fun
  | [d1, d2] => { results := [.lit (.bool false)], args := [d1, d2] }
  | _ => none }
def FnExactLockAllWrongFalsely : Prop := fnExactLockAllRow.holds Try.pinned (OpenSpec.ofChange fnExactLockAllWrong)

/- THE SECOND FORM. 'bulk': how many values and letters a reading holds, each counted each time it is reached (what is shared counts as often as it is met; a slice's spare places count too). A statement '..UptoSaid' is the law's where the arguments, and the package variables that the reading takes, are together of bulk at most 1048576: NARROWER than '..Said'. Prove '..Said' where nothing that the law and all that it calls make is longer than what came in: it says more and counts as full. Else prove '..UptoSaid'. A law counts once. -/
mutual
def uptoBulk {H : Type} : DataW H → Nat
  | .lit (.string bytes) => bytes.length + 1
  | .lit _ => 1
  | .nil => 1
  | .ptr d => uptoBulk d + 1
  | .slice elems spare => uptoBulkAll elems + uptoBulkAll spare + 1
  | .agg parts => uptoBulkAll parts + 1
  | .iface _ d => uptoBulk d + 1
  | .map entries => uptoBulkEntries entries + 1
  | .held _ => 1
def uptoBulkAll {H : Type} : List (DataW H) → Nat
  | [] => 0
  | d :: r => uptoBulk d + uptoBulkAll r
def uptoBulkEntries {H : Type} : List (Lit × DataW H) → Nat
  | [] => 0
  | x :: r => uptoBulkEntry x + uptoBulkEntries r
def uptoBulkEntry {H : Type} : Lit × DataW H → Nat
  | (.string bytes, d) => bytes.length + uptoBulk d + 1
  | (_, d) => uptoBulk d + 1
 end
def uptoSmall : (H : Type) → List (DataW H) → Bool := fun _ ds => decide (uptoBulkAll ds ≤ 1048576)
def OpenSpec.upto (s : _root_.Go.ChangeSpec) : _root_.Go.OpenSpec := { _root_.Go.OpenSpec.ofChange s with cond := some uptoSmall }

/-- 'laws.FnLockNew', WHERE WHAT IT READS IS OF BULK AT MOST 1048576: true; the input reads as it did. -/
def fnLockNewUptoRow : OpenClaim := { program := "ytpmigekejipohaa", sum := "b86fde710de5ae5d26a50e3d250072a63df2a5b7b11031bf2e8691527c6910e1", func := "loop.example/quarterdeck/laws.FnLockNew", spec := "fnLockNew", unfollowed := true, recurses := true, plainKeys := false, apart := false, narrowed := true }
def FnLockNewUptoSaid : Prop := fnLockNewUptoRow.holds Try.pinned (OpenSpec.upto fnLockNewSpec)

/-- 'laws.FnLockOk', WHERE WHAT IT READS IS OF BULK AT MOST 1048576: true; the input reads as it did. -/
def fnLockOkUptoRow : OpenClaim := { program := "ytpmigekejipohaa", sum := "b86fde710de5ae5d26a50e3d250072a63df2a5b7b11031bf2e8691527c6910e1", func := "loop.example/quarterdeck/laws.FnLockOk", spec := "fnLockOk", unfollowed := true, recurses := true, plainKeys := false, apart := false, narrowed := true }
def FnLockOkUptoSaid : Prop := fnLockOkUptoRow.holds Try.pinned (OpenSpec.upto fnLockOkSpec)

/-- 'laws.FnLockStep', WHERE WHAT IT READS IS OF BULK AT MOST 1048576: true; the input reads as it did. -/
def fnLockStepUptoRow : OpenClaim := { program := "ytpmigekejipohaa", sum := "b86fde710de5ae5d26a50e3d250072a63df2a5b7b11031bf2e8691527c6910e1", func := "loop.example/quarterdeck/laws.FnLockStep", spec := "fnLockStep", unfollowed := true, recurses := true, plainKeys := false, apart := false, narrowed := true }
def FnLockStepUptoSaid : Prop := fnLockStepUptoRow.holds Try.pinned (OpenSpec.upto fnLockStepSpec)

/-- 'laws.FnLockRun', WHERE WHAT IT READS IS OF BULK AT MOST 1048576: true; the input reads as it did. -/
def fnLockRunUptoRow : OpenClaim := { program := "ytpmigekejipohaa", sum := "b86fde710de5ae5d26a50e3d250072a63df2a5b7b11031bf2e8691527c6910e1", func := "loop.example/quarterdeck/laws.FnLockRun", spec := "fnLockRun", unfollowed := true, recurses := true, plainKeys := false, apart := false, narrowed := true }
def FnLockRunUptoSaid : Prop := fnLockRunUptoRow.holds Try.pinned (OpenSpec.upto fnLockRunSpec)

/-- 'laws.FnLockIn', WHERE WHAT IT READS IS OF BULK AT MOST 1048576: true; the input reads as it did. -/
def fnLockInUptoRow : OpenClaim := { program := "ytpmigekejipohaa", sum := "b86fde710de5ae5d26a50e3d250072a63df2a5b7b11031bf2e8691527c6910e1", func := "loop.example/quarterdeck/laws.FnLockIn", spec := "fnLockIn", unfollowed := true, recurses := true, plainKeys := false, apart := false, narrowed := true }
def FnLockInUptoSaid : Prop := fnLockInUptoRow.holds Try.pinned (OpenSpec.upto fnLockInSpec)

/-- 'laws.FnLockAll', WHERE WHAT IT READS IS OF BULK AT MOST 1048576: true; the input reads as it did. -/
def fnLockAllUptoRow : OpenClaim := { program := "ytpmigekejipohaa", sum := "b86fde710de5ae5d26a50e3d250072a63df2a5b7b11031bf2e8691527c6910e1", func := "loop.example/quarterdeck/laws.FnLockAll", spec := "fnLockAll", unfollowed := true, recurses := true, plainKeys := false, apart := false, narrowed := true }
def FnLockAllUptoSaid : Prop := fnLockAllUptoRow.holds Try.pinned (OpenSpec.upto fnLockAllSpec)

/-- 'laws.FnLockOne', WHERE WHAT IT READS IS OF BULK AT MOST 1048576: true; the input reads as it did. -/
def fnLockOneUptoRow : OpenClaim := { program := "ytpmigekejipohaa", sum := "b86fde710de5ae5d26a50e3d250072a63df2a5b7b11031bf2e8691527c6910e1", func := "loop.example/quarterdeck/laws.FnLockOne", spec := "fnLockOne", unfollowed := true, recurses := true, plainKeys := false, apart := false, narrowed := true }
def FnLockOneUptoSaid : Prop := fnLockOneUptoRow.holds Try.pinned (OpenSpec.upto fnLockOneSpec)

/-- 'laws.FnLockEnds', WHERE WHAT IT READS IS OF BULK AT MOST 1048576: true; the input reads as it did. -/
def fnLockEndsUptoRow : OpenClaim := { program := "ytpmigekejipohaa", sum := "b86fde710de5ae5d26a50e3d250072a63df2a5b7b11031bf2e8691527c6910e1", func := "loop.example/quarterdeck/laws.FnLockEnds", spec := "fnLockEnds", unfollowed := true, recurses := true, plainKeys := false, apart := false, narrowed := true }
def FnLockEndsUptoSaid : Prop := fnLockEndsUptoRow.holds Try.pinned (OpenSpec.upto fnLockEndsSpec)

/-- 'laws.FnLockQuick', WHERE WHAT IT READS IS OF BULK AT MOST 1048576: true; the input reads as it did. -/
def fnLockQuickUptoRow : OpenClaim := { program := "ytpmigekejipohaa", sum := "b86fde710de5ae5d26a50e3d250072a63df2a5b7b11031bf2e8691527c6910e1", func := "loop.example/quarterdeck/laws.FnLockQuick", spec := "fnLockQuick", unfollowed := true, recurses := true, plainKeys := false, apart := false, narrowed := true }
def FnLockQuickUptoSaid : Prop := fnLockQuickUptoRow.holds Try.pinned (OpenSpec.upto fnLockQuickSpec)

/-- 'laws.FnLockWord', WHERE WHAT IT READS IS OF BULK AT MOST 1048576: true; the input reads as it did. -/
def fnLockWordUptoRow : OpenClaim := { program := "ytpmigekejipohaa", sum := "b86fde710de5ae5d26a50e3d250072a63df2a5b7b11031bf2e8691527c6910e1", func := "loop.example/quarterdeck/laws.FnLockWord", spec := "fnLockWord", unfollowed := true, recurses := true, plainKeys := false, apart := false, narrowed := true }
def FnLockWordUptoSaid : Prop := fnLockWordUptoRow.holds Try.pinned (OpenSpec.upto fnLockWordSpec)

/-- 'laws.FnExactLockNew', WHERE WHAT IT READS IS OF BULK AT MOST 1048576: true; the input reads as it did. -/
def fnExactLockNewUptoRow : OpenClaim := { program := "ytpmigekejipohaa", sum := "b86fde710de5ae5d26a50e3d250072a63df2a5b7b11031bf2e8691527c6910e1", func := "loop.example/quarterdeck/laws.FnExactLockNew", spec := "fnExactLockNew", plainKeys := false, apart := false, narrowed := true }
def FnExactLockNewUptoSaid : Prop := fnExactLockNewUptoRow.holds Try.pinned (OpenSpec.upto fnExactLockNewSpec)

/-- 'laws.FnExactLockOk', WHERE WHAT IT READS IS OF BULK AT MOST 1048576: true; the input reads as it did. -/
def fnExactLockOkUptoRow : OpenClaim := { program := "ytpmigekejipohaa", sum := "b86fde710de5ae5d26a50e3d250072a63df2a5b7b11031bf2e8691527c6910e1", func := "loop.example/quarterdeck/laws.FnExactLockOk", spec := "fnExactLockOk", unfollowed := true, recurses := true, plainKeys := false, apart := false, narrowed := true }
def FnExactLockOkUptoSaid : Prop := fnExactLockOkUptoRow.holds Try.pinned (OpenSpec.upto fnExactLockOkSpec)

/-- 'laws.FnExactLockStep', WHERE WHAT IT READS IS OF BULK AT MOST 1048576: true; the input reads as it did. -/
def fnExactLockStepUptoRow : OpenClaim := { program := "ytpmigekejipohaa", sum := "b86fde710de5ae5d26a50e3d250072a63df2a5b7b11031bf2e8691527c6910e1", func := "loop.example/quarterdeck/laws.FnExactLockStep", spec := "fnExactLockStep", unfollowed := true, recurses := true, plainKeys := false, apart := false, narrowed := true }
def FnExactLockStepUptoSaid : Prop := fnExactLockStepUptoRow.holds Try.pinned (OpenSpec.upto fnExactLockStepSpec)

/-- 'laws.FnExactLockRun', WHERE WHAT IT READS IS OF BULK AT MOST 1048576: true; the input reads as it did. -/
def fnExactLockRunUptoRow : OpenClaim := { program := "ytpmigekejipohaa", sum := "b86fde710de5ae5d26a50e3d250072a63df2a5b7b11031bf2e8691527c6910e1", func := "loop.example/quarterdeck/laws.FnExactLockRun", spec := "fnExactLockRun", unfollowed := true, recurses := true, plainKeys := false, apart := false, narrowed := true }
def FnExactLockRunUptoSaid : Prop := fnExactLockRunUptoRow.holds Try.pinned (OpenSpec.upto fnExactLockRunSpec)

/-- 'laws.FnExactLockIn', WHERE WHAT IT READS IS OF BULK AT MOST 1048576: true; the input reads as it did. -/
def fnExactLockInUptoRow : OpenClaim := { program := "ytpmigekejipohaa", sum := "b86fde710de5ae5d26a50e3d250072a63df2a5b7b11031bf2e8691527c6910e1", func := "loop.example/quarterdeck/laws.FnExactLockIn", spec := "fnExactLockIn", unfollowed := true, recurses := true, plainKeys := false, apart := false, narrowed := true }
def FnExactLockInUptoSaid : Prop := fnExactLockInUptoRow.holds Try.pinned (OpenSpec.upto fnExactLockInSpec)

/-- 'laws.FnExactLockAll', WHERE WHAT IT READS IS OF BULK AT MOST 1048576: true; the input reads as it did. -/
def fnExactLockAllUptoRow : OpenClaim := { program := "ytpmigekejipohaa", sum := "b86fde710de5ae5d26a50e3d250072a63df2a5b7b11031bf2e8691527c6910e1", func := "loop.example/quarterdeck/laws.FnExactLockAll", spec := "fnExactLockAll", unfollowed := true, recurses := true, plainKeys := false, apart := false, narrowed := true }
def FnExactLockAllUptoSaid : Prop := fnExactLockAllUptoRow.holds Try.pinned (OpenSpec.upto fnExactLockAllSpec)

end Rows
end Go.Proofs.Ytpmigekejipohaa

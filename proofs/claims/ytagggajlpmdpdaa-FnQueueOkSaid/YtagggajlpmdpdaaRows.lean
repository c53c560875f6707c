/-
  No cell of these rows narrows 'for every input' (looked for: loops, veiled, ifaces, maps, wideKeys, modest, calm, conditions, laid).
  DERIVED. THE GIVEN ROWS OF THIS SEAT. 20 by the template 'for every input the law returns true; each argument reads behind the call as it read before'; 0 by the template 'total and deterministic' (their statements: YtagggajlpmdpdaaTotals.lean).
  GIVEN WITH THE SEED: the statements are not yours to turn. If you find one false, say at which input.
  Laid BY PROGRAM, IN A SANDBOX (cutbox-rows.mjs): the forced cells as the released guide's own fill.sh prints them over the translation 3d5ec1aa87474c4d… (all of the seat's roots in one cut). By AI agents, Wed Nov 11 2026. No macro, syntax, notation, axiom, sorry.
-/
import Derived.Test.YtagggajlpmdpdaaChecked
import GoSem.Claim
import GoSem.ClaimJoined
import GoSem.ClaimMapViews
import Derived.JoinedTies
import Derived.KernelRfl
namespace Go.Proofs.Ytagggajlpmdpdaa
/- THE CELL 'sum', in the pinned program and in every row, IS THE sha256 OF THE DUMP (.gsa) THAT YtagggajlpmdpdaaProg.lean LOADS. Nothing in Lean hashes anything: it is a label: what it is worth is what the hold of that sum in a sandbox is worth. -/
noncomputable def Try.pinned : Pinned := { name := "ytagggajlpmdpdaa", sum := "3d5ec1aa87474c4d03eb619c972ef90a41c9da294b6af70b0642619bc1a36a9d", checked := Try.checked }
namespace Rows
def none {H : Type} : Left H := { results := [], args := [] }

/-- 'laws.FnQueueOk': WHATEVER THE INPUT: true; the input reads as it did. -/
def fnQueueOkSpec : ChangeSpec := { name := "fnQueueOk", fn := fun _ => fun
  | [d] => { results := [.lit (.bool true)], args := [d] }
  | _ => none }
def fnQueueOkRow : OpenClaim := { program := "ytagggajlpmdpdaa", sum := "3d5ec1aa87474c4d03eb619c972ef90a41c9da294b6af70b0642619bc1a36a9d", func := "loop.example/quarterdeck/laws.FnQueueOk", spec := "fnQueueOk", unfollowed := true, recurses := true, apart := false }
def FnQueueOkSaid : Prop := fnQueueOkRow.holds Try.pinned (OpenSpec.ofChange fnQueueOkSpec)

/-- ITS FALSE NEIGHBOUR: 'it returns false'. Refute it at one input. -/
def fnQueueOkWrong : ChangeSpec := { name := "fnQueueOk", fn := fun _ => fun
  | [d] => { results := [.lit (.bool false)], args := [d] }
  | _ => none }
def FnQueueOkWrongFalsely : Prop := fnQueueOkRow.holds Try.pinned (OpenSpec.ofChange fnQueueOkWrong)

/-- 'laws.FnQueueAdd': WHATEVER THE INPUT: true; the input reads as it did. -/
def fnQueueAddSpec : ChangeSpec := { name := "fnQueueAdd", fn := fun _ => fun
  | [d] => { results := [.lit (.bool true)], args := [d] }
  | _ => none }
def fnQueueAddRow : OpenClaim := { program := "ytagggajlpmdpdaa", sum := "3d5ec1aa87474c4d03eb619c972ef90a41c9da294b6af70b0642619bc1a36a9d", func := "loop.example/quarterdeck/laws.FnQueueAdd", spec := "fnQueueAdd", unfollowed := true, recurses := true, apart := false }
def FnQueueAddSaid : Prop := fnQueueAddRow.holds Try.pinned (OpenSpec.ofChange fnQueueAddSpec)

/-- ITS FALSE NEIGHBOUR: 'it returns false'. Refute it at one input. -/
def fnQueueAddWrong : ChangeSpec := { name := "fnQueueAdd", fn := fun _ => fun
  | [d] => { results := [.lit (.bool false)], args := [d] }
  | _ => none }
def FnQueueAddWrongFalsely : Prop := fnQueueAddRow.holds Try.pinned (OpenSpec.ofChange fnQueueAddWrong)

/-- 'laws.FnQueueLess': WHATEVER THE INPUT: true; the input reads as it did. -/
def fnQueueLessSpec : ChangeSpec := { name := "fnQueueLess", fn := fun _ => fun
  | [d] => { results := [.lit (.bool true)], args := [d] }
  | _ => none }
def fnQueueLessRow : OpenClaim := { program := "ytagggajlpmdpdaa", sum := "3d5ec1aa87474c4d03eb619c972ef90a41c9da294b6af70b0642619bc1a36a9d", func := "loop.example/quarterdeck/laws.FnQueueLess", spec := "fnQueueLess", unfollowed := true, recurses := true, apart := false }
def FnQueueLessSaid : Prop := fnQueueLessRow.holds Try.pinned (OpenSpec.ofChange fnQueueLessSpec)

/-- ITS FALSE NEIGHBOUR: 'it returns false'. Refute it at one input. -/
def fnQueueLessWrong : ChangeSpec := { name := "fnQueueLess", fn := fun _ => fun
  | [d] => { results := [.lit (.bool false)], args := [d] }
  | _ => none }
def FnQueueLessWrongFalsely : Prop := fnQueueLessRow.holds Try.pinned (OpenSpec.ofChange fnQueueLessWrong)

/-- 'laws.FnQueueNext': WHATEVER THE INPUT: true; the input reads as it did. -/
def fnQueueNextSpec : ChangeSpec := { name := "fnQueueNext", fn := fun _ => fun
  | [d] => { results := [.lit (.bool true)], args := [d] }
  | _ => none }
def fnQueueNextRow : OpenClaim := { program := "ytagggajlpmdpdaa", sum := "3d5ec1aa87474c4d03eb619c972ef90a41c9da294b6af70b0642619bc1a36a9d", func := "loop.example/quarterdeck/laws.FnQueueNext", spec := "fnQueueNext", unfollowed := true, recurses := true, apart := false }
def FnQueueNextSaid : Prop := fnQueueNextRow.holds Try.pinned (OpenSpec.ofChange fnQueueNextSpec)

/-- ITS FALSE NEIGHBOUR: 'it returns false'. Refute it at one input. -/
def fnQueueNextWrong : ChangeSpec := { name := "fnQueueNext", fn := fun _ => fun
  | [d] => { results := [.lit (.bool false)], args := [d] }
  | _ => none }
def FnQueueNextWrongFalsely : Prop := fnQueueNextRow.holds Try.pinned (OpenSpec.ofChange fnQueueNextWrong)

/-- 'laws.FnQueueTick': WHATEVER THE INPUT: true; the input reads as it did. -/
def fnQueueTickSpec : ChangeSpec := { name := "fnQueueTick", fn := fun _ => fun
  | [d] => { results := [.lit (.bool true)], args := [d] }
  | _ => none }
def fnQueueTickRow : OpenClaim := { program := "ytagggajlpmdpdaa", sum := "3d5ec1aa87474c4d03eb619c972ef90a41c9da294b6af70b0642619bc1a36a9d", func := "loop.example/quarterdeck/laws.FnQueueTick", spec := "fnQueueTick", unfollowed := true, recurses := true, apart := false }
def FnQueueTickSaid : Prop := fnQueueTickRow.holds Try.pinned (OpenSpec.ofChange fnQueueTickSpec)

/-- ITS FALSE NEIGHBOUR: 'it returns false'. Refute it at one input. -/
def fnQueueTickWrong : ChangeSpec := { name := "fnQueueTick", fn := fun _ => fun
  | [d] => { results := [.lit (.bool false)], args := [d] }
  | _ => none }
def FnQueueTickWrongFalsely : Prop := fnQueueTickRow.holds Try.pinned (OpenSpec.ofChange fnQueueTickWrong)

/-- 'laws.FnQueueSleep': WHATEVER THE INPUT: true; the input reads as it did. -/
def fnQueueSleepSpec : ChangeSpec := { name := "fnQueueSleep", fn := fun _ => fun
  | [d] => { results := [.lit (.bool true)], args := [d] }
  | _ => none }
def fnQueueSleepRow : OpenClaim := { program := "ytagggajlpmdpdaa", sum := "3d5ec1aa87474c4d03eb619c972ef90a41c9da294b6af70b0642619bc1a36a9d", func := "loop.example/quarterdeck/laws.FnQueueSleep", spec := "fnQueueSleep", unfollowed := true, recurses := true, apart := false }
def FnQueueSleepSaid : Prop := fnQueueSleepRow.holds Try.pinned (OpenSpec.ofChange fnQueueSleepSpec)

/-- ITS FALSE NEIGHBOUR: 'it returns false'. Refute it at one input. -/
def fnQueueSleepWrong : ChangeSpec := { name := "fnQueueSleep", fn := fun _ => fun
  | [d] => { results := [.lit (.bool false)], args := [d] }
  | _ => none }
def FnQueueSleepWrongFalsely : Prop := fnQueueSleepRow.holds Try.pinned (OpenSpec.ofChange fnQueueSleepWrong)

/-- 'laws.FnQueueWake': WHATEVER THE INPUT: true; the input reads as it did. -/
def fnQueueWakeSpec : ChangeSpec := { name := "fnQueueWake", fn := fun _ => fun
  | [d] => { results := [.lit (.bool true)], args := [d] }
  | _ => none }
def fnQueueWakeRow : OpenClaim := { program := "ytagggajlpmdpdaa", sum := "3d5ec1aa87474c4d03eb619c972ef90a41c9da294b6af70b0642619bc1a36a9d", func := "loop.example/quarterdeck/laws.FnQueueWake", spec := "fnQueueWake", unfollowed := true, recurses := true, apart := false }
def FnQueueWakeSaid : Prop := fnQueueWakeRow.holds Try.pinned (OpenSpec.ofChange fnQueueWakeSpec)

/-- ITS FALSE NEIGHBOUR: 'it returns false'. Refute it at one input. -/
def fnQueueWakeWrong : ChangeSpec := { name := "fnQueueWake", fn := fun _ => fun
  | [d] => { results := [.lit (.bool false)], args := [d] }
  | _ => none }
def FnQueueWakeWrongFalsely : Prop := fnQueueWakeRow.holds Try.pinned (OpenSpec.ofChange fnQueueWakeWrong)

/-- 'laws.FnQueueRun': WHATEVER THE INPUT: true; the input reads as it did. -/
def fnQueueRunSpec : ChangeSpec := { name := "fnQueueRun", fn := fun _ => fun
  | [d1, d2] => { results := [.lit (.bool true)], args := [d1, d2] }
  | _ => none }
def fnQueueRunRow : OpenClaim := { program := "ytagggajlpmdpdaa", sum := "3d5ec1aa87474c4d03eb619c972ef90a41c9da294b6af70b0642619bc1a36a9d", func := "loop.example/quarterdeck/laws.FnQueueRun", spec := "fnQueueRun", unfollowed := true, recurses := true, apart := false }
def FnQueueRunSaid : Prop := fnQueueRunRow.holds Try.pinned (OpenSpec.ofChange fnQueueRunSpec)

/-- ITS FALSE NEIGHBOUR: 'it returns false'. Refute it at one input. -/
def fnQueueRunWrong : ChangeSpec := { name := "fnQueueRun", fn := fun _ => fun
  | [d1, d2] => { results := [.lit (.bool false)], args := [d1, d2] }
  | _ => none }
def FnQueueRunWrongFalsely : Prop := fnQueueRunRow.holds Try.pinned (OpenSpec.ofChange fnQueueRunWrong)

/-- 'laws.FnShareFair': WHATEVER THE INPUT: true; the input reads as it did. -/
def fnShareFairSpec : ChangeSpec := { name := "fnShareFair", fn := fun _ => fun
  | [d] => { results := [.lit (.bool true)], args := [d] }
  | _ => none }
def fnShareFairRow : OpenClaim := { program := "ytagggajlpmdpdaa", sum := "3d5ec1aa87474c4d03eb619c972ef90a41c9da294b6af70b0642619bc1a36a9d", func := "loop.example/quarterdeck/laws.FnShareFair", spec := "fnShareFair", unfollowed := true, recurses := true, apart := false }
def FnShareFairSaid : Prop := fnShareFairRow.holds Try.pinned (OpenSpec.ofChange fnShareFairSpec)

/-- ITS FALSE NEIGHBOUR: 'it returns false'. Refute it at one input. -/
def fnShareFairWrong : ChangeSpec := { name := "fnShareFair", fn := fun _ => fun
  | [d] => { results := [.lit (.bool false)], args := [d] }
  | _ => none }
def FnShareFairWrongFalsely : Prop := fnShareFairRow.holds Try.pinned (OpenSpec.ofChange fnShareFairWrong)

/-- 'laws.FnShareServed': WHATEVER THE INPUT: true; the input reads as it did. -/
def fnShareServedSpec : ChangeSpec := { name := "fnShareServed", fn := fun _ => fun
  | [d1, d2] => { results := [.lit (.bool true)], args := [d1, d2] }
  | _ => none }
def fnShareServedRow : OpenClaim := { program := "ytagggajlpmdpdaa", sum := "3d5ec1aa87474c4d03eb619c972ef90a41c9da294b6af70b0642619bc1a36a9d", func := "loop.example/quarterdeck/laws.FnShareServed", spec := "fnShareServed", unfollowed := true, recurses := true, apart := false }
def FnShareServedSaid : Prop := fnShareServedRow.holds Try.pinned (OpenSpec.ofChange fnShareServedSpec)

/-- ITS FALSE NEIGHBOUR: 'it returns false'. Refute it at one input. -/
def fnShareServedWrong : ChangeSpec := { name := "fnShareServed", fn := fun _ => fun
  | [d1, d2] => { results := [.lit (.bool false)], args := [d1, d2] }
  | _ => none }
def FnShareServedWrongFalsely : Prop := fnShareServedRow.holds Try.pinned (OpenSpec.ofChange fnShareServedWrong)

/-- 'laws.FnShareSlept': WHATEVER THE INPUT: true; the input reads as it did. -/
def fnShareSleptSpec : ChangeSpec := { name := "fnShareSlept", fn := fun _ => fun
  | [d1, d2] => { results := [.lit (.bool true)], args := [d1, d2] }
  | _ => none }
def fnShareSleptRow : OpenClaim := { program := "ytagggajlpmdpdaa", sum := "3d5ec1aa87474c4d03eb619c972ef90a41c9da294b6af70b0642619bc1a36a9d", func := "loop.example/quarterdeck/laws.FnShareSlept", spec := "fnShareSlept", unfollowed := true, recurses := true, apart := false }
def FnShareSleptSaid : Prop := fnShareSleptRow.holds Try.pinned (OpenSpec.ofChange fnShareSleptSpec)

/-- ITS FALSE NEIGHBOUR: 'it returns false'. Refute it at one input. -/
def fnShareSleptWrong : ChangeSpec := { name := "fnShareSlept", fn := fun _ => fun
  | [d1, d2] => { results := [.lit (.bool false)], args := [d1, d2] }
  | _ => none }
def FnShareSleptWrongFalsely : Prop := fnShareSleptRow.holds Try.pinned (OpenSpec.ofChange fnShareSleptWrong)

/-- 'laws.FnShareGap': WHATEVER THE INPUT: true; the input reads as it did. -/
def fnShareGapSpec : ChangeSpec := { name := "fnShareGap", fn := fun _ => fun
  | [d] => { results := [.lit (.bool true)], args := [d] }
  | _ => none }
def fnShareGapRow : OpenClaim := { program := "ytagggajlpmdpdaa", sum := "3d5ec1aa87474c4d03eb619c972ef90a41c9da294b6af70b0642619bc1a36a9d", func := "loop.example/quarterdeck/laws.FnShareGap", spec := "fnShareGap", unfollowed := true, recurses := true, apart := false }
def FnShareGapSaid : Prop := fnShareGapRow.holds Try.pinned (OpenSpec.ofChange fnShareGapSpec)

/-- ITS FALSE NEIGHBOUR: 'it returns false'. Refute it at one input. -/
def fnShareGapWrong : ChangeSpec := { name := "fnShareGap", fn := fun _ => fun
  | [d] => { results := [.lit (.bool false)], args := [d] }
  | _ => none }
def FnShareGapWrongFalsely : Prop := fnShareGapRow.holds Try.pinned (OpenSpec.ofChange fnShareGapWrong)

/-- 'laws.FnExactQueueOk': WHATEVER THE INPUT: true; the input reads as it did. -/
def fnExactQueueOkSpec : ChangeSpec := { name := "fnExactQueueOk", fn := fun _ => fun
  | [d] => { results := [.lit (.bool true)], args := [d] }
  | _ => none }
def fnExactQueueOkRow : OpenClaim := { program := "ytagggajlpmdpdaa", sum := "3d5ec1aa87474c4d03eb619c972ef90a41c9da294b6af70b0642619bc1a36a9d", func := "loop.example/quarterdeck/laws.FnExactQueueOk", spec := "fnExactQueueOk", unfollowed := true, recurses := true, apart := false }
def FnExactQueueOkSaid : Prop := fnExactQueueOkRow.holds Try.pinned (OpenSpec.ofChange fnExactQueueOkSpec)

/-- ITS FALSE NEIGHBOUR: 'it returns false'. Refute it at one input. -/
def fnExactQueueOkWrong : ChangeSpec := { name := "fnExactQueueOk", fn := fun _ => fun
  | [d] => { results := [.lit (.bool false)], args := [d] }
  | _ => none }
def FnExactQueueOkWrongFalsely : Prop := fnExactQueueOkRow.holds Try.pinned (OpenSpec.ofChange fnExactQueueOkWrong)

/-- 'laws.FnExactQueueAdd': WHATEVER THE INPUT: true; the input reads as it did. -/
def fnExactQueueAddSpec : ChangeSpec := { name := "fnExactQueueAdd", fn := fun _ => fun
  | [d1, d2, d3] => { results := [.lit (.bool true)], args := [d1, d2, d3] }
  | _ => none }
def fnExactQueueAddRow : OpenClaim := { program := "ytagggajlpmdpdaa", sum := "3d5ec1aa87474c4d03eb619c972ef90a41c9da294b6af70b0642619bc1a36a9d", func := "loop.example/quarterdeck/laws.FnExactQueueAdd", spec := "fnExactQueueAdd", unfollowed := true, recurses := true, apart := false }
def FnExactQueueAddSaid : Prop := fnExactQueueAddRow.holds Try.pinned (OpenSpec.ofChange fnExactQueueAddSpec)

/-- ITS FALSE NEIGHBOUR: 'it returns false'. Refute it at one input. -/
def fnExactQueueAddWrong : ChangeSpec := { name := "fnExactQueueAdd", fn := fun _ => fun
  | [d1, d2, d3] => { results := [.lit (.bool false)], args := [d1, d2, d3] }
  | _ => none }
def FnExactQueueAddWrongFalsely : Prop := fnExactQueueAddRow.holds Try.pinned (OpenSpec.ofChange fnExactQueueAddWrong)

/-- 'laws.FnExactQueueLess': WHATEVER THE INPUT: true; the input reads as it did. -/
def fnExactQueueLessSpec : ChangeSpec := { name := "fnExactQueueLess", fn := fun _ => fun
  | [d1, d2] => { results := [.lit (.bool true)], args := [d1, d2] }
  | _ => none }
def fnExactQueueLessRow : OpenClaim := { program := "ytagggajlpmdpdaa", sum := "3d5ec1aa87474c4d03eb619c972ef90a41c9da294b6af70b0642619bc1a36a9d", func := "loop.example/quarterdeck/laws.FnExactQueueLess", spec := "fnExactQueueLess", unfollowed := true, recurses := true, apart := false }
def FnExactQueueLessSaid : Prop := fnExactQueueLessRow.holds Try.pinned (OpenSpec.ofChange fnExactQueueLessSpec)

/-- ITS FALSE NEIGHBOUR: 'it returns false'. Refute it at one input. -/
def fnExactQueueLessWrong : ChangeSpec := { name := "fnExactQueueLess", fn := fun _ => fun
  | [d1, d2] => { results := [.lit (.bool false)], args := [d1, d2] }
  | _ => none }
def FnExactQueueLessWrongFalsely : Prop := fnExactQueueLessRow.holds Try.pinned (OpenSpec.ofChange fnExactQueueLessWrong)

/-- 'laws.FnExactQueueNext': WHATEVER THE INPUT: true; the input reads as it did. -/
def fnExactQueueNextSpec : ChangeSpec := { name := "fnExactQueueNext", fn := fun _ => fun
  | [d] => { results := [.lit (.bool true)], args := [d] }
  | _ => none }
def fnExactQueueNextRow : OpenClaim := { program := "ytagggajlpmdpdaa", sum := "3d5ec1aa87474c4d03eb619c972ef90a41c9da294b6af70b0642619bc1a36a9d", func := "loop.example/quarterdeck/laws.FnExactQueueNext", spec := "fnExactQueueNext", unfollowed := true, recurses := true, apart := false }
def FnExactQueueNextSaid : Prop := fnExactQueueNextRow.holds Try.pinned (OpenSpec.ofChange fnExactQueueNextSpec)

/-- ITS FALSE NEIGHBOUR: 'it returns false'. Refute it at one input. -/
def fnExactQueueNextWrong : ChangeSpec := { name := "fnExactQueueNext", fn := fun _ => fun
  | [d] => { results := [.lit (.bool false)], args := [d] }
  | _ => none }
def FnExactQueueNextWrongFalsely : Prop := fnExactQueueNextRow.holds Try.pinned (OpenSpec.ofChange fnExactQueueNextWrong)

/-- 'laws.FnExactQueueTick': WHATEVER THE INPUT: true; the input reads as it did. -/
def fnExactQueueTickSpec : ChangeSpec := { name := "fnExactQueueTick", fn := fun _ => fun
  | [d] => { results := [.lit (.bool true)], args := [d] }
  | _ => none }
def fnExactQueueTickRow : OpenClaim := { program := "ytagggajlpmdpdaa", sum := "3d5ec1aa87474c4d03eb619c972ef90a41c9da294b6af70b0642619bc1a36a9d", func := "loop.example/quarterdeck/laws.FnExactQueueTick", spec := "fnExactQueueTick", unfollowed := true, recurses := true, apart := false }
def FnExactQueueTickSaid : Prop := fnExactQueueTickRow.holds Try.pinned (OpenSpec.ofChange fnExactQueueTickSpec)

/-- ITS FALSE NEIGHBOUR: 'it returns false'. Refute it at one input. -/
def fnExactQueueTickWrong : ChangeSpec := { name := "fnExactQueueTick", fn := fun _ => fun
  | [d] => { results := [.lit (.bool false)], args := [d] }
  | _ => none }
def FnExactQueueTickWrongFalsely : Prop := fnExactQueueTickRow.holds Try.pinned (OpenSpec.ofChange fnExactQueueTickWrong)

/-- 'laws.FnExactQueueSleep': WHATEVER THE INPUT: true; the input reads as it did. -/
def fnExactQueueSleepSpec : ChangeSpec := { name := "fnExactQueueSleep", fn := fun _ => fun
  | [d1, d2] => { results := [.lit (.bool true)], args := [d1, d2] }
  | _ => none }
def fnExactQueueSleepRow : OpenClaim := { program := "ytagggajlpmdpdaa", sum := "3d5ec1aa87474c4d03eb619c972ef90a41c9da294b6af70b0642619bc1a36a9d", func := "loop.example/quarterdeck/laws.FnExactQueueSleep", spec := "fnExactQueueSleep", unfollowed := true, recurses := true, apart := false }
def FnExactQueueSleepSaid : Prop := fnExactQueueSleepRow.holds Try.pinned (OpenSpec.ofChange fnExactQueueSleepSpec)

/-- ITS FALSE NEIGHBOUR: 'it returns false'. Refute it at one input. -/
def fnExactQueueSleepWrong : ChangeSpec := { name := "fnExactQueueSleep", fn := fun _ => fun
  | [d1, d2] => { results := [.lit (.bool false)], args := [d1, d2] }
  | _ => none }
def FnExactQueueSleepWrongFalsely : Prop := fnExactQueueSleepRow.holds Try.pinned (OpenSpec.ofChange fnExactQueueSleepWrong)

/-- 'laws.FnExactQueueWake': WHATEVER THE INPUT: true; the input reads as it did. -/
def fnExactQueueWakeSpec : ChangeSpec := { name := "fnExactQueueWake", fn := fun _ => fun
  | [d1, d2] => { results := [.lit (.bool true)], args := [d1, d2] }
  | _ => none }
def fnExactQueueWakeRow : OpenClaim := { program := "ytagggajlpmdpdaa", sum := "3d5ec1aa87474c4d03eb619c972ef90a41c9da294b6af70b0642619bc1a36a9d", func := "loop.example/quarterdeck/laws.FnExactQueueWake", spec := "fnExactQueueWake", unfollowed := true, recurses := true, apart := false }
def FnExactQueueWakeSaid : Prop := fnExactQueueWakeRow.holds Try.pinned (OpenSpec.ofChange fnExactQueueWakeSpec)

/-- ITS FALSE NEIGHBOUR: 'it returns false'. Refute it at one input. -/
def fnExactQueueWakeWrong : ChangeSpec := { name := "fnExactQueueWake", fn := fun _ => fun
  | [d1, d2] => { results := [.lit (.bool false)], args := [d1, d2] }
  | _ => none }
def FnExactQueueWakeWrongFalsely : Prop := fnExactQueueWakeRow.holds Try.pinned (OpenSpec.ofChange fnExactQueueWakeWrong)

/-- 'laws.FnExactQueueRun': WHATEVER THE INPUT: true; the input reads as it did. -/
def fnExactQueueRunSpec : ChangeSpec := { name := "fnExactQueueRun", fn := fun _ => fun
  | [d1, d2] => { results := [.lit (.bool true)], args := [d1, d2] }
  | _ => none }
def fnExactQueueRunRow : OpenClaim := { program := "ytagggajlpmdpdaa", sum := "3d5ec1aa87474c4d03eb619c972ef90a41c9da294b6af70b0642619bc1a36a9d", func := "loop.example/quarterdeck/laws.FnExactQueueRun", spec := "fnExactQueueRun", unfollowed := true, recurses := true, apart := false }
def FnExactQueueRunSaid : Prop := fnExactQueueRunRow.holds Try.pinned (OpenSpec.ofChange fnExactQueueRunSpec)

/-- ITS FALSE NEIGHBOUR: 'it returns false'. Refute it at one input. -/
def fnExactQueueRunWrong : ChangeSpec := { name := "fnExactQueueRun", fn := fun _ => fun
  | [d1, d2] => { results := [.lit (.bool false)], args := [d1, d2] }
  | _ => none }
def FnExactQueueRunWrongFalsely : Prop := fnExactQueueRunRow.holds Try.pinned (OpenSpec.ofChange fnExactQueueRunWrong)

/- THE SECOND FORM. 'bulk': how many values and letters a reading holds, each counted each time it is reached (what is shared counts as often as it is met; a slice's spare places count too). A statement '..UptoSaid' is the law's where the arguments, and the package variables that the reading takes, are together of bulk at most 1048576: NARROWER than '..Said'. Prove '..Said' where nothing that the law and all that it calls make is longer than what came in: it says more and counts as full. Else prove '..UptoSaid'. A law counts once. -/
mutual
def uptoBulk {H : Type} : DataW H → Nat
  | .lit (.string bytes) => bytes.length + 1
  | .lit _ => 1
  | .nil => 1
  | .ptr d => uptoBulk d + 1
  | .slice elems spare => uptoBulkAll elems + uptoBulkAll spare + 1
  | .agg parts => uptoBulkAll parts + 1
  | .iface _ d => uptoBulk d + 1
  | .map entries => uptoBulkEntries entries + 1
  | .held _ => 1
def uptoBulkAll {H : Type} : List (DataW H) → Nat
  | [] => 0
  | d :: r => uptoBulk d + uptoBulkAll r
def uptoBulkEntries {H : Type} : List (Lit × DataW H) → Nat
  | [] => 0
  | x :: r => uptoBulkEntry x + uptoBulkEntries r
def uptoBulkEntry {H : Type} : Lit × DataW H → Nat
  | (.string bytes, d) => bytes.length + uptoBulk d + 1
  | (_, d) => uptoBulk d + 1
 end
def uptoSmall : (H : Type) → List (DataW H) → Bool := fun _ ds => decide (uptoBulkAll ds ≤ 1048576)
def OpenSpec.upto (s : _root_.Go.ChangeSpec) : _root_.Go.OpenSpec := { _root_.Go.OpenSpec.ofChange s with cond := some uptoSmall }

/-- 'laws.FnQueueOk', WHERE WHAT IT READS IS OF BULK AT MOST 1048576: true; the input reads as it did. -/
def fnQueueOkUptoRow : OpenClaim := { program := "ytagggajlpmdpdaa", sum := "3d5ec1aa87474c4d03eb619c972ef90a41c9da294b6af70b0642619bc1a36a9d", func := "loop.example/quarterdeck/laws.FnQueueOk", spec := "fnQueueOk", unfollowed := true, recurses := true, apart := false, narrowed := true }
def FnQueueOkUptoSaid : Prop := fnQueueOkUptoRow.holds Try.pinned (OpenSpec.upto fnQueueOkSpec)

/-- 'laws.FnQueueAdd', WHERE WHAT IT READS IS OF BULK AT MOST 1048576: true; the input reads as it did. -/
def fnQueueAddUptoRow : OpenClaim := { program := "ytagggajlpmdpdaa", sum := "3d5ec1aa87474c4d03eb619c972ef90a41c9da294b6af70b0642619bc1a36a9d", func := "loop.example/quarterdeck/laws.FnQueueAdd", spec := "fnQueueAdd", unfollowed := true, recurses := true, apart := false, narrowed := true }
def FnQueueAddUptoSaid : Prop := fnQueueAddUptoRow.holds Try.pinned (OpenSpec.upto fnQueueAddSpec)

/-- 'laws.FnQueueLess', WHERE WHAT IT READS IS OF BULK AT MOST 1048576: true; the input reads as it did. -/
def fnQueueLessUptoRow : OpenClaim := { program := "ytagggajlpmdpdaa", sum := "3d5ec1aa87474c4d03eb619c972ef90a41c9da294b6af70b0642619bc1a36a9d", func := "loop.example/quarterdeck/laws.FnQueueLess", spec := "fnQueueLess", unfollowed := true, recurses := true, apart := false, narrowed := true }
def FnQueueLessUptoSaid : Prop := fnQueueLessUptoRow.holds Try.pinned (OpenSpec.upto fnQueueLessSpec)

/-- 'laws.FnQueueNext', WHERE WHAT IT READS IS OF BULK AT MOST 1048576: true; the input reads as it did. -/
def fnQueueNextUptoRow : OpenClaim := { program := "ytagggajlpmdpdaa", sum := "3d5ec1aa87474c4d03eb619c972ef90a41c9da294b6af70b0642619bc1a36a9d", func := "loop.example/quarterdeck/laws.FnQueueNext", spec := "fnQueueNext", unfollowed := true, recurses := true, apart := false, narrowed := true }
def FnQueueNextUptoSaid : Prop := fnQueueNextUptoRow.holds Try.pinned (OpenSpec.upto fnQueueNextSpec)

/-- 'laws.FnQueueTick', WHERE WHAT IT READS IS OF BULK AT MOST 1048576: true; the input reads as it did. -/
def fnQueueTickUptoRow : OpenClaim := { program := "ytagggajlpmdpdaa", sum := "3d5ec1aa87474c4d03eb619c972ef90a41c9da294b6af70b0642619bc1a36a9d", func := "loop.example/quarterdeck/laws.FnQueueTick", spec := "fnQueueTick", unfollowed := true, recurses := true, apart := false, narrowed := true }
def FnQueueTickUptoSaid : Prop := fnQueueTickUptoRow.holds Try.pinned (OpenSpec.upto fnQueueTickSpec)

/-- 'laws.FnQueueSleep', WHERE WHAT IT READS IS OF BULK AT MOST 1048576: true; the input reads as it did. -/
def fnQueueSleepUptoRow : OpenClaim := { program := "ytagggajlpmdpdaa", sum := "3d5ec1aa87474c4d03eb619c972ef90a41c9da294b6af70b0642619bc1a36a9d", func := "loop.example/quarterdeck/laws.FnQueueSleep", spec := "fnQueueSleep", unfollowed := true, recurses := true, apart := false, narrowed := true }
def FnQueueSleepUptoSaid : Prop := fnQueueSleepUptoRow.holds Try.pinned (OpenSpec.upto fnQueueSleepSpec)

/-- 'laws.FnQueueWake', WHERE WHAT IT READS IS OF BULK AT MOST 1048576: true; the input reads as it did. -/
def fnQueueWakeUptoRow : OpenClaim := { program := "ytagggajlpmdpdaa", sum := "3d5ec1aa87474c4d03eb619c972ef90a41c9da294b6af70b0642619bc1a36a9d", func := "loop.example/quarterdeck/laws.FnQueueWake", spec := "fnQueueWake", unfollowed := true, recurses := true, apart := false, narrowed := true }
def FnQueueWakeUptoSaid : Prop := fnQueueWakeUptoRow.holds Try.pinned (OpenSpec.upto fnQueueWakeSpec)

/-- 'laws.FnQueueRun', WHERE WHAT IT READS IS OF BULK AT MOST 1048576: true; the input reads as it did. -/
def fnQueueRunUptoRow : OpenClaim := { program := "ytagggajlpmdpdaa", sum := "3d5ec1aa87474c4d03eb619c972ef90a41c9da294b6af70b0642619bc1a36a9d", func := "loop.example/quarterdeck/laws.FnQueueRun", spec := "fnQueueRun", unfollowed := true, recurses := true, apart := false, narrowed := true }
def FnQueueRunUptoSaid : Prop := fnQueueRunUptoRow.holds Try.pinned (OpenSpec.upto fnQueueRunSpec)

/-- 'laws.FnShareFair', WHERE WHAT IT READS IS OF BULK AT MOST 1048576: true; the input reads as it did. -/
def fnShareFairUptoRow : OpenClaim := { program := "ytagggajlpmdpdaa", sum := "3d5ec1aa87474c4d03eb619c972ef90a41c9da294b6af70b0642619bc1a36a9d", func := "loop.example/quarterdeck/laws.FnShareFair", spec := "fnShareFair", unfollowed := true, recurses := true, apart := false, narrowed := true }
def FnShareFairUptoSaid : Prop := fnShareFairUptoRow.holds Try.pinned (OpenSpec.upto fnShareFairSpec)

/-- 'laws.FnShareServed', WHERE WHAT IT READS IS OF BULK AT MOST 1048576: true; the input reads as it did. -/
def fnShareServedUptoRow : OpenClaim := { program := "ytagggajlpmdpdaa", sum := "3d5ec1aa87474c4d03eb619c972ef90a41c9da294b6af70b0642619bc1a36a9d", func := "loop.example/quarterdeck/laws.FnShareServed", spec := "fnShareServed", unfollowed := true, recurses := true, apart := false, narrowed := true }
def FnShareServedUptoSaid : Prop := fnShareServedUptoRow.holds Try.pinned (OpenSpec.upto fnShareServedSpec)

/-- 'laws.FnShareSlept', WHERE WHAT IT READS IS OF BULK AT MOST 1048576: true; the input reads as it did. -/
def fnShareSleptUptoRow : OpenClaim := { program := "ytagggajlpmdpdaa", sum := "3d5ec1aa87474c4d03eb619c972ef90a41c9da294b6af70b0642619bc1a36a9d", func := "loop.example/quarterdeck/laws.FnShareSlept", spec := "fnShareSlept", unfollowed := true, recurses := true, apart := false, narrowed := true }
def FnShareSleptUptoSaid : Prop := fnShareSleptUptoRow.holds Try.pinned (OpenSpec.upto fnShareSleptSpec)

/-- 'laws.FnShareGap', WHERE WHAT IT READS IS OF BULK AT MOST 1048576: true; the input reads as it did. -/
def fnShareGapUptoRow : OpenClaim := { program := "ytagggajlpmdpdaa", sum := "3d5ec1aa87474c4d03eb619c972ef90a41c9da294b6af70b0642619bc1a36a9d", func := "loop.example/quarterdeck/laws.FnShareGap", spec := "fnShareGap", unfollowed := true, recurses := true, apart := false, narrowed := true }
def FnShareGapUptoSaid : Prop := fnShareGapUptoRow.holds Try.pinned (OpenSpec.upto fnShareGapSpec)

/-- 'laws.FnExactQueueOk', WHERE WHAT IT READS IS OF BULK AT MOST 1048576: true; the input reads as it did. -/
def fnExactQueueOkUptoRow : OpenClaim := { program := "ytagggajlpmdpdaa", sum := "3d5ec1aa87474c4d03eb619c972ef90a41c9da294b6af70b0642619bc1a36a9d", func := "loop.example/quarterdeck/laws.FnExactQueueOk", spec := "fnExactQueueOk", unfollowed := true, recurses := true, apart := false, narrowed := true }
def FnExactQueueOkUptoSaid : Prop := fnExactQueueOkUptoRow.holds Try.pinned (OpenSpec.upto fnExactQueueOkSpec)

/-- 'laws.FnExactQueueAdd', WHERE WHAT IT READS IS OF BULK AT MOST 1048576: true; the input reads as it did. -/
def fnExactQueueAddUptoRow : OpenClaim := { program := "ytagggajlpmdpdaa", sum := "3d5ec1aa87474c4d03eb619c972ef90a41c9da294b6af70b0642619bc1a36a9d", func := "loop.example/quarterdeck/laws.FnExactQueueAdd", spec := "fnExactQueueAdd", unfollowed := true, recurses := true, apart := false, narrowed := true }
def FnExactQueueAddUptoSaid : Prop := fnExactQueueAddUptoRow.holds Try.pinned (OpenSpec.upto fnExactQueueAddSpec)

/-- 'laws.FnExactQueueLess', WHERE WHAT IT READS IS OF BULK AT MOST 1048576: true; the input reads as it did. -/
def fnExactQueueLessUptoRow : OpenClaim := { program := "ytagggajlpmdpdaa", sum := "3d5ec1aa87474c4d03eb619c972ef90a41c9da294b6af70b0642619bc1a36a9d", func := "loop.example/quarterdeck/laws.FnExactQueueLess", spec := "fnExactQueueLess", unfollowed := true, recurses := true, apart := false, narrowed := true }
def FnExactQueueLessUptoSaid : Prop := fnExactQueueLessUptoRow.holds Try.pinned (OpenSpec.upto fnExactQueueLessSpec)

/-- 'laws.FnExactQueueNext', WHERE WHAT IT READS IS OF BULK AT MOST 1048576: true; the input reads as it did. -/
def fnExactQueueNextUptoRow : OpenClaim := { program := "ytagggajlpmdpdaa", sum := "3d5ec1aa87474c4d03eb619c972ef90a41c9da294b6af70b0642619bc1a36a9d", func := "loop.example/quarterdeck/laws.FnExactQueueNext", spec := "fnExactQueueNext", unfollowed := true, recurses := true, apart := false, narrowed := true }
def FnExactQueueNextUptoSaid : Prop := fnExactQueueNextUptoRow.holds Try.pinned (OpenSpec.upto fnExactQueueNextSpec)

/-- 'laws.FnExactQueueTick', WHERE WHAT IT READS IS OF BULK AT MOST 1048576: true; the input reads as it did. -/
def fnExactQueueTickUptoRow : OpenClaim := { program := "ytagggajlpmdpdaa", sum := "3d5ec1aa87474c4d03eb619c972ef90a41c9da294b6af70b0642619bc1a36a9d", func := "loop.example/quarterdeck/laws.FnExactQueueTick", spec := "fnExactQueueTick", unfollowed := true, recurses := true, apart := false, narrowed := true }
def FnExactQueueTickUptoSaid : Prop := fnExactQueueTickUptoRow.holds Try.pinned (OpenSpec.upto fnExactQueueTickSpec)

/-- 'laws.FnExactQueueSleep', WHERE WHAT IT READS IS OF BULK AT MOST 1048576: true; the input reads as it did. -/
def fnExactQueueSleepUptoRow : OpenClaim := { program := "ytagggajlpmdpdaa", sum := "3d5ec1aa87474c4d03eb619c972ef90a41c9da294b6af70b0642619bc1a36a9d", func := "loop.example/quarterdeck/laws.FnExactQueueSleep", spec := "fnExactQueueSleep", unfollowed := true, recurses := true, apart := false, narrowed := true }
def FnExactQueueSleepUptoSaid : Prop := fnExactQueueSleepUptoRow.holds Try.pinned (OpenSpec.upto fnExactQueueSleepSpec)

/-- 'laws.FnExactQueueWake', WHERE WHAT IT READS IS OF BULK AT MOST 1048576: true; the input reads as it did. -/
def fnExactQueueWakeUptoRow : OpenClaim := { program := "ytagggajlpmdpdaa", sum := "3d5ec1aa87474c4d03eb619c972ef90a41c9da294b6af70b0642619bc1a36a9d", func := "loop.example/quarterdeck/laws.FnExactQueueWake", spec := "fnExactQueueWake", unfollowed := true, recurses := true, apart := false, narrowed := true }
def FnExactQueueWakeUptoSaid : Prop := fnExactQueueWakeUptoRow.holds Try.pinned (OpenSpec.upto fnExactQueueWakeSpec)

/-- 'laws.FnExactQueueRun', WHERE WHAT IT READS IS OF BULK AT MOST 1048576: true; the input reads as it did. -/
def fnExactQueueRunUptoRow : OpenClaim := { program := "ytagggajlpmdpdaa", sum := "3d5ec1aa87474c4d03eb619c972ef90a41c9da294b6af70b0642619bc1a36a9d", func := "loop.example/quarterdeck/laws.FnExactQueueRun", spec := "fnExactQueueRun", unfollowed := true, recurses := true, apart := false, narrowed := true }
def FnExactQueueRunUptoSaid : Prop := fnExactQueueRunUptoRow.holds Try.pinned (OpenSpec.upto fnExactQueueRunSpec)

end Rows
end Go.Proofs.Ytagggajlpmdpdaa

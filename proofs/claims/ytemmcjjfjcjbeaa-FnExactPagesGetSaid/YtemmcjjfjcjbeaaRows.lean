/-
  No cell of these rows narrows 'for every input' (looked for: loops, veiled, ifaces, maps, wideKeys, modest, calm, conditions, laid).
  DERIVED. THE GIVEN ROWS OF THIS SEAT. 18 by the template 'for every input the law returns true; each argument reads behind the call as it read before'; 0 by the template 'total and deterministic' (their statements: YtemmcjjfjcjbeaaTotals.lean).
  GIVEN WITH THE SEED: the statements are not yours to turn. If you find one false, say at which input.
  Laid BY PROGRAM, IN A SANDBOX (cutbox-rows.mjs): the forced cells as the released guide's own fill.sh prints them over the translation e539759ca7d1ccd7… (all of the seat's roots in one cut). By AI agents, Wed Nov 11 2026. No macro, syntax, notation, axiom, sorry.
-/
import Derived.Test.YtemmcjjfjcjbeaaChecked
import GoSem.Claim
import GoSem.ClaimJoined
import GoSem.ClaimMapViews
import Derived.JoinedTies
import Derived.KernelRfl
namespace Go.Proofs.Ytemmcjjfjcjbeaa
/- THE CELL 'sum', in the pinned program and in every row, IS THE sha256 OF THE DUMP (.gsa) THAT YtemmcjjfjcjbeaaProg.lean LOADS. Nothing in Lean hashes anything: it is a label: what it is worth is what the hold of that sum in a sandbox is worth. -/
noncomputable def Try.pinned : Pinned := { name := "ytemmcjjfjcjbeaa", sum := "e539759ca7d1ccd707f791916022cd38cb0463b300ac84a4886f28bdc6c78ac5", checked := Try.checked }
namespace Rows
def none {H : Type} : Left H := { results := [], args := [] }

/-- 'laws.FnPagesNew': WHATEVER THE INPUT: true; the input reads as it did. -/
def fnPagesNewSpec : ChangeSpec := { name := "fnPagesNew", fn := fun _ => fun
  | [d] => { results := [.lit (.bool true)], args := [d] }
  | _ => none }
def fnPagesNewRow : OpenClaim := { program := "ytemmcjjfjcjbeaa", sum := "e539759ca7d1ccd707f791916022cd38cb0463b300ac84a4886f28bdc6c78ac5", func := "loop.example/quarterdeck/laws.FnPagesNew", spec := "fnPagesNew", apart := false }
def FnPagesNewSaid : Prop := fnPagesNewRow.holds Try.pinned (OpenSpec.ofChange fnPagesNewSpec)

/-- ITS FALSE NEIGHBOUR: 'it returns false'. Refute it at one input. -/
def fnPagesNewWrong : ChangeSpec := { name := "fnPagesNew", fn := fun _ => fun
  | [d] => { results := [.lit (.bool false)], args := [d] }
  | _ => none }
def FnPagesNewWrongFalsely : Prop := fnPagesNewRow.holds Try.pinned (OpenSpec.ofChange fnPagesNewWrong)

/-- 'laws.FnPagesOk': WHATEVER THE INPUT: true; the input reads as it did. -/
def fnPagesOkSpec : ChangeSpec := { name := "fnPagesOk", fn := fun _ => fun
  | [d] => { results := [.lit (.bool true)], args := [d] }
  | _ => none }
def fnPagesOkRow : OpenClaim := { program := "ytemmcjjfjcjbeaa", sum := "e539759ca7d1ccd707f791916022cd38cb0463b300ac84a4886f28bdc6c78ac5", func := "loop.example/quarterdeck/laws.FnPagesOk", spec := "fnPagesOk", apart := false }
def FnPagesOkSaid : Prop := fnPagesOkRow.holds Try.pinned (OpenSpec.ofChange fnPagesOkSpec)

/-- ITS FALSE NEIGHBOUR: 'it returns false'. Refute it at one input. -/
def fnPagesOkWrong : ChangeSpec := { name := "fnPagesOk", fn := fun _ => fun
  | [d] => { results := [.lit (.bool false)], args := [d] }
  | _ => none }
def FnPagesOkWrongFalsely : Prop := fnPagesOkRow.holds Try.pinned (OpenSpec.ofChange fnPagesOkWrong)

/-- 'laws.FnPagesRoom': WHATEVER THE INPUT: true; the input reads as it did. -/
def fnPagesRoomSpec : ChangeSpec := { name := "fnPagesRoom", fn := fun _ => fun
  | [d] => { results := [.lit (.bool true)], args := [d] }
  | _ => none }
def fnPagesRoomRow : OpenClaim := { program := "ytemmcjjfjcjbeaa", sum := "e539759ca7d1ccd707f791916022cd38cb0463b300ac84a4886f28bdc6c78ac5", func := "loop.example/quarterdeck/laws.FnPagesRoom", spec := "fnPagesRoom", apart := false }
def FnPagesRoomSaid : Prop := fnPagesRoomRow.holds Try.pinned (OpenSpec.ofChange fnPagesRoomSpec)

/-- ITS FALSE NEIGHBOUR: 'it returns false'. Refute it at one input. -/
def fnPagesRoomWrong : ChangeSpec := { name := "fnPagesRoom", fn := fun _ => fun
  | [d] => { results := [.lit (.bool false)], args := [d] }
  | _ => none }
def FnPagesRoomWrongFalsely : Prop := fnPagesRoomRow.holds Try.pinned (OpenSpec.ofChange fnPagesRoomWrong)

/-- 'laws.FnPagesTake': WHATEVER THE INPUT: true; the input reads as it did. -/
def fnPagesTakeSpec : ChangeSpec := { name := "fnPagesTake", fn := fun _ => fun
  | [d] => { results := [.lit (.bool true)], args := [d] }
  | _ => none }
def fnPagesTakeRow : OpenClaim := { program := "ytemmcjjfjcjbeaa", sum := "e539759ca7d1ccd707f791916022cd38cb0463b300ac84a4886f28bdc6c78ac5", func := "loop.example/quarterdeck/laws.FnPagesTake", spec := "fnPagesTake", apart := false }
def FnPagesTakeSaid : Prop := fnPagesTakeRow.holds Try.pinned (OpenSpec.ofChange fnPagesTakeSpec)

/-- ITS FALSE NEIGHBOUR: 'it returns false'. Refute it at one input. -/
def fnPagesTakeWrong : ChangeSpec := { name := "fnPagesTake", fn := fun _ => fun
  | [d] => { results := [.lit (.bool false)], args := [d] }
  | _ => none }
def FnPagesTakeWrongFalsely : Prop := fnPagesTakeRow.holds Try.pinned (OpenSpec.ofChange fnPagesTakeWrong)

/-- 'laws.FnPagesKeep': WHATEVER THE INPUT: true; the input reads as it did. -/
def fnPagesKeepSpec : ChangeSpec := { name := "fnPagesKeep", fn := fun _ => fun
  | [d] => { results := [.lit (.bool true)], args := [d] }
  | _ => none }
def fnPagesKeepRow : OpenClaim := { program := "ytemmcjjfjcjbeaa", sum := "e539759ca7d1ccd707f791916022cd38cb0463b300ac84a4886f28bdc6c78ac5", func := "loop.example/quarterdeck/laws.FnPagesKeep", spec := "fnPagesKeep", apart := false }
def FnPagesKeepSaid : Prop := fnPagesKeepRow.holds Try.pinned (OpenSpec.ofChange fnPagesKeepSpec)

/-- ITS FALSE NEIGHBOUR: 'it returns false'. Refute it at one input. -/
def fnPagesKeepWrong : ChangeSpec := { name := "fnPagesKeep", fn := fun _ => fun
  | [d] => { results := [.lit (.bool false)], args := [d] }
  | _ => none }
def FnPagesKeepWrongFalsely : Prop := fnPagesKeepRow.holds Try.pinned (OpenSpec.ofChange fnPagesKeepWrong)

/-- 'laws.FnPagesGive': WHATEVER THE INPUT: true; the input reads as it did. -/
def fnPagesGiveSpec : ChangeSpec := { name := "fnPagesGive", fn := fun _ => fun
  | [d] => { results := [.lit (.bool true)], args := [d] }
  | _ => none }
def fnPagesGiveRow : OpenClaim := { program := "ytemmcjjfjcjbeaa", sum := "e539759ca7d1ccd707f791916022cd38cb0463b300ac84a4886f28bdc6c78ac5", func := "loop.example/quarterdeck/laws.FnPagesGive", spec := "fnPagesGive", apart := false }
def FnPagesGiveSaid : Prop := fnPagesGiveRow.holds Try.pinned (OpenSpec.ofChange fnPagesGiveSpec)

/-- ITS FALSE NEIGHBOUR: 'it returns false'. Refute it at one input. -/
def fnPagesGiveWrong : ChangeSpec := { name := "fnPagesGive", fn := fun _ => fun
  | [d] => { results := [.lit (.bool false)], args := [d] }
  | _ => none }
def FnPagesGiveWrongFalsely : Prop := fnPagesGiveRow.holds Try.pinned (OpenSpec.ofChange fnPagesGiveWrong)

/-- 'laws.FnPagesGet': WHATEVER THE INPUT: true; the input reads as it did. -/
def fnPagesGetSpec : ChangeSpec := { name := "fnPagesGet", fn := fun _ => fun
  | [d] => { results := [.lit (.bool true)], args := [d] }
  | _ => none }
def fnPagesGetRow : OpenClaim := { program := "ytemmcjjfjcjbeaa", sum := "e539759ca7d1ccd707f791916022cd38cb0463b300ac84a4886f28bdc6c78ac5", func := "loop.example/quarterdeck/laws.FnPagesGet", spec := "fnPagesGet", apart := false }
def FnPagesGetSaid : Prop := fnPagesGetRow.holds Try.pinned (OpenSpec.ofChange fnPagesGetSpec)

/-- ITS FALSE NEIGHBOUR: 'it returns false'. Refute it at one input. -/
def fnPagesGetWrong : ChangeSpec := { name := "fnPagesGet", fn := fun _ => fun
  | [d] => { results := [.lit (.bool false)], args := [d] }
  | _ => none }
def FnPagesGetWrongFalsely : Prop := fnPagesGetRow.holds Try.pinned (OpenSpec.ofChange fnPagesGetWrong)

/-- 'laws.FnPagesSet': WHATEVER THE INPUT: true; the input reads as it did. -/
def fnPagesSetSpec : ChangeSpec := { name := "fnPagesSet", fn := fun _ => fun
  | [d] => { results := [.lit (.bool true)], args := [d] }
  | _ => none }
def fnPagesSetRow : OpenClaim := { program := "ytemmcjjfjcjbeaa", sum := "e539759ca7d1ccd707f791916022cd38cb0463b300ac84a4886f28bdc6c78ac5", func := "loop.example/quarterdeck/laws.FnPagesSet", spec := "fnPagesSet", apart := false }
def FnPagesSetSaid : Prop := fnPagesSetRow.holds Try.pinned (OpenSpec.ofChange fnPagesSetSpec)

/-- ITS FALSE NEIGHBOUR: 'it returns false'. Refute it at one input. -/
def fnPagesSetWrong : ChangeSpec := { name := "fnPagesSet", fn := fun _ => fun
  | [d] => { results := [.lit (.bool false)], args := [d] }
  | _ => none }
def FnPagesSetWrongFalsely : Prop := fnPagesSetRow.holds Try.pinned (OpenSpec.ofChange fnPagesSetWrong)

/-- 'laws.FnExactPagesNew': WHATEVER THE INPUT: true; the input reads as it did. -/
def fnExactPagesNewSpec : ChangeSpec := { name := "fnExactPagesNew", fn := fun _ => fun
  | [d] => { results := [.lit (.bool true)], args := [d] }
  | _ => none }
def fnExactPagesNewRow : OpenClaim := { program := "ytemmcjjfjcjbeaa", sum := "e539759ca7d1ccd707f791916022cd38cb0463b300ac84a4886f28bdc6c78ac5", func := "loop.example/quarterdeck/laws.FnExactPagesNew", spec := "fnExactPagesNew", apart := false }
def FnExactPagesNewSaid : Prop := fnExactPagesNewRow.holds Try.pinned (OpenSpec.ofChange fnExactPagesNewSpec)

/-- ITS FALSE NEIGHBOUR: 'it returns false'. Refute it at one input. -/
def fnExactPagesNewWrong : ChangeSpec := { name := "fnExactPagesNew", fn := fun _ => fun
  | [d] => { results := [.lit (.bool false)], args := [d] }
  | _ => none }
def FnExactPagesNewWrongFalsely : Prop := fnExactPagesNewRow.holds Try.pinned (OpenSpec.ofChange fnExactPagesNewWrong)

/-- 'laws.FnExactPagesOk': WHATEVER THE INPUT: true; the input reads as it did. -/
def fnExactPagesOkSpec : ChangeSpec := { name := "fnExactPagesOk", fn := fun _ => fun
  | [d] => { results := [.lit (.bool true)], args := [d] }
  | _ => none }
def fnExactPagesOkRow : OpenClaim := { program := "ytemmcjjfjcjbeaa", sum := "e539759ca7d1ccd707f791916022cd38cb0463b300ac84a4886f28bdc6c78ac5", func := "loop.example/quarterdeck/laws.FnExactPagesOk", spec := "fnExactPagesOk", apart := false }
def FnExactPagesOkSaid : Prop := fnExactPagesOkRow.holds Try.pinned (OpenSpec.ofChange fnExactPagesOkSpec)

/-- ITS FALSE NEIGHBOUR: 'it returns false'. Refute it at one input. -/
def fnExactPagesOkWrong : ChangeSpec := { name := "fnExactPagesOk", fn := fun _ => fun
  | [d] => { results := [.lit (.bool false)], args := [d] }
  | _ => none }
def FnExactPagesOkWrongFalsely : Prop := fnExactPagesOkRow.holds Try.pinned (OpenSpec.ofChange fnExactPagesOkWrong)

/-- 'laws.FnExactPagesRoom': WHATEVER THE INPUT: true; the input reads as it did. -/
def fnExactPagesRoomSpec : ChangeSpec := { name := "fnExactPagesRoom", fn := fun _ => fun
  | [d] => { results := [.lit (.bool true)], args := [d] }
  | _ => none }
def fnExactPagesRoomRow : OpenClaim := { program := "ytemmcjjfjcjbeaa", sum := "e539759ca7d1ccd707f791916022cd38cb0463b300ac84a4886f28bdc6c78ac5", func := "loop.example/quarterdeck/laws.FnExactPagesRoom", spec := "fnExactPagesRoom", apart := false }
def FnExactPagesRoomSaid : Prop := fnExactPagesRoomRow.holds Try.pinned (OpenSpec.ofChange fnExactPagesRoomSpec)

/-- ITS FALSE NEIGHBOUR: 'it returns false'. Refute it at one input. -/
def fnExactPagesRoomWrong : ChangeSpec := { name := "fnExactPagesRoom", fn := fun _ => fun
  | [d] => { results := [.lit (.bool false)], args := [d] }
  | _ => none }
def FnExactPagesRoomWrongFalsely : Prop := fnExactPagesRoomRow.holds Try.pinned (OpenSpec.ofChange fnExactPagesRoomWrong)

/-- 'laws.FnExactPagesTake': WHATEVER THE INPUT: true; the input reads as it did. -/
def fnExactPagesTakeSpec : ChangeSpec := { name := "fnExactPagesTake", fn := fun _ => fun
  | [d1, d2] => { results := [.lit (.bool true)], args := [d1, d2] }
  | _ => none }
def fnExactPagesTakeRow : OpenClaim := { program := "ytemmcjjfjcjbeaa", sum := "e539759ca7d1ccd707f791916022cd38cb0463b300ac84a4886f28bdc6c78ac5", func := "loop.example/quarterdeck/laws.FnExactPagesTake", spec := "fnExactPagesTake", apart := false }
def FnExactPagesTakeSaid : Prop := fnExactPagesTakeRow.holds Try.pinned (OpenSpec.ofChange fnExactPagesTakeSpec)

/-- ITS FALSE NEIGHBOUR: 'it returns false'. Refute it at one input. -/
def fnExactPagesTakeWrong : ChangeSpec := { name := "fnExactPagesTake", fn := fun _ => fun
  | [d1, d2] => { results := [.lit (.bool false)], args := [d1, d2] }
  | _ => none }
def FnExactPagesTakeWrongFalsely : Prop := fnExactPagesTakeRow.holds Try.pinned (OpenSpec.ofChange fnExactPagesTakeWrong)

/-- 'laws.FnExactPagesKeep': WHATEVER THE INPUT: true; the input reads as it did. -/
def fnExactPagesKeepSpec : ChangeSpec := { name := "fnExactPagesKeep", fn := fun _ => fun
  | [d1, d2] => { results := [.lit (.bool true)], args := [d1, d2] }
  | _ => none }
def fnExactPagesKeepRow : OpenClaim := { program := "ytemmcjjfjcjbeaa", sum := "e539759ca7d1ccd707f791916022cd38cb0463b300ac84a4886f28bdc6c78ac5", func := "loop.example/quarterdeck/laws.FnExactPagesKeep", spec := "fnExactPagesKeep", apart := false }
def FnExactPagesKeepSaid : Prop := fnExactPagesKeepRow.holds Try.pinned (OpenSpec.ofChange fnExactPagesKeepSpec)

/-- ITS FALSE NEIGHBOUR: 'it returns false'. Refute it at one input. -/
def fnExactPagesKeepWrong : ChangeSpec := { name := "fnExactPagesKeep", fn := fun _ => fun
  | [d1, d2] => { results := [.lit (.bool false)], args := [d1, d2] }
  | _ => none }
def FnExactPagesKeepWrongFalsely : Prop := fnExactPagesKeepRow.holds Try.pinned (OpenSpec.ofChange fnExactPagesKeepWrong)

/-- 'laws.FnExactPagesGive': WHATEVER THE INPUT: true; the input reads as it did. -/
def fnExactPagesGiveSpec : ChangeSpec := { name := "fnExactPagesGive", fn := fun _ => fun
  | [d1, d2] => { results := [.lit (.bool true)], args := [d1, d2] }
  | _ => none }
def fnExactPagesGiveRow : OpenClaim := { program := "ytemmcjjfjcjbeaa", sum := "e539759ca7d1ccd707f791916022cd38cb0463b300ac84a4886f28bdc6c78ac5", func := "loop.example/quarterdeck/laws.FnExactPagesGive", spec := "fnExactPagesGive", apart := false }
def FnExactPagesGiveSaid : Prop := fnExactPagesGiveRow.holds Try.pinned (OpenSpec.ofChange fnExactPagesGiveSpec)

/-- ITS FALSE NEIGHBOUR: 'it returns false'. Refute it at one input. -/
def fnExactPagesGiveWrong : ChangeSpec := { name := "fnExactPagesGive", fn := fun _ => fun
  | [d1, d2] => { results := [.lit (.bool false)], args := [d1, d2] }
  | _ => none }
def FnExactPagesGiveWrongFalsely : Prop := fnExactPagesGiveRow.holds Try.pinned (OpenSpec.ofChange fnExactPagesGiveWrong)

/-- 'laws.FnExactPagesGet': WHATEVER THE INPUT: true; the input reads as it did. -/
def fnExactPagesGetSpec : ChangeSpec := { name := "fnExactPagesGet", fn := fun _ => fun
  | [d1, d2] => { results := [.lit (.bool true)], args := [d1, d2] }
  | _ => none }
def fnExactPagesGetRow : OpenClaim := { program := "ytemmcjjfjcjbeaa", sum := "e539759ca7d1ccd707f791916022cd38cb0463b300ac84a4886f28bdc6c78ac5", func := "loop.example/quarterdeck/laws.FnExactPagesGet", spec := "fnExactPagesGet", apart := false }
def FnExactPagesGetSaid : Prop := fnExactPagesGetRow.holds Try.pinned (OpenSpec.ofChange fnExactPagesGetSpec)

/-- ITS FALSE NEIGHBOUR: 'it returns false'. Refute it at one input. -/
def fnExactPagesGetWrong : ChangeSpec := { name := "fnExactPagesGet", fn := fun _ => fun
  | [d1, d2] => { results := [.lit (.bool false)], args := [d1, d2] }
  | _ => none }
def FnExactPagesGetWrongFalsely : Prop := fnExactPagesGetRow.holds Try.pinned (OpenSpec.ofChange fnExactPagesGetWrong)

/-- 'laws.FnExactPagesSet': WHATEVER THE INPUT: true; the input reads as it did. -/
def fnExactPagesSetSpec : ChangeSpec := { name := "fnExactPagesSet", fn := fun _ => fun
  | [d1, d2, d3, d4] => { results := [.lit (.bool true)], args := [d1, d2, d3, d4] }
  | _ => none }
def fnExactPagesSetRow : OpenClaim := { program := "ytemmcjjfjcjbeaa", sum := "e539759ca7d1ccd707f791916022cd38cb0463b300ac84a4886f28bdc6c78ac5", func := "loop.example/quarterdeck/laws.FnExactPagesSet", spec := "fnExactPagesSet", apart := false }
def FnExactPagesSetSaid : Prop := fnExactPagesSetRow.holds Try.pinned (OpenSpec.ofChange fnExactPagesSetSpec)

/-- ITS FALSE NEIGHBOUR: 'it returns false'. Refute it at one input. -/
def fnExactPagesSetWrong : ChangeSpec := { name := "fnExactPagesSet", fn := fun _ => fun
  | [d1, d2, d3, d4] => { results := [.lit (.bool false)], args := [d1, d2, d3, d4] }
  | _ => none }
def FnExactPagesSetWrongFalsely : Prop := fnExactPagesSetRow.holds Try.pinned (OpenSpec.ofChange fnExactPagesSetWrong)

/-- 'laws.FnMemNew': WHATEVER THE INPUT: true; the input reads as it did. -/
def fnMemNewSpec : ChangeSpec := { name := "fnMemNew", fn := fun _ => fun
  | [d] => { results := [.lit (.bool true)], args := [d] }
  | _ => none }
def fnMemNewRow : OpenClaim := { program := "ytemmcjjfjcjbeaa", sum := "e539759ca7d1ccd707f791916022cd38cb0463b300ac84a4886f28bdc6c78ac5", func := "loop.example/quarterdeck/laws.FnMemNew", spec := "fnMemNew", unfollowed := true, recurses := true, apart := false }
def FnMemNewSaid : Prop := fnMemNewRow.holds Try.pinned (OpenSpec.ofChange fnMemNewSpec)

/-- ITS FALSE NEIGHBOUR: 'it returns false'. Refute it at one input. -/
def fnMemNewWrong : ChangeSpec := { name := "fnMemNew", fn := fun _ => fun
  | [d] => { results := [.lit (.bool false)], args := [d] }
  | _ => none }
def FnMemNewWrongFalsely : Prop := fnMemNewRow.holds Try.pinned (OpenSpec.ofChange fnMemNewWrong)

/-- 'laws.FnExactMemNew': WHATEVER THE INPUT: true; the input reads as it did. -/
def fnExactMemNewSpec : ChangeSpec := { name := "fnExactMemNew", fn := fun _ => fun
  | [] => { results := [.lit (.bool true)], args := [] }
  | _ => none }
def fnExactMemNewRow : OpenClaim := { program := "ytemmcjjfjcjbeaa", sum := "e539759ca7d1ccd707f791916022cd38cb0463b300ac84a4886f28bdc6c78ac5", func := "loop.example/quarterdeck/laws.FnExactMemNew", spec := "fnExactMemNew", apart := false }
def FnExactMemNewSaid : Prop := fnExactMemNewRow.holds Try.pinned (OpenSpec.ofChange fnExactMemNewSpec)

/-- ITS FALSE NEIGHBOUR: 'it returns false'. Refute it at one input. -/
def fnExactMemNewWrong : ChangeSpec := { name := "fnExactMemNew", fn := fun _ => fun
  | [] => { results := [.lit (.bool false)], args := [] }
  | _ => none }
def FnExactMemNewWrongFalsely : Prop := fnExactMemNewRow.holds Try.pinned (OpenSpec.ofChange fnExactMemNewWrong)

/- THE SECOND FORM. 'bulk': how many values and letters a reading holds, each counted each time it is reached (what is shared counts as often as it is met; a slice's spare places count too). A statement '..UptoSaid' is the law's where the arguments, and the package variables that the reading takes, are together of bulk at most 1048576: NARROWER than '..Said'. Prove '..Said' where nothing that the law and all that it calls make is longer than what came in: it says more and counts as full. Else prove '..UptoSaid'. A law counts once. -/
mutual
def uptoBulk {H : Type} : DataW H → Nat
  | .lit (.string bytes) => bytes.length + 1
  | .lit _ => 1
  | .nil => 1
  | .ptr d => uptoBulk d + 1
  | .slice elems spare => uptoBulkAll elems + uptoBulkAll spare + 1
  | .agg parts => uptoBulkAll parts + 1
  | .iface _ d => uptoBulk d + 1
  | .map entries => uptoBulkEntries entries + 1
  | .held _ => 1
def uptoBulkAll {H : Type} : List (DataW H) → Nat
  | [] => 0
  | d :: r => uptoBulk d + uptoBulkAll r
def uptoBulkEntries {H : Type} : List (Lit × DataW H) → Nat
  | [] => 0
  | x :: r => uptoBulkEntry x + uptoBulkEntries r
def uptoBulkEntry {H : Type} : Lit × DataW H → Nat
  | (.string bytes, d) => bytes.length + uptoBulk d + 1
  | (_, d) => uptoBulk d + 1
 end
def uptoSmall : (H : Type) → List (DataW H) → Bool := fun _ ds => decide (uptoBulkAll ds ≤ 1048576)
def OpenSpec.upto (s : _root_.Go.ChangeSpec) : _root_.Go.OpenSpec := { _root_.Go.OpenSpec.ofChange s with cond := some uptoSmall }

/-- 'laws.FnPagesNew', WHERE WHAT IT READS IS OF BULK AT MOST 1048576: true; the input reads as it did. -/
def fnPagesNewUptoRow : OpenClaim := { program := "ytemmcjjfjcjbeaa", sum := "e539759ca7d1ccd707f791916022cd38cb0463b300ac84a4886f28bdc6c78ac5", func := "loop.example/quarterdeck/laws.FnPagesNew", spec := "fnPagesNew", apart := false, narrowed := true }
def FnPagesNewUptoSaid : Prop := fnPagesNewUptoRow.holds Try.pinned (OpenSpec.upto fnPagesNewSpec)

/-- 'laws.FnPagesOk', WHERE WHAT IT READS IS OF BULK AT MOST 1048576: true; the input reads as it did. -/
def fnPagesOkUptoRow : OpenClaim := { program := "ytemmcjjfjcjbeaa", sum := "e539759ca7d1ccd707f791916022cd38cb0463b300ac84a4886f28bdc6c78ac5", func := "loop.example/quarterdeck/laws.FnPagesOk", spec := "fnPagesOk", apart := false, narrowed := true }
def FnPagesOkUptoSaid : Prop := fnPagesOkUptoRow.holds Try.pinned (OpenSpec.upto fnPagesOkSpec)

/-- 'laws.FnPagesRoom', WHERE WHAT IT READS IS OF BULK AT MOST 1048576: true; the input reads as it did. -/
def fnPagesRoomUptoRow : OpenClaim := { program := "ytemmcjjfjcjbeaa", sum := "e539759ca7d1ccd707f791916022cd38cb0463b300ac84a4886f28bdc6c78ac5", func := "loop.example/quarterdeck/laws.FnPagesRoom", spec := "fnPagesRoom", apart := false, narrowed := true }
def FnPagesRoomUptoSaid : Prop := fnPagesRoomUptoRow.holds Try.pinned (OpenSpec.upto fnPagesRoomSpec)

/-- 'laws.FnPagesTake', WHERE WHAT IT READS IS OF BULK AT MOST 1048576: true; the input reads as it did. -/
def fnPagesTakeUptoRow : OpenClaim := { program := "ytemmcjjfjcjbeaa", sum := "e539759ca7d1ccd707f791916022cd38cb0463b300ac84a4886f28bdc6c78ac5", func := "loop.example/quarterdeck/laws.FnPagesTake", spec := "fnPagesTake", apart := false, narrowed := true }
def FnPagesTakeUptoSaid : Prop := fnPagesTakeUptoRow.holds Try.pinned (OpenSpec.upto fnPagesTakeSpec)

/-- 'laws.FnPagesKeep', WHERE WHAT IT READS IS OF BULK AT MOST 1048576: true; the input reads as it did. -/
def fnPagesKeepUptoRow : OpenClaim := { program := "ytemmcjjfjcjbeaa", sum := "e539759ca7d1ccd707f791916022cd38cb0463b300ac84a4886f28bdc6c78ac5", func := "loop.example/quarterdeck/laws.FnPagesKeep", spec := "fnPagesKeep", apart := false, narrowed := true }
def FnPagesKeepUptoSaid : Prop := fnPagesKeepUptoRow.holds Try.pinned (OpenSpec.upto fnPagesKeepSpec)

/-- 'laws.FnPagesGive', WHERE WHAT IT READS IS OF BULK AT MOST 1048576: true; the input reads as it did. -/
def fnPagesGiveUptoRow : OpenClaim := { program := "ytemmcjjfjcjbeaa", sum := "e539759ca7d1ccd707f791916022cd38cb0463b300ac84a4886f28bdc6c78ac5", func := "loop.example/quarterdeck/laws.FnPagesGive", spec := "fnPagesGive", apart := false, narrowed := true }
def FnPagesGiveUptoSaid : Prop := fnPagesGiveUptoRow.holds Try.pinned (OpenSpec.upto fnPagesGiveSpec)

/-- 'laws.FnPagesGet', WHERE WHAT IT READS IS OF BULK AT MOST 1048576: true; the input reads as it did. -/
def fnPagesGetUptoRow : OpenClaim := { program := "ytemmcjjfjcjbeaa", sum := "e539759ca7d1ccd707f791916022cd38cb0463b300ac84a4886f28bdc6c78ac5", func := "loop.example/quarterdeck/laws.FnPagesGet", spec := "fnPagesGet", apart := false, narrowed := true }
def FnPagesGetUptoSaid : Prop := fnPagesGetUptoRow.holds Try.pinned (OpenSpec.upto fnPagesGetSpec)

/-- 'laws.FnPagesSet', WHERE WHAT IT READS IS OF BULK AT MOST 1048576: true; the input reads as it did. -/
def fnPagesSetUptoRow : OpenClaim := { program := "ytemmcjjfjcjbeaa", sum := "e539759ca7d1ccd707f791916022cd38cb0463b300ac84a4886f28bdc6c78ac5", func := "loop.example/quarterdeck/laws.FnPagesSet", spec := "fnPagesSet", apart := false, narrowed := true }
def FnPagesSetUptoSaid : Prop := fnPagesSetUptoRow.holds Try.pinned (OpenSpec.upto fnPagesSetSpec)

/-- 'laws.FnExactPagesNew', WHERE WHAT IT READS IS OF BULK AT MOST 1048576: true; the input reads as it did. -/
def fnExactPagesNewUptoRow : OpenClaim := { program := "ytemmcjjfjcjbeaa", sum := "e539759ca7d1ccd707f791916022cd38cb0463b300ac84a4886f28bdc6c78ac5", func := "loop.example/quarterdeck/laws.FnExactPagesNew", spec := "fnExactPagesNew", apart := false, narrowed := true }
def FnExactPagesNewUptoSaid : Prop := fnExactPagesNewUptoRow.holds Try.pinned (OpenSpec.upto fnExactPagesNewSpec)

/-- 'laws.FnExactPagesOk', WHERE WHAT IT READS IS OF BULK AT MOST 1048576: true; the input reads as it did. -/
def fnExactPagesOkUptoRow : OpenClaim := { program := "ytemmcjjfjcjbeaa", sum := "e539759ca7d1ccd707f791916022cd38cb0463b300ac84a4886f28bdc6c78ac5", func := "loop.example/quarterdeck/laws.FnExactPagesOk", spec := "fnExactPagesOk", apart := false, narrowed := true }
def FnExactPagesOkUptoSaid : Prop := fnExactPagesOkUptoRow.holds Try.pinned (OpenSpec.upto fnExactPagesOkSpec)

/-- 'laws.FnExactPagesRoom', WHERE WHAT IT READS IS OF BULK AT MOST 1048576: true; the input reads as it did. -/
def fnExactPagesRoomUptoRow : OpenClaim := { program := "ytemmcjjfjcjbeaa", sum := "e539759ca7d1ccd707f791916022cd38cb0463b300ac84a4886f28bdc6c78ac5", func := "loop.example/quarterdeck/laws.FnExactPagesRoom", spec := "fnExactPagesRoom", apart := false, narrowed := true }
def FnExactPagesRoomUptoSaid : Prop := fnExactPagesRoomUptoRow.holds Try.pinned (OpenSpec.upto fnExactPagesRoomSpec)

/-- 'laws.FnExactPagesTake', WHERE WHAT IT READS IS OF BULK AT MOST 1048576: true; the input reads as it did. -/
def fnExactPagesTakeUptoRow : OpenClaim := { program := "ytemmcjjfjcjbeaa", sum := "e539759ca7d1ccd707f791916022cd38cb0463b300ac84a4886f28bdc6c78ac5", func := "loop.example/quarterdeck/laws.FnExactPagesTake", spec := "fnExactPagesTake", apart := false, narrowed := true }
def FnExactPagesTakeUptoSaid : Prop := fnExactPagesTakeUptoRow.holds Try.pinned (OpenSpec.upto fnExactPagesTakeSpec)

/-- 'laws.FnExactPagesKeep', WHERE WHAT IT READS IS OF BULK AT MOST 1048576: true; the input reads as it did. -/
def fnExactPagesKeepUptoRow : OpenClaim := { program := "ytemmcjjfjcjbeaa", sum := "e539759ca7d1ccd707f791916022cd38cb0463b300ac84a4886f28bdc6c78ac5", func := "loop.example/quarterdeck/laws.FnExactPagesKeep", spec := "fnExactPagesKeep", apart := false, narrowed := true }
def FnExactPagesKeepUptoSaid : Prop := fnExactPagesKeepUptoRow.holds Try.pinned (OpenSpec.upto fnExactPagesKeepSpec)

/-- 'laws.FnExactPagesGive', WHERE WHAT IT READS IS OF BULK AT MOST 1048576: true; the input reads as it did. -/
def fnExactPagesGiveUptoRow : OpenClaim := { program := "ytemmcjjfjcjbeaa", sum := "e539759ca7d1ccd707f791916022cd38cb0463b300ac84a4886f28bdc6c78ac5", func := "loop.example/quarterdeck/laws.FnExactPagesGive", spec := "fnExactPagesGive", apart := false, narrowed := true }
def FnExactPagesGiveUptoSaid : Prop := fnExactPagesGiveUptoRow.holds Try.pinned (OpenSpec.upto fnExactPagesGiveSpec)

/-- 'laws.FnExactPagesGet', WHERE WHAT IT READS IS OF BULK AT MOST 1048576: true; the input reads as it did. -/
def fnExactPagesGetUptoRow : OpenClaim := { program := "ytemmcjjfjcjbeaa", sum := "e539759ca7d1ccd707f791916022cd38cb0463b300ac84a4886f28bdc6c78ac5", func := "loop.example/quarterdeck/laws.FnExactPagesGet", spec := "fnExactPagesGet", apart := false, narrowed := true }
def FnExactPagesGetUptoSaid : Prop := fnExactPagesGetUptoRow.holds Try.pinned (OpenSpec.upto fnExactPagesGetSpec)

/-- 'laws.FnExactPagesSet', WHERE WHAT IT READS IS OF BULK AT MOST 1048576: true; the input reads as it did. -/
def fnExactPagesSetUptoRow : OpenClaim := { program := "ytemmcjjfjcjbeaa", sum := "e539759ca7d1ccd707f791916022cd38cb0463b300ac84a4886f28bdc6c78ac5", func := "loop.example/quarterdeck/laws.FnExactPagesSet", spec := "fnExactPagesSet", apart := false, narrowed := true }
def FnExactPagesSetUptoSaid : Prop := fnExactPagesSetUptoRow.holds Try.pinned (OpenSpec.upto fnExactPagesSetSpec)

/-- 'laws.FnMemNew', WHERE WHAT IT READS IS OF BULK AT MOST 1048576: true; the input reads as it did. -/
def fnMemNewUptoRow : OpenClaim := { program := "ytemmcjjfjcjbeaa", sum := "e539759ca7d1ccd707f791916022cd38cb0463b300ac84a4886f28bdc6c78ac5", func := "loop.example/quarterdeck/laws.FnMemNew", spec := "fnMemNew", unfollowed := true, recurses := true, apart := false, narrowed := true }
def FnMemNewUptoSaid : Prop := fnMemNewUptoRow.holds Try.pinned (OpenSpec.upto fnMemNewSpec)

/-- 'laws.FnExactMemNew', WHERE WHAT IT READS IS OF BULK AT MOST 1048576: true; the input reads as it did. -/
def fnExactMemNewUptoRow : OpenClaim := { program := "ytemmcjjfjcjbeaa", sum := "e539759ca7d1ccd707f791916022cd38cb0463b300ac84a4886f28bdc6c78ac5", func := "loop.example/quarterdeck/laws.FnExactMemNew", spec := "fnExactMemNew", apart := false, narrowed := true }
def FnExactMemNewUptoSaid : Prop := fnExactMemNewUptoRow.holds Try.pinned (OpenSpec.upto fnExactMemNewSpec)

end Rows
end Go.Proofs.Ytemmcjjfjcjbeaa

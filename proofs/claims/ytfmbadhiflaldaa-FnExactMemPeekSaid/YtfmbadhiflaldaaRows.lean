/-
  No cell of these rows narrows 'for every input' (looked for: loops, veiled, ifaces, maps, wideKeys, modest, calm, conditions, laid).
  DERIVED. THE GIVEN ROWS OF THIS SEAT. 11 by the template 'for every input the law returns true; each argument reads behind the call as it read before'; 0 by the template 'total and deterministic' (their statements: YtfmbadhiflaldaaTotals.lean).
  GIVEN WITH THE SEED: the statements are not yours to turn. If you find one false, say at which input.
  Laid BY PROGRAM, IN A SANDBOX (cutbox-rows.mjs): the forced cells as the released guide's own fill.sh prints them over the translation d7b7c8f48951795b… (all of the seat's roots in one cut). By AI agents, Wed Nov 11 2026. No macro, syntax, notation, axiom, sorry.
-/
import Derived.Test.YtfmbadhiflaldaaChecked
import GoSem.Claim
import GoSem.ClaimJoined
import GoSem.ClaimMapViews
import Derived.JoinedTies
import Derived.KernelRfl
namespace Go.Proofs.Ytfmbadhiflaldaa
/- THE CELL 'sum', in the pinned program and in every row, IS THE sha256 OF THE DUMP (.gsa) THAT YtfmbadhiflaldaaProg.lean LOADS. Nothing in Lean hashes anything: it is a label: what it is worth is what the hold of that sum in a sandbox is worth. -/
noncomputable def Try.pinned : Pinned := { name := "ytfmbadhiflaldaa", sum := "d7b7c8f48951795b3f587f455a7af83f2b491ac5df89a432a89274ff593be6b8", checked := Try.checked }
namespace Rows
def none {H : Type} : Left H := { results := [], args := [] }

/-- 'laws.FnMemNew': WHATEVER THE INPUT: true; the input reads as it did. -/
def fnMemNewSpec : ChangeSpec := { name := "fnMemNew", fn := fun _ => fun
  | [d] => { results := [.lit (.bool true)], args := [d] }
  | _ => none }
def fnMemNewRow : OpenClaim := { program := "ytfmbadhiflaldaa", sum := "d7b7c8f48951795b3f587f455a7af83f2b491ac5df89a432a89274ff593be6b8", func := "loop.example/quarterdeck/laws.FnMemNew", spec := "fnMemNew", unfollowed := true, recurses := true, plainKeys := false, apart := false }
def FnMemNewSaid : Prop := fnMemNewRow.holds Try.pinned (OpenSpec.ofChange fnMemNewSpec)

/-- ITS FALSE NEIGHBOUR: 'it returns false'. Refute it at one input. -/
def fnMemNewWrong : ChangeSpec := { name := "fnMemNew", fn := fun _ => fun
  | [d] => { results := [.lit (.bool false)], args := [d] }
  | _ => none }
def FnMemNewWrongFalsely : Prop := fnMemNewRow.holds Try.pinned (OpenSpec.ofChange fnMemNewWrong)

/-- 'laws.FnMemOk': WHATEVER THE INPUT: true; the input reads as it did. -/
def fnMemOkSpec : ChangeSpec := { name := "fnMemOk", fn := fun _ => fun
  | [d] => { results := [.lit (.bool true)], args := [d] }
  | _ => none }
def fnMemOkRow : OpenClaim := { program := "ytfmbadhiflaldaa", sum := "d7b7c8f48951795b3f587f455a7af83f2b491ac5df89a432a89274ff593be6b8", func := "loop.example/quarterdeck/laws.FnMemOk", spec := "fnMemOk", inPlace := ["internal/abi.NoEscape", "internal/bytealg.MakeNoZero"], unfollowed := true, recurses := true, plainKeys := false, apart := false }
def FnMemOkSaid : Prop := fnMemOkRow.holds Try.pinned (OpenSpec.ofChange fnMemOkSpec)

/-- ITS FALSE NEIGHBOUR: 'it returns false'. Refute it at one input. -/
def fnMemOkWrong : ChangeSpec := { name := "fnMemOk", fn := fun _ => fun
  | [d] => { results := [.lit (.bool false)], args := [d] }
  | _ => none }
def FnMemOkWrongFalsely : Prop := fnMemOkRow.holds Try.pinned (OpenSpec.ofChange fnMemOkWrong)

/-- 'laws.FnMemMake': WHATEVER THE INPUT: true; the input reads as it did. -/
def fnMemMakeSpec : ChangeSpec := { name := "fnMemMake", fn := fun _ => fun
  | [d] => { results := [.lit (.bool true)], args := [d] }
  | _ => none }
def fnMemMakeRow : OpenClaim := { program := "ytfmbadhiflaldaa", sum := "d7b7c8f48951795b3f587f455a7af83f2b491ac5df89a432a89274ff593be6b8", func := "loop.example/quarterdeck/laws.FnMemMake", spec := "fnMemMake", unfollowed := true, recurses := true, plainKeys := false, apart := false }
def FnMemMakeSaid : Prop := fnMemMakeRow.holds Try.pinned (OpenSpec.ofChange fnMemMakeSpec)

/-- ITS FALSE NEIGHBOUR: 'it returns false'. Refute it at one input. -/
def fnMemMakeWrong : ChangeSpec := { name := "fnMemMake", fn := fun _ => fun
  | [d] => { results := [.lit (.bool false)], args := [d] }
  | _ => none }
def FnMemMakeWrongFalsely : Prop := fnMemMakeRow.holds Try.pinned (OpenSpec.ofChange fnMemMakeWrong)

/-- 'laws.FnMemMap': WHATEVER THE INPUT: true; the input reads as it did. -/
def fnMemMapSpec : ChangeSpec := { name := "fnMemMap", fn := fun _ => fun
  | [d] => { results := [.lit (.bool true)], args := [d] }
  | _ => none }
def fnMemMapRow : OpenClaim := { program := "ytfmbadhiflaldaa", sum := "d7b7c8f48951795b3f587f455a7af83f2b491ac5df89a432a89274ff593be6b8", func := "loop.example/quarterdeck/laws.FnMemMap", spec := "fnMemMap", unfollowed := true, recurses := true, plainKeys := false, apart := false }
def FnMemMapSaid : Prop := fnMemMapRow.holds Try.pinned (OpenSpec.ofChange fnMemMapSpec)

/-- ITS FALSE NEIGHBOUR: 'it returns false'. Refute it at one input. -/
def fnMemMapWrong : ChangeSpec := { name := "fnMemMap", fn := fun _ => fun
  | [d] => { results := [.lit (.bool false)], args := [d] }
  | _ => none }
def FnMemMapWrongFalsely : Prop := fnMemMapRow.holds Try.pinned (OpenSpec.ofChange fnMemMapWrong)

/-- 'laws.FnMemCut': WHATEVER THE INPUT: true; the input reads as it did. -/
def fnMemCutSpec : ChangeSpec := { name := "fnMemCut", fn := fun _ => fun
  | [d] => { results := [.lit (.bool true)], args := [d] }
  | _ => none }
def fnMemCutRow : OpenClaim := { program := "ytfmbadhiflaldaa", sum := "d7b7c8f48951795b3f587f455a7af83f2b491ac5df89a432a89274ff593be6b8", func := "loop.example/quarterdeck/laws.FnMemCut", spec := "fnMemCut", unfollowed := true, recurses := true, plainKeys := false, apart := false }
def FnMemCutSaid : Prop := fnMemCutRow.holds Try.pinned (OpenSpec.ofChange fnMemCutSpec)

/-- ITS FALSE NEIGHBOUR: 'it returns false'. Refute it at one input. -/
def fnMemCutWrong : ChangeSpec := { name := "fnMemCut", fn := fun _ => fun
  | [d] => { results := [.lit (.bool false)], args := [d] }
  | _ => none }
def FnMemCutWrongFalsely : Prop := fnMemCutRow.holds Try.pinned (OpenSpec.ofChange fnMemCutWrong)

/-- 'laws.FnMemDrop': WHATEVER THE INPUT: true; the input reads as it did. -/
def fnMemDropSpec : ChangeSpec := { name := "fnMemDrop", fn := fun _ => fun
  | [d] => { results := [.lit (.bool true)], args := [d] }
  | _ => none }
def fnMemDropRow : OpenClaim := { program := "ytfmbadhiflaldaa", sum := "d7b7c8f48951795b3f587f455a7af83f2b491ac5df89a432a89274ff593be6b8", func := "loop.example/quarterdeck/laws.FnMemDrop", spec := "fnMemDrop", unfollowed := true, recurses := true, plainKeys := false, apart := false }
def FnMemDropSaid : Prop := fnMemDropRow.holds Try.pinned (OpenSpec.ofChange fnMemDropSpec)

/-- ITS FALSE NEIGHBOUR: 'it returns false'. Refute it at one input. -/
def fnMemDropWrong : ChangeSpec := { name := "fnMemDrop", fn := fun _ => fun
  | [d] => { results := [.lit (.bool false)], args := [d] }
  | _ => none }
def FnMemDropWrongFalsely : Prop := fnMemDropRow.holds Try.pinned (OpenSpec.ofChange fnMemDropWrong)

/-- 'laws.FnExactMemOk': WHATEVER THE INPUT: true; the input reads as it did. -/
def fnExactMemOkSpec : ChangeSpec := { name := "fnExactMemOk", fn := fun _ => fun
  | [d] => { results := [.lit (.bool true)], args := [d] }
  | _ => none }
def fnExactMemOkRow : OpenClaim := { program := "ytfmbadhiflaldaa", sum := "d7b7c8f48951795b3f587f455a7af83f2b491ac5df89a432a89274ff593be6b8", func := "loop.example/quarterdeck/laws.FnExactMemOk", spec := "fnExactMemOk", unfollowed := true, recurses := true, plainKeys := false, apart := false }
def FnExactMemOkSaid : Prop := fnExactMemOkRow.holds Try.pinned (OpenSpec.ofChange fnExactMemOkSpec)

/-- ITS FALSE NEIGHBOUR: 'it returns false'. Refute it at one input. -/
def fnExactMemOkWrong : ChangeSpec := { name := "fnExactMemOk", fn := fun _ => fun
  | [d] => { results := [.lit (.bool false)], args := [d] }
  | _ => none }
def FnExactMemOkWrongFalsely : Prop := fnExactMemOkRow.holds Try.pinned (OpenSpec.ofChange fnExactMemOkWrong)

/-- 'laws.FnExactMemPeek': WHATEVER THE INPUT: true; the input reads as it did. -/
def fnExactMemPeekSpec : ChangeSpec := { name := "fnExactMemPeek", fn := fun _ => fun
  | [d1, d2, d3] => { results := [.lit (.bool true)], args := [d1, d2, d3] }
  | _ => none }
def fnExactMemPeekRow : OpenClaim := { program := "ytfmbadhiflaldaa", sum := "d7b7c8f48951795b3f587f455a7af83f2b491ac5df89a432a89274ff593be6b8", func := "loop.example/quarterdeck/laws.FnExactMemPeek", spec := "fnExactMemPeek", unfollowed := true, recurses := true, plainKeys := false, apart := false }
def FnExactMemPeekSaid : Prop := fnExactMemPeekRow.holds Try.pinned (OpenSpec.ofChange fnExactMemPeekSpec)

/-- ITS FALSE NEIGHBOUR: 'it returns false'. Refute it at one input. -/
def fnExactMemPeekWrong : ChangeSpec := { name := "fnExactMemPeek", fn := fun _ => fun
  | [d1, d2, d3] => { results := [.lit (.bool false)], args := [d1, d2, d3] }
  | _ => none }
def FnExactMemPeekWrongFalsely : Prop := fnExactMemPeekRow.holds Try.pinned (OpenSpec.ofChange fnExactMemPeekWrong)

/-- 'laws.FnExactMemMake': WHATEVER THE INPUT: true; the input reads as it did. -/
def fnExactMemMakeSpec : ChangeSpec := { name := "fnExactMemMake", fn := fun _ => fun
  | [d] => { results := [.lit (.bool true)], args := [d] }
  | _ => none }
def fnExactMemMakeRow : OpenClaim := { program := "ytfmbadhiflaldaa", sum := "d7b7c8f48951795b3f587f455a7af83f2b491ac5df89a432a89274ff593be6b8", func := "loop.example/quarterdeck/laws.FnExactMemMake", spec := "fnExactMemMake", unfollowed := true, recurses := true, plainKeys := false, apart := false }
def FnExactMemMakeSaid : Prop := fnExactMemMakeRow.holds Try.pinned (OpenSpec.ofChange fnExactMemMakeSpec)

/-- ITS FALSE NEIGHBOUR: 'it returns false'. Refute it at one input. -/
def fnExactMemMakeWrong : ChangeSpec := { name := "fnExactMemMake", fn := fun _ => fun
  | [d] => { results := [.lit (.bool false)], args := [d] }
  | _ => none }
def FnExactMemMakeWrongFalsely : Prop := fnExactMemMakeRow.holds Try.pinned (OpenSpec.ofChange fnExactMemMakeWrong)

/-- 'laws.FnExactMemMap': WHATEVER THE INPUT: true; the input reads as it did. -/
def fnExactMemMapSpec : ChangeSpec := { name := "fnExactMemMap", fn := fun _ => fun
  | [d1, d2, d3] => { results := [.lit (.bool true)], args := [d1, d2, d3] }
  | _ => none }
def fnExactMemMapRow : OpenClaim := { program := "ytfmbadhiflaldaa", sum := "d7b7c8f48951795b3f587f455a7af83f2b491ac5df89a432a89274ff593be6b8", func := "loop.example/quarterdeck/laws.FnExactMemMap", spec := "fnExactMemMap", unfollowed := true, recurses := true, plainKeys := false, apart := false }
def FnExactMemMapSaid : Prop := fnExactMemMapRow.holds Try.pinned (OpenSpec.ofChange fnExactMemMapSpec)

/-- ITS FALSE NEIGHBOUR: 'it returns false'. Refute it at one input. -/
def fnExactMemMapWrong : ChangeSpec := { name := "fnExactMemMap", fn := fun _ => fun
  | [d1, d2, d3] => { results := [.lit (.bool false)], args := [d1, d2, d3] }
  | _ => none }
def FnExactMemMapWrongFalsely : Prop := fnExactMemMapRow.holds Try.pinned (OpenSpec.ofChange fnExactMemMapWrong)

/-- 'laws.FnExactMemDrop': WHATEVER THE INPUT: true; the input reads as it did. -/
def fnExactMemDropSpec : ChangeSpec := { name := "fnExactMemDrop", fn := fun _ => fun
  | [d1, d2] => { results := [.lit (.bool true)], args := [d1, d2] }
  | _ => none }
def fnExactMemDropRow : OpenClaim := { program := "ytfmbadhiflaldaa", sum := "d7b7c8f48951795b3f587f455a7af83f2b491ac5df89a432a89274ff593be6b8", func := "loop.example/quarterdeck/laws.FnExactMemDrop", spec := "fnExactMemDrop", unfollowed := true, recurses := true, plainKeys := false, apart := false }
def FnExactMemDropSaid : Prop := fnExactMemDropRow.holds Try.pinned (OpenSpec.ofChange fnExactMemDropSpec)

/-- ITS FALSE NEIGHBOUR: 'it returns false'. Refute it at one input. -/
def fnExactMemDropWrong : ChangeSpec := { name := "fnExactMemDrop", fn := fun _ => fun
  | [d1, d2] => { results := [.lit (.bool false)], args := [d1, d2] }
  | _ => none }
def FnExactMemDropWrongFalsely : Prop := fnExactMemDropRow.holds Try.pinned (OpenSpec.ofChange fnExactMemDropWrong)

/- THE SECOND FORM. 'bulk': how many values and letters a reading holds, each counted each time it is reached (what is shared counts as often as it is met; a slice's spare places count too). A statement '..UptoSaid' is the law's where the arguments, and the package variables that the reading takes, are together of bulk at most 1048576: NARROWER than '..Said'. Prove '..Said' where nothing that the law and all that it calls make is longer than what came in: it says more and counts as full. Else prove '..UptoSaid'. A law counts once. -/
mutual
def uptoBulk {H : Type} : DataW H → Nat
  | .lit (.string bytes) => bytes.length + 1
  | .lit _ => 1
  | .nil => 1
  | .ptr d => uptoBulk d + 1
  | .slice elems spare => uptoBulkAll elems + uptoBulkAll spare + 1
  | .agg parts => uptoBulkAll parts + 1
  | .iface _ d => uptoBulk d + 1
  | .map entries => uptoBulkEntries entries + 1
  | .held _ => 1
def uptoBulkAll {H : Type} : List (DataW H) → Nat
  | [] => 0
  | d :: r => uptoBulk d + uptoBulkAll r
def uptoBulkEntries {H : Type} : List (Lit × DataW H) → Nat
  | [] => 0
  | x :: r => uptoBulkEntry x + uptoBulkEntries r
def uptoBulkEntry {H : Type} : Lit × DataW H → Nat
  | (.string bytes, d) => bytes.length + uptoBulk d + 1
  | (_, d) => uptoBulk d + 1
 end
def uptoSmall : (H : Type) → List (DataW H) → Bool := fun _ ds => decide (uptoBulkAll ds ≤ 1048576)
def OpenSpec.upto (s : _root_.Go.ChangeSpec) : _root_.Go.OpenSpec := { _root_.Go.OpenSpec.ofChange s with cond := some uptoSmall }

/-- 'laws.FnMemNew', WHERE WHAT IT READS IS OF BULK AT MOST 1048576: true; the input reads as it did. -/
def fnMemNewUptoRow : OpenClaim := { program := "ytfmbadhiflaldaa", sum := "d7b7c8f48951795b3f587f455a7af83f2b491ac5df89a432a89274ff593be6b8", func := "loop.example/quarterdeck/laws.FnMemNew", spec := "fnMemNew", unfollowed := true, recurses := true, plainKeys := false, apart := false, narrowed := true }
def FnMemNewUptoSaid : Prop := fnMemNewUptoRow.holds Try.pinned (OpenSpec.upto fnMemNewSpec)

/-- 'laws.FnMemOk', WHERE WHAT IT READS IS OF BULK AT MOST 1048576: true; the input reads as it did. -/
def fnMemOkUptoRow : OpenClaim := { program := "ytfmbadhiflaldaa", sum := "d7b7c8f48951795b3f587f455a7af83f2b491ac5df89a432a89274ff593be6b8", func := "loop.example/quarterdeck/laws.FnMemOk", spec := "fnMemOk", inPlace := ["internal/abi.NoEscape", "internal/bytealg.MakeNoZero"], unfollowed := true, recurses := true, plainKeys := false, apart := false, narrowed := true }
def FnMemOkUptoSaid : Prop := fnMemOkUptoRow.holds Try.pinned (OpenSpec.upto fnMemOkSpec)

/-- 'laws.FnMemMake', WHERE WHAT IT READS IS OF BULK AT MOST 1048576: true; the input reads as it did. -/
def fnMemMakeUptoRow : OpenClaim := { program := "ytfmbadhiflaldaa", sum := "d7b7c8f48951795b3f587f455a7af83f2b491ac5df89a432a89274ff593be6b8", func := "loop.example/quarterdeck/laws.FnMemMake", spec := "fnMemMake", unfollowed := true, recurses := true, plainKeys := false, apart := false, narrowed := true }
def FnMemMakeUptoSaid : Prop := fnMemMakeUptoRow.holds Try.pinned (OpenSpec.upto fnMemMakeSpec)

/-- 'laws.FnMemMap', WHERE WHAT IT READS IS OF BULK AT MOST 1048576: true; the input reads as it did. -/
def fnMemMapUptoRow : OpenClaim := { program := "ytfmbadhiflaldaa", sum := "d7b7c8f48951795b3f587f455a7af83f2b491ac5df89a432a89274ff593be6b8", func := "loop.example/quarterdeck/laws.FnMemMap", spec := "fnMemMap", unfollowed := true, recurses := true, plainKeys := false, apart := false, narrowed := true }
def FnMemMapUptoSaid : Prop := fnMemMapUptoRow.holds Try.pinned (OpenSpec.upto fnMemMapSpec)

/-- 'laws.FnMemCut', WHERE WHAT IT READS IS OF BULK AT MOST 1048576: true; the input reads as it did. -/
def fnMemCutUptoRow : OpenClaim := { program := "ytfmbadhiflaldaa", sum := "d7b7c8f48951795b3f587f455a7af83f2b491ac5df89a432a89274ff593be6b8", func := "loop.example/quarterdeck/laws.FnMemCut", spec := "fnMemCut", unfollowed := true, recurses := true, plainKeys := false, apart := false, narrowed := true }
def FnMemCutUptoSaid : Prop := fnMemCutUptoRow.holds Try.pinned (OpenSpec.upto fnMemCutSpec)

/-- 'laws.FnMemDrop', WHERE WHAT IT READS IS OF BULK AT MOST 1048576: true; the input reads as it did. -/
def fnMemDropUptoRow : OpenClaim := { program := "ytfmbadhiflaldaa", sum := "d7b7c8f48951795b3f587f455a7af83f2b491ac5df89a432a89274ff593be6b8", func := "loop.example/quarterdeck/laws.FnMemDrop", spec := "fnMemDrop", unfollowed := true, recurses := true, plainKeys := false, apart := false, narrowed := true }
def FnMemDropUptoSaid : Prop := fnMemDropUptoRow.holds Try.pinned (OpenSpec.upto fnMemDropSpec)

/-- 'laws.FnExactMemOk', WHERE WHAT IT READS IS OF BULK AT MOST 1048576: true; the input reads as it did. -/
def fnExactMemOkUptoRow : OpenClaim := { program := "ytfmbadhiflaldaa", sum := "d7b7c8f48951795b3f587f455a7af83f2b491ac5df89a432a89274ff593be6b8", func := "loop.example/quarterdeck/laws.FnExactMemOk", spec := "fnExactMemOk", unfollowed := true, recurses := true, plainKeys := false, apart := false, narrowed := true }
def FnExactMemOkUptoSaid : Prop := fnExactMemOkUptoRow.holds Try.pinned (OpenSpec.upto fnExactMemOkSpec)

/-- 'laws.FnExactMemPeek', WHERE WHAT IT READS IS OF BULK AT MOST 1048576: true; the input reads as it did. -/
def fnExactMemPeekUptoRow : OpenClaim := { program := "ytfmbadhiflaldaa", sum := "d7b7c8f48951795b3f587f455a7af83f2b491ac5df89a432a89274ff593be6b8", func := "loop.example/quarterdeck/laws.FnExactMemPeek", spec := "fnExactMemPeek", unfollowed := true, recurses := true, plainKeys := false, apart := false, narrowed := true }
def FnExactMemPeekUptoSaid : Prop := fnExactMemPeekUptoRow.holds Try.pinned (OpenSpec.upto fnExactMemPeekSpec)

/-- 'laws.FnExactMemMake', WHERE WHAT IT READS IS OF BULK AT MOST 1048576: true; the input reads as it did. -/
def fnExactMemMakeUptoRow : OpenClaim := { program := "ytfmbadhiflaldaa", sum := "d7b7c8f48951795b3f587f455a7af83f2b491ac5df89a432a89274ff593be6b8", func := "loop.example/quarterdeck/laws.FnExactMemMake", spec := "fnExactMemMake", unfollowed := true, recurses := true, plainKeys := false, apart := false, narrowed := true }
def FnExactMemMakeUptoSaid : Prop := fnExactMemMakeUptoRow.holds Try.pinned (OpenSpec.upto fnExactMemMakeSpec)

/-- 'laws.FnExactMemMap', WHERE WHAT IT READS IS OF BULK AT MOST 1048576: true; the input reads as it did. -/
def fnExactMemMapUptoRow : OpenClaim := { program := "ytfmbadhiflaldaa", sum := "d7b7c8f48951795b3f587f455a7af83f2b491ac5df89a432a89274ff593be6b8", func := "loop.example/quarterdeck/laws.FnExactMemMap", spec := "fnExactMemMap", unfollowed := true, recurses := true, plainKeys := false, apart := false, narrowed := true }
def FnExactMemMapUptoSaid : Prop := fnExactMemMapUptoRow.holds Try.pinned (OpenSpec.upto fnExactMemMapSpec)

/-- 'laws.FnExactMemDrop', WHERE WHAT IT READS IS OF BULK AT MOST 1048576: true; the input reads as it did. -/
def fnExactMemDropUptoRow : OpenClaim := { program := "ytfmbadhiflaldaa", sum := "d7b7c8f48951795b3f587f455a7af83f2b491ac5df89a432a89274ff593be6b8", func := "loop.example/quarterdeck/laws.FnExactMemDrop", spec := "fnExactMemDrop", unfollowed := true, recurses := true, plainKeys := false, apart := false, narrowed := true }
def FnExactMemDropUptoSaid : Prop := fnExactMemDropUptoRow.holds Try.pinned (OpenSpec.upto fnExactMemDropSpec)

end Rows
end Go.Proofs.Ytfmbadhiflaldaa

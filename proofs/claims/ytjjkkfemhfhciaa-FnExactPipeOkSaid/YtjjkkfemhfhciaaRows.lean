/-
  No cell of these rows narrows 'for every input' (looked for: loops, veiled, ifaces, maps, wideKeys, modest, calm, conditions, laid).
  DERIVED. THE GIVEN ROWS OF THIS SEAT. 15 by the template 'for every input the law returns true; each argument reads behind the call as it read before'; 0 by the template 'total and deterministic' (their statements: YtjjkkfemhfhciaaTotals.lean).
  GIVEN WITH THE SEED: the statements are not yours to turn. If you find one false, say at which input.
  Laid BY PROGRAM, IN A SANDBOX (cutbox-rows.mjs): the forced cells as the released guide's own fill.sh prints them over the translation 55c14f19689ec34f… (all of the seat's roots in one cut). By AI agents, Wed Nov 11 2026. No macro, syntax, notation, axiom, sorry.
-/
import Derived.Test.YtjjkkfemhfhciaaChecked
import GoSem.Claim
import GoSem.ClaimJoined
import GoSem.ClaimMapViews
import Derived.JoinedTies
import Derived.KernelRfl
namespace Go.Proofs.Ytjjkkfemhfhciaa
/- THE CELL 'sum', in the pinned program and in every row, IS THE sha256 OF THE DUMP (.gsa) THAT YtjjkkfemhfhciaaProg.lean LOADS. Nothing in Lean hashes anything: it is a label: what it is worth is what the hold of that sum in a sandbox is worth. -/
noncomputable def Try.pinned : Pinned := { name := "ytjjkkfemhfhciaa", sum := "55c14f19689ec34f6a5d891f3a87854638145d2e07126872f6f6c61cf57be8ad", checked := Try.checked }
namespace Rows
def none {H : Type} : Left H := { results := [], args := [] }

/-- 'laws.FnPipeOk': WHATEVER THE INPUT: true; the input reads as it did. -/
def fnPipeOkSpec : ChangeSpec := { name := "fnPipeOk", fn := fun _ => fun
  | [d] => { results := [.lit (.bool true)], args := [d] }
  | _ => none }
def fnPipeOkRow : OpenClaim := { program := "ytjjkkfemhfhciaa", sum := "55c14f19689ec34f6a5d891f3a87854638145d2e07126872f6f6c61cf57be8ad", func := "loop.example/quarterdeck/laws.FnPipeOk", spec := "fnPipeOk", apart := false }
def FnPipeOkSaid : Prop := fnPipeOkRow.holds Try.pinned (OpenSpec.ofChange fnPipeOkSpec)

/-- ITS FALSE NEIGHBOUR: 'it returns false'. Refute it at one input. -/
def fnPipeOkWrong : ChangeSpec := { name := "fnPipeOk", fn := fun _ => fun
  | [d] => { results := [.lit (.bool false)], args := [d] }
  | _ => none }
def FnPipeOkWrongFalsely : Prop := fnPipeOkRow.holds Try.pinned (OpenSpec.ofChange fnPipeOkWrong)

/-- 'laws.FnPipePut': WHATEVER THE INPUT: true; the input reads as it did. -/
def fnPipePutSpec : ChangeSpec := { name := "fnPipePut", fn := fun _ => fun
  | [d] => { results := [.lit (.bool true)], args := [d] }
  | _ => none }
def fnPipePutRow : OpenClaim := { program := "ytjjkkfemhfhciaa", sum := "55c14f19689ec34f6a5d891f3a87854638145d2e07126872f6f6c61cf57be8ad", func := "loop.example/quarterdeck/laws.FnPipePut", spec := "fnPipePut", apart := false }
def FnPipePutSaid : Prop := fnPipePutRow.holds Try.pinned (OpenSpec.ofChange fnPipePutSpec)

/-- ITS FALSE NEIGHBOUR: 'it returns false'. Refute it at one input. -/
def fnPipePutWrong : ChangeSpec := { name := "fnPipePut", fn := fun _ => fun
  | [d] => { results := [.lit (.bool false)], args := [d] }
  | _ => none }
def FnPipePutWrongFalsely : Prop := fnPipePutRow.holds Try.pinned (OpenSpec.ofChange fnPipePutWrong)

/-- 'laws.FnPipeTake': WHATEVER THE INPUT: true; the input reads as it did. -/
def fnPipeTakeSpec : ChangeSpec := { name := "fnPipeTake", fn := fun _ => fun
  | [d] => { results := [.lit (.bool true)], args := [d] }
  | _ => none }
def fnPipeTakeRow : OpenClaim := { program := "ytjjkkfemhfhciaa", sum := "55c14f19689ec34f6a5d891f3a87854638145d2e07126872f6f6c61cf57be8ad", func := "loop.example/quarterdeck/laws.FnPipeTake", spec := "fnPipeTake", apart := false }
def FnPipeTakeSaid : Prop := fnPipeTakeRow.holds Try.pinned (OpenSpec.ofChange fnPipeTakeSpec)

/-- ITS FALSE NEIGHBOUR: 'it returns false'. Refute it at one input. -/
def fnPipeTakeWrong : ChangeSpec := { name := "fnPipeTake", fn := fun _ => fun
  | [d] => { results := [.lit (.bool false)], args := [d] }
  | _ => none }
def FnPipeTakeWrongFalsely : Prop := fnPipeTakeRow.holds Try.pinned (OpenSpec.ofChange fnPipeTakeWrong)

/-- 'laws.FnPipeJoin': WHATEVER THE INPUT: true; the input reads as it did. -/
def fnPipeJoinSpec : ChangeSpec := { name := "fnPipeJoin", fn := fun _ => fun
  | [d] => { results := [.lit (.bool true)], args := [d] }
  | _ => none }
def fnPipeJoinRow : OpenClaim := { program := "ytjjkkfemhfhciaa", sum := "55c14f19689ec34f6a5d891f3a87854638145d2e07126872f6f6c61cf57be8ad", func := "loop.example/quarterdeck/laws.FnPipeJoin", spec := "fnPipeJoin", apart := false }
def FnPipeJoinSaid : Prop := fnPipeJoinRow.holds Try.pinned (OpenSpec.ofChange fnPipeJoinSpec)

/-- ITS FALSE NEIGHBOUR: 'it returns false'. Refute it at one input. -/
def fnPipeJoinWrong : ChangeSpec := { name := "fnPipeJoin", fn := fun _ => fun
  | [d] => { results := [.lit (.bool false)], args := [d] }
  | _ => none }
def FnPipeJoinWrongFalsely : Prop := fnPipeJoinRow.holds Try.pinned (OpenSpec.ofChange fnPipeJoinWrong)

/-- 'laws.FnPipeLeave': WHATEVER THE INPUT: true; the input reads as it did. -/
def fnPipeLeaveSpec : ChangeSpec := { name := "fnPipeLeave", fn := fun _ => fun
  | [d] => { results := [.lit (.bool true)], args := [d] }
  | _ => none }
def fnPipeLeaveRow : OpenClaim := { program := "ytjjkkfemhfhciaa", sum := "55c14f19689ec34f6a5d891f3a87854638145d2e07126872f6f6c61cf57be8ad", func := "loop.example/quarterdeck/laws.FnPipeLeave", spec := "fnPipeLeave", apart := false }
def FnPipeLeaveSaid : Prop := fnPipeLeaveRow.holds Try.pinned (OpenSpec.ofChange fnPipeLeaveSpec)

/-- ITS FALSE NEIGHBOUR: 'it returns false'. Refute it at one input. -/
def fnPipeLeaveWrong : ChangeSpec := { name := "fnPipeLeave", fn := fun _ => fun
  | [d] => { results := [.lit (.bool false)], args := [d] }
  | _ => none }
def FnPipeLeaveWrongFalsely : Prop := fnPipeLeaveRow.holds Try.pinned (OpenSpec.ofChange fnPipeLeaveWrong)

/-- 'laws.FnPipeReady': WHATEVER THE INPUT: true; the input reads as it did. -/
def fnPipeReadySpec : ChangeSpec := { name := "fnPipeReady", fn := fun _ => fun
  | [d] => { results := [.lit (.bool true)], args := [d] }
  | _ => none }
def fnPipeReadyRow : OpenClaim := { program := "ytjjkkfemhfhciaa", sum := "55c14f19689ec34f6a5d891f3a87854638145d2e07126872f6f6c61cf57be8ad", func := "loop.example/quarterdeck/laws.FnPipeReady", spec := "fnPipeReady", apart := false }
def FnPipeReadySaid : Prop := fnPipeReadyRow.holds Try.pinned (OpenSpec.ofChange fnPipeReadySpec)

/-- ITS FALSE NEIGHBOUR: 'it returns false'. Refute it at one input. -/
def fnPipeReadyWrong : ChangeSpec := { name := "fnPipeReady", fn := fun _ => fun
  | [d] => { results := [.lit (.bool false)], args := [d] }
  | _ => none }
def FnPipeReadyWrongFalsely : Prop := fnPipeReadyRow.holds Try.pinned (OpenSpec.ofChange fnPipeReadyWrong)

/-- 'laws.FnPipeStream': WHATEVER THE INPUT: true; the input reads as it did. -/
def fnPipeStreamSpec : ChangeSpec := { name := "fnPipeStream", fn := fun _ => fun
  | [d1, d2] => { results := [.lit (.bool true)], args := [d1, d2] }
  | _ => none }
def fnPipeStreamRow : OpenClaim := { program := "ytjjkkfemhfhciaa", sum := "55c14f19689ec34f6a5d891f3a87854638145d2e07126872f6f6c61cf57be8ad", func := "loop.example/quarterdeck/laws.FnPipeStream", spec := "fnPipeStream", apart := false }
def FnPipeStreamSaid : Prop := fnPipeStreamRow.holds Try.pinned (OpenSpec.ofChange fnPipeStreamSpec)

/-- ITS FALSE NEIGHBOUR: 'it returns false'. Refute it at one input. -/
def fnPipeStreamWrong : ChangeSpec := { name := "fnPipeStream", fn := fun _ => fun
  | [d1, d2] => { results := [.lit (.bool false)], args := [d1, d2] }
  | _ => none }
def FnPipeStreamWrongFalsely : Prop := fnPipeStreamRow.holds Try.pinned (OpenSpec.ofChange fnPipeStreamWrong)

/-- 'laws.FnPipeDrain': WHATEVER THE INPUT: true; the input reads as it did. -/
def fnPipeDrainSpec : ChangeSpec := { name := "fnPipeDrain", fn := fun _ => fun
  | [d] => { results := [.lit (.bool true)], args := [d] }
  | _ => none }
def fnPipeDrainRow : OpenClaim := { program := "ytjjkkfemhfhciaa", sum := "55c14f19689ec34f6a5d891f3a87854638145d2e07126872f6f6c61cf57be8ad", func := "loop.example/quarterdeck/laws.FnPipeDrain", spec := "fnPipeDrain", apart := false }
def FnPipeDrainSaid : Prop := fnPipeDrainRow.holds Try.pinned (OpenSpec.ofChange fnPipeDrainSpec)

/-- ITS FALSE NEIGHBOUR: 'it returns false'. Refute it at one input. -/
def fnPipeDrainWrong : ChangeSpec := { name := "fnPipeDrain", fn := fun _ => fun
  | [d] => { results := [.lit (.bool false)], args := [d] }
  | _ => none }
def FnPipeDrainWrongFalsely : Prop := fnPipeDrainRow.holds Try.pinned (OpenSpec.ofChange fnPipeDrainWrong)

/-- 'laws.FnPipeWhole': WHATEVER THE INPUT: true; the input reads as it did. -/
def fnPipeWholeSpec : ChangeSpec := { name := "fnPipeWhole", fn := fun _ => fun
  | [d1, d2] => { results := [.lit (.bool true)], args := [d1, d2] }
  | _ => none }
def fnPipeWholeRow : OpenClaim := { program := "ytjjkkfemhfhciaa", sum := "55c14f19689ec34f6a5d891f3a87854638145d2e07126872f6f6c61cf57be8ad", func := "loop.example/quarterdeck/laws.FnPipeWhole", spec := "fnPipeWhole", apart := false }
def FnPipeWholeSaid : Prop := fnPipeWholeRow.holds Try.pinned (OpenSpec.ofChange fnPipeWholeSpec)

/-- ITS FALSE NEIGHBOUR: 'it returns false'. Refute it at one input. -/
def fnPipeWholeWrong : ChangeSpec := { name := "fnPipeWhole", fn := fun _ => fun
  | [d1, d2] => { results := [.lit (.bool false)], args := [d1, d2] }
  | _ => none }
def FnPipeWholeWrongFalsely : Prop := fnPipeWholeRow.holds Try.pinned (OpenSpec.ofChange fnPipeWholeWrong)

/-- 'laws.FnExactPipeOk': WHATEVER THE INPUT: true; the input reads as it did. -/
def fnExactPipeOkSpec : ChangeSpec := { name := "fnExactPipeOk", fn := fun _ => fun
  | [d] => { results := [.lit (.bool true)], args := [d] }
  | _ => none }
def fnExactPipeOkRow : OpenClaim := { program := "ytjjkkfemhfhciaa", sum := "55c14f19689ec34f6a5d891f3a87854638145d2e07126872f6f6c61cf57be8ad", func := "loop.example/quarterdeck/laws.FnExactPipeOk", spec := "fnExactPipeOk", apart := false }
def FnExactPipeOkSaid : Prop := fnExactPipeOkRow.holds Try.pinned (OpenSpec.ofChange fnExactPipeOkSpec)

/-- ITS FALSE NEIGHBOUR: 'it returns false'. Refute it at one input. -/
def fnExactPipeOkWrong : ChangeSpec := { name := "fnExactPipeOk", fn := fun _ => fun
  | [d] => { results := [.lit (.bool false)], args := [d] }
  | _ => none }
def FnExactPipeOkWrongFalsely : Prop := fnExactPipeOkRow.holds Try.pinned (OpenSpec.ofChange fnExactPipeOkWrong)

/-- 'laws.FnExactPipePut': WHATEVER THE INPUT: true; the input reads as it did. -/
def fnExactPipePutSpec : ChangeSpec := { name := "fnExactPipePut", fn := fun _ => fun
  | [d1, d2] => { results := [.lit (.bool true)], args := [d1, d2] }
  | _ => none }
def fnExactPipePutRow : OpenClaim := { program := "ytjjkkfemhfhciaa", sum := "55c14f19689ec34f6a5d891f3a87854638145d2e07126872f6f6c61cf57be8ad", func := "loop.example/quarterdeck/laws.FnExactPipePut", spec := "fnExactPipePut", apart := false }
def FnExactPipePutSaid : Prop := fnExactPipePutRow.holds Try.pinned (OpenSpec.ofChange fnExactPipePutSpec)

/-- ITS FALSE NEIGHBOUR: 'it returns false'. Refute it at one input. -/
def fnExactPipePutWrong : ChangeSpec := { name := "fnExactPipePut", fn := fun _ => fun
  | [d1, d2] => { results := [.lit (.bool false)], args := [d1, d2] }
  | _ => none }
def FnExactPipePutWrongFalsely : Prop := fnExactPipePutRow.holds Try.pinned (OpenSpec.ofChange fnExactPipePutWrong)

/-- 'laws.FnExactPipeTake': WHATEVER THE INPUT: true; the input reads as it did. -/
def fnExactPipeTakeSpec : ChangeSpec := { name := "fnExactPipeTake", fn := fun _ => fun
  | [d1, d2] => { results := [.lit (.bool true)], args := [d1, d2] }
  | _ => none }
def fnExactPipeTakeRow : OpenClaim := { program := "ytjjkkfemhfhciaa", sum := "55c14f19689ec34f6a5d891f3a87854638145d2e07126872f6f6c61cf57be8ad", func := "loop.example/quarterdeck/laws.FnExactPipeTake", spec := "fnExactPipeTake", apart := false }
def FnExactPipeTakeSaid : Prop := fnExactPipeTakeRow.holds Try.pinned (OpenSpec.ofChange fnExactPipeTakeSpec)

/-- ITS FALSE NEIGHBOUR: 'it returns false'. Refute it at one input. -/
def fnExactPipeTakeWrong : ChangeSpec := { name := "fnExactPipeTake", fn := fun _ => fun
  | [d1, d2] => { results := [.lit (.bool false)], args := [d1, d2] }
  | _ => none }
def FnExactPipeTakeWrongFalsely : Prop := fnExactPipeTakeRow.holds Try.pinned (OpenSpec.ofChange fnExactPipeTakeWrong)

/-- 'laws.FnExactPipeJoin': WHATEVER THE INPUT: true; the input reads as it did. -/
def fnExactPipeJoinSpec : ChangeSpec := { name := "fnExactPipeJoin", fn := fun _ => fun
  | [d1, d2] => { results := [.lit (.bool true)], args := [d1, d2] }
  | _ => none }
def fnExactPipeJoinRow : OpenClaim := { program := "ytjjkkfemhfhciaa", sum := "55c14f19689ec34f6a5d891f3a87854638145d2e07126872f6f6c61cf57be8ad", func := "loop.example/quarterdeck/laws.FnExactPipeJoin", spec := "fnExactPipeJoin", apart := false }
def FnExactPipeJoinSaid : Prop := fnExactPipeJoinRow.holds Try.pinned (OpenSpec.ofChange fnExactPipeJoinSpec)

/-- ITS FALSE NEIGHBOUR: 'it returns false'. Refute it at one input. -/
def fnExactPipeJoinWrong : ChangeSpec := { name := "fnExactPipeJoin", fn := fun _ => fun
  | [d1, d2] => { results := [.lit (.bool false)], args := [d1, d2] }
  | _ => none }
def FnExactPipeJoinWrongFalsely : Prop := fnExactPipeJoinRow.holds Try.pinned (OpenSpec.ofChange fnExactPipeJoinWrong)

/-- 'laws.FnExactPipeLeave': WHATEVER THE INPUT: true; the input reads as it did. -/
def fnExactPipeLeaveSpec : ChangeSpec := { name := "fnExactPipeLeave", fn := fun _ => fun
  | [d1, d2] => { results := [.lit (.bool true)], args := [d1, d2] }
  | _ => none }
def fnExactPipeLeaveRow : OpenClaim := { program := "ytjjkkfemhfhciaa", sum := "55c14f19689ec34f6a5d891f3a87854638145d2e07126872f6f6c61cf57be8ad", func := "loop.example/quarterdeck/laws.FnExactPipeLeave", spec := "fnExactPipeLeave", apart := false }
def FnExactPipeLeaveSaid : Prop := fnExactPipeLeaveRow.holds Try.pinned (OpenSpec.ofChange fnExactPipeLeaveSpec)

/-- ITS FALSE NEIGHBOUR: 'it returns false'. Refute it at one input. -/
def fnExactPipeLeaveWrong : ChangeSpec := { name := "fnExactPipeLeave", fn := fun _ => fun
  | [d1, d2] => { results := [.lit (.bool false)], args := [d1, d2] }
  | _ => none }
def FnExactPipeLeaveWrongFalsely : Prop := fnExactPipeLeaveRow.holds Try.pinned (OpenSpec.ofChange fnExactPipeLeaveWrong)

/-- 'laws.FnExactPipeReady': WHATEVER THE INPUT: true; the input reads as it did. -/
def fnExactPipeReadySpec : ChangeSpec := { name := "fnExactPipeReady", fn := fun _ => fun
  | [d] => { results := [.lit (.bool true)], args := [d] }
  | _ => none }
def fnExactPipeReadyRow : OpenClaim := { program := "ytjjkkfemhfhciaa", sum := "55c14f19689ec34f6a5d891f3a87854638145d2e07126872f6f6c61cf57be8ad", func := "loop.example/quarterdeck/laws.FnExactPipeReady", spec := "fnExactPipeReady", apart := false }
def FnExactPipeReadySaid : Prop := fnExactPipeReadyRow.holds Try.pinned (OpenSpec.ofChange fnExactPipeReadySpec)

/-- ITS FALSE NEIGHBOUR: 'it returns false'. Refute it at one input. -/
def fnExactPipeReadyWrong : ChangeSpec := { name := "fnExactPipeReady", fn := fun _ => fun
  | [d] => { results := [.lit (.bool false)], args := [d] }
  | _ => none }
def FnExactPipeReadyWrongFalsely : Prop := fnExactPipeReadyRow.holds Try.pinned (OpenSpec.ofChange fnExactPipeReadyWrong)

/- THE SECOND FORM. 'bulk': how many values and letters a reading holds, each counted each time it is reached (what is shared counts as often as it is met; a slice's spare places count too). A statement '..UptoSaid' is the law's where the arguments, and the package variables that the reading takes, are together of bulk at most 1048576: NARROWER than '..Said'. Prove '..Said' where nothing that the law and all that it calls make is longer than what came in: it says more and counts as full. Else prove '..UptoSaid'. A law counts once. -/
mutual
def uptoBulk {H : Type} : DataW H → Nat
  | .lit (.string bytes) => bytes.length + 1
  | .lit _ => 1
  | .nil => 1
  | .ptr d => uptoBulk d + 1
  | .slice elems spare => uptoBulkAll elems + uptoBulkAll spare + 1
  | .agg parts => uptoBulkAll parts + 1
  | .iface _ d => uptoBulk d + 1
  | .map entries => uptoBulkEntries entries + 1
  | .held _ => 1
def uptoBulkAll {H : Type} : List (DataW H) → Nat
  | [] => 0
  | d :: r => uptoBulk d + uptoBulkAll r
def uptoBulkEntries {H : Type} : List (Lit × DataW H) → Nat
  | [] => 0
  | x :: r => uptoBulkEntry x + uptoBulkEntries r
def uptoBulkEntry {H : Type} : Lit × DataW H → Nat
  | (.string bytes, d) => bytes.length + uptoBulk d + 1
  | (_, d) => uptoBulk d + 1
 end
def uptoSmall : (H : Type) → List (DataW H) → Bool := fun _ ds => decide (uptoBulkAll ds ≤ 1048576)
def OpenSpec.upto (s : _root_.Go.ChangeSpec) : _root_.Go.OpenSpec := { _root_.Go.OpenSpec.ofChange s with cond := some uptoSmall }

/-- 'laws.FnPipeOk', WHERE WHAT IT READS IS OF BULK AT MOST 1048576: true; the input reads as it did. -/
def fnPipeOkUptoRow : OpenClaim := { program := "ytjjkkfemhfhciaa", sum := "55c14f19689ec34f6a5d891f3a87854638145d2e07126872f6f6c61cf57be8ad", func := "loop.example/quarterdeck/laws.FnPipeOk", spec := "fnPipeOk", apart := false, narrowed := true }
def FnPipeOkUptoSaid : Prop := fnPipeOkUptoRow.holds Try.pinned (OpenSpec.upto fnPipeOkSpec)

/-- 'laws.FnPipePut', WHERE WHAT IT READS IS OF BULK AT MOST 1048576: true; the input reads as it did. -/
def fnPipePutUptoRow : OpenClaim := { program := "ytjjkkfemhfhciaa", sum := "55c14f19689ec34f6a5d891f3a87854638145d2e07126872f6f6c61cf57be8ad", func := "loop.example/quarterdeck/laws.FnPipePut", spec := "fnPipePut", apart := false, narrowed := true }
def FnPipePutUptoSaid : Prop := fnPipePutUptoRow.holds Try.pinned (OpenSpec.upto fnPipePutSpec)

/-- 'laws.FnPipeTake', WHERE WHAT IT READS IS OF BULK AT MOST 1048576: true; the input reads as it did. -/
def fnPipeTakeUptoRow : OpenClaim := { program := "ytjjkkfemhfhciaa", sum := "55c14f19689ec34f6a5d891f3a87854638145d2e07126872f6f6c61cf57be8ad", func := "loop.example/quarterdeck/laws.FnPipeTake", spec := "fnPipeTake", apart := false, narrowed := true }
def FnPipeTakeUptoSaid : Prop := fnPipeTakeUptoRow.holds Try.pinned (OpenSpec.upto fnPipeTakeSpec)

/-- 'laws.FnPipeJoin', WHERE WHAT IT READS IS OF BULK AT MOST 1048576: true; the input reads as it did. -/
def fnPipeJoinUptoRow : OpenClaim := { program := "ytjjkkfemhfhciaa", sum := "55c14f19689ec34f6a5d891f3a87854638145d2e07126872f6f6c61cf57be8ad", func := "loop.example/quarterdeck/laws.FnPipeJoin", spec := "fnPipeJoin", apart := false, narrowed := true }
def FnPipeJoinUptoSaid : Prop := fnPipeJoinUptoRow.holds Try.pinned (OpenSpec.upto fnPipeJoinSpec)

/-- 'laws.FnPipeLeave', WHERE WHAT IT READS IS OF BULK AT MOST 1048576: true; the input reads as it did. -/
def fnPipeLeaveUptoRow : OpenClaim := { program := "ytjjkkfemhfhciaa", sum := "55c14f19689ec34f6a5d891f3a87854638145d2e07126872f6f6c61cf57be8ad", func := "loop.example/quarterdeck/laws.FnPipeLeave", spec := "fnPipeLeave", apart := false, narrowed := true }
def FnPipeLeaveUptoSaid : Prop := fnPipeLeaveUptoRow.holds Try.pinned (OpenSpec.upto fnPipeLeaveSpec)

/-- 'laws.FnPipeReady', WHERE WHAT IT READS IS OF BULK AT MOST 1048576: true; the input reads as it did. -/
def fnPipeReadyUptoRow : OpenClaim := { program := "ytjjkkfemhfhciaa", sum := "55c14f19689ec34f6a5d891f3a87854638145d2e07126872f6f6c61cf57be8ad", func := "loop.example/quarterdeck/laws.FnPipeReady", spec := "fnPipeReady", apart := false, narrowed := true }
def FnPipeReadyUptoSaid : Prop := fnPipeReadyUptoRow.holds Try.pinned (OpenSpec.upto fnPipeReadySpec)

/-- 'laws.FnPipeStream', WHERE WHAT IT READS IS OF BULK AT MOST 1048576: true; the input reads as it did. -/
def fnPipeStreamUptoRow : OpenClaim := { program := "ytjjkkfemhfhciaa", sum := "55c14f19689ec34f6a5d891f3a87854638145d2e07126872f6f6c61cf57be8ad", func := "loop.example/quarterdeck/laws.FnPipeStream", spec := "fnPipeStream", apart := false, narrowed := true }
def FnPipeStreamUptoSaid : Prop := fnPipeStreamUptoRow.holds Try.pinned (OpenSpec.upto fnPipeStreamSpec)

/-- 'laws.FnPipeDrain', WHERE WHAT IT READS IS OF BULK AT MOST 1048576: true; the input reads as it did. -/
def fnPipeDrainUptoRow : OpenClaim := { program := "ytjjkkfemhfhciaa", sum := "55c14f19689ec34f6a5d891f3a87854638145d2e07126872f6f6c61cf57be8ad", func := "loop.example/quarterdeck/laws.FnPipeDrain", spec := "fnPipeDrain", apart := false, narrowed := true }
def FnPipeDrainUptoSaid : Prop := fnPipeDrainUptoRow.holds Try.pinned (OpenSpec.upto fnPipeDrainSpec)

/-- 'laws.FnPipeWhole', WHERE WHAT IT READS IS OF BULK AT MOST 1048576: true; the input reads as it did. -/
def fnPipeWholeUptoRow : OpenClaim := { program := "ytjjkkfemhfhciaa", sum := "55c14f19689ec34f6a5d891f3a87854638145d2e07126872f6f6c61cf57be8ad", func := "loop.example/quarterdeck/laws.FnPipeWhole", spec := "fnPipeWhole", apart := false, narrowed := true }
def FnPipeWholeUptoSaid : Prop := fnPipeWholeUptoRow.holds Try.pinned (OpenSpec.upto fnPipeWholeSpec)

/-- 'laws.FnExactPipeOk', WHERE WHAT IT READS IS OF BULK AT MOST 1048576: true; the input reads as it did. -/
def fnExactPipeOkUptoRow : OpenClaim := { program := "ytjjkkfemhfhciaa", sum := "55c14f19689ec34f6a5d891f3a87854638145d2e07126872f6f6c61cf57be8ad", func := "loop.example/quarterdeck/laws.FnExactPipeOk", spec := "fnExactPipeOk", apart := false, narrowed := true }
def FnExactPipeOkUptoSaid : Prop := fnExactPipeOkUptoRow.holds Try.pinned (OpenSpec.upto fnExactPipeOkSpec)

/-- 'laws.FnExactPipePut', WHERE WHAT IT READS IS OF BULK AT MOST 1048576: true; the input reads as it did. -/
def fnExactPipePutUptoRow : OpenClaim := { program := "ytjjkkfemhfhciaa", sum := "55c14f19689ec34f6a5d891f3a87854638145d2e07126872f6f6c61cf57be8ad", func := "loop.example/quarterdeck/laws.FnExactPipePut", spec := "fnExactPipePut", apart := false, narrowed := true }
def FnExactPipePutUptoSaid : Prop := fnExactPipePutUptoRow.holds Try.pinned (OpenSpec.upto fnExactPipePutSpec)

/-- 'laws.FnExactPipeTake', WHERE WHAT IT READS IS OF BULK AT MOST 1048576: true; the input reads as it did. -/
def fnExactPipeTakeUptoRow : OpenClaim := { program := "ytjjkkfemhfhciaa", sum := "55c14f19689ec34f6a5d891f3a87854638145d2e07126872f6f6c61cf57be8ad", func := "loop.example/quarterdeck/laws.FnExactPipeTake", spec := "fnExactPipeTake", apart := false, narrowed := true }
def FnExactPipeTakeUptoSaid : Prop := fnExactPipeTakeUptoRow.holds Try.pinned (OpenSpec.upto fnExactPipeTakeSpec)

/-- 'laws.FnExactPipeJoin', WHERE WHAT IT READS IS OF BULK AT MOST 1048576: true; the input reads as it did. -/
def fnExactPipeJoinUptoRow : OpenClaim := { program := "ytjjkkfemhfhciaa", sum := "55c14f19689ec34f6a5d891f3a87854638145d2e07126872f6f6c61cf57be8ad", func := "loop.example/quarterdeck/laws.FnExactPipeJoin", spec := "fnExactPipeJoin", apart := false, narrowed := true }
def FnExactPipeJoinUptoSaid : Prop := fnExactPipeJoinUptoRow.holds Try.pinned (OpenSpec.upto fnExactPipeJoinSpec)

/-- 'laws.FnExactPipeLeave', WHERE WHAT IT READS IS OF BULK AT MOST 1048576: true; the input reads as it did. -/
def fnExactPipeLeaveUptoRow : OpenClaim := { program := "ytjjkkfemhfhciaa", sum := "55c14f19689ec34f6a5d891f3a87854638145d2e07126872f6f6c61cf57be8ad", func := "loop.example/quarterdeck/laws.FnExactPipeLeave", spec := "fnExactPipeLeave", apart := false, narrowed := true }
def FnExactPipeLeaveUptoSaid : Prop := fnExactPipeLeaveUptoRow.holds Try.pinned (OpenSpec.upto fnExactPipeLeaveSpec)

/-- 'laws.FnExactPipeReady', WHERE WHAT IT READS IS OF BULK AT MOST 1048576: true; the input reads as it did. -/
def fnExactPipeReadyUptoRow : OpenClaim := { program := "ytjjkkfemhfhciaa", sum := "55c14f19689ec34f6a5d891f3a87854638145d2e07126872f6f6c61cf57be8ad", func := "loop.example/quarterdeck/laws.FnExactPipeReady", spec := "fnExactPipeReady", apart := false, narrowed := true }
def FnExactPipeReadyUptoSaid : Prop := fnExactPipeReadyUptoRow.holds Try.pinned (OpenSpec.upto fnExactPipeReadySpec)

end Rows
end Go.Proofs.Ytjjkkfemhfhciaa

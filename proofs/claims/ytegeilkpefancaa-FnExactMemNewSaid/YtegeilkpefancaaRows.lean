/-
  No cell of these rows narrows 'for every input' (looked for: loops, veiled, ifaces, maps, wideKeys, modest, calm, conditions, laid).
  DERIVED. THE GIVEN ROWS OF THIS SEAT. 6 by the template 'for every input the law returns true; each argument reads behind the call as it read before'; 0 by the template 'total and deterministic' (their statements: YtegeilkpefancaaTotals.lean).
  GIVEN WITH THE SEED: the statements are not yours to turn. If you find one false, say at which input.
  Laid BY PROGRAM, IN A SANDBOX (cutbox-rows.mjs): the forced cells as the released guide's own fill.sh prints them over the translation d2681d93711b1ae5… (all of the seat's roots in one cut). By AI agents, Wed Nov 11 2026. No macro, syntax, notation, axiom, sorry.
-/
import Derived.Test.YtegeilkpefancaaChecked
import GoSem.Claim
import GoSem.ClaimJoined
import GoSem.ClaimMapViews
import Derived.JoinedTies
import Derived.KernelRfl
namespace Go.Proofs.Ytegeilkpefancaa
/- THE CELL 'sum', in the pinned program and in every row, IS THE sha256 OF THE DUMP (.gsa) THAT YtegeilkpefancaaProg.lean LOADS. Nothing in Lean hashes anything: it is a label: what it is worth is what the hold of that sum in a sandbox is worth. -/
noncomputable def Try.pinned : Pinned := { name := "ytegeilkpefancaa", sum := "d2681d93711b1ae59fcbbc196247a3427ff94d931110ce53ac5cf2b5760c857d", checked := Try.checked }
namespace Rows
def none {H : Type} : Left H := { results := [], args := [] }

/-- 'laws.FnExactMemNew': WHATEVER THE INPUT: true; the input reads as it did. -/
def fnExactMemNewSpec : ChangeSpec := { name := "fnExactMemNew", fn := fun _ => fun
  | [] => { results := [.lit (.bool true)], args := [] }
  | _ => none }
def fnExactMemNewRow : OpenClaim := { program := "ytegeilkpefancaa", sum := "d2681d93711b1ae59fcbbc196247a3427ff94d931110ce53ac5cf2b5760c857d", func := "loop.example/quarterdeck/laws.FnExactMemNew", spec := "fnExactMemNew", apart := false }
def FnExactMemNewSaid : Prop := fnExactMemNewRow.holds Try.pinned (OpenSpec.ofChange fnExactMemNewSpec)

/-- ITS FALSE NEIGHBOUR: 'it returns false'. Refute it at one input. -/
def fnExactMemNewWrong : ChangeSpec := { name := "fnExactMemNew", fn := fun _ => fun
  | [] => { results := [.lit (.bool false)], args := [] }
  | _ => none }
def FnExactMemNewWrongFalsely : Prop := fnExactMemNewRow.holds Try.pinned (OpenSpec.ofChange fnExactMemNewWrong)

/-- 'laws.FnExactMemOk': WHATEVER THE INPUT: true; the input reads as it did. -/
def fnExactMemOkSpec : ChangeSpec := { name := "fnExactMemOk", fn := fun _ => fun
  | [d] => { results := [.lit (.bool true)], args := [d] }
  | _ => none }
def fnExactMemOkRow : OpenClaim := { program := "ytegeilkpefancaa", sum := "d2681d93711b1ae59fcbbc196247a3427ff94d931110ce53ac5cf2b5760c857d", func := "loop.example/quarterdeck/laws.FnExactMemOk", spec := "fnExactMemOk", unfollowed := true, recurses := true, apart := false }
def FnExactMemOkSaid : Prop := fnExactMemOkRow.holds Try.pinned (OpenSpec.ofChange fnExactMemOkSpec)

/-- ITS FALSE NEIGHBOUR: 'it returns false'. Refute it at one input. -/
def fnExactMemOkWrong : ChangeSpec := { name := "fnExactMemOk", fn := fun _ => fun
  | [d] => { results := [.lit (.bool false)], args := [d] }
  | _ => none }
def FnExactMemOkWrongFalsely : Prop := fnExactMemOkRow.holds Try.pinned (OpenSpec.ofChange fnExactMemOkWrong)

/-- 'laws.FnExactMemPeek': WHATEVER THE INPUT: true; the input reads as it did. -/
def fnExactMemPeekSpec : ChangeSpec := { name := "fnExactMemPeek", fn := fun _ => fun
  | [d1, d2, d3] => { results := [.lit (.bool true)], args := [d1, d2, d3] }
  | _ => none }
def fnExactMemPeekRow : OpenClaim := { program := "ytegeilkpefancaa", sum := "d2681d93711b1ae59fcbbc196247a3427ff94d931110ce53ac5cf2b5760c857d", func := "loop.example/quarterdeck/laws.FnExactMemPeek", spec := "fnExactMemPeek", unfollowed := true, recurses := true, apart := false }
def FnExactMemPeekSaid : Prop := fnExactMemPeekRow.holds Try.pinned (OpenSpec.ofChange fnExactMemPeekSpec)

/-- ITS FALSE NEIGHBOUR: 'it returns false'. Refute it at one input. -/
def fnExactMemPeekWrong : ChangeSpec := { name := "fnExactMemPeek", fn := fun _ => fun
  | [d1, d2, d3] => { results := [.lit (.bool false)], args := [d1, d2, d3] }
  | _ => none }
def FnExactMemPeekWrongFalsely : Prop := fnExactMemPeekRow.holds Try.pinned (OpenSpec.ofChange fnExactMemPeekWrong)

/-- 'laws.FnExactBytesGet': WHATEVER THE INPUT: true; the input reads as it did. -/
def fnExactBytesGetSpec : ChangeSpec := { name := "fnExactBytesGet", fn := fun _ => fun
  | [d1, d2, d3] => { results := [.lit (.bool true)], args := [d1, d2, d3] }
  | _ => none }
def fnExactBytesGetRow : OpenClaim := { program := "ytegeilkpefancaa", sum := "d2681d93711b1ae59fcbbc196247a3427ff94d931110ce53ac5cf2b5760c857d", func := "loop.example/quarterdeck/laws.FnExactBytesGet", spec := "fnExactBytesGet", apart := false }
def FnExactBytesGetSaid : Prop := fnExactBytesGetRow.holds Try.pinned (OpenSpec.ofChange fnExactBytesGetSpec)

/-- ITS FALSE NEIGHBOUR: 'it returns false'. Refute it at one input. -/
def fnExactBytesGetWrong : ChangeSpec := { name := "fnExactBytesGet", fn := fun _ => fun
  | [d1, d2, d3] => { results := [.lit (.bool false)], args := [d1, d2, d3] }
  | _ => none }
def FnExactBytesGetWrongFalsely : Prop := fnExactBytesGetRow.holds Try.pinned (OpenSpec.ofChange fnExactBytesGetWrong)

/-- 'laws.FnExactBytesSet': WHATEVER THE INPUT: true; the input reads as it did. -/
def fnExactBytesSetSpec : ChangeSpec := { name := "fnExactBytesSet", fn := fun _ => fun
  | [d1, d2, d3, d4] => { results := [.lit (.bool true)], args := [d1, d2, d3, d4] }
  | _ => none }
def fnExactBytesSetRow : OpenClaim := { program := "ytegeilkpefancaa", sum := "d2681d93711b1ae59fcbbc196247a3427ff94d931110ce53ac5cf2b5760c857d", func := "loop.example/quarterdeck/laws.FnExactBytesSet", spec := "fnExactBytesSet", apart := false }
def FnExactBytesSetSaid : Prop := fnExactBytesSetRow.holds Try.pinned (OpenSpec.ofChange fnExactBytesSetSpec)

/-- ITS FALSE NEIGHBOUR: 'it returns false'. Refute it at one input. -/
def fnExactBytesSetWrong : ChangeSpec := { name := "fnExactBytesSet", fn := fun _ => fun
  | [d1, d2, d3, d4] => { results := [.lit (.bool false)], args := [d1, d2, d3, d4] }
  | _ => none }
def FnExactBytesSetWrongFalsely : Prop := fnExactBytesSetRow.holds Try.pinned (OpenSpec.ofChange fnExactBytesSetWrong)

/-- 'laws.FnExactBytesSame': WHATEVER THE INPUT: true; the input reads as it did. -/
def fnExactBytesSameSpec : ChangeSpec := { name := "fnExactBytesSame", fn := fun _ => fun
  | [d1, d2] => { results := [.lit (.bool true)], args := [d1, d2] }
  | _ => none }
def fnExactBytesSameRow : OpenClaim := { program := "ytegeilkpefancaa", sum := "d2681d93711b1ae59fcbbc196247a3427ff94d931110ce53ac5cf2b5760c857d", func := "loop.example/quarterdeck/laws.FnExactBytesSame", spec := "fnExactBytesSame", unfollowed := true, recurses := true, apart := false }
def FnExactBytesSameSaid : Prop := fnExactBytesSameRow.holds Try.pinned (OpenSpec.ofChange fnExactBytesSameSpec)

/-- ITS FALSE NEIGHBOUR: 'it returns false'. Refute it at one input. -/
def fnExactBytesSameWrong : ChangeSpec := { name := "fnExactBytesSame", fn := fun _ => fun
  | [d1, d2] => { results := [.lit (.bool false)], args := [d1, d2] }
  | _ => none }
def FnExactBytesSameWrongFalsely : Prop := fnExactBytesSameRow.holds Try.pinned (OpenSpec.ofChange fnExactBytesSameWrong)

/- THE SECOND FORM. 'bulk': how many values and letters a reading holds, each counted each time it is reached (what is shared counts as often as it is met; a slice's spare places count too). A statement '..UptoSaid' is the law's where the arguments, and the package variables that the reading takes, are together of bulk at most 1048576: NARROWER than '..Said'. Prove '..Said' where nothing that the law and all that it calls make is longer than what came in: it says more and counts as full. Else prove '..UptoSaid'. A law counts once. -/
mutual
def uptoBulk {H : Type} : DataW H → Nat
  | .lit (.string bytes) => bytes.length + 1
  | .lit _ => 1
  | .nil => 1
  | .ptr d => uptoBulk d + 1
  | .slice elems spare => uptoBulkAll elems + uptoBulkAll spare + 1
  | .agg parts => uptoBulkAll parts + 1
  | .iface _ d => uptoBulk d + 1
  | .map entries => uptoBulkEntries entries + 1
  | .held _ => 1
def uptoBulkAll {H : Type} : List (DataW H) → Nat
  | [] => 0
  | d :: r => uptoBulk d + uptoBulkAll r
def uptoBulkEntries {H : Type} : List (Lit × DataW H) → Nat
  | [] => 0
  | x :: r => uptoBulkEntry x + uptoBulkEntries r
def uptoBulkEntry {H : Type} : Lit × DataW H → Nat
  | (.string bytes, d) => bytes.length + uptoBulk d + 1
  | (_, d) => uptoBulk d + 1
 end
def uptoSmall : (H : Type) → List (DataW H) → Bool := fun _ ds => decide (uptoBulkAll ds ≤ 1048576)
def OpenSpec.upto (s : _root_.Go.ChangeSpec) : _root_.Go.OpenSpec := { _root_.Go.OpenSpec.ofChange s with cond := some uptoSmall }

/-- 'laws.FnExactMemNew', WHERE WHAT IT READS IS OF BULK AT MOST 1048576: true; the input reads as it did. -/
def fnExactMemNewUptoRow : OpenClaim := { program := "ytegeilkpefancaa", sum := "d2681d93711b1ae59fcbbc196247a3427ff94d931110ce53ac5cf2b5760c857d", func := "loop.example/quarterdeck/laws.FnExactMemNew", spec := "fnExactMemNew", apart := false, narrowed := true }
def FnExactMemNewUptoSaid : Prop := fnExactMemNewUptoRow.holds Try.pinned (OpenSpec.upto fnExactMemNewSpec)

/-- 'laws.FnExactMemOk', WHERE WHAT IT READS IS OF BULK AT MOST 1048576: true; the input reads as it did. -/
def fnExactMemOkUptoRow : OpenClaim := { program := "ytegeilkpefancaa", sum := "d2681d93711b1ae59fcbbc196247a3427ff94d931110ce53ac5cf2b5760c857d", func := "loop.example/quarterdeck/laws.FnExactMemOk", spec := "fnExactMemOk", unfollowed := true, recurses := true, apart := false, narrowed := true }
def FnExactMemOkUptoSaid : Prop := fnExactMemOkUptoRow.holds Try.pinned (OpenSpec.upto fnExactMemOkSpec)

/-- 'laws.FnExactMemPeek', WHERE WHAT IT READS IS OF BULK AT MOST 1048576: true; the input reads as it did. -/
def fnExactMemPeekUptoRow : OpenClaim := { program := "ytegeilkpefancaa", sum := "d2681d93711b1ae59fcbbc196247a3427ff94d931110ce53ac5cf2b5760c857d", func := "loop.example/quarterdeck/laws.FnExactMemPeek", spec := "fnExactMemPeek", unfollowed := true, recurses := true, apart := false, narrowed := true }
def FnExactMemPeekUptoSaid : Prop := fnExactMemPeekUptoRow.holds Try.pinned (OpenSpec.upto fnExactMemPeekSpec)

/-- 'laws.FnExactBytesGet', WHERE WHAT IT READS IS OF BULK AT MOST 1048576: true; the input reads as it did. -/
def fnExactBytesGetUptoRow : OpenClaim := { program := "ytegeilkpefancaa", sum := "d2681d93711b1ae59fcbbc196247a3427ff94d931110ce53ac5cf2b5760c857d", func := "loop.example/quarterdeck/laws.FnExactBytesGet", spec := "fnExactBytesGet", apart := false, narrowed := true }
def FnExactBytesGetUptoSaid : Prop := fnExactBytesGetUptoRow.holds Try.pinned (OpenSpec.upto fnExactBytesGetSpec)

/-- 'laws.FnExactBytesSet', WHERE WHAT IT READS IS OF BULK AT MOST 1048576: true; the input reads as it did. -/
def fnExactBytesSetUptoRow : OpenClaim := { program := "ytegeilkpefancaa", sum := "d2681d93711b1ae59fcbbc196247a3427ff94d931110ce53ac5cf2b5760c857d", func := "loop.example/quarterdeck/laws.FnExactBytesSet", spec := "fnExactBytesSet", apart := false, narrowed := true }
def FnExactBytesSetUptoSaid : Prop := fnExactBytesSetUptoRow.holds Try.pinned (OpenSpec.upto fnExactBytesSetSpec)

/-- 'laws.FnExactBytesSame', WHERE WHAT IT READS IS OF BULK AT MOST 1048576: true; the input reads as it did. -/
def fnExactBytesSameUptoRow : OpenClaim := { program := "ytegeilkpefancaa", sum := "d2681d93711b1ae59fcbbc196247a3427ff94d931110ce53ac5cf2b5760c857d", func := "loop.example/quarterdeck/laws.FnExactBytesSame", spec := "fnExactBytesSame", unfollowed := true, recurses := true, apart := false, narrowed := true }
def FnExactBytesSameUptoSaid : Prop := fnExactBytesSameUptoRow.holds Try.pinned (OpenSpec.upto fnExactBytesSameSpec)

end Rows
end Go.Proofs.Ytegeilkpefancaa

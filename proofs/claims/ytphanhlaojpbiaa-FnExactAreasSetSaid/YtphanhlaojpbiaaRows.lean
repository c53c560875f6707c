/-
  No cell of these rows narrows 'for every input' (looked for: loops, veiled, ifaces, maps, wideKeys, modest, calm, conditions, laid).
  DERIVED. THE GIVEN ROWS OF THIS SEAT. 16 by the template 'for every input the law returns true; each argument reads behind the call as it read before'; 0 by the template 'total and deterministic' (their statements: YtphanhlaojpbiaaTotals.lean).
  GIVEN WITH THE SEED: the statements are not yours to turn. If you find one false, say at which input.
  Laid BY PROGRAM, IN A SANDBOX (cutbox-rows.mjs): the forced cells as the released guide's own fill.sh prints them over the translation 256fb174c11687a9… (all of the seat's roots in one cut). By AI agents, Wed Nov 11 2026. No macro, syntax, notation, axiom, sorry.
-/
import Derived.Test.YtphanhlaojpbiaaChecked
import GoSem.Claim
import GoSem.ClaimJoined
import GoSem.ClaimMapViews
import Derived.JoinedTies
import Derived.KernelRfl
namespace Go.Proofs.Ytphanhlaojpbiaa
/- THE CELL 'sum', in the pinned program and in every row, IS THE sha256 OF THE DUMP (.gsa) THAT YtphanhlaojpbiaaProg.lean LOADS. Nothing in Lean hashes anything: it is a label: what it is worth is what the hold of that sum in a sandbox is worth. -/
noncomputable def Try.pinned : Pinned := { name := "ytphanhlaojpbiaa", sum := "256fb174c11687a9fb35247be0e3c9bda521b230d30b6ff1a57519b3e991337f", checked := Try.checked }
namespace Rows
def none {H : Type} : Left H := { results := [], args := [] }

/-- 'laws.FnAreaOk': WHATEVER THE INPUT: true; the input reads as it did. -/
def fnAreaOkSpec : ChangeSpec := { name := "fnAreaOk", fn := fun _ => fun
  | [d] => { results := [.lit (.bool true)], args := [d] }
  | _ => none }
def fnAreaOkRow : OpenClaim := { program := "ytphanhlaojpbiaa", sum := "256fb174c11687a9fb35247be0e3c9bda521b230d30b6ff1a57519b3e991337f", func := "loop.example/quarterdeck/laws.FnAreaOk", spec := "fnAreaOk", apart := false }
def FnAreaOkSaid : Prop := fnAreaOkRow.holds Try.pinned (OpenSpec.ofChange fnAreaOkSpec)

/-- ITS FALSE NEIGHBOUR: 'it returns false'. Refute it at one input. -/
def fnAreaOkWrong : ChangeSpec := { name := "fnAreaOk", fn := fun _ => fun
  | [d] => { results := [.lit (.bool false)], args := [d] }
  | _ => none }
def FnAreaOkWrongFalsely : Prop := fnAreaOkRow.holds Try.pinned (OpenSpec.ofChange fnAreaOkWrong)

/-- 'laws.FnAreasOk': WHATEVER THE INPUT: true; the input reads as it did. -/
def fnAreasOkSpec : ChangeSpec := { name := "fnAreasOk", fn := fun _ => fun
  | [d] => { results := [.lit (.bool true)], args := [d] }
  | _ => none }
def fnAreasOkRow : OpenClaim := { program := "ytphanhlaojpbiaa", sum := "256fb174c11687a9fb35247be0e3c9bda521b230d30b6ff1a57519b3e991337f", func := "loop.example/quarterdeck/laws.FnAreasOk", spec := "fnAreasOk", apart := false }
def FnAreasOkSaid : Prop := fnAreasOkRow.holds Try.pinned (OpenSpec.ofChange fnAreasOkSpec)

/-- ITS FALSE NEIGHBOUR: 'it returns false'. Refute it at one input. -/
def fnAreasOkWrong : ChangeSpec := { name := "fnAreasOk", fn := fun _ => fun
  | [d] => { results := [.lit (.bool false)], args := [d] }
  | _ => none }
def FnAreasOkWrongFalsely : Prop := fnAreasOkRow.holds Try.pinned (OpenSpec.ofChange fnAreasOkWrong)

/-- 'laws.FnAreasAt': WHATEVER THE INPUT: true; the input reads as it did. -/
def fnAreasAtSpec : ChangeSpec := { name := "fnAreasAt", fn := fun _ => fun
  | [d] => { results := [.lit (.bool true)], args := [d] }
  | _ => none }
def fnAreasAtRow : OpenClaim := { program := "ytphanhlaojpbiaa", sum := "256fb174c11687a9fb35247be0e3c9bda521b230d30b6ff1a57519b3e991337f", func := "loop.example/quarterdeck/laws.FnAreasAt", spec := "fnAreasAt", apart := false }
def FnAreasAtSaid : Prop := fnAreasAtRow.holds Try.pinned (OpenSpec.ofChange fnAreasAtSpec)

/-- ITS FALSE NEIGHBOUR: 'it returns false'. Refute it at one input. -/
def fnAreasAtWrong : ChangeSpec := { name := "fnAreasAt", fn := fun _ => fun
  | [d] => { results := [.lit (.bool false)], args := [d] }
  | _ => none }
def FnAreasAtWrongFalsely : Prop := fnAreasAtRow.holds Try.pinned (OpenSpec.ofChange fnAreasAtWrong)

/-- 'laws.FnAreasAdd': WHATEVER THE INPUT: true; the input reads as it did. -/
def fnAreasAddSpec : ChangeSpec := { name := "fnAreasAdd", fn := fun _ => fun
  | [d] => { results := [.lit (.bool true)], args := [d] }
  | _ => none }
def fnAreasAddRow : OpenClaim := { program := "ytphanhlaojpbiaa", sum := "256fb174c11687a9fb35247be0e3c9bda521b230d30b6ff1a57519b3e991337f", func := "loop.example/quarterdeck/laws.FnAreasAdd", spec := "fnAreasAdd", apart := false }
def FnAreasAddSaid : Prop := fnAreasAddRow.holds Try.pinned (OpenSpec.ofChange fnAreasAddSpec)

/-- ITS FALSE NEIGHBOUR: 'it returns false'. Refute it at one input. -/
def fnAreasAddWrong : ChangeSpec := { name := "fnAreasAdd", fn := fun _ => fun
  | [d] => { results := [.lit (.bool false)], args := [d] }
  | _ => none }
def FnAreasAddWrongFalsely : Prop := fnAreasAddRow.holds Try.pinned (OpenSpec.ofChange fnAreasAddWrong)

/-- 'laws.FnAreasCut': WHATEVER THE INPUT: true; the input reads as it did. -/
def fnAreasCutSpec : ChangeSpec := { name := "fnAreasCut", fn := fun _ => fun
  | [d] => { results := [.lit (.bool true)], args := [d] }
  | _ => none }
def fnAreasCutRow : OpenClaim := { program := "ytphanhlaojpbiaa", sum := "256fb174c11687a9fb35247be0e3c9bda521b230d30b6ff1a57519b3e991337f", func := "loop.example/quarterdeck/laws.FnAreasCut", spec := "fnAreasCut", apart := false }
def FnAreasCutSaid : Prop := fnAreasCutRow.holds Try.pinned (OpenSpec.ofChange fnAreasCutSpec)

/-- ITS FALSE NEIGHBOUR: 'it returns false'. Refute it at one input. -/
def fnAreasCutWrong : ChangeSpec := { name := "fnAreasCut", fn := fun _ => fun
  | [d] => { results := [.lit (.bool false)], args := [d] }
  | _ => none }
def FnAreasCutWrongFalsely : Prop := fnAreasCutRow.holds Try.pinned (OpenSpec.ofChange fnAreasCutWrong)

/-- 'laws.FnAreasSet': WHATEVER THE INPUT: true; the input reads as it did. -/
def fnAreasSetSpec : ChangeSpec := { name := "fnAreasSet", fn := fun _ => fun
  | [d] => { results := [.lit (.bool true)], args := [d] }
  | _ => none }
def fnAreasSetRow : OpenClaim := { program := "ytphanhlaojpbiaa", sum := "256fb174c11687a9fb35247be0e3c9bda521b230d30b6ff1a57519b3e991337f", func := "loop.example/quarterdeck/laws.FnAreasSet", spec := "fnAreasSet", apart := false }
def FnAreasSetSaid : Prop := fnAreasSetRow.holds Try.pinned (OpenSpec.ofChange fnAreasSetSpec)

/-- ITS FALSE NEIGHBOUR: 'it returns false'. Refute it at one input. -/
def fnAreasSetWrong : ChangeSpec := { name := "fnAreasSet", fn := fun _ => fun
  | [d] => { results := [.lit (.bool false)], args := [d] }
  | _ => none }
def FnAreasSetWrongFalsely : Prop := fnAreasSetRow.holds Try.pinned (OpenSpec.ofChange fnAreasSetWrong)

/-- 'laws.FnAreasPages': WHATEVER THE INPUT: true; the input reads as it did. -/
def fnAreasPagesSpec : ChangeSpec := { name := "fnAreasPages", fn := fun _ => fun
  | [d] => { results := [.lit (.bool true)], args := [d] }
  | _ => none }
def fnAreasPagesRow : OpenClaim := { program := "ytphanhlaojpbiaa", sum := "256fb174c11687a9fb35247be0e3c9bda521b230d30b6ff1a57519b3e991337f", func := "loop.example/quarterdeck/laws.FnAreasPages", spec := "fnAreasPages", apart := false }
def FnAreasPagesSaid : Prop := fnAreasPagesRow.holds Try.pinned (OpenSpec.ofChange fnAreasPagesSpec)

/-- ITS FALSE NEIGHBOUR: 'it returns false'. Refute it at one input. -/
def fnAreasPagesWrong : ChangeSpec := { name := "fnAreasPages", fn := fun _ => fun
  | [d] => { results := [.lit (.bool false)], args := [d] }
  | _ => none }
def FnAreasPagesWrongFalsely : Prop := fnAreasPagesRow.holds Try.pinned (OpenSpec.ofChange fnAreasPagesWrong)

/-- 'laws.FnAreasOrder': WHATEVER THE INPUT: true; the input reads as it did. -/
def fnAreasOrderSpec : ChangeSpec := { name := "fnAreasOrder", fn := fun _ => fun
  | [d1, d2] => { results := [.lit (.bool true)], args := [d1, d2] }
  | _ => none }
def fnAreasOrderRow : OpenClaim := { program := "ytphanhlaojpbiaa", sum := "256fb174c11687a9fb35247be0e3c9bda521b230d30b6ff1a57519b3e991337f", func := "loop.example/quarterdeck/laws.FnAreasOrder", spec := "fnAreasOrder", apart := false }
def FnAreasOrderSaid : Prop := fnAreasOrderRow.holds Try.pinned (OpenSpec.ofChange fnAreasOrderSpec)

/-- ITS FALSE NEIGHBOUR: 'it returns false'. Refute it at one input. -/
def fnAreasOrderWrong : ChangeSpec := { name := "fnAreasOrder", fn := fun _ => fun
  | [d1, d2] => { results := [.lit (.bool false)], args := [d1, d2] }
  | _ => none }
def FnAreasOrderWrongFalsely : Prop := fnAreasOrderRow.holds Try.pinned (OpenSpec.ofChange fnAreasOrderWrong)

/-- 'laws.FnAreasLast': WHATEVER THE INPUT: true; the input reads as it did. -/
def fnAreasLastSpec : ChangeSpec := { name := "fnAreasLast", fn := fun _ => fun
  | [d] => { results := [.lit (.bool true)], args := [d] }
  | _ => none }
def fnAreasLastRow : OpenClaim := { program := "ytphanhlaojpbiaa", sum := "256fb174c11687a9fb35247be0e3c9bda521b230d30b6ff1a57519b3e991337f", func := "loop.example/quarterdeck/laws.FnAreasLast", spec := "fnAreasLast", apart := false }
def FnAreasLastSaid : Prop := fnAreasLastRow.holds Try.pinned (OpenSpec.ofChange fnAreasLastSpec)

/-- ITS FALSE NEIGHBOUR: 'it returns false'. Refute it at one input. -/
def fnAreasLastWrong : ChangeSpec := { name := "fnAreasLast", fn := fun _ => fun
  | [d] => { results := [.lit (.bool false)], args := [d] }
  | _ => none }
def FnAreasLastWrongFalsely : Prop := fnAreasLastRow.holds Try.pinned (OpenSpec.ofChange fnAreasLastWrong)

/-- 'laws.FnExactAreaOk': WHATEVER THE INPUT: true; the input reads as it did. -/
def fnExactAreaOkSpec : ChangeSpec := { name := "fnExactAreaOk", fn := fun _ => fun
  | [d] => { results := [.lit (.bool true)], args := [d] }
  | _ => none }
def fnExactAreaOkRow : OpenClaim := { program := "ytphanhlaojpbiaa", sum := "256fb174c11687a9fb35247be0e3c9bda521b230d30b6ff1a57519b3e991337f", func := "loop.example/quarterdeck/laws.FnExactAreaOk", spec := "fnExactAreaOk", apart := false }
def FnExactAreaOkSaid : Prop := fnExactAreaOkRow.holds Try.pinned (OpenSpec.ofChange fnExactAreaOkSpec)

/-- ITS FALSE NEIGHBOUR: 'it returns false'. Refute it at one input. -/
def fnExactAreaOkWrong : ChangeSpec := { name := "fnExactAreaOk", fn := fun _ => fun
  | [d] => { results := [.lit (.bool false)], args := [d] }
  | _ => none }
def FnExactAreaOkWrongFalsely : Prop := fnExactAreaOkRow.holds Try.pinned (OpenSpec.ofChange fnExactAreaOkWrong)

/-- 'laws.FnExactAreasOk': WHATEVER THE INPUT: true; the input reads as it did. -/
def fnExactAreasOkSpec : ChangeSpec := { name := "fnExactAreasOk", fn := fun _ => fun
  | [d] => { results := [.lit (.bool true)], args := [d] }
  | _ => none }
def fnExactAreasOkRow : OpenClaim := { program := "ytphanhlaojpbiaa", sum := "256fb174c11687a9fb35247be0e3c9bda521b230d30b6ff1a57519b3e991337f", func := "loop.example/quarterdeck/laws.FnExactAreasOk", spec := "fnExactAreasOk", apart := false }
def FnExactAreasOkSaid : Prop := fnExactAreasOkRow.holds Try.pinned (OpenSpec.ofChange fnExactAreasOkSpec)

/-- ITS FALSE NEIGHBOUR: 'it returns false'. Refute it at one input. -/
def fnExactAreasOkWrong : ChangeSpec := { name := "fnExactAreasOk", fn := fun _ => fun
  | [d] => { results := [.lit (.bool false)], args := [d] }
  | _ => none }
def FnExactAreasOkWrongFalsely : Prop := fnExactAreasOkRow.holds Try.pinned (OpenSpec.ofChange fnExactAreasOkWrong)

/-- 'laws.FnExactAreasAt': WHATEVER THE INPUT: true; the input reads as it did. -/
def fnExactAreasAtSpec : ChangeSpec := { name := "fnExactAreasAt", fn := fun _ => fun
  | [d1, d2] => { results := [.lit (.bool true)], args := [d1, d2] }
  | _ => none }
def fnExactAreasAtRow : OpenClaim := { program := "ytphanhlaojpbiaa", sum := "256fb174c11687a9fb35247be0e3c9bda521b230d30b6ff1a57519b3e991337f", func := "loop.example/quarterdeck/laws.FnExactAreasAt", spec := "fnExactAreasAt", apart := false }
def FnExactAreasAtSaid : Prop := fnExactAreasAtRow.holds Try.pinned (OpenSpec.ofChange fnExactAreasAtSpec)

/-- ITS FALSE NEIGHBOUR: 'it returns false'. Refute it at one input. -/
def fnExactAreasAtWrong : ChangeSpec := { name := "fnExactAreasAt", fn := fun _ => fun
  | [d1, d2] => { results := [.lit (.bool false)], args := [d1, d2] }
  | _ => none }
def FnExactAreasAtWrongFalsely : Prop := fnExactAreasAtRow.holds Try.pinned (OpenSpec.ofChange fnExactAreasAtWrong)

/-- 'laws.FnExactAreasAdd': WHATEVER THE INPUT: true; the input reads as it did. -/
def fnExactAreasAddSpec : ChangeSpec := { name := "fnExactAreasAdd", fn := fun _ => fun
  | [d1, d2] => { results := [.lit (.bool true)], args := [d1, d2] }
  | _ => none }
def fnExactAreasAddRow : OpenClaim := { program := "ytphanhlaojpbiaa", sum := "256fb174c11687a9fb35247be0e3c9bda521b230d30b6ff1a57519b3e991337f", func := "loop.example/quarterdeck/laws.FnExactAreasAdd", spec := "fnExactAreasAdd", apart := false }
def FnExactAreasAddSaid : Prop := fnExactAreasAddRow.holds Try.pinned (OpenSpec.ofChange fnExactAreasAddSpec)

/-- ITS FALSE NEIGHBOUR: 'it returns false'. Refute it at one input. -/
def fnExactAreasAddWrong : ChangeSpec := { name := "fnExactAreasAdd", fn := fun _ => fun
  | [d1, d2] => { results := [.lit (.bool false)], args := [d1, d2] }
  | _ => none }
def FnExactAreasAddWrongFalsely : Prop := fnExactAreasAddRow.holds Try.pinned (OpenSpec.ofChange fnExactAreasAddWrong)

/-- 'laws.FnExactAreasCut': WHATEVER THE INPUT: true; the input reads as it did. -/
def fnExactAreasCutSpec : ChangeSpec := { name := "fnExactAreasCut", fn := fun _ => fun
  | [d1, d2, d3] => { results := [.lit (.bool true)], args := [d1, d2, d3] }
  | _ => none }
def fnExactAreasCutRow : OpenClaim := { program := "ytphanhlaojpbiaa", sum := "256fb174c11687a9fb35247be0e3c9bda521b230d30b6ff1a57519b3e991337f", func := "loop.example/quarterdeck/laws.FnExactAreasCut", spec := "fnExactAreasCut", apart := false }
def FnExactAreasCutSaid : Prop := fnExactAreasCutRow.holds Try.pinned (OpenSpec.ofChange fnExactAreasCutSpec)

/-- ITS FALSE NEIGHBOUR: 'it returns false'. Refute it at one input. -/
def fnExactAreasCutWrong : ChangeSpec := { name := "fnExactAreasCut", fn := fun _ => fun
  | [d1, d2, d3] => { results := [.lit (.bool false)], args := [d1, d2, d3] }
  | _ => none }
def FnExactAreasCutWrongFalsely : Prop := fnExactAreasCutRow.holds Try.pinned (OpenSpec.ofChange fnExactAreasCutWrong)

/-- 'laws.FnExactAreasSet': WHATEVER THE INPUT: true; the input reads as it did. -/
def fnExactAreasSetSpec : ChangeSpec := { name := "fnExactAreasSet", fn := fun _ => fun
  | [d1, d2, d3, d4] => { results := [.lit (.bool true)], args := [d1, d2, d3, d4] }
  | _ => none }
def fnExactAreasSetRow : OpenClaim := { program := "ytphanhlaojpbiaa", sum := "256fb174c11687a9fb35247be0e3c9bda521b230d30b6ff1a57519b3e991337f", func := "loop.example/quarterdeck/laws.FnExactAreasSet", spec := "fnExactAreasSet", apart := false }
def FnExactAreasSetSaid : Prop := fnExactAreasSetRow.holds Try.pinned (OpenSpec.ofChange fnExactAreasSetSpec)

/-- ITS FALSE NEIGHBOUR: 'it returns false'. Refute it at one input. -/
def fnExactAreasSetWrong : ChangeSpec := { name := "fnExactAreasSet", fn := fun _ => fun
  | [d1, d2, d3, d4] => { results := [.lit (.bool false)], args := [d1, d2, d3, d4] }
  | _ => none }
def FnExactAreasSetWrongFalsely : Prop := fnExactAreasSetRow.holds Try.pinned (OpenSpec.ofChange fnExactAreasSetWrong)

/-- 'laws.FnExactAreasPages': WHATEVER THE INPUT: true; the input reads as it did. -/
def fnExactAreasPagesSpec : ChangeSpec := { name := "fnExactAreasPages", fn := fun _ => fun
  | [d] => { results := [.lit (.bool true)], args := [d] }
  | _ => none }
def fnExactAreasPagesRow : OpenClaim := { program := "ytphanhlaojpbiaa", sum := "256fb174c11687a9fb35247be0e3c9bda521b230d30b6ff1a57519b3e991337f", func := "loop.example/quarterdeck/laws.FnExactAreasPages", spec := "fnExactAreasPages", apart := false }
def FnExactAreasPagesSaid : Prop := fnExactAreasPagesRow.holds Try.pinned (OpenSpec.ofChange fnExactAreasPagesSpec)

/-- ITS FALSE NEIGHBOUR: 'it returns false'. Refute it at one input. -/
def fnExactAreasPagesWrong : ChangeSpec := { name := "fnExactAreasPages", fn := fun _ => fun
  | [d] => { results := [.lit (.bool false)], args := [d] }
  | _ => none }
def FnExactAreasPagesWrongFalsely : Prop := fnExactAreasPagesRow.holds Try.pinned (OpenSpec.ofChange fnExactAreasPagesWrong)

/- THE SECOND FORM. 'bulk': how many values and letters a reading holds, each counted each time it is reached (what is shared counts as often as it is met; a slice's spare places count too). A statement '..UptoSaid' is the law's where the arguments, and the package variables that the reading takes, are together of bulk at most 1048576: NARROWER than '..Said'. Prove '..Said' where nothing that the law and all that it calls make is longer than what came in: it says more and counts as full. Else prove '..UptoSaid'. A law counts once. -/
mutual
def uptoBulk {H : Type} : DataW H → Nat
  | .lit (.string bytes) => bytes.length + 1
  | .lit _ => 1
  | .nil => 1
  | .ptr d => uptoBulk d + 1
  | .slice elems spare => uptoBulkAll elems + uptoBulkAll spare + 1
  | .agg parts => uptoBulkAll parts + 1
  | .iface _ d => uptoBulk d + 1
  | .map entries => uptoBulkEntries entries + 1
  | .held _ => 1
def uptoBulkAll {H : Type} : List (DataW H) → Nat
  | [] => 0
  | d :: r => uptoBulk d + uptoBulkAll r
def uptoBulkEntries {H : Type} : List (Lit × DataW H) → Nat
  | [] => 0
  | x :: r => uptoBulkEntry x + uptoBulkEntries r
def uptoBulkEntry {H : Type} : Lit × DataW H → Nat
  | (.string bytes, d) => bytes.length + uptoBulk d + 1
  | (_, d) => uptoBulk d + 1
 end
def uptoSmall : (H : Type) → List (DataW H) → Bool := fun _ ds => decide (uptoBulkAll ds ≤ 1048576)
def OpenSpec.upto (s : _root_.Go.ChangeSpec) : _root_.Go.OpenSpec := { _root_.Go.OpenSpec.ofChange s with cond := some uptoSmall }

/-- 'laws.FnAreaOk', WHERE WHAT IT READS IS OF BULK AT MOST 1048576: true; the input reads as it did. -/
def fnAreaOkUptoRow : OpenClaim := { program := "ytphanhlaojpbiaa", sum := "256fb174c11687a9fb35247be0e3c9bda521b230d30b6ff1a57519b3e991337f", func := "loop.example/quarterdeck/laws.FnAreaOk", spec := "fnAreaOk", apart := false, narrowed := true }
def FnAreaOkUptoSaid : Prop := fnAreaOkUptoRow.holds Try.pinned (OpenSpec.upto fnAreaOkSpec)

/-- 'laws.FnAreasOk', WHERE WHAT IT READS IS OF BULK AT MOST 1048576: true; the input reads as it did. -/
def fnAreasOkUptoRow : OpenClaim := { program := "ytphanhlaojpbiaa", sum := "256fb174c11687a9fb35247be0e3c9bda521b230d30b6ff1a57519b3e991337f", func := "loop.example/quarterdeck/laws.FnAreasOk", spec := "fnAreasOk", apart := false, narrowed := true }
def FnAreasOkUptoSaid : Prop := fnAreasOkUptoRow.holds Try.pinned (OpenSpec.upto fnAreasOkSpec)

/-- 'laws.FnAreasAt', WHERE WHAT IT READS IS OF BULK AT MOST 1048576: true; the input reads as it did. -/
def fnAreasAtUptoRow : OpenClaim := { program := "ytphanhlaojpbiaa", sum := "256fb174c11687a9fb35247be0e3c9bda521b230d30b6ff1a57519b3e991337f", func := "loop.example/quarterdeck/laws.FnAreasAt", spec := "fnAreasAt", apart := false, narrowed := true }
def FnAreasAtUptoSaid : Prop := fnAreasAtUptoRow.holds Try.pinned (OpenSpec.upto fnAreasAtSpec)

/-- 'laws.FnAreasAdd', WHERE WHAT IT READS IS OF BULK AT MOST 1048576: true; the input reads as it did. -/
def fnAreasAddUptoRow : OpenClaim := { program := "ytphanhlaojpbiaa", sum := "256fb174c11687a9fb35247be0e3c9bda521b230d30b6ff1a57519b3e991337f", func := "loop.example/quarterdeck/laws.FnAreasAdd", spec := "fnAreasAdd", apart := false, narrowed := true }
def FnAreasAddUptoSaid : Prop := fnAreasAddUptoRow.holds Try.pinned (OpenSpec.upto fnAreasAddSpec)

/-- 'laws.FnAreasCut', WHERE WHAT IT READS IS OF BULK AT MOST 1048576: true; the input reads as it did. -/
def fnAreasCutUptoRow : OpenClaim := { program := "ytphanhlaojpbiaa", sum := "256fb174c11687a9fb35247be0e3c9bda521b230d30b6ff1a57519b3e991337f", func := "loop.example/quarterdeck/laws.FnAreasCut", spec := "fnAreasCut", apart := false, narrowed := true }
def FnAreasCutUptoSaid : Prop := fnAreasCutUptoRow.holds Try.pinned (OpenSpec.upto fnAreasCutSpec)

/-- 'laws.FnAreasSet', WHERE WHAT IT READS IS OF BULK AT MOST 1048576: true; the input reads as it did. -/
def fnAreasSetUptoRow : OpenClaim := { program := "ytphanhlaojpbiaa", sum := "256fb174c11687a9fb35247be0e3c9bda521b230d30b6ff1a57519b3e991337f", func := "loop.example/quarterdeck/laws.FnAreasSet", spec := "fnAreasSet", apart := false, narrowed := true }
def FnAreasSetUptoSaid : Prop := fnAreasSetUptoRow.holds Try.pinned (OpenSpec.upto fnAreasSetSpec)

/-- 'laws.FnAreasPages', WHERE WHAT IT READS IS OF BULK AT MOST 1048576: true; the input reads as it did. -/
def fnAreasPagesUptoRow : OpenClaim := { program := "ytphanhlaojpbiaa", sum := "256fb174c11687a9fb35247be0e3c9bda521b230d30b6ff1a57519b3e991337f", func := "loop.example/quarterdeck/laws.FnAreasPages", spec := "fnAreasPages", apart := false, narrowed := true }
def FnAreasPagesUptoSaid : Prop := fnAreasPagesUptoRow.holds Try.pinned (OpenSpec.upto fnAreasPagesSpec)

/-- 'laws.FnAreasOrder', WHERE WHAT IT READS IS OF BULK AT MOST 1048576: true; the input reads as it did. -/
def fnAreasOrderUptoRow : OpenClaim := { program := "ytphanhlaojpbiaa", sum := "256fb174c11687a9fb35247be0e3c9bda521b230d30b6ff1a57519b3e991337f", func := "loop.example/quarterdeck/laws.FnAreasOrder", spec := "fnAreasOrder", apart := false, narrowed := true }
def FnAreasOrderUptoSaid : Prop := fnAreasOrderUptoRow.holds Try.pinned (OpenSpec.upto fnAreasOrderSpec)

/-- 'laws.FnAreasLast', WHERE WHAT IT READS IS OF BULK AT MOST 1048576: true; the input reads as it did. -/
def fnAreasLastUptoRow : OpenClaim := { program := "ytphanhlaojpbiaa", sum := "256fb174c11687a9fb35247be0e3c9bda521b230d30b6ff1a57519b3e991337f", func := "loop.example/quarterdeck/laws.FnAreasLast", spec := "fnAreasLast", apart := false, narrowed := true }
def FnAreasLastUptoSaid : Prop := fnAreasLastUptoRow.holds Try.pinned (OpenSpec.upto fnAreasLastSpec)

/-- 'laws.FnExactAreaOk', WHERE WHAT IT READS IS OF BULK AT MOST 1048576: true; the input reads as it did. -/
def fnExactAreaOkUptoRow : OpenClaim := { program := "ytphanhlaojpbiaa", sum := "256fb174c11687a9fb35247be0e3c9bda521b230d30b6ff1a57519b3e991337f", func := "loop.example/quarterdeck/laws.FnExactAreaOk", spec := "fnExactAreaOk", apart := false, narrowed := true }
def FnExactAreaOkUptoSaid : Prop := fnExactAreaOkUptoRow.holds Try.pinned (OpenSpec.upto fnExactAreaOkSpec)

/-- 'laws.FnExactAreasOk', WHERE WHAT IT READS IS OF BULK AT MOST 1048576: true; the input reads as it did. -/
def fnExactAreasOkUptoRow : OpenClaim := { program := "ytphanhlaojpbiaa", sum := "256fb174c11687a9fb35247be0e3c9bda521b230d30b6ff1a57519b3e991337f", func := "loop.example/quarterdeck/laws.FnExactAreasOk", spec := "fnExactAreasOk", apart := false, narrowed := true }
def FnExactAreasOkUptoSaid : Prop := fnExactAreasOkUptoRow.holds Try.pinned (OpenSpec.upto fnExactAreasOkSpec)

/-- 'laws.FnExactAreasAt', WHERE WHAT IT READS IS OF BULK AT MOST 1048576: true; the input reads as it did. -/
def fnExactAreasAtUptoRow : OpenClaim := { program := "ytphanhlaojpbiaa", sum := "256fb174c11687a9fb35247be0e3c9bda521b230d30b6ff1a57519b3e991337f", func := "loop.example/quarterdeck/laws.FnExactAreasAt", spec := "fnExactAreasAt", apart := false, narrowed := true }
def FnExactAreasAtUptoSaid : Prop := fnExactAreasAtUptoRow.holds Try.pinned (OpenSpec.upto fnExactAreasAtSpec)

/-- 'laws.FnExactAreasAdd', WHERE WHAT IT READS IS OF BULK AT MOST 1048576: true; the input reads as it did. -/
def fnExactAreasAddUptoRow : OpenClaim := { program := "ytphanhlaojpbiaa", sum := "256fb174c11687a9fb35247be0e3c9bda521b230d30b6ff1a57519b3e991337f", func := "loop.example/quarterdeck/laws.FnExactAreasAdd", spec := "fnExactAreasAdd", apart := false, narrowed := true }
def FnExactAreasAddUptoSaid : Prop := fnExactAreasAddUptoRow.holds Try.pinned (OpenSpec.upto fnExactAreasAddSpec)

/-- 'laws.FnExactAreasCut', WHERE WHAT IT READS IS OF BULK AT MOST 1048576: true; the input reads as it did. -/
def fnExactAreasCutUptoRow : OpenClaim := { program := "ytphanhlaojpbiaa", sum := "256fb174c11687a9fb35247be0e3c9bda521b230d30b6ff1a57519b3e991337f", func := "loop.example/quarterdeck/laws.FnExactAreasCut", spec := "fnExactAreasCut", apart := false, narrowed := true }
def FnExactAreasCutUptoSaid : Prop := fnExactAreasCutUptoRow.holds Try.pinned (OpenSpec.upto fnExactAreasCutSpec)

/-- 'laws.FnExactAreasSet', WHERE WHAT IT READS IS OF BULK AT MOST 1048576: true; the input reads as it did. -/
def fnExactAreasSetUptoRow : OpenClaim := { program := "ytphanhlaojpbiaa", sum := "256fb174c11687a9fb35247be0e3c9bda521b230d30b6ff1a57519b3e991337f", func := "loop.example/quarterdeck/laws.FnExactAreasSet", spec := "fnExactAreasSet", apart := false, narrowed := true }
def FnExactAreasSetUptoSaid : Prop := fnExactAreasSetUptoRow.holds Try.pinned (OpenSpec.upto fnExactAreasSetSpec)

/-- 'laws.FnExactAreasPages', WHERE WHAT IT READS IS OF BULK AT MOST 1048576: true; the input reads as it did. -/
def fnExactAreasPagesUptoRow : OpenClaim := { program := "ytphanhlaojpbiaa", sum := "256fb174c11687a9fb35247be0e3c9bda521b230d30b6ff1a57519b3e991337f", func := "loop.example/quarterdeck/laws.FnExactAreasPages", spec := "fnExactAreasPages", apart := false, narrowed := true }
def FnExactAreasPagesUptoSaid : Prop := fnExactAreasPagesUptoRow.holds Try.pinned (OpenSpec.upto fnExactAreasPagesSpec)

end Rows
end Go.Proofs.Ytphanhlaojpbiaa

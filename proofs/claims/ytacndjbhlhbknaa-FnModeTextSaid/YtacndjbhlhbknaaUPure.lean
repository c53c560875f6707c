/-
  Users and modes (chapter 5): what the functions answer, and what is asked of the program's.
-/
import Derived.Test.YtacndjbhlhbknaaTsCred
namespace Go.Proofs.Ytacndjbhlhbknaa
open Go.RowKit

abbrev Cr := Int × Int × List Int
def uB (n : Int) : Bool := inB n 0 9
/-- the first k groups are valid and ascending -/
def grTo (l : List Int) : Nat → Bool
  | 0 => true
  | k + 1 => grTo l k && (uB (l.getD k 0) && (decide (k = 0) || decide (l.getD (k - 1) 0 < l.getD k 0)))
def credB (D : Cr) : Bool := grTo D.2.2 D.2.2.length && (uB D.1 && (uB D.2.1 && decide (D.2.2.length ≤ 3)))
def becB (D : Cr) (u : Int) : Bool := credB D && (uB u && (decide (D.1 = 0) || (decide (u = D.2.1) || decide (u = D.1))))
def becD (D : Cr) (u : Int) : Cr := if becB D u = true then (u, if D.1 = 0 then u else D.2.1, D.2.2) else (0, 0, [])
def runB (D : Cr) (u : Int) : Bool := credB D && uB u
def runD (D : Cr) (u : Int) : Cr := if runB D u = true then (u, D.2.1, D.2.2) else (0, 0, [])
def sgnB (A B : Cr) : Bool := credB A && (credB B && (decide (A.1 = 0) || (decide (A.1 = B.1) || (decide (A.1 = B.2.1) || (decide (A.2.1 = B.1) || decide (A.2.1 = B.2.1))))))

def COk (f : Nat) : Prop := ∀ ⦃w : World⦄ ⦃hi : Nat⦄ ⦃x0 x1 x2 : Value⦄ ⦃D : Cr⦄, tyCred.R w hi [x0, x1, x2] D →
  Calls Try.prog f #[.agg #[x0, x1, x2]] w fun e w' => e = .returned (.bool (credB D)) ∧ Below w.heap.size w w'
def CBecS (f : Nat) : Prop := ∀ ⦃w : World⦄ ⦃hi : Nat⦄ ⦃x0 x1 x2 : Value⦄ ⦃D : Cr⦄ (u : Int), tyCred.R w hi [x0, x1, x2] D → smallCred D →
  Calls Try.prog f #[.agg #[x0, x1, x2], .int .i64 u] w fun e w' => ∃ y0 y1 y2, e = .returned (.tuple #[.agg #[y0, y1, y2], .bool (becB D u)]) ∧ tyCred.R w' w'.heap.size [y0, y1, y2] (becD D u) ∧ Below w.heap.size w w'
def CBecM (f : Nat) : Prop := ∀ ⦃w : World⦄ ⦃hi : Nat⦄ ⦃x0 x1 x2 : Value⦄ ⦃D : Cr⦄ (u : Int), tyCred.R w hi [x0, x1, x2] D → smallCred D →
  Calls Try.prog f #[.agg #[x0, x1, x2], .int .i64 u] w fun e w' => ∃ y0 y1 y2 fp, e = .returned (.tuple #[.agg #[y0, y1, y2], .bool (becB D u)]) ∧ tyCred.M w' fp [y0, y1, y2] (becD D u) ∧
    (∀ b ∈ fp, w.heap.size ≤ b ∧ b < w'.heap.size) ∧ smallCred (becD D u) ∧ Below w.heap.size w w'
def CRunS (f : Nat) : Prop := ∀ ⦃w : World⦄ ⦃hi : Nat⦄ ⦃x0 x1 x2 : Value⦄ ⦃D : Cr⦄ (u : Int), tyCred.R w hi [x0, x1, x2] D → smallCred D →
  Calls Try.prog f #[.agg #[x0, x1, x2], .int .i64 u] w fun e w' => ∃ y0 y1 y2, e = .returned (.tuple #[.agg #[y0, y1, y2], .bool (runB D u)]) ∧ tyCred.R w' w'.heap.size [y0, y1, y2] (runD D u) ∧ Below w.heap.size w w'
def CRunM (f : Nat) : Prop := ∀ ⦃w : World⦄ ⦃hi : Nat⦄ ⦃x0 x1 x2 : Value⦄ ⦃D : Cr⦄ (u : Int), tyCred.R w hi [x0, x1, x2] D → smallCred D →
  Calls Try.prog f #[.agg #[x0, x1, x2], .int .i64 u] w fun e w' => ∃ y0 y1 y2 fp, e = .returned (.tuple #[.agg #[y0, y1, y2], .bool (runB D u)]) ∧ tyCred.M w' fp [y0, y1, y2] (runD D u) ∧
    (∀ b ∈ fp, w.heap.size ≤ b ∧ b < w'.heap.size) ∧ smallCred (runD D u) ∧ Below w.heap.size w w'
def CSgn (f : Nat) : Prop := ∀ ⦃w : World⦄ ⦃hi hi2 : Nat⦄ ⦃x0 x1 x2 y0 y1 y2 : Value⦄ ⦃A B : Cr⦄, tyCred.R w hi [x0, x1, x2] A → tyCred.R w hi2 [y0, y1, y2] B →
  Calls Try.prog f #[.agg #[x0, x1, x2], .agg #[y0, y1, y2]] w fun e w' => e = .returned (.bool (sgnB A B)) ∧ Below w.heap.size w w'
end Go.Proofs.Ytacndjbhlhbknaa

/-
  Signals (chapter 10): what the functions answer, and what is asked of the program's.
-/
import Derived.Test.YtncinocpdeokgaaTsSigs
namespace Go.Proofs.Ytncinocpdeokgaa
open Go.RowKit

/-- here, blocked, what each does -/
abbrev Sg := List Bool × List Bool × List Int
def sgZ : Sg := ([], [], [])
def dOk (d : Int) : Bool := decide (d = 0) || (decide (d = 1) || decide (d = 4))
def fixB (n : Int) : Bool := decide (n = 1) || decide (n = 2)
/-- the first k are valid -/
def sgTo (B : List Bool) (L : List Int) : Nat → Bool
  | 0 => true
  | k + 1 => sgTo B L k && (dOk (L.getD k 0) && (decide (2 ≤ k) || (!(B.getD k false) && decide (L.getD k 0 = 0))))
def sigB (D : Sg) : Bool := decide (D.1.length = 8) && (decide (D.2.1.length = 8) && (decide (D.2.2.length = 8) && sgTo D.2.1 D.2.2 8))
def newD : Sg := (List.replicate 8 false, List.replicate 8 false, List.replicate 8 0)
def sgsB (D : Sg) (n d : Int) : Bool := sigB D && (inB n 1 8 && (!fixB n && dOk d))
def sgsD (D : Sg) (n d : Int) : Sg := if sgsB D n d = true then (D.1, D.2.1, D.2.2.set (n - 1).toNat d) else sgZ
/-- the first k are told by a list, but two -/
def blkTo (B L : List Bool) : Nat → List Bool
  | 0 => B
  | k + 1 => (blkTo B L k).set k (L.getD k false && decide (2 ≤ k))
def blkB (D : Sg) (L : List Bool) : Bool := sigB D && decide (L.length = 8)
def blkD (D : Sg) (L : List Bool) : Sg := if blkB D L = true then (D.1, blkTo D.2.1 L 8, D.2.2) else sgZ
/-- what a signal does that does d by what was said -/
def usual (n : Int) : Int := if n = 2 ∨ n = 6 then 2 else if n = 3 then 3 else if n = 4 ∨ n = 7 then 1 else 0
def doesI (L : List Int) (n : Int) : Int := if L.getD (n - 1).toNat 0 = 0 then usual n else L.getD (n - 1).toNat 0
/-- who is here once a signal comes, but for itself -/
def sndA (H : List Bool) (n : Int) : List Bool := if n = 2 ∨ n = 6 then H.set 2 false else if n = 3 then (H.set 1 false).set 5 false else H
def sndH (D : Sg) (n : Int) : List Bool := if doesI D.2.2 n = 1 ∧ D.2.1.getD (n - 1).toNat false = false then sndA D.1 n else (sndA D.1 n).set (n - 1).toNat true
def sndB (D : Sg) (n : Int) : Bool := sigB D && inB n 1 8
def sndD (D : Sg) (n : Int) : Sg := if sndB D n = true then (sndH D n, D.2.1, D.2.2) else sgZ
/-- the first one from the k-th on that is here and not blocked, 0 if there is none; f: how many are left -/
def nxtIn (H B : List Bool) : Nat → Int
  | 0 => 0
  | f + 1 => if H.getD (7 - f) false = true ∧ B.getD (7 - f) false = false then 8 - (f : Int) else nxtIn H B f
def nxtN (D : Sg) : Int := if sigB D = true then nxtIn D.1 D.2.1 8 else 0
def nxtD (D : Sg) : Sg := if sigB D = true then (if nxtIn D.1 D.2.1 8 = 0 then D else (D.1.set (nxtIn D.1 D.2.1 8 - 1).toNat false, D.2.1, D.2.2)) else sgZ
def nxtX (D : Sg) : Int := if nxtN D = 0 then 1 else doesI D.2.2 (nxtN D)
def nxtB (D : Sg) : Bool := !decide (nxtN D = 0)
def frkD (D : Sg) : Sg := if sigB D = true then (List.replicate 8 false, D.2.1, D.2.2) else sgZ
/-- the first k are caught no more -/
def runTo (L : List Int) : Nat → List Int
  | 0 => L
  | k + 1 => (runTo L k).set k (if L.getD k 0 = 4 then 0 else L.getD k 0)
def runS (D : Sg) : Sg := if sigB D = true then (D.1, D.2.1, runTo D.2.2 8) else sgZ

/-- an answer of one's own -/
def GM (w : World) (D : Sg) (y0 y1 y2 : Value) (fp : List Nat) (w' : World) : Prop :=
  tySigs.M w' fp [y0, y1, y2] D ∧ (∀ b ∈ fp, w.heap.size ≤ b ∧ b < w'.heap.size) ∧ smallSigs D ∧ Below w.heap.size w w'
def GOk (f : Nat) : Prop := ∀ ⦃w : World⦄ ⦃hi : Nat⦄ ⦃x0 x1 x2 : Value⦄ ⦃D : Sg⦄, tySigs.R w hi [x0, x1, x2] D →
  Calls Try.prog f #[.agg #[x0, x1, x2]] w fun e w' => e = .returned (.bool (sigB D)) ∧ Below w.heap.size w w'
def GNew (f : Nat) : Prop := ∀ ⦃w : World⦄,
  Calls Try.prog f #[] w fun e w' => ∃ y0 y1 y2 fp, e = .returned (.agg #[y0, y1, y2]) ∧ tySigs.M w' fp [y0, y1, y2] newD ∧ (∀ b ∈ fp, w.heap.size ≤ b ∧ b < w'.heap.size) ∧ smallSigs newD ∧ Below w.heap.size w w'
def GSet (f : Nat) : Prop := ∀ ⦃w : World⦄ ⦃hi : Nat⦄ ⦃x0 x1 x2 : Value⦄ ⦃D : Sg⦄ (n d : Int), tySigs.R w hi [x0, x1, x2] D → smallSigs D →
  Calls Try.prog f #[.agg #[x0, x1, x2], .int .i64 n, .int .i64 d] w fun e w' => ∃ y0 y1 y2 fp, e = .returned (.tuple #[.agg #[y0, y1, y2], .bool (sgsB D n d)]) ∧ tySigs.M w' fp [y0, y1, y2] (sgsD D n d) ∧ (∀ b ∈ fp, w.heap.size ≤ b ∧ b < w'.heap.size) ∧ smallSigs (sgsD D n d) ∧ Below w.heap.size w w'
def GBlk (f : Nat) : Prop := ∀ ⦃w : World⦄ ⦃hi hi2 : Nat⦄ ⦃x0 x1 x2 : Value⦄ ⦃D : Sg⦄ ⦃A : Option Addr⦄ ⦃m c : Nat⦄ ⦃L : List Bool⦄, tySigs.R w hi [x0, x1, x2] D → smallSigs D → RowF elB w hi2 A m L → L.length = m → m ≤ 1048576 →
  Calls Try.prog f #[.agg #[x0, x1, x2], .slice A m c] w fun e w' => ∃ y0 y1 y2 fp, e = .returned (.tuple #[.agg #[y0, y1, y2], .bool (blkB D L)]) ∧ tySigs.M w' fp [y0, y1, y2] (blkD D L) ∧ (∀ b ∈ fp, w.heap.size ≤ b ∧ b < w'.heap.size) ∧ smallSigs (blkD D L) ∧ Below w.heap.size w w'
def GSnd (f : Nat) : Prop := ∀ ⦃w : World⦄ ⦃hi : Nat⦄ ⦃x0 x1 x2 : Value⦄ ⦃D : Sg⦄ (n : Int), tySigs.R w hi [x0, x1, x2] D → smallSigs D →
  Calls Try.prog f #[.agg #[x0, x1, x2], .int .i64 n] w fun e w' => ∃ y0 y1 y2 fp, e = .returned (.tuple #[.agg #[y0, y1, y2], .bool (sndB D n)]) ∧ tySigs.M w' fp [y0, y1, y2] (sndD D n) ∧ (∀ b ∈ fp, w.heap.size ≤ b ∧ b < w'.heap.size) ∧ smallSigs (sndD D n) ∧ Below w.heap.size w w'
def GNxt (f : Nat) : Prop := ∀ ⦃w : World⦄ ⦃hi : Nat⦄ ⦃x0 x1 x2 : Value⦄ ⦃D : Sg⦄, tySigs.R w hi [x0, x1, x2] D → smallSigs D →
  Calls Try.prog f #[.agg #[x0, x1, x2]] w fun e w' => ∃ y0 y1 y2 fp, e = .returned (.tuple #[.agg #[y0, y1, y2], .int .i64 (nxtN D), .int .i64 (nxtX D), .bool (nxtB D)]) ∧ tySigs.M w' fp [y0, y1, y2] (nxtD D) ∧ (∀ b ∈ fp, w.heap.size ≤ b ∧ b < w'.heap.size) ∧ smallSigs (nxtD D) ∧ Below w.heap.size w w'
def GFrk (f : Nat) : Prop := ∀ ⦃w : World⦄ ⦃hi : Nat⦄ ⦃x0 x1 x2 : Value⦄ ⦃D : Sg⦄, tySigs.R w hi [x0, x1, x2] D → smallSigs D →
  Calls Try.prog f #[.agg #[x0, x1, x2]] w fun e w' => ∃ y0 y1 y2 fp, e = .returned (.agg #[y0, y1, y2]) ∧ tySigs.M w' fp [y0, y1, y2] (frkD D) ∧ (∀ b ∈ fp, w.heap.size ≤ b ∧ b < w'.heap.size) ∧ smallSigs (frkD D) ∧ Below w.heap.size w w'
def GRun (f : Nat) : Prop := ∀ ⦃w : World⦄ ⦃hi : Nat⦄ ⦃x0 x1 x2 : Value⦄ ⦃D : Sg⦄, tySigs.R w hi [x0, x1, x2] D → smallSigs D →
  Calls Try.prog f #[.agg #[x0, x1, x2]] w fun e w' => ∃ y0 y1 y2 fp, e = .returned (.agg #[y0, y1, y2]) ∧ tySigs.M w' fp [y0, y1, y2] (runS D) ∧ (∀ b ∈ fp, w.heap.size ≤ b ∧ b < w'.heap.size) ∧ smallSigs (runS D) ∧ Below w.heap.size w w'

theorem sgTo_mono {B : List Bool} {L : List Int} : ∀ {n k : Nat}, k ≤ n → sgTo B L n = true → sgTo B L k = true
  | 0, k, h, h2 => by obtain rfl : k = 0 := by omega
                      exact h2
  | n + 1, k, h, h2 => by
    by_cases e : k = n + 1
    · subst e; exact h2
    · have h3 : sgTo B L n = true := by
        unfold sgTo at h2
        exact (Bool.and_eq_true _ _ ▸ h2).1
      exact sgTo_mono (by omega) h3
theorem sgTo_no {B : List Bool} {L : List Int} {k n : Nat} (hk : k < n) (h : sgTo B L (k + 1) = false) : sgTo B L n = false := by
  cases e : sgTo B L n
  · rfl
  · rw [sgTo_mono (show k + 1 ≤ n from hk) e] at h
    cases h
theorem sig_len {D : Sg} (h : sigB D = true) : D.1.length = 8 ∧ D.2.1.length = 8 ∧ D.2.2.length = 8 ∧ sgTo D.2.1 D.2.2 8 = true := by
  unfold sigB at h
  simp only [Bool.and_eq_true, decide_eq_true_eq] at h
  exact h
theorem sg_small {H B : List Bool} {L : List Int} (h0 : H.length = 8) (h1 : B.length = 8) (h2 : L.length = 8) : smallSigs (H, B, L) := by
  unfold smallSigs; dsimp only; omega
theorem nilSigs {w : World} : tySigs.M w [] [.slice none 0 0, .slice none 0 0, .slice none 0 0] sgZ :=
  tySigs_Mmk (D := sgZ) (f0 := []) (f1 := []) (f2 := []) ⟨rfl, by omega, fun h => absurd h (Nat.lt_irrefl 0)⟩ ⟨rfl, by omega, fun h => absurd h (Nat.lt_irrefl 0)⟩ ⟨rfl, by omega, fun h => absurd h (Nat.lt_irrefl 0)⟩ (fun _ h => absurd h List.not_mem_nil) (fun _ h => absurd h List.not_mem_nil) (fun _ h => absurd h List.not_mem_nil)
theorem nilSmall : smallSigs sgZ := by unfold smallSigs sgZ; simp
end Go.Proofs.Ytncinocpdeokgaa

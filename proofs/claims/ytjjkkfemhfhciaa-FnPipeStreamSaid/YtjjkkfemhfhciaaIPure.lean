/-
  Pipes (chapter 9): what the functions answer, and what is asked of the program's.
-/
import Derived.Test.YtjjkkfemhfhciaaKit
import Derived.Laws.Strings2
import Derived.Laws.IdiomStrings
namespace Go.Proofs.Ytjjkkfemhfhciaa
open Go.RowKit

/-- a pipe: its text, readers, writers -/
abbrev Pi3 := ByteArray × Int × Int
def piZ : Pi3 := (⟨#[]⟩, 0, 0)
def piB (t : ByteArray) (r k : Int) : Bool := decide (t.size ≤ 8) && (inB r 0 99 && (inB k 0 99 && (decide (0 < r) || decide (t.size = 0))))
def putI (t : ByteArray) (r k : Int) (x : ByteArray) : Pi3 × Int × Int :=
  if r = 0 then ((t, r, k), 0, 4)
  else if x.size = 0 then ((t, r, k), 0, 0)
  else if t.size = 8 ∨ (8 - t.size < x.size ∧ x.size ≤ 4) then ((t, r, k), 0, 2)
  else ((t ++ x.extract 0 (min (8 - t.size) x.size), r, k), ((min (8 - t.size) x.size : Nat) : Int), 0)
def putR (t : ByteArray) (r k : Int) (x : ByteArray) : Pi3 × Int × Int :=
  if (piB t r k && !decide (k = 0)) = true then putI t r k x else (piZ, 0, 1)
def takI (t : ByteArray) (r k m : Int) : Pi3 × ByteArray × Int :=
  if m = 0 then ((t, r, k), ⟨#[]⟩, 0)
  else if t.size = 0 then ((t, r, k), ⟨#[]⟩, if k = 0 then 3 else 2)
  else ((t.extract (min m.toNat t.size) t.size, r, k), t.extract 0 (min m.toNat t.size), 0)
def takR (t : ByteArray) (r k m : Int) : Pi3 × ByteArray × Int :=
  if (piB t r k && (!decide (r = 0) && decide (0 ≤ m))) = true then takI t r k m else (piZ, ⟨#[]⟩, 1)
def joiR (t : ByteArray) (r k : Int) (b : Bool) : Pi3 × Bool :=
  if (piB t r k && !decide (r + k = 0)) = true then
    if b = true then (if r < 99 then ((t, r + 1, k), true) else (piZ, false))
    else (if k < 99 then ((t, r, k + 1), true) else (piZ, false))
  else (piZ, false)
def leaR (t : ByteArray) (r k : Int) (b : Bool) : Pi3 × Bool :=
  if (piB t r k && !decide ((if b = true then r else k) = 0)) = true then
    if b = true then ((if r = 1 then ⟨#[]⟩ else t, r - 1, k), true)
    else ((if r = 0 then ⟨#[]⟩ else t, r, k - 1), true)
  else (piZ, false)
def rdyR (t : ByteArray) (r k : Int) : Bool × Bool :=
  if piB t r k = true then (!decide (t.size = 0) || decide (k = 0), decide (t.size < 8) || decide (r = 0)) else (false, false)

def IOk (f : Nat) : Prop := ∀ ⦃w : World⦄ (t : ByteArray) (r k : Int), t.size ≤ maxLen →
  Calls Try.prog f #[.agg #[.string t, .int .i64 r, .int .i64 k]] w fun e w' => e = .returned (.bool (piB t r k)) ∧ Below w.heap.size w w'
def IPut (f : Nat) : Prop := ∀ ⦃w : World⦄ (t : ByteArray) (r k : Int) (x : ByteArray), t.size ≤ maxLen → x.size ≤ maxLen →
  Calls Try.prog f #[.agg #[.string t, .int .i64 r, .int .i64 k], .string x] w fun e w' => e = .returned (.tuple #[.agg #[.string (putR t r k x).1.1, .int .i64 (putR t r k x).1.2.1, .int .i64 (putR t r k x).1.2.2], .int .i64 (putR t r k x).2.1, .int .i64 (putR t r k x).2.2]) ∧ Below w.heap.size w w'
def ITak (f : Nat) : Prop := ∀ ⦃w : World⦄ (t : ByteArray) (r k m : Int), t.size ≤ maxLen →
  Calls Try.prog f #[.agg #[.string t, .int .i64 r, .int .i64 k], .int .i64 m] w fun e w' => e = .returned (.tuple #[.agg #[.string (takR t r k m).1.1, .int .i64 (takR t r k m).1.2.1, .int .i64 (takR t r k m).1.2.2], .string (takR t r k m).2.1, .int .i64 (takR t r k m).2.2]) ∧ Below w.heap.size w w'
def IJoi (f : Nat) : Prop := ∀ ⦃w : World⦄ (t : ByteArray) (r k : Int) (b : Bool), t.size ≤ maxLen →
  Calls Try.prog f #[.agg #[.string t, .int .i64 r, .int .i64 k], .bool b] w fun e w' => e = .returned (.tuple #[.agg #[.string (joiR t r k b).1.1, .int .i64 (joiR t r k b).1.2.1, .int .i64 (joiR t r k b).1.2.2], .bool (joiR t r k b).2]) ∧ Below w.heap.size w w'
def ILea (f : Nat) : Prop := ∀ ⦃w : World⦄ (t : ByteArray) (r k : Int) (b : Bool), t.size ≤ maxLen →
  Calls Try.prog f #[.agg #[.string t, .int .i64 r, .int .i64 k], .bool b] w fun e w' => e = .returned (.tuple #[.agg #[.string (leaR t r k b).1.1, .int .i64 (leaR t r k b).1.2.1, .int .i64 (leaR t r k b).1.2.2], .bool (leaR t r k b).2]) ∧ Below w.heap.size w w'
def IRdy (f : Nat) : Prop := ∀ ⦃w : World⦄ (t : ByteArray) (r k : Int), t.size ≤ maxLen →
  Calls Try.prog f #[.agg #[.string t, .int .i64 r, .int .i64 k]] w fun e w' => e = .returned (.tuple #[.bool (rdyR t r k).1, .bool (rdyR t r k).2]) ∧ Below w.heap.size w w'

theorem emp_list (t : ByteArray) : (t.toList == ([] : List UInt8)) = decide (t.size = 0) := by
  rw [Bool.eq_iff_iff, beq_iff_eq, decide_eq_true_eq, ByteArray.toList_eq]
  constructor
  · intro h
    have h2 := congrArg List.length h
    simpa using h2
  · intro h
    apply List.eq_nil_of_length_eq_zero
    simpa using h
theorem emp_of {t : ByteArray} (h : t.size = 0) : t = ⟨#[]⟩ := by
  apply ByteArray.ext
  apply Array.ext'
  rw [List.eq_nil_of_length_eq_zero (l := t.data.toList) (by simpa using h)]
end Go.Proofs.Ytjjkkfemhfhciaa

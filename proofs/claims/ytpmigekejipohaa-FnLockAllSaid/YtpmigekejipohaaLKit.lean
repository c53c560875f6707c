/-
  Locks: a row of threads as cells; what is asked of the program's functions.
-/
import Derived.Test.YtpmigekejipohaaLPure2
import Derived.Test.YtpmigekejipohaaReg
import Derived.BigRegion
namespace Go.Proofs.Ytpmigekejipohaa
open Go.RowKit

/-- the four cells of the thread at place k -/
structure AtT (w : World) (b o k : Nat) (a : EThread) : Prop where
  c0 : w.cell? ⟨b, o + k * 4, none⟩ = some (.int .i64 a.f0)
  c1 : w.cell? ⟨b, o + k * 4 + 1, none⟩ = some (.int .i64 a.f1)
  c2 : w.cell? ⟨b, o + k * 4 + 2, none⟩ = some (.int .i64 a.f2)
  c3 : w.cell? ⟨b, o + k * 4 + 3, none⟩ = some (.bool a.f3)
theorem AtT.below {w w' : World} {B b o k : Nat} {a : EThread} (h : AtT w b o k a) (hb : Below B w w') (hB : b < B) : AtT w' b o k a :=
  ⟨(kc hb _ _ hB).trans h.c0, (kc hb _ _ hB).trans h.c1, (kc hb _ _ hB).trans h.c2, (kc hb _ _ hB).trans h.c3⟩
/-- threads at an address -/
def RowL (w : World) (A : Option Addr) (n : Nat) (l : List EThread) : Prop :=
  0 < n → ∃ b o, A = some ⟨b, o, none⟩ ∧ b < w.heap.size ∧ ∀ k, k < n → AtT w b o k (l.getD k thZ)
theorem RowL.below {w w' : World} {A : Option Addr} {n : Nat} {l : List EThread} (h : RowL w A n l) (hb : Below w.heap.size w w') : RowL w' A n l := fun hn => by
  obtain ⟨b, o, e, hlt, hc⟩ := h hn
  exact ⟨b, o, e, Nat.lt_of_lt_of_le hlt hb.size, fun k hk => (hc k hk).below hb hlt⟩
theorem rowL {w : World} {hi : Nat} {A : Option Addr} {n : Nat} {l : List EThread} (hr : RowF elThread w hi A n l) : RowL w A n l := fun hn => by
  obtain ⟨b, o, e, _, hb0, hc⟩ := hr hn
  refine ⟨b, o, e, hb0, fun k hk => ⟨?_, ?_, ?_, ?_⟩⟩
  · have h := hc k hk 0 (by decide)
    rw [show o + k * elThread.K + 0 = o + k * 4 from by show o + k * 4 + 0 = o + k * 4; omega] at h
    exact h
  · exact hc k hk 1 (by decide)
  · exact hc k hk 2 (by decide)
  · exact hc k hk 3 (by decide)

/-- contracts -/
def KOk (f : Nat) : Prop := ∀ ⦃w : World⦄ ⦃hi : Nat⦄ ⦃x0 x1 x2 : Value⦄ ⦃D : Lk⦄, tyLock.R w hi [x0, x1, x2] D →
  Calls Try.prog f #[.agg #[x0, x1, x2]] w fun e w' => e = .returned (.bool (lkB D)) ∧ Below w.heap.size w w'
def KIn (f : Nat) : Prop := ∀ ⦃w : World⦄ ⦃hi : Nat⦄ ⦃x0 x1 x2 : Value⦄ ⦃D : Lk⦄, tyLock.R w hi [x0, x1, x2] D →
  Calls Try.prog f #[.agg #[x0, x1, x2]] w fun e w' => e = .returned (.int .i64 (inD D)) ∧ Below w.heap.size w w'
def KStk (f : Nat) : Prop := ∀ ⦃w : World⦄ ⦃hi : Nat⦄ ⦃x0 x1 x2 : Value⦄ ⦃D : Lk⦄, tyLock.R w hi [x0, x1, x2] D →
  Calls Try.prog f #[.agg #[x0, x1, x2]] w fun e w' => e = .returned (.bool (stkB D)) ∧ Below w.heap.size w w'
/-- an answer of one's own -/
def KM (w : World) (D : Lk) (y0 y1 y2 : Value) (fp : List Nat) (w' : World) : Prop :=
  tyLock.M w' fp [y0, y1, y2] D ∧ (∀ b ∈ fp, w.heap.size ≤ b ∧ b < w'.heap.size) ∧ smallLock D ∧ Below w.heap.size w w'
def KNew (f : Nat) : Prop := ∀ ⦃w : World⦄ (n t : Int),
  Calls Try.prog f #[.int .i64 n, .int .i64 t] w fun e w' => ∃ y0 y1 y2 fp, e = .returned (.tuple #[.agg #[y0, y1, y2], .bool (newB n t)]) ∧ KM w (newL n t) y0 y1 y2 fp w'
def KStp (f : Nat) : Prop := ∀ ⦃w : World⦄ ⦃hi : Nat⦄ ⦃x0 x1 x2 : Value⦄ ⦃D : Lk⦄ (x : Int), tyLock.R w hi [x0, x1, x2] D → smallLock D →
  Calls Try.prog f #[.agg #[x0, x1, x2], .int .i64 x] w fun e w' => ∃ y0 y1 y2 fp, e = .returned (.tuple #[.agg #[y0, y1, y2], .bool (stpB D x)]) ∧ KM w (stpL D x) y0 y1 y2 fp w'
def KRun (f : Nat) : Prop := ∀ ⦃w : World⦄ ⦃hi hi2 : Nat⦄ ⦃x0 x1 x2 : Value⦄ ⦃D : Lk⦄ ⦃A : Option Addr⦄ ⦃m c : Nat⦄ ⦃L : List Int⦄, tyLock.R w hi [x0, x1, x2] D → smallLock D → RowF elI w hi2 A m L → L.length = m → m ≤ 1048576 →
  Calls Try.prog f #[.agg #[x0, x1, x2], .slice A m c] w fun e w' => ∃ y0 y1 y2 fp, e = .returned (.tuple #[.agg #[y0, y1, y2], .int .i64 (runN D L)]) ∧ KM w (runL D L) y0 y1 y2 fp w'
end Go.Proofs.Ytpmigekejipohaa

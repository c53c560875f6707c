/-
  Queues: a row of tasks as cells.
-/
import Derived.Test.YtagggajlpmdpdaaQPure2
import Derived.Test.YtagggajlpmdpdaaReg
import Derived.BigRegion
namespace Go.Proofs.Ytagggajlpmdpdaa
open Go.RowKit

/-- the four cells of the task at place k -/
structure At4 (w : World) (b o k : Nat) (a : ETask) : Prop where
  c0 : w.cell? ⟨b, o + k * 4, none⟩ = some (.int .i64 a.f0)
  c1 : w.cell? ⟨b, o + k * 4 + 1, none⟩ = some (.int .i64 a.f1)
  c2 : w.cell? ⟨b, o + k * 4 + 2, none⟩ = some (.int .i64 a.f2)
  c3 : w.cell? ⟨b, o + k * 4 + 3, none⟩ = some (.bool a.f3)
theorem At4.below {w w' : World} {B b o k : Nat} {a : ETask} (h : At4 w b o k a) (hb : Below B w w') (hB : b < B) : At4 w' b o k a :=
  ⟨(kc hb _ _ hB).trans h.c0, (kc hb _ _ hB).trans h.c1, (kc hb _ _ hB).trans h.c2, (kc hb _ _ hB).trans h.c3⟩
/-- tasks at an address -/
def RowT (w : World) (A : Option Addr) (n : Nat) (l : List ETask) : Prop :=
  0 < n → ∃ b o, A = some ⟨b, o, none⟩ ∧ b < w.heap.size ∧ ∀ k, k < n → At4 w b o k (tA l k)
theorem RowT.below {w w' : World} {A : Option Addr} {n : Nat} {l : List ETask} (h : RowT w A n l) (hb : Below w.heap.size w w') : RowT w' A n l := fun hn => by
  obtain ⟨b, o, e, hlt, hc⟩ := h hn
  exact ⟨b, o, e, Nat.lt_of_lt_of_le hlt hb.size, fun k hk => (hc k hk).below hb hlt⟩
theorem rowT {w : World} {hi : Nat} {A : Option Addr} {n : Nat} {l : List ETask} (hr : RowF elTask w hi A n l) : RowT w A n l := fun hn => by
  obtain ⟨b, o, e, _, hb0, hc⟩ := hr hn
  refine ⟨b, o, e, hb0, fun k hk => ⟨?_, ?_, ?_, ?_⟩⟩
  · have h := hc k hk 0 (by decide)
    rw [show o + k * elTask.K + 0 = o + k * 4 from by show o + k * 4 + 0 = o + k * 4; omega] at h
    exact h
  · exact hc k hk 1 (by decide)
  · exact hc k hk 2 (by decide)
  · exact hc k hk 3 (by decide)
theorem qokTo_mono {l : List ETask} {F : Int} : ∀ {n k : Nat}, k ≤ n → qokTo l F n = true → qokTo l F k = true
  | 0, k, h, h2 => by obtain rfl : k = 0 := by omega
                      exact h2
  | n + 1, k, h, h2 => by
    by_cases e : k = n + 1
    · subst e; exact h2
    · have h3 : qokTo l F n = true := by
        unfold qokTo at h2
        exact (Bool.and_eq_true _ _ ▸ h2).1
      exact qokTo_mono (by omega) h3
theorem qok_no {l : List ETask} {F : Int} {k n : Nat} (hk : k < n) (h : qokTo l F (k + 1) = false) : qokTo l F n = false := by
  cases e : qokTo l F n
  · rfl
  · rw [qokTo_mono (show k + 1 ≤ n from hk) e] at h
    cases h

end Go.Proofs.Ytagggajlpmdpdaa

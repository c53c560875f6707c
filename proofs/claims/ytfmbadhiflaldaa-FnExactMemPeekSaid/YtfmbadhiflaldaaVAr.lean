/-
  A type with a fact of its data; areas as areas of the second chapter.
-/
import Derived.Test.YtfmbadhiflaldaaNKit
import Derived.Test.YtfmbadhiflaldaaYArea
import Derived.Test.YtfmbadhiflaldaaVAt
namespace Go.Proofs.Ytfmbadhiflaldaa
open Go.RowKit

/-- a type with a fact of its data -/
def Ty.sub {α : Type} (T : Ty α) (P Q : α → Prop) (hq : ∀ a, Q a → P a) : Ty α where
  z := T.z
  R w hi cs a := T.R w hi cs a ∧ P a
  M w fp cs a := T.M w fp cs a ∧ Q a
  rframe := fun ⟨h, p⟩ hb => ⟨T.rframe h hb, p⟩
  rup := fun ⟨h, p⟩ hh => ⟨T.rup h hh, p⟩
  mframe := fun ⟨h, p⟩ hb => ⟨T.mframe h hb, p⟩
  mr := fun ⟨h, p⟩ hb => ⟨T.mr h hb, hq _ p⟩
  rlt := fun ⟨h, p⟩ => ⟨T.rlt h, p⟩
def toAr (a : EArea) : Ar := ⟨a.f0, a.f1, a.f2, a.f3⟩
def arL (l : List EArea) : List Ar := l.map toAr
theorem arL_len (l : List EArea) : (arL l).length = l.length := List.length_map _
theorem arL_at (l : List EArea) (k : Nat) : (arL l).getD k .z = toAr (l.getD k elArea.z) := by
  unfold arL
  rw [List.getD_eq_getElem?_getD, List.getD_eq_getElem?_getD, List.getElem?_map]
  cases l[k]? <;> rfl
def TopE (l : List EArea) : Prop := ∀ a ∈ l, a.f1 ≤ 9223372036854775807
theorem TopE.top {l : List EArea} (h : TopE l) : TopL (arL l) := fun k hk => by
  rw [arL_at]
  rw [arL_len] at hk
  exact h _ (getD_mem _ hk)
theorem RowF.rowA {w : World} {hi n : Nat} {A : Option Addr} {l : List EArea} (h : RowF elArea w hi A n l) : RowA w A n (arL l) := fun hn => by
  obtain ⟨b, o, e, _, hb, hc⟩ := h hn
  refine ⟨b, o, e, hb, fun k hk => ?_⟩
  rw [arL_at]
  have h0 := hc k hk 0 (by decide)
  have h1 := hc k hk 1 (by decide)
  have h2 := hc k hk 2 (by decide)
  have h3 := hc k hk 3 (by decide)
  exact ⟨h0, h1, h2, h3⟩
end Go.Proofs.Ytfmbadhiflaldaa

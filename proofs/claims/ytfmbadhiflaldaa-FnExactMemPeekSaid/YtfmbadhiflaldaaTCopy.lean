/-
  Slices that are made anew by append to an empty one: what stands in a row of one's own is a slice's data.
-/
import Derived.Test.YtfmbadhiflaldaaTKit
import Derived.Deep.AppendLies
namespace Go.Proofs.Ytfmbadhiflaldaa
open Go.RowKit

section
variable {α : Type} {E : El α}
theorem flat_len (E : El α) : ∀ l : List α, (l.flatMap E.C).length = l.length * E.K
  | [] => by simp
  | a :: l => by rw [List.flatMap_cons, List.length_append, E.len, flat_len E l, List.length_cons, Nat.add_mul, Nat.one_mul, Nat.add_comm]
theorem flat_at (E : El α) : ∀ (l : List α) (k r : Nat), k < l.length → r < E.K → (l.flatMap E.C)[k * E.K + r]? = (E.C (l.getD k E.z))[r]?
  | [], _, _, h, _ => absurd h (Nat.not_lt_zero _)
  | a :: l, 0, r, _, hr => by
    rw [List.flatMap_cons, Nat.zero_mul, Nat.zero_add, List.getElem?_append_left (by rw [E.len]; exact hr)]
    rfl
  | a :: l, k + 1, r, h, hr => by
    rw [List.flatMap_cons, List.getElem?_append_right (by rw [E.len, Nat.add_mul]; omega), E.len, show (k + 1) * E.K + r - E.K = k * E.K + r by rw [Nat.add_mul]; omega, flat_at E l k r (by simpa using h) hr]
    rfl
theorem add_plain (b o j : Nat) : (⟨b, o, none⟩ : Addr).add j = ⟨b, o + j, none⟩ := by unfold Addr.add; split <;> simp_all
theorem RowF.news {w : World} {hi b o n : Nat} {l : List α} (h : RowF E w hi (some ⟨b, o, none⟩) n l) (hl : l.length = n) (hK : 0 < E.K) : ∀ j u, (l.flatMap E.C)[j]? = some u → w.cell? ((⟨b, o, none⟩ : Addr).add j) = some u := fun j u hj => by
  have hlt : j < n * E.K := by
    have h1 := (List.getElem?_eq_some_iff.1 hj).1
    rw [flat_len, hl] at h1
    exact h1
  have hn : 0 < n := by
    rcases Nat.eq_zero_or_pos n with rfl | h
    · rw [Nat.zero_mul] at hlt; omega
    · exact h
  obtain ⟨b', o', e, _, _, hc⟩ := h hn
  injection e with e
  injection e with e1 e2
  subst e1 e2
  have hk : j / E.K < n := Nat.div_lt_of_lt_mul (by rw [Nat.mul_comm]; exact hlt)
  have hr : j % E.K < E.K := Nat.mod_lt _ hK
  have hdm : j / E.K * E.K + j % E.K = j := by rw [Nat.mul_comm]; exact Nat.div_add_mod j E.K
  rw [add_plain, ← hdm, ← Nat.add_assoc, hc _ hk _ hr, ← flat_at E l _ _ (by rw [hl]; exact hk) hr, hdm]
  exact hj
theorem RowM.of_owns {w : World} {base g n cap : Nat} {t : TypeId} {l : List α} (h : w.ownsRow base t E.K (.slice (some ⟨g, 0, none⟩) n cap) n (l.flatMap E.C)) (hl : l.length = n) : RowM E w [g] (some ⟨g, 0, none⟩) n l := fun _ => by
  have hlt := h.lt g rfl
  refine ⟨g, 0, rfl, rfl, hlt.2, fun i => World.ownsRow.frozenAt h i, fun k hk r hr => ?_⟩
  have hin : k * E.K + r < n * E.K := by
    have := Nat.mul_le_mul_right E.K (show k + 1 ≤ n by omega)
    rw [Nat.add_mul] at this
    omega
  rw [Nat.zero_add]
  refine (World.ownsRow.cellAt h (k * E.K + r) hin).trans ?_
  exact flat_at E l k r (by rw [hl]; exact hk) hr
end
theorem own_empty' {w : World} {X base size : Nat} {t : TypeId} (h : Box w X #[] t) (hb : base ≤ X) : w.ownsRow base t size (.slice (some ⟨X, 0, none⟩) 0 0) 0 [] :=
  ⟨by simp, .inr ⟨X, 0, #[], rfl, hb, h, Nat.le_refl _, Nat.zero_le _, by simp, by simp⟩⟩
end Go.Proofs.Ytfmbadhiflaldaa

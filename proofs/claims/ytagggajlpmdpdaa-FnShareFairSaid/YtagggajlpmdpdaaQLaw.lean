/-
  What the walks of chapter 11's laws need besides.
-/
import Derived.Test.YtagggajlpmdpdaaQDraw2
import Derived.Test.YtagggajlpmdpdaaTqQueue
import Derived.Test.YtagggajlpmdpdaaQS8
import Derived.Test.YtagggajlpmdpdaaQS9
import Derived.Test.YtagggajlpmdpdaaQSA
import Derived.Test.YtagggajlpmdpdaaQSB
import Derived.Test.YtagggajlpmdpdaaQPure5
import Derived.Test.YtagggajlpmdpdaaTqInt
namespace Go.Proofs.Ytagggajlpmdpdaa
open Go.RowKit

def gotTo (l : List Int) (id : Int) : Nat → Bool
  | 0 => false
  | k + 1 => gotTo l id k || (l.getD k elI.z == id)
theorem got_of {l : List Int} {id : Int} {j : Nat} (h : l.getD j elI.z = id) : ∀ {n : Nat}, j < n → gotTo l id n = true
  | 0, hj => absurd hj (Nat.not_lt_zero j)
  | n + 1, hj => by
    unfold gotTo
    by_cases e : j = n
    · subst e; rw [h]; simp
    · rw [got_of h (n := n) (by omega)]; rfl
theorem served_law {D : Qu} {a : Int} (h : (runQ D a).isSome = true) (ha : 60 ≤ a) : qB D = true ∧ ∀ i, i < D.1.length → (tA D.1 i).f3 = true → (tA D.1 i).f2 ≤ D.2 + 60 → gotTo (runI D a) (tA D.1 i).f0 (runI D a).length = true := by
  cases hr : runQ D a with
  | none => rw [hr] at h; cases h
  | some r =>
    obtain ⟨hq, _, _, ho⟩ := runQ_some hr
    have hI : runI D a = r.2 := by unfold runI; rw [hr]
    rw [hI]
    refine ⟨hq, fun i hi hr3 hc => ?_⟩
    obtain ⟨id, hm, he⟩ := run_served hq hi hr3 hc (show 60 ≤ a.toNat by omega) ho
    obtain ⟨j, hj, hv⟩ := List.mem_iff_getElem.1 hm
    exact got_of (j := j) (by rw [List.getD_eq_getElem?_getD, List.getElem?_eq_getElem hj, hv]; exact he) hj
theorem qR_len {w : World} {hi : Nat} {A : Option Addr} {n c : Nat} {v : Value} {D : Qu} (h : tyQueue.R w hi [.slice A n c, v] D) : D.1.length = n := by
  obtain ⟨_, _, _, hcs, hl, _⟩ := tyQueue_R h
  simp only [List.cons.injEq, and_true] at hcs
  injection hcs.1 with _ e _
  rw [e]; exact hl
theorem qR_row {w : World} {hi : Nat} {A : Option Addr} {n c : Nat} {v : Value} {D : Qu} (h : tyQueue.R w hi [.slice A n c, v] D) : RowT w A n D.1 := by
  obtain ⟨_, _, _, hcs, _, _, hr⟩ := tyQueue_R h
  simp only [List.cons.injEq, and_true] at hcs
  injection hcs.1 with e1 e2 _
  subst e1 e2
  exact rowT hr
theorem gap_law {D : Qu} {a : Int} (h : (runQ D a).isSome = true) : qB D = true ∧ qB (runD D a) = true ∧ (runD D a).1.length = D.1.length ∧ ∀ i k, i < D.1.length → k < D.1.length → (tA D.1 i).f3 = true → (tA D.1 k).f3 = true →
    (tA (runD D a).1 i).f2 - (tA (runD D a).1 k).f2 ≤ max ((tA D.1 i).f2 - (tA D.1 k).f2) (Int.tdiv 60 (tA D.1 i).f1) := by
  cases hr : runQ D a with
  | none => rw [hr] at h; cases h
  | some r =>
    obtain ⟨hq, _, _, ho⟩ := runQ_some hr
    have hok := run_ok hq ho
    have hD : runD D a = r.1 := by unfold runD; rw [hr]
    rw [hD]
    exact ⟨hq, hok.1, hok.2.2, run_gap hq ho⟩
theorem fair_law {D : Qu} {a : Int} (h : (runQ D a).isSome = true) (hr : ∀ j, j < D.1.length → (tA D.1 j).f3 = true ∧ (tA D.1 j).f2 = D.2) : qB (runD D a) = true ∧ (runD D a).1.length = D.1.length ∧ ∀ i k, i < D.1.length → k < D.1.length → (tA (runD D a).1 i).f2 ≤ (tA (runD D a).1 k).f2 + Int.tdiv 60 (tA (runD D a).1 i).f1 := by
  obtain ⟨hq, hq1, hl, hg⟩ := gap_law h
  refine ⟨hq1, hl, fun i k hi hk => ?_⟩
  have h1 := hg i k hi hk (hr i hi).1 (hr k hk).1
  rw [(hr i hi).2, (hr k hk).2] at h1
  cases ho : runQ D a with
  | none => rw [ho] at h; cases h
  | some r =>
    have hD : runD D a = r.1 := by unfold runD; rw [ho]
    have hs := run_same (runQ_some ho).2.2.2 i
    have hw := tdiv_bounds (tok_iff.1 ((qB_iff.1 hq).1 i hi).1).2.1
    rw [hD] at h1 ⊢
    rw [hs.2.1]
    omega
theorem run0 (D : Qu) : (runQ D 0).isSome = qB D := by
  unfold runQ
  cases h : qB D <;> rfl
theorem run0i (D : Qu) : runI D 0 = [] := by
  unfold runI runQ
  cases h : qB D <;> rfl
theorem run0d {D : Qu} (h : qB D = true) : runD D 0 = D := by
  unfold runD runQ
  rw [h]
  rfl
section
variable {A : Option Addr} {n c : Nat} {w : World}

end
end Go.Proofs.Ytagggajlpmdpdaa

/-
  Queues: what follows of ticks and runs.
-/
import Derived.Test.YtagggajlpmdpdaaQPure2
namespace Go.Proofs.Ytagggajlpmdpdaa
open Go.RowKit

theorem tickD_some {D : Qu} {r : Qu × Int} (h : tickD D = some r) : ∃ m m2 : Nat, NxAt D.1 D.1.length m ∧ tickC (tA D.1 m) ≤ 1000000 ∧
    NxAt (D.1.set m (setC (tA D.1 m) (tickC (tA D.1 m)))) D.1.length m2 ∧ r = ((D.1.set m (setC (tA D.1 m) (tickC (tA D.1 m))), max D.2 (tA (D.1.set m (setC (tA D.1 m) (tickC (tA D.1 m)))) m2).f2), (tA D.1 m).f0) := by
  rcases nxI_cases D.1 with ⟨h1, _⟩ | ⟨m, h1, h2⟩
  · unfold tickD at h
    rw [if_pos (by omega)] at h
    cases h
  · unfold tickD at h
    rw [h1, if_neg (by omega), Int.toNat_natCast] at h
    by_cases hc : 1000000 < tickC (tA D.1 m)
    · rw [if_pos hc] at h; cases h
    · rw [if_neg hc] at h
      rcases nxI_cases (D.1.set m (setC (tA D.1 m) (tickC (tA D.1 m)))) with ⟨_, h4⟩ | ⟨m2, h3, h4⟩
      · have h5 := h4 m (by rw [List.length_set]; exact h2.1)
        rw [getD_setT _ m m _ h2.1, if_pos rfl, show (setC (tA D.1 m) (tickC (tA D.1 m))).f3 = (tA D.1 m).f3 from rfl, h2.2.1] at h5
        cases h5
      · rw [List.length_set] at h4
        rw [h3, Int.toNat_natCast] at h
        injection h with h
        exact ⟨m, m2, h2, by omega, h4, h.symm⟩
theorem tick_ok {D : Qu} {r : Qu × Int} (hq : qB D = true) (h : tickD D = some r) : qB r.1 = true := by
  obtain ⟨m, m2, h1, h2, h3, rfl⟩ := tickD_some h
  obtain ⟨q1, q2, q3, q4⟩ := qB_iff.1 hq
  have hm := (tok_iff.1 (q1 m h1.1).1)
  have hd := tdiv_bounds hm.2.1
  have hc : tickC (tA D.1 m) = (tA D.1 m).f2 + Int.tdiv 60 (tA D.1 m).f1 := rfl
  refine qB_iff.2 ?_
  dsimp only
  rw [List.length_set]
  have hat : ∀ j, tA (D.1.set m (setC (tA D.1 m) (tickC (tA D.1 m)))) j = if j = m then setC (tA D.1 m) (tickC (tA D.1 m)) else tA D.1 j := fun j => getD_setT _ m j _ h1.1
  have hid : ∀ j, (tA (D.1.set m (setC (tA D.1 m) (tickC (tA D.1 m)))) j).f0 = (tA D.1 j).f0 := fun j => by
    rw [hat j]; split
    · rename_i e; subst e; rfl
    · rfl
  have hcost : ∀ j, j < D.1.length → (tA D.1 j).f3 = true → (tA (D.1.set m (setC (tA D.1 m) (tickC (tA D.1 m)))) m2).f2 ≤ (tA (D.1.set m (setC (tA D.1 m) (tickC (tA D.1 m)))) j).f2 := fun j hj hr => h3.2.2.1 j hj (by
    rw [hat j]; split
    · rename_i e; subst e; exact hr
    · exact hr)
  have hrange : ∀ j, j < D.1.length → 0 ≤ (tA (D.1.set m (setC (tA D.1 m) (tickC (tA D.1 m)))) j).f2 ∧ (tA (D.1.set m (setC (tA D.1 m) (tickC (tA D.1 m)))) j).f2 ≤ 1000000 := fun j hj => by
    rw [hat j]; split
    · show 0 ≤ tickC (tA D.1 m) ∧ tickC (tA D.1 m) ≤ 1000000
      omega
    · exact (tok_iff.1 (q1 j hj).1).2.2.1
  have hlow : ∀ j, j < D.1.length → (tA D.1 j).f3 = true → D.2 ≤ (tA (D.1.set m (setC (tA D.1 m) (tickC (tA D.1 m)))) j).f2 := fun j hj hr => by
    have hj2 := (tok_iff.1 (q1 j hj).1).2.2.2 hr
    rw [hat j]; split
    · rename_i e; subst e
      show D.2 ≤ tickC (tA D.1 j)
      omega
    · exact hj2
  have hm2r := hrange m2 h3.1
  refine ⟨fun k hk => ⟨tok_iff.2 ⟨?_, ?_, hrange k hk, fun hr => ?_⟩, ?_⟩, q2, by omega, by omega⟩
  · rw [hid k]; exact (tok_iff.1 (q1 k hk).1).1
  · rw [hat k]; split
    · exact hm.2.1
    · exact (tok_iff.1 (q1 k hk).1).2.1
  · have hr2 : (tA D.1 k).f3 = true := by
      rw [hat k] at hr; split at hr
      · rename_i e; subst e; exact hr
      · exact hr
    have a := hcost k hk hr2
    have b := hlow k hk hr2
    omega
  · rw [hid k, hid (k - 1)]; exact (q1 k hk).2
theorem run_ok {D : Qu} (hq : qB D = true) : ∀ {n : Nat} {r : Qu × List Int}, runO D n = some r → qB r.1 = true ∧ r.2.length = n ∧ r.1.1.length = D.1.length
  | 0, r, h => by
    unfold runO at h
    injection h with h
    subst h
    exact ⟨hq, rfl, rfl⟩
  | n + 1, r, h => by
    unfold runO at h
    cases h1 : runO D n with
    | none => rw [h1] at h; cases h
    | some s =>
      rw [h1] at h
      dsimp only at h
      have ih := run_ok hq h1
      cases h2 : tickD s.1 with
      | none => rw [h2] at h; cases h
      | some t =>
        rw [h2] at h
        dsimp only at h
        injection h with h
        subst h
        refine ⟨tick_ok ih.1 h2, by rw [List.length_append, ih.2.1]; rfl, ?_⟩
        obtain ⟨m, m2, _, _, _, rfl⟩ := tickD_some h2
        dsimp only
        rw [List.length_set]
        exact ih.2.2
theorem run_none {D : Qu} {k : Nat} (h : runO D k = none) : ∀ {n : Nat}, k ≤ n → runO D n = none
  | 0, hk => by obtain rfl : k = 0 := by omega
                exact h
  | n + 1, hk => by
    by_cases e : k = n + 1
    · subst e; exact h
    · unfold runO
      rw [run_none h (n := n) (by omega)]
theorem run_add {D : Qu} {k : Nat} {r : Qu × List Int} (h : runO D k = some r) : ∀ n, runO D (k + n) = match runO r.1 n with | none => none | some s => some (s.1, r.2 ++ s.2)
  | 0 => by rw [Nat.add_zero, h]; simp [runO]
  | n + 1 => by
    rw [show k + (n + 1) = (k + n) + 1 by omega]
    show (match runO D (k + n) with | none => none | some s => match tickD s.1 with | none => none | some t => some (t.1, s.2 ++ [t.2])) = _
    rw [run_add h n]
    show _ = match (match runO r.1 n with | none => none | some s => match tickD s.1 with | none => none | some t => some (t.1, s.2 ++ [t.2])) with | none => none | some s => some (s.1, r.2 ++ s.2)
    cases h1 : runO r.1 n with
    | none => rfl
    | some s =>
      dsimp only
      cases h2 : tickD s.1 with
      | none => rfl
      | some t => simp
end Go.Proofs.Ytagggajlpmdpdaa

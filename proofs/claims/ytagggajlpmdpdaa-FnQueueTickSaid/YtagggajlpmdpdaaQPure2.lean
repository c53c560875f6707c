/-
  Queues: what follows of the answers alone.
-/
import Derived.Test.YtagggajlpmdpdaaQPure
namespace Go.Proofs.Ytagggajlpmdpdaa
open Go.RowKit

theorem getD_setT (l : List ETask) (k j : Nat) (a : ETask) (hk : k < l.length) : tA (l.set k a) j = if j = k then a else tA l j := by
  simp only [tA, List.getD_eq_getElem?_getD, List.getElem?_set]
  by_cases e : k = j
  · subst e; simp [hk]
  · have : ¬ j = k := fun h => e h.symm
    simp [e, this]
theorem qok_iff {l : List ETask} {F : Int} : ∀ {n : Nat}, qokTo l F n = true ↔ ∀ k, k < n → tokB (tA l k) F = true ∧ (k = 0 ∨ (tA l (k - 1)).f0 < (tA l k).f0)
  | 0 => ⟨fun _ k h => absurd h (Nat.not_lt_zero k), fun _ => rfl⟩
  | n + 1 => by
    unfold qokTo
    rw [Bool.and_eq_true, qok_iff (n := n)]
    simp only [Bool.and_eq_true, Bool.or_eq_true, decide_eq_true_eq]
    constructor
    · rintro ⟨h1, h2⟩ k hk
      by_cases e : k = n
      · subst e; exact h2
      · exact h1 k (by omega)
    · intro h
      exact ⟨fun k hk => h k (by omega), h n (by omega)⟩
theorem tok_iff {t : ETask} {F : Int} : tokB t F = true ↔ (0 ≤ t.f0 ∧ t.f0 ≤ 99) ∧ (1 ≤ t.f1 ∧ t.f1 ≤ 6) ∧ (0 ≤ t.f2 ∧ t.f2 ≤ 1000000) ∧ (t.f3 = true → F ≤ t.f2) := by
  unfold tokB inB
  simp only [Bool.and_eq_true, decide_eq_true_eq, Bool.or_eq_true, Bool.not_eq_true']
  constructor
  · rintro ⟨h1, h2, h3, h4⟩
    refine ⟨h1, h2, h3, fun h => ?_⟩
    rcases h4 with h4 | h4
    · rw [h] at h4; cases h4
    · exact h4
  · rintro ⟨h1, h2, h3, h4⟩
    refine ⟨h1, h2, h3, ?_⟩
    cases h : t.f3
    · exact Or.inl rfl
    · exact Or.inr (h4 h)
theorem qB_iff {D : Qu} : qB D = true ↔ (∀ k, k < D.1.length → tokB (tA D.1 k) D.2 = true ∧ (k = 0 ∨ (tA D.1 (k - 1)).f0 < (tA D.1 k).f0)) ∧ D.1.length ≤ 6 ∧ 0 ≤ D.2 ∧ D.2 ≤ 1000000 := by
  unfold qB inB
  simp only [Bool.and_eq_true, decide_eq_true_eq, qok_iff]
/-- numbers ascend -/
theorem asc_lt {l : List ETask} (h : ∀ k, k < l.length → k = 0 ∨ (tA l (k - 1)).f0 < (tA l k).f0) : ∀ {j k : Nat}, j < k → k < l.length → (tA l j).f0 < (tA l k).f0
  | j, 0, h1, _ => absurd h1 (Nat.not_lt_zero j)
  | j, k + 1, h1, h2 => by
    have h3 := (h (k + 1) h2).resolve_left (by omega)
    rw [Nat.add_sub_cancel] at h3
    by_cases e : j = k
    · subst e; exact h3
    · have := asc_lt h (show j < k by omega) (by omega)
      omega
theorem asc_inj {l : List ETask} (h : ∀ k, k < l.length → k = 0 ∨ (tA l (k - 1)).f0 < (tA l k).f0) {j k : Nat} (hj : j < l.length) (hk : k < l.length) (e : (tA l j).f0 = (tA l k).f0) : j = k := by
  rcases Nat.lt_trichotomy j k with h1 | h1 | h1
  · have := asc_lt h h1 hk; omega
  · exact h1
  · have := asc_lt h h1 hj; omega
theorem at_none {l : List ETask} {id : Int} : ∀ {n : Nat}, noneTo l id n → atTo l id n = -1
  | 0, _ => rfl
  | n + 1, h => by
    unfold atTo
    rw [at_none (n := n) (fun j hj => h j (by omega)), if_neg (by omega), if_neg (h n (by omega))]
theorem at_of {l : List ETask} {id : Int} {k : Nat} (h : noneTo l id k) (he : (tA l k).f0 = id) : ∀ {n : Nat}, k < n → atTo l id n = k
  | 0, hk => absurd hk (Nat.not_lt_zero k)
  | n + 1, hk => by
    unfold atTo
    by_cases e : k = n
    · subst e
      rw [at_none h, if_neg (by omega), if_pos he]
    · rw [at_of h he (n := n) (by omega), if_pos (by omega)]
theorem at_cases (l : List ETask) (id : Int) : ∀ n : Nat, (atTo l id n = -1 ∧ noneTo l id n) ∨ ∃ k : Nat, k < n ∧ atTo l id n = k ∧ noneTo l id k ∧ (tA l k).f0 = id
  | 0 => Or.inl ⟨rfl, fun j h => absurd h (Nat.not_lt_zero j)⟩
  | n + 1 => by
    rcases at_cases l id n with ⟨h1, h2⟩ | ⟨k, h1, h2, h3, h4⟩
    · by_cases e : (tA l n).f0 = id
      · exact Or.inr ⟨n, by omega, at_of h2 e (by omega), h2, e⟩
      · refine Or.inl ⟨at_none fun j hj => ?_, fun j hj => ?_⟩
        all_goals
          by_cases e2 : j = n
          · subst e2; exact e
          · exact h2 j (by omega)
    · exact Or.inr ⟨k, by omega, at_of h3 h4 (by omega), h3, h4⟩
theorem nx_lt (l : List ETask) : ∀ n : Nat, -1 ≤ nxTo l n ∧ nxTo l n < n
  | 0 => by simp [nxTo]
  | n + 1 => by
    have h := nx_lt l n
    unfold nxTo
    split <;> omega
/-- the next one is ready, costs no more than any that is ready, and less than those ahead of it -/
def NxAt (l : List ETask) (n : Nat) (b : Nat) : Prop := b < n ∧ (tA l b).f3 = true ∧ (∀ j, j < n → (tA l j).f3 = true → (tA l b).f2 ≤ (tA l j).f2) ∧ ∀ j, j < b → (tA l j).f3 = true → (tA l b).f2 < (tA l j).f2
theorem nx_cases (l : List ETask) : ∀ n : Nat, (nxTo l n = -1 ∧ ∀ j, j < n → (tA l j).f3 = false) ∨ ∃ b : Nat, nxTo l n = b ∧ NxAt l n b
  | 0 => Or.inl ⟨rfl, fun j h => absurd h (Nat.not_lt_zero j)⟩
  | n + 1 => by
    rcases nx_cases l n with ⟨h1, h2⟩ | ⟨b, h1, h2, h3, h4, h5⟩
    · cases e : (tA l n).f3
      · refine Or.inl ⟨?_, fun j hj => ?_⟩
        · unfold nxTo
          rw [if_neg (by rw [e]; simp), h1]
        · by_cases e2 : j = n
          · subst e2; exact e
          · exact h2 j (by omega)
      · refine Or.inr ⟨n, ?_, by omega, e, fun j hj hr => ?_, fun j hj hr => ?_⟩
        · unfold nxTo
          rw [if_pos ⟨e, Or.inl (by omega)⟩]
        · by_cases e2 : j = n
          · subst e2; exact Int.le_refl _
          · rw [h2 j (by omega)] at hr; cases hr
        · rw [h2 j (by omega)] at hr; cases hr
    · by_cases c : (tA l n).f3 = true ∧ (tA l n).f2 < (tA l b).f2
      · refine Or.inr ⟨n, ?_, by omega, c.1, fun j hj hr => ?_, fun j hj hr => ?_⟩
        · unfold nxTo
          rw [h1, if_pos ⟨c.1, Or.inr (by simpa using c.2)⟩]
        · by_cases e2 : j = n
          · subst e2; exact Int.le_refl _
          · have := h4 j (by omega) hr; omega
        · have := h4 j (by omega) hr; omega
      · refine Or.inr ⟨b, ?_, by omega, h3, fun j hj hr => ?_, h5⟩
        · unfold nxTo
          rw [h1, if_neg]
          rintro ⟨c1, c2⟩
          rcases c2 with c2 | c2
          · omega
          · exact c ⟨c1, by simpa using c2⟩
        · by_cases e2 : j = n
          · subst e2
            have : ¬ (tA l j).f2 < (tA l b).f2 := fun h => c ⟨hr, h⟩
            omega
          · exact h4 j (by omega) hr
theorem nx_uniq {l : List ETask} {n b c : Nat} (h : NxAt l n b) (h2 : NxAt l n c) : b = c := by
  rcases Nat.lt_trichotomy b c with h1 | h1 | h1
  · have := h2.2.2.2 b h1 h.2.1; have := h.2.2.1 c h2.1 h2.2.1; omega
  · exact h1
  · have := h.2.2.2 c h1 h2.2.1; have := h2.2.2.1 b h.1 h.2.1; omega
theorem nx_of {l : List ETask} {b : Nat} (h : NxAt l l.length b) : nxI l = b := by
  rcases nx_cases l l.length with ⟨_, h2⟩ | ⟨c, h1, h2⟩
  · have h3 := h.2.1
    rw [h2 b h.1] at h3
    cases h3
  · rw [nx_uniq h h2]; exact h1
theorem nx_no {l : List ETask} (h : ∀ j, j < l.length → (tA l j).f3 = false) : nxI l = -1 := by
  rcases nx_cases l l.length with ⟨h1, _⟩ | ⟨c, _, h2⟩
  · exact h1
  · have h3 := h2.2.1
    rw [h c h2.1] at h3
    cases h3
theorem nxI_cases (l : List ETask) : (nxI l = -1 ∧ ∀ j, j < l.length → (tA l j).f3 = false) ∨ ∃ b : Nat, nxI l = b ∧ NxAt l l.length b := nx_cases l l.length
theorem at_lt {l : List ETask} {id : Int} (h : 0 ≤ atI l id) : ∃ k : Nat, atI l id = k ∧ k < l.length ∧ (tA l k).f0 = id ∧ noneTo l id k := by
  rcases at_cases l id l.length with ⟨h1, _⟩ | ⟨k, h1, h2, h3, h4⟩
  · unfold atI at h; omega
  · exact ⟨k, h2, h1, h4, h3⟩
theorem tdiv_bounds {w : Int} (h : 1 ≤ w ∧ w ≤ 6) : 10 ≤ Int.tdiv 60 w ∧ Int.tdiv 60 w ≤ 60 := by
  obtain h | h | h | h | h | h : w = 1 ∨ w = 2 ∨ w = 3 ∨ w = 4 ∨ w = 5 ∨ w = 6 := by omega
  all_goals subst h; decide
end Go.Proofs.Ytagggajlpmdpdaa

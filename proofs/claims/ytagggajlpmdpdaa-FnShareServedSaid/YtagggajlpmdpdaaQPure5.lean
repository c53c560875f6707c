/-
  Queues: a run keeps numbers, weights and who is ready; two that are ready do not come apart; who is ready is served; who slept is owed nothing.
-/
import Derived.Test.YtagggajlpmdpdaaQPure4
namespace Go.Proofs.Ytagggajlpmdpdaa
open Go.RowKit

theorem run_step {D : Qu} {n : Nat} {r : Qu × List Int} (h : runO D (n + 1) = some r) : ∃ s t, runO D n = some s ∧ tickD s.1 = some t ∧ r = (t.1, s.2 ++ [t.2]) := by
  unfold runO at h
  cases h1 : runO D n with
  | none => rw [h1] at h; cases h
  | some s =>
    rw [h1] at h
    dsimp only at h
    cases h2 : tickD s.1 with
    | none => rw [h2] at h; cases h
    | some t =>
      rw [h2] at h
      dsimp only at h
      injection h with h
      exact ⟨s, t, rfl, h2, h.symm⟩
def sameT (a b : ETask) : Prop := a.f0 = b.f0 ∧ a.f1 = b.f1 ∧ a.f3 = b.f3
theorem run_same {D : Qu} : ∀ {n : Nat} {r : Qu × List Int}, runO D n = some r → ∀ j, sameT (tA r.1.1 j) (tA D.1 j)
  | 0, r, h, j => by
    unfold runO at h
    injection h with h
    subst h
    exact ⟨rfl, rfl, rfl⟩
  | n + 1, r, h, j => by
    obtain ⟨s, t, h1, h2, rfl⟩ := run_step h
    have ih := run_same h1 j
    obtain ⟨m, m2, g1, _, _, rfl⟩ := tickD_some h2
    dsimp only
    rw [getD_setT _ m j _ g1.1]
    split
    · rename_i e
      subst e
      exact ih
    · exact ih
/-- how far apart two may be -/
theorem run_gap {D : Qu} (hq : qB D = true) : ∀ {n : Nat} {r : Qu × List Int}, runO D n = some r → ∀ i k, i < D.1.length → k < D.1.length → (tA D.1 i).f3 = true → (tA D.1 k).f3 = true →
    (tA r.1.1 i).f2 - (tA r.1.1 k).f2 ≤ max ((tA D.1 i).f2 - (tA D.1 k).f2) (Int.tdiv 60 (tA D.1 i).f1)
  | 0, r, h, i, k, _, _, _, _ => by
    unfold runO at h
    injection h with h
    subst h
    exact Int.le_max_left _ _
  | n + 1, r, h, i, k, hi, hk, ri, rk => by
    obtain ⟨s, t, h1, h2, rfl⟩ := run_step h
    have ih := run_gap hq h1 i k hi hk ri rk
    have hok := run_ok hq h1
    have si := run_same h1 i
    have sk := run_same h1 k
    obtain ⟨m, m2, g1, _, _, rfl⟩ := tickD_some h2
    dsimp only
    rw [getD_setT _ m i _ g1.1, getD_setT _ m k _ g1.1]
    have hw := (tok_iff.1 ((qB_iff.1 hok.1).1 m g1.1).1).2.1
    have hd := tdiv_bounds hw
    have hm := g1.2.2.1
    have e1 : (setC (tA s.1.1 m) (tickC (tA s.1.1 m))).f2 = (tA s.1.1 m).f2 + Int.tdiv 60 (tA s.1.1 m).f1 := rfl
    by_cases ci : i = m
    · subst ci
      rw [if_pos rfl, e1]
      have a := hm k (by rw [hok.2.2]; exact hk) (by rw [sk.2.2]; exact rk)
      rw [← si.2.1] at ih ⊢
      by_cases ck : k = i
      · subst ck
        rw [if_pos rfl, e1]
        omega
      · rw [if_neg ck]
        omega
    · rw [if_neg ci]
      by_cases ck : k = m
      · subst ck
        rw [if_pos rfl, e1]
        omega
      · rw [if_neg ck]
        exact ih
/-- what a task that is not the one may still take before it costs more than c -/
def phi (c : Int) (t : ETask) : Nat := if t.f3 = true then ((c - t.f2 + 10) / 10).toNat else 0
def pot (c : Int) : List ETask → Nat
  | [] => 0
  | t :: l => phi c t + pot c l
theorem pot_set (c : Int) (a : ETask) : ∀ (l : List ETask) (m : Nat), m < l.length → pot c (l.set m a) + phi c (tA l m) = pot c l + phi c a
  | [], m, h => absurd h (Nat.not_lt_zero m)
  | t :: l, 0, _ => by show phi c a + pot c l + phi c t = phi c t + pot c l + phi c a; omega
  | t :: l, m + 1, h => by
    have ih := pot_set c a l m (Nat.lt_of_succ_lt_succ h)
    show phi c t + pot c (l.set m a) + phi c (tA l m) = phi c t + pot c l + phi c a
    omega
theorem pot_le (c : Int) (B : Nat) : ∀ l : List ETask, (∀ j, j < l.length → phi c (tA l j) ≤ B) → pot c l ≤ B * l.length
  | [], _ => Nat.zero_le _
  | t :: l, h => by
    have ih := pot_le c B l fun j hj => h (j + 1) (Nat.succ_lt_succ hj)
    have h0 : phi c t ≤ B := h 0 (Nat.succ_pos _)
    show phi c t + pot c l ≤ B * (l.length + 1)
    rw [Nat.mul_add]
    omega
theorem run_pot {D : Qu} (hq : qB D = true) {i : Nat} (hi : i < D.1.length) (ri : (tA D.1 i).f3 = true) : ∀ {n : Nat} {r : Qu × List Int}, runO D n = some r → (∀ id ∈ r.2, id ≠ (tA D.1 i).f0) →
    (tA r.1.1 i).f2 = (tA D.1 i).f2 ∧ pot (tA D.1 i).f2 r.1.1 + n ≤ pot (tA D.1 i).f2 D.1
  | 0, r, h, _ => by
    unfold runO at h
    injection h with h
    subst h
    exact ⟨rfl, Nat.le_refl _⟩
  | n + 1, r, h, hno => by
    obtain ⟨s, t, h1, h2, rfl⟩ := run_step h
    dsimp only at hno
    have ih := run_pot hq hi ri h1 fun id hm => hno id (List.mem_append_left _ hm)
    have hok := run_ok hq h1
    have si := run_same h1 i
    obtain ⟨m, m2, g1, _, _, rfl⟩ := tickD_some h2
    have hne : (tA s.1.1 m).f0 ≠ (tA D.1 i).f0 := hno _ (List.mem_append_right _ (List.mem_singleton.2 rfl))
    have him : ¬ i = m := fun e => hne (by rw [← e]; exact si.1)
    have hw := (tok_iff.1 ((qB_iff.1 hok.1).1 m g1.1).1).2.1
    have hd := tdiv_bounds hw
    have hle := g1.2.2.1 i (by rw [hok.2.2]; exact hi) (by rw [si.2.2]; exact ri)
    rw [ih.1] at hle
    have hp := pot_set (tA D.1 i).f2 (setC (tA s.1.1 m) (tickC (tA s.1.1 m))) s.1.1 m g1.1
    have e1 : phi (tA D.1 i).f2 (tA s.1.1 m) = (((tA D.1 i).f2 - (tA s.1.1 m).f2 + 10) / 10).toNat := by unfold phi; rw [if_pos g1.2.1]
    have e2 : phi (tA D.1 i).f2 (setC (tA s.1.1 m) (tickC (tA s.1.1 m))) = (((tA D.1 i).f2 - ((tA s.1.1 m).f2 + Int.tdiv 60 (tA s.1.1 m).f1) + 10) / 10).toNat := by
      unfold phi
      rw [if_pos (show (setC (tA s.1.1 m) (tickC (tA s.1.1 m))).f3 = true from g1.2.1)]
      rfl
    dsimp only
    refine ⟨?_, ?_⟩
    · rw [getD_setT _ m i _ g1.1, if_neg him]; exact ih.1
    · have ih2 := ih.2
      omega
theorem run_served {D : Qu} (hq : qB D = true) {i : Nat} (hi : i < D.1.length) (ri : (tA D.1 i).f3 = true) (hc : (tA D.1 i).f2 ≤ D.2 + 60) {n : Nat} (hn : 60 ≤ n) {r : Qu × List Int} (h : runO D n = some r) : ∃ id ∈ r.2, id = (tA D.1 i).f0 := by
  apply Classical.byContradiction
  intro hno
  have h1 := (run_pot hq hi ri h fun id hm e => hno ⟨id, hm, e⟩).2
  have hq2 := qB_iff.1 hq
  have h2 := pot_le (tA D.1 i).f2 7 D.1 fun j hj => by
    have ht := (tok_iff.1 (hq2.1 j hj).1).2.2.2
    unfold phi
    split
    · rename_i e
      have := ht e
      omega
    · omega
  have := hq2.2.1
  have : 7 * D.1.length ≤ 42 := by omega
  omega
theorem at_same {l l' : List ETask} {id : Int} (hl : l.length = l'.length) (h : ∀ j, (tA l j).f0 = (tA l' j).f0) : atI l id = atI l' id := by
  have hn : ∀ n, atTo l id n = atTo l' id n := fun n => by
    induction n with
    | zero => rfl
    | succ n ih =>
      unfold atTo
      rw [ih, h n]
  unfold atI
  rw [hl, hn]
/-- who slept through a run costs at least the floor when awake -/
theorem slept_law {D : Qu} {id n : Int} (h : hasB D id = true) (hr : (runQ (slpD D id) n).isSome = true) :
    hasB (runD (slpD D id) n) id = true ∧ ∀ j, j < (wakD (runD (slpD D id) n) id).1.length → (tA (wakD (runD (slpD D id) n) id).1 j).f0 = id → (runD (slpD D id) n).2 ≤ (tA (wakD (runD (slpD D id) n) id).1 j).f2 := by
  obtain ⟨hq, _, _, hh, hl, hf⟩ := slp_law h
  generalize slpD D id = S at *
  cases hr2 : runQ S n with
  | none => rw [hr2] at hr; cases hr
  | some r =>
    obtain ⟨_, g0, g1, ho⟩ := runQ_some hr2
    have hD : runD S n = r.1 := by unfold runD; rw [hr2]
    rw [hD]
    have hok := run_ok hq ho
    have hs := run_same ho
    obtain ⟨_, m, h1, h2, h3, h4⟩ := hasB_iff.1 hh
    rw [h1, Int.toNat_natCast] at hf
    have hat : atI r.1.1 id = m := by rw [at_same hok.2.2 fun j => (hs j).1]; exact h1
    have hm2 : m < r.1.1.length := by rw [hok.2.2]; exact h2
    have hhr : hasB r.1 id = true := hasB_iff.2 ⟨hok.1, m, hat, hm2, by rw [(hs m).1]; exact h3, fun j hj => by rw [(hs j).1]; exact h4 j hj⟩
    refine ⟨hhr, fun j hj e => ?_⟩
    have hw := wak_law hhr
    have he : wakD r.1 id = (r.1.1.set m (wakT (tA r.1.1 m) r.1.2), r.1.2) := by unfold wakD; rw [if_pos hhr, hat, Int.toNat_natCast]
    have hjm : j = m := by
      refine asc_inj (asc_of hw.1) hj (by rw [hw.2.2.2]; exact hm2) ?_
      rw [e, he]
      dsimp only
      rw [getD_setT _ m m _ hm2, if_pos rfl, wakT_f0, (hs m).1, h3]
    subst hjm
    rw [he]
    dsimp only
    rw [getD_setT _ j j _ hm2, if_pos rfl]
    unfold wakT
    rw [if_neg (by rw [(hs j).2.2, hf]; exact Bool.false_ne_true)]
    show r.1.2 ≤ max (tA r.1.1 j).f2 r.1.2
    omega

end Go.Proofs.Ytagggajlpmdpdaa

/-
  Queues: what the laws ask of add, less, next, tick, sleep, wake and run.
-/
import Derived.Test.YtagggajlpmdpdaaQPure3
namespace Go.Proofs.Ytagggajlpmdpdaa
open Go.RowKit

theorem tA_eraseIdx (l : List ETask) (m j : Nat) : tA (l.eraseIdx m) j = if j < m then tA l j else tA l (j + 1) := by
  simp only [tA, List.getD_eq_getElem?_getD, List.getElem?_eraseIdx]
  split <;> rfl
theorem hasB_iff {D : Qu} {id : Int} : hasB D id = true ↔ qB D = true ∧ ∃ m : Nat, atI D.1 id = m ∧ m < D.1.length ∧ (tA D.1 m).f0 = id ∧ noneTo D.1 id m := by
  unfold hasB
  rw [Bool.and_eq_true, decide_eq_true_eq]
  exact ⟨fun h => ⟨h.1, at_lt h.2⟩, fun ⟨h, m, h1, _⟩ => ⟨h, by omega⟩⟩
theorem asc_of {D : Qu} (h : qB D = true) : ∀ k, k < D.1.length → k = 0 ∨ (tA D.1 (k - 1)).f0 < (tA D.1 k).f0 := fun k hk => ((qB_iff.1 h).1 k hk).2
theorem nxtR_cases (D : Qu) : nxtR D = -1 ∨ qB D = true ∧ ∃ m : Nat, NxAt D.1 D.1.length m ∧ nxtR D = (tA D.1 m).f0 := by
  unfold nxtR
  by_cases h : qB D = true
  · rw [if_pos h]
    rcases nxI_cases D.1 with ⟨h1, _⟩ | ⟨m, h1, h2⟩
    · rw [h1]; exact Or.inl (by simp)
    · rw [h1, if_neg (by omega), Int.toNat_natCast]
      exact Or.inr ⟨h, m, h2, rfl⟩
  · rw [if_neg h]; exact Or.inl rfl
theorem nxt_law {D : Qu} (h : 0 ≤ nxtR D) : qB D = true ∧ ∃ m : Nat, m < D.1.length ∧ (tA D.1 m).f3 = true ∧ 0 ≤ (tA D.1 m).f2 ∧ (tA D.1 m).f0 = nxtR D ∧ (∀ j, j < D.1.length → (tA D.1 j).f0 = nxtR D → j = m) ∧ ∀ j, j < D.1.length → (tA D.1 j).f3 = true → (tA D.1 m).f2 ≤ (tA D.1 j).f2 := by
  rcases nxtR_cases D with h1 | ⟨hq, m, hm, he⟩
  · omega
  · refine ⟨hq, m, hm.1, hm.2.1, (tok_iff.1 ((qB_iff.1 hq).1 m hm.1).1).2.2.1.1, he.symm, fun j hj e => ?_, hm.2.2.1⟩
    exact asc_inj (asc_of hq) hj hm.1 (by rw [e, he])
/-- a change of one task that keeps its number -/
theorem qB_set {D : Qu} {m : Nat} {a : ETask} (h : qB D = true) (hm : m < D.1.length) (ha : a.f0 = (tA D.1 m).f0) (ht : tokB a D.2 = true) : qB (D.1.set m a, D.2) = true := by
  obtain ⟨q1, q2, q3, q4⟩ := qB_iff.1 h
  have hid : ∀ j, (tA (D.1.set m a) j).f0 = (tA D.1 j).f0 := fun j => by
    rw [getD_setT _ m j _ hm]; split
    · rename_i e; subst e; exact ha
    · rfl
  refine qB_iff.2 ⟨fun k hk => ?_, by rw [List.length_set]; exact q2, q3, q4⟩
  rw [List.length_set] at hk
  refine ⟨?_, ?_⟩
  · dsimp only
    rw [getD_setT _ m k _ hm]; split
    · exact ht
    · exact (q1 k hk).1
  · dsimp only
    rw [hid k, hid (k - 1)]; exact (q1 k hk).2
theorem at_set {l : List ETask} {m : Nat} {a : ETask} {id : Int} (hm : m < l.length) (hn : noneTo l id m) (ha : a.f0 = id) : atI (l.set m a) id = m := by
  unfold atI
  rw [List.length_set]
  refine at_of (fun j hj => ?_) ?_ hm
  · rw [getD_setT _ m j _ hm, if_neg (by omega)]; exact hn j hj
  · rw [getD_setT _ m m _ hm, if_pos rfl]; exact ha
theorem slp_law {D : Qu} {id : Int} (h : hasB D id = true) : qB (slpD D id) = true ∧ nxtR (slpD D id) ≠ id ∧ (slpD D id).2 = D.2 ∧ hasB (slpD D id) id = true ∧ (slpD D id).1.length = D.1.length ∧ (tA (slpD D id).1 (atI (slpD D id).1 id).toNat).f3 = false := by
  obtain ⟨hq, m, h1, h2, h3, h4⟩ := hasB_iff.1 h
  have he : slpD D id = (D.1.set m (setR (tA D.1 m) false), D.2) := by unfold slpD; rw [if_pos h, h1, Int.toNat_natCast]
  have hm := tok_iff.1 ((qB_iff.1 hq).1 m h2).1
  have hqs : qB (slpD D id) = true := by
    rw [he]
    exact qB_set hq h2 rfl (tok_iff.2 ⟨hm.1, hm.2.1, hm.2.2.1, fun e => by cases e⟩)
  have hat : atI (slpD D id).1 id = m := by rw [he]; exact at_set h2 h4 h3
  have hl : (slpD D id).1.length = D.1.length := by rw [he]; exact List.length_set
  refine ⟨hqs, ?_, by rw [he], hasB_iff.2 ⟨hqs, m, hat, by rw [hl]; exact h2, ?_, ?_⟩, hl, ?_⟩
  · rcases nxtR_cases (slpD D id) with e | ⟨_, j, hj, e⟩
    · rw [e]; omega
    · rw [e]
      intro e2
      have hr := hj.2.1
      have hj1 := hj.1
      rw [hl] at hj1
      have hjm : j = m := by
        rw [he] at e2
        dsimp only at e2
        rw [getD_setT _ m j _ h2] at e2
        split at e2
        · assumption
        · exact asc_inj (asc_of hq) hj1 h2 (by rw [e2, h3])
      subst hjm
      rw [he] at hr
      dsimp only at hr
      rw [getD_setT _ j j _ h2, if_pos rfl] at hr
      cases hr
  · rw [he]
    dsimp only
    rw [getD_setT _ m m _ h2, if_pos rfl]
    exact h3
  · rw [he]
    intro j hj
    dsimp only
    rw [getD_setT _ m j _ h2, if_neg (by omega)]
    exact h4 j hj
  · rw [hat, he, Int.toNat_natCast]
    dsimp only
    rw [getD_setT _ m m _ h2, if_pos rfl]
    rfl
theorem wakT_f0 (t : ETask) (F : Int) : (wakT t F).f0 = t.f0 := by unfold wakT; split <;> rfl
theorem wakT_f3 (t : ETask) (F : Int) : (wakT t F).f3 = true := by unfold wakT; split <;> first | assumption | rfl
theorem wakT_tw (t : ETask) (F : Int) : wakT (wakT t F) F = wakT t F := by
  rw [wakT, if_pos (wakT_f3 t F)]
theorem wak_law {D : Qu} {id : Int} (h : hasB D id = true) : qB (wakD D id) = true ∧ hasB (wakD D id) id = true ∧ wakD (wakD D id) id = wakD D id ∧ (wakD D id).1.length = D.1.length := by
  obtain ⟨hq, m, h1, h2, h3, h4⟩ := hasB_iff.1 h
  have he : wakD D id = (D.1.set m (wakT (tA D.1 m) D.2), D.2) := by unfold wakD; rw [if_pos h, h1, Int.toNat_natCast]
  have hm := tok_iff.1 ((qB_iff.1 hq).1 m h2).1
  have hF := qB_iff.1 hq
  have hqs : qB (wakD D id) = true := by
    rw [he]
    refine qB_set hq h2 (wakT_f0 _ _) (tok_iff.2 ?_)
    unfold wakT
    split
    · exact hm
    · refine ⟨hm.1, hm.2.1, ?_, fun _ => ?_⟩
      · show 0 ≤ max (tA D.1 m).f2 D.2 ∧ max (tA D.1 m).f2 D.2 ≤ 1000000
        omega
      · show D.2 ≤ max (tA D.1 m).f2 D.2
        omega
  have hat : atI (wakD D id).1 id = m := by rw [he]; exact at_set h2 h4 ((wakT_f0 _ _).trans h3)
  have hl : (wakD D id).1.length = D.1.length := by rw [he]; exact List.length_set
  have hh : hasB (wakD D id) id = true := hasB_iff.2 ⟨hqs, m, hat, by rw [hl]; exact h2, by
      rw [he]; dsimp only; rw [getD_setT _ m m _ h2, if_pos rfl]; exact (wakT_f0 _ _).trans h3, by
      rw [he]; intro j hj; dsimp only; rw [getD_setT _ m j _ h2, if_neg (by omega)]; exact h4 j hj⟩
  refine ⟨hqs, hh, ?_, hl⟩
  have he2 : wakD (wakD D id) id = ((wakD D id).1.set m (wakT (tA (wakD D id).1 m) (wakD D id).2), (wakD D id).2) := by
    show (if hasB (wakD D id) id = true then _ else _) = _
    rw [if_pos hh, hat, Int.toNat_natCast]
  rw [he2, he]
  dsimp only
  rw [getD_setT _ m m _ h2, if_pos rfl, wakT_tw, List.set_set]
theorem les_law {D : Qu} {id : Int} (h : hasB D id = true) : qB (lesD D id) = true ∧ nxtR (lesD D id) ≠ id ∧ (lesD D id).1.length + 1 = D.1.length := by
  obtain ⟨hq, m, h1, h2, h3, h4⟩ := hasB_iff.1 h
  obtain ⟨q1, q2, q3, q4⟩ := qB_iff.1 hq
  have he : lesD D id = (D.1.eraseIdx m, D.2) := by unfold lesD; rw [if_pos h, h1, Int.toNat_natCast]
  have hl : (lesD D id).1.length + 1 = D.1.length := by rw [he]; dsimp only; rw [List.length_eraseIdx_of_lt h2]; omega
  have hl2 : (D.1.eraseIdx m).length + 1 = D.1.length := by rw [List.length_eraseIdx_of_lt h2]; omega
  have hqs : qB (lesD D id) = true := by
    rw [he]
    refine qB_iff.2 ⟨fun k hk => ?_, by dsimp only; omega, q3, q4⟩
    dsimp only at hk ⊢
    refine ⟨?_, ?_⟩
    · rw [tA_eraseIdx]; split
      · exact (q1 k (by omega)).1
      · exact (q1 (k + 1) (by omega)).1
    · by_cases k0 : k = 0
      · exact Or.inl k0
      · right
        rw [tA_eraseIdx, tA_eraseIdx]
        split <;> split
        · exact asc_lt (asc_of hq) (by omega) (by omega)
        · exact asc_lt (asc_of hq) (by omega) (by omega)
        · omega
        · exact asc_lt (asc_of hq) (by omega) (by omega)
  refine ⟨hqs, ?_, hl⟩
  rcases nxtR_cases (lesD D id) with e | ⟨_, j, hj, e⟩
  · have := (tok_iff.1 (q1 m h2).1).1
    rw [e]; omega
  · rw [e]
    intro e2
    have hj1 := hj.1
    rw [he] at e2 hj1
    dsimp only at e2 hj1
    rw [tA_eraseIdx] at e2
    split at e2
    · have := asc_inj (asc_of hq) (by omega) h2 (e2.trans h3.symm); omega
    · have := asc_inj (asc_of hq) (by omega) h2 (e2.trans h3.symm); omega
theorem add_at (t : ETask) : ∀ l : List ETask, ∃ p, p ≤ l.length ∧ (∀ j, j < p → (tA l j).f0 ≤ t.f0) ∧ (p < l.length → t.f0 < (tA l p).f0) ∧ (∀ j, tA (addL t l) j = if j < p then tA l j else if j = p then t else tA l (j - 1)) ∧ (addL t l).eraseIdx p = l ∧ (addL t l).length = l.length + 1
  | [] => ⟨0, Nat.le_refl _, fun j h => absurd h (Nat.not_lt_zero j), fun h => absurd h (Nat.lt_irrefl 0), fun j => by cases j <;> simp [addL, tA], rfl, rfl⟩
  | a :: l => by
    by_cases c : t.f0 < a.f0
    · have e : addL t (a :: l) = t :: a :: l := by unfold addL; rw [if_pos c]
      rw [e]
      refine ⟨0, Nat.zero_le _, fun j h => absurd h (Nat.not_lt_zero j), fun _ => c, fun j => ?_, rfl, rfl⟩
      cases j with
      | zero => rfl
      | succ j => rw [if_neg (by omega), if_neg (by omega), Nat.add_sub_cancel]; rfl
    · have e : addL t (a :: l) = a :: addL t l := by rw [addL, if_neg c]
      rw [e]
      obtain ⟨p, h1, h2, h3, h4, h5, h6⟩ := add_at t l
      refine ⟨p + 1, Nat.succ_le_succ h1, fun j hj => ?_, fun h => h3 (Nat.lt_of_succ_lt_succ h), fun j => ?_, ?_, ?_⟩
      · cases j with
        | zero => show a.f0 ≤ t.f0; omega
        | succ j => exact h2 j (by omega)
      · cases j with
        | zero => rw [if_pos (by omega)]; rfl
        | succ j =>
          show tA (addL t l) j = _
          rw [h4 j]
          by_cases c1 : j < p
          · rw [if_pos c1, if_pos (by omega)]; rfl
          · rw [if_neg c1, if_neg (show ¬ j + 1 < p + 1 by omega)]
            by_cases c2 : j = p
            · rw [if_pos c2, if_pos (show j + 1 = p + 1 by omega)]
            · rw [if_neg c2, if_neg (show ¬ j + 1 = p + 1 by omega), Nat.add_sub_cancel]
              obtain ⟨i, rfl⟩ : ∃ i, j = i + 1 := ⟨j - 1, by omega⟩
              rfl
      · show a :: (addL t l).eraseIdx p = a :: l
        rw [h5]
      · show (addL t l).length + 1 = l.length + 1 + 1
        rw [h6]
theorem add_law {D : Qu} {id wt : Int} (h : addB D id wt = true) : qB (addD D id wt) = true ∧ hasB (addD D id wt) id = true ∧ lesD (addD D id wt) id = D := by
  have he : addD D id wt = (addL ⟨id, wt, D.2, true⟩ D.1, D.2) := by unfold addD; rw [if_pos h]
  unfold addB inB at h
  simp only [Bool.and_eq_true, decide_eq_true_eq] at h
  obtain ⟨hq, hat, hlen, hid, hwt⟩ := h
  obtain ⟨q1, q2, q3, q4⟩ := qB_iff.1 hq
  obtain ⟨p, p1, p2, p3, p4, p5, p6⟩ := add_at ⟨id, wt, D.2, true⟩ D.1
  dsimp only at p2 p3
  have hno : ∀ j, j < D.1.length → (tA D.1 j).f0 ≠ id := by
    rcases at_cases D.1 id D.1.length with ⟨_, g⟩ | ⟨k, _, g, _⟩
    · exact g
    · unfold atI at hat; omega
  have hl : (addD D id wt).1.length = D.1.length + 1 := by rw [he]; exact p6
  have hqs : qB (addD D id wt) = true := by
    refine qB_iff.2 ⟨fun k hk => ?_, by rw [hl]; omega, by rw [he]; exact q3, by rw [he]; exact q4⟩
    rw [hl] at hk
    rw [he]
    dsimp only
    refine ⟨?_, ?_⟩
    · rw [p4 k]; split
      · exact (q1 k (by omega)).1
      · split
        · exact tok_iff.2 ⟨hid, hwt, ⟨q3, q4⟩, fun _ => Int.le_refl _⟩
        · exact (q1 (k - 1) (by omega)).1
    · by_cases k0 : k = 0
      · exact Or.inl k0
      · right
        rw [p4 k, p4 (k - 1)]
        by_cases c1 : k < p
        · rw [if_pos c1, if_pos (by omega)]
          exact asc_lt (asc_of hq) (by omega) (by omega)
        · rw [if_neg c1]
          by_cases c2 : k = p
          · rw [if_pos c2, if_pos (by omega)]
            have a := p2 (k - 1) (by omega)
            have b := hno (k - 1) (by omega)
            show _ < id
            omega
          · rw [if_neg c2, if_neg (by omega)]
            by_cases c3 : k - 1 = p
            · rw [if_pos c3]
              subst c3
              exact p3 (by omega)
            · rw [if_neg c3]
              exact asc_lt (asc_of hq) (by omega) (by omega)
  have hnone : noneTo (addD D id wt).1 id p := fun j hj => by
    rw [he]; dsimp only; rw [p4 j, if_pos hj]; exact hno j (by omega)
  have hatp : atI (addD D id wt).1 id = p := at_of hnone (by rw [he]; dsimp only; rw [p4 p, if_neg (by omega), if_pos rfl]) (by rw [hl]; omega)
  have hh : hasB (addD D id wt) id = true := hasB_iff.2 ⟨hqs, p, hatp, by rw [hl]; omega, by rw [he]; dsimp only; rw [p4 p, if_neg (by omega), if_pos rfl], hnone⟩
  refine ⟨hqs, hh, ?_⟩
  unfold lesD
  rw [if_pos hh, hatp, Int.toNat_natCast, he]
  dsimp only
  rw [p5]
theorem tik_law {D : Qu} (h : (tikO D).isSome = true) : qB D = true ∧ qB (tikD D) = true ∧ tikI D = nxtR D ∧ D.2 ≤ (tikD D).2 ∧ (tikD D).1.length = D.1.length ∧
    ∃ m, m < D.1.length ∧ (∀ j, j < D.1.length → ((tA D.1 j).f0 = tikI D ↔ j = m)) ∧ ∀ j, tA (tikD D).1 j = if j = m then setC (tA D.1 m) (tickC (tA D.1 m)) else tA D.1 j := by
  cases hr : tikO D with
  | none => rw [hr] at h; cases h
  | some r =>
    have hd : tikD D = r.1 := by unfold tikD; rw [hr]
    have hi : tikI D = r.2 := by unfold tikI; rw [hr]
    have hq : qB D = true := by
      unfold tikO at hr
      by_cases c : qB D = true
      · exact c
      · rw [if_neg c] at hr; cases hr
    unfold tikO at hr
    rw [if_pos hq] at hr
    have hok := tick_ok hq hr
    obtain ⟨m, m2, h1, h2, h3, rfl⟩ := tickD_some hr
    have hnx : nxtR D = (tA D.1 m).f0 := by
      unfold nxtR
      rw [if_pos hq, nx_of h1, if_neg (by omega), Int.toNat_natCast]
    refine ⟨hq, hd ▸ hok, hi.trans hnx.symm, ?_, ?_, m, h1.1, fun j hj => ?_, fun j => ?_⟩
    · rw [hd]; exact Int.le_max_left _ _
    · rw [hd]; exact List.length_set
    · rw [hi]
      exact ⟨fun e => asc_inj (asc_of hq) hj h1.1 e, fun e => by rw [e]⟩
    · rw [hd]; exact getD_setT _ m j _ h1.1
theorem runQ_some {D : Qu} {n : Int} {r : Qu × List Int} (h : runQ D n = some r) : qB D = true ∧ 0 ≤ n ∧ n ≤ 1000 ∧ runO D n.toNat = some r := by
  unfold runQ inB at h
  by_cases c : (qB D && decide (0 ≤ n ∧ n ≤ 1000)) = true
  · rw [if_pos c] at h
    rw [Bool.and_eq_true, decide_eq_true_eq] at c
    exact ⟨c.1, c.2.1, c.2.2, h⟩
  · rw [if_neg c] at h; cases h
theorem runQ_of {D : Qu} {n : Int} (hq : qB D = true) (h0 : 0 ≤ n) (h1 : n ≤ 1000) : runQ D n = runO D n.toNat := by
  unfold runQ inB
  rw [if_pos (by rw [hq, decide_eq_true (show 0 ≤ n ∧ n ≤ 1000 from ⟨h0, h1⟩)]; rfl)]
theorem run_law {D : Qu} {n k : Int} (h : (runQ D n).isSome = true) (h0 : 0 ≤ k) (h1 : k ≤ n) : (runQ D k).isSome = true ∧ (runQ (runD D k) (n - k)).isSome = true ∧
    runD (runD D k) (n - k) = runD D n ∧ runI D k ++ runI (runD D k) (n - k) = runI D n ∧ ((runI D n).length : Int) = n := by
  cases hr : runQ D n with
  | none => rw [hr] at h; cases h
  | some r =>
    obtain ⟨hq, g0, g1, ho⟩ := runQ_some hr
    obtain ⟨a, rfl⟩ : ∃ a : Nat, k = a := ⟨k.toNat, by omega⟩
    obtain ⟨b, hb⟩ : ∃ b : Nat, n = (a + b : Nat) := ⟨(n - a).toNat, by omega⟩
    subst hb
    have hnk : ((a + b : Nat) : Int) - a = (b : Nat) := by omega
    rw [Int.toNat_natCast] at ho
    cases hs : runO D a with
    | none => rw [run_none hs (show a ≤ a + b by omega)] at ho; cases ho
    | some s =>
      have hsq : runQ D a = some s := by rw [runQ_of hq (by omega) (by omega), Int.toNat_natCast]; exact hs
      have hD : runD D a = s.1 := by unfold runD; rw [hsq]
      have hI : runI D a = s.2 := by unfold runI; rw [hsq]
      have ha := run_add hs b
      rw [ho] at ha
      cases ht : runO s.1 b with
      | none => rw [ht] at ha; cases ha
      | some t =>
        rw [ht] at ha
        dsimp only at ha
        injection ha with ha
        have hqs := (run_ok hq hs).1
        have htq : runQ s.1 ((b : Nat) : Int) = some t := by rw [runQ_of hqs (by omega) (by omega), Int.toNat_natCast]; exact ht
        rw [hnk, hD, hI]
        refine ⟨by rw [hsq]; rfl, by rw [htq]; rfl, ?_, ?_, ?_⟩
        · unfold runD; rw [htq, hr]; dsimp only; rw [ha]
        · unfold runI; rw [htq, hr]; dsimp only; rw [ha]
        · unfold runI; rw [hr]; dsimp only
          rw [(run_ok hq ho).2.1]

end Go.Proofs.Ytagggajlpmdpdaa

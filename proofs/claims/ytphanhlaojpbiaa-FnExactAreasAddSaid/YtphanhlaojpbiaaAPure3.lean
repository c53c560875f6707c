/-
  Pure facts about settings of areas.
-/
import Derived.Test.YtphanhlaojpbiaaAPure2
namespace Go.Proofs.Ytphanhlaojpbiaa
open Go.RowKit

theorem partB_iff {a : Ar} {p q : Int} : partB a p q = true ↔ max a.f p ≤ min (a.f + a.m - 1) q := by
  unfold partB partF partT
  rw [decide_eq_true_eq]
  repeat' split
  all_goals omega
theorem partA_eq {a : Ar} {p q : Int} (h : partB a p q = true) : partA a p q = ⟨max a.f p, min (a.f + a.m - 1) q - max a.f p + 1, a.w, a.s⟩ := by
  unfold partA
  rw [if_pos h]
  have e1 : partF a p = max a.f p := by unfold partF; split <;> omega
  have e2 : partT a q = min (a.f + a.m - 1) q := by unfold partT; split <;> omega
  rw [e1, e2]
theorem set_step (l : List Ar) (p m : Int) (b : Bool) (k : Nat) : setTo l p m b (k + 1) = if partB (l.getD k .z) p (p + m - 1) = true then ins ((partA (l.getD k .z) p (p + m - 1)).setW b) (setTo l p m b k) else setTo l p m b k := by
  rw [setTo, addL_ins]
theorem set_sub (l : List Ar) (p m : Int) (b : Bool) : ∀ n k, k ≤ n → (setTo l p m b k).Sublist (setTo l p m b n)
  | 0, k, h => by obtain rfl : k = 0 := by omega
                  exact List.Sublist.refl _
  | n + 1, k, h => by
    by_cases e : k = n + 1
    · subst e; exact List.Sublist.refl _
    · refine (set_sub l p m b n k (by omega)).trans ?_
      rw [set_step]
      split
      · exact sub_ins _ _
      · exact List.Sublist.refl _
/-- another Write -/
def reW (b : Bool) (o : Option (Bool × Bool)) : Option (Bool × Bool) := o.map fun ws => (b, ws.2)
theorem getD_mem {l : List Ar} {k : Nat} (hk : k < l.length) : l[k]? = some (l.getD k .z) := by simp [List.getD, List.getElem?_eq_getElem hk]
theorem cov_setTo {l : List Ar} {p m c c' : Int} {b : Bool} (h : Asc c l) (hm : 0 ≤ m) (x : Int) : ∀ k, k ≤ l.length → Asc c' (setTo l p m b k) →
    cov (setTo l p m b k) x = if p ≤ x ∧ x < p + m then reW b (cov (l.take k) x) else cov l x
  | 0, _, _ => by rw [setTo, cov_cut h hm]; simp [cov, reW]
  | k + 1, hk, hs => by
    have ih := cov_setTo (c' := c') h hm x k (by omega) (hs.sub (set_sub l p m b (k + 1) k (by omega)))
    have ht : l.take (k + 1) = l.take k ++ [l.getD k .z] := by rw [List.take_add_one, getD_mem (by omega)]; rfl
    have hbef := (show Asc c (l.take k ++ [l.getD k .z]) by rw [← ht]; exact h.sub (List.take_sublist _ _)).before
    rw [set_step] at hs ⊢
    rw [ht, cov_app]
    generalize l.getD k .z = a at hs hbef ⊢
    have hone : hasA a x = true → cov (l.take k) x = none := fun hx => cov_none fun d hd => by
      have := hbef d hd
      rw [hasA_iff] at hx ⊢
      omega
    by_cases hp : partB a p (p + m - 1) = true
    · rw [if_pos hp] at hs ⊢
      rw [cov_ins x hs, ih]
      have e := partA_eq hp
      have hh : hasA ((partA a p (p + m - 1)).setW b) x = true ↔ hasA a x = true ∧ p ≤ x ∧ x < p + m := by
        rw [hasA_iff, hasA_iff, e]
        simp only [Ar.setW]
        omega
      have es : ((partA a p (p + m - 1)).setW b).s = a.s := by rw [e]; rfl
      by_cases hr : p ≤ x ∧ x < p + m
      · rw [if_pos hr, if_pos hr]
        by_cases hx : hasA a x = true
        · rw [if_pos (hh.2 ⟨hx, hr⟩), hone hx, es]
          simp [cov, hx, reW, Ar.setW]
        · rw [if_neg (fun g => hx (hh.1 g).1)]
          simp [cov, hx]
      · rw [if_neg hr, if_neg hr, if_neg (fun g => hr (hh.1 g).2)]
    · rw [if_neg hp] at hs ⊢
      rw [ih]
      by_cases hr : p ≤ x ∧ x < p + m
      · rw [if_pos hr, if_pos hr]
        have hx : ¬ hasA a x = true := fun g => hp (by rw [partB_iff]; rw [hasA_iff] at g; omega)
        simp [cov, hx]
      · rw [if_neg hr, if_neg hr]
/-- what kind of area a page is in behind AreasSet -/
theorem cov_set {l : List Ar} {p m c c' : Int} {b : Bool} (h : Asc c l) (hm : 0 ≤ m) (hs : Asc c' (setTo l p m b l.length)) (x : Int) :
    cov (setTo l p m b l.length) x = if p ≤ x ∧ x < p + m then reW b (cov l x) else cov l x := by
  rw [cov_setTo h hm x l.length (Nat.le_refl _) hs, List.take_length]

/-- of so many pages from one on, how many are in an area -/
def cntR (l : List Ar) (p : Int) : Nat → Int
  | 0 => 0
  | k + 1 => cntR l p k + if (cov l (p + k)).isSome = true then 1 else 0
theorem cntR_le (l : List Ar) (p : Int) : ∀ k : Nat, cntR l p k ≤ k
  | 0 => by simp [cntR]
  | k + 1 => by
    have ih := cntR_le l p k
    simp only [cntR]
    split <;> omega
theorem cntR_all {l : List Ar} {p : Int} : ∀ {k : Nat}, cntR l p k = k → ∀ j : Nat, j < k → (cov l (p + j)).isSome = true
  | 0, _, j, hj => absurd hj (Nat.not_lt_zero j)
  | k + 1, h, j, hj => by
    have h1 := cntR_le l p k
    simp only [cntR] at h
    by_cases hc : (cov l (p + k)).isSome = true
    · rw [if_pos hc] at h
      by_cases e : j = k
      · subst e; exact hc
      · exact cntR_all (k := k) (by omega) j (by omega)
    · rw [if_neg hc] at h
      omega
theorem cntR_snoc {l : List Ar} {a : Ar} {c p : Int} (h : Asc c (l ++ [a])) : ∀ k : Nat, cntR (l ++ [a]) p k = cntR l p k + (if min (a.f + a.m) (p + k) ≤ max a.f p then 0 else min (a.f + a.m) (p + k) - max a.f p)
  | 0 => by simp only [cntR]; rw [if_pos (by omega)]; rfl
  | k + 1 => by
    have ih := cntR_snoc h (p := p) k
    have h1 := okA_parts (h.mem a (by simp)).1
    simp only [cntR, ih]
    rw [cov_app]
    by_cases hx : hasA a (p + k) = true
    · have e1 : cov l (p + k) = none := cov_none fun d hd => by
        have := h.before d hd
        rw [hasA_iff] at hx ⊢
        omega
      rw [e1]
      have e2 : cov [a] (p + k) = some (a.w, a.s) := by simp only [cov, if_pos hx]
      rw [e2]
      rw [hasA_iff] at hx
      simp only [Option.none_or, Option.isSome_some, Option.isSome_none, if_true, Bool.false_eq_true, if_false]
      repeat' split
      all_goals omega
    · have e2 : cov [a] (p + k) = none := by simp only [cov, if_neg hx]
      rw [e2]
      rw [hasA_iff] at hx
      simp only [Option.or_none]
      repeat' split
      all_goals omega
theorem setCnt_cnt {l : List Ar} {p m c : Int} (h : Asc c l) (hm : 0 ≤ m) : ∀ k, k ≤ l.length → setCnt l p m k = cntR (l.take k) p m.toNat
  | 0, _ => by
    have e : ∀ j, cntR [] p j = 0 := fun j => by
      induction j with
      | zero => rfl
      | succ j ih => simp [cntR, ih, cov]
    rw [List.take_zero, e]
    rfl
  | k + 1, hk => by
    have ih := setCnt_cnt h hm (p := p) k (by omega)
    have ht : l.take (k + 1) = l.take k ++ [l.getD k .z] := by rw [List.take_add_one, getD_mem (by omega)]; rfl
    have ha : Asc c (l.take k ++ [l.getD k .z]) := by rw [← ht]; exact h.sub (List.take_sublist _ _)
    rw [ht, cntR_snoc ha, setCnt, ih]
    generalize l.getD k .z = a
    by_cases hp : partB a p (p + m - 1) = true
    · rw [if_pos hp, partA_eq hp]
      rw [partB_iff] at hp
      rw [if_neg (by omega)]
      simp only
      omega
    · rw [if_neg hp]
      rw [partB_iff] at hp
      rw [if_pos (by omega)]
      omega
/-- each page that is set is in an area -/
theorem set_all {l : List Ar} {p m c : Int} (h : Asc c l) (hm : 0 ≤ m) (hc : setCnt l p m l.length = m) (x : Int) (h1 : p ≤ x) (h2 : x < p + m) : (cov l x).isSome = true := by
  rw [setCnt_cnt h hm l.length (Nat.le_refl _), List.take_length] at hc
  have h3 := cntR_all (l := l) (p := p) (k := m.toNat) (by omega) (x - p).toNat (by omega)
  have e : p + ((x - p).toNat : Int) = x := by omega
  rwa [e] at h3
theorem reW_some (b : Bool) (o : Option (Bool × Bool)) : (reW b o).isSome = o.isSome := by cases o <;> rfl

/-! ## what the laws ask -/
theorem cutB_parts {l : List Ar} {p m : Int} (h : cutB l p m = true) : okL l = true ∧ 1 ≤ m ∧ 0 ≤ p ∧ p + m ≤ 16 ∧ okL (cutL l p m) = true ∧ cutR l p m = cutL l p m := by
  have h0 := h
  unfold cutB at h
  rw [Bool.and_eq_true, Bool.and_eq_true] at h
  have h1 := okA_parts h.2.1
  simp only at h1
  exact ⟨h.1, by omega, by omega, by omega, h.2.2, by unfold cutR; rw [if_pos h0]⟩
theorem addB_parts {l : List Ar} {a : Ar} (h : addB l a = true) : okL l = true ∧ okA a = true ∧ okL (addL l a) = true ∧ addR l a = addL l a := by
  have h0 := h
  unfold addB at h
  rw [Bool.and_eq_true, Bool.and_eq_true] at h
  exact ⟨h.1, h.2.1, h.2.2, by unfold addR; rw [if_pos h0]⟩
theorem setsB_parts {l : List Ar} {p m : Int} {b : Bool} (h : setsB l p m b = true) : cutB l p m = true ∧ setCnt l p m l.length = m ∧ okL (setTo l p m b l.length) = true ∧ setsR l p m b = setTo l p m b l.length := by
  have h0 := h
  unfold setsB at h
  rw [Bool.and_eq_true, Bool.and_eq_true, decide_eq_true_eq] at h
  exact ⟨h.1, h.2.1, h.2.2, by unfold setsR; rw [if_pos h0]⟩
/-- AreasAdd: so many pages more, and it can be cut out again -/
theorem law_add {l : List Ar} {a : Ar} (h : addB l a = true) : okL (addR l a) = true ∧ pagesV (addR l a) = pagesV l + a.m ∧ cutB (addR l a) a.f a.m = true ∧ cutR (addR l a) a.f a.m = l := by
  obtain ⟨h1, h2, h3, h4⟩ := addB_parts h
  have e := cut_add (okL_iff.1 h3).1
  rw [h4]
  have h5 : cutB (addL l a) a.f a.m = true := by
    unfold cutB
    rw [h3, e, h1]
    have : okA ⟨a.f, a.m, false, false⟩ = true := h2
    rw [this]; rfl
  refine ⟨h3, ?_, h5, ?_⟩
  · rw [pages_sum, pages_sum, if_pos h3, if_pos h1, addL_ins, sumM_ins]
    omega
  · unfold cutR
    rw [if_pos h5, e]
/-- AreasCut: what a page is in behind it -/
theorem law_cut {l : List Ar} {p m : Int} (h : cutB l p m = true) (x : Int) : cov (cutR l p m) x = if p ≤ x ∧ x < p + m then none else cov l x := by
  obtain ⟨h1, h2, _, _, h5, h6⟩ := cutB_parts h
  rw [h6, cov_cut (okL_iff.1 h1).1 (by omega)]
theorem law_set {l : List Ar} {p m : Int} {b : Bool} (h : setsB l p m b = true) (x : Int) : cov (setsR l p m b) x = if p ≤ x ∧ x < p + m then reW b (cov l x) else cov l x := by
  obtain ⟨h1, h2, h3, h4⟩ := setsB_parts h
  obtain ⟨g1, g2, _, _, _, _⟩ := cutB_parts h1
  rw [h4, cov_set (okL_iff.1 g1).1 (by omega) (okL_iff.1 h3).1]
theorem law_set_all {l : List Ar} {p m : Int} {b : Bool} (h : setsB l p m b = true) (x : Int) (h1 : p ≤ x) (h2 : x < p + m) : (cov l x).isSome = true := by
  obtain ⟨g1, g2, g3, g4⟩ := setsB_parts h
  obtain ⟨f1, f2, _, _, _, _⟩ := cutB_parts g1
  exact set_all (okL_iff.1 f1).1 (by omega) g2 x h1 h2
theorem law_set_pages {l : List Ar} {p m : Int} {b : Bool} (h : setsB l p m b = true) : pagesV (setsR l p m b) = pagesV l := by
  obtain ⟨g1, g2, g3, g4⟩ := setsB_parts h
  obtain ⟨f1, _, _, _, _, _⟩ := cutB_parts g1
  have hc := law_set h
  rw [g4] at hc ⊢
  rw [pages_sum, pages_sum, if_pos g3, if_pos f1]
  refine sum_same (okL_iff.1 g3).1 (okL_iff.1 f1).1 fun x => ?_
  rw [hc]
  split
  · exact reW_some b _
  · rfl
theorem law_order {l : List Ar} {p m p' m' : Int} (h : cutB l p m = true) (h1 : cutB (cutR l p m) p' m' = true) (h2 : cutB l p' m' = true) (h3 : cutB (cutR l p' m') p m = true) :
    cutR (cutR l p m) p' m' = cutR (cutR l p' m') p m := by
  obtain ⟨a1, a2, _, _, a5, a6⟩ := cutB_parts h
  obtain ⟨b1, b2, _, _, b5, b6⟩ := cutB_parts h1
  obtain ⟨c1, c2, _, _, c5, c6⟩ := cutB_parts h2
  obtain ⟨d1, d2, _, _, d5, d6⟩ := cutB_parts h3
  rw [b6, d6, a6, c6]
  exact cut_comm (okL_iff.1 a1).1 (okL_iff.1 a5).1 (okL_iff.1 c5).1 (by omega) (by omega)
theorem law_last {l : List Ar} {p m : Int} {b b' : Bool} (h : setsB l p m b = true) (h1 : setsB (setsR l p m b) p m b' = true) (h2 : setsB l p m b' = true) (x : Int) :
    cov (setsR (setsR l p m b) p m b') x = cov (setsR l p m b') x := by
  rw [law_set h1, law_set h, law_set h2]
  by_cases hr : p ≤ x ∧ x < p + m
  · simp only [if_pos hr]
    cases cov l x <;> rfl
  · simp only [if_neg hr]
theorem law_pages {l : List Ar} (h : okL l = true) : pagesV l = cntTo l 16 := by
  rw [pages_sum, if_pos h, cnt_sum (okL_iff.1 h).1]
end Go.Proofs.Ytphanhlaojpbiaa

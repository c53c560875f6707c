/-
  Pure facts: what the program's way of adding, cutting and setting areas has to do with the model's.
-/
import Derived.Test.YtphanhlaojpbiaaAI2
namespace Go.Proofs.Ytphanhlaojpbiaa
open Go.RowKit

theorem cntW_le (P : Ar → Bool) : ∀ l : List Ar, cntW P l ≤ l.length
  | [] => Nat.le_refl _
  | a :: l => by
    unfold cntW
    split
    · have := cntW_le P l; simp only [List.length_cons]; omega
    · exact Nat.zero_le _
theorem cntW_lt {P : Ar → Bool} : ∀ {l : List Ar} {j : Nat}, j < cntW P l → P (l.getD j .z) = true
  | [], j, h => absurd h (Nat.not_lt_zero j)
  | a :: l, j, h => by
    unfold cntW at h
    split at h
    · cases j with
      | zero => simpa using ‹P a = true›
      | succ j => simpa using cntW_lt (l := l) (j := j) (by omega)
    · exact absurd h (Nat.not_lt_zero j)
theorem cntW_at {P : Ar → Bool} : ∀ {l : List Ar}, cntW P l < l.length → P (l.getD (cntW P l) .z) = false
  | [], h => absurd h (Nat.not_lt_zero _)
  | a :: l, h => by
    unfold cntW at h ⊢
    split
    · rename_i hp
      rw [if_pos hp] at h
      simpa using cntW_at (l := l) (by simpa using h)
    · rename_i hp
      simpa using hp

theorem ahead_cons (a : Ar) (l : List Ar) (x : Int) : aheadN (a :: l) x = if a.f + a.m ≤ x then aheadN l x + 1 else 0 := by
  unfold aheadN
  simp only [cntW, aheadP, decide_eq_true_eq]
theorem among_cons (a : Ar) (l : List Ar) (y : Int) : amongN (a :: l) y = if a.f < y then amongN l y + 1 else 0 := by
  unfold amongN
  simp only [cntW, amongP, decide_eq_true_eq]

theorem ins_mid {a : Ar} (ha : okA a = true) : ∀ {l : List Ar} {b : Int}, Asc b l → b ≤ a.f → aheadN l a.f = amongN l (a.f + a.m) → ins a l = l.take (aheadN l a.f) ++ a :: l.drop (aheadN l a.f) ∧ Asc b (ins a l)
  | [], b, _, hb, _ => ⟨rfl, ha, hb, trivial⟩
  | d :: l, b, h, hb, he => by
    have hd := okA_parts h.1
    have haa := okA_parts ha
    rw [ahead_cons, among_cons] at he
    rw [ahead_cons]
    by_cases h1 : d.f + d.m ≤ a.f
    · have h2 : d.f < a.f + a.m := by omega
      rw [if_pos h1, if_pos h2] at he
      have ih := ins_mid ha h.2.2 h1 (by omega)
      have h3 : ¬ a.f ≤ d.f := by omega
      rw [if_pos h1]
      unfold ins
      rw [if_neg h3]
      exact ⟨by rw [ih.1]; rfl, h.1, h.2.1, ih.2⟩
    · rw [if_neg h1] at he
      have h2 : ¬ d.f < a.f + a.m := fun h2 => by rw [if_pos h2] at he; omega
      have h3 : a.f ≤ d.f := by omega
      rw [if_neg h1]
      unfold ins
      rw [if_pos h3]
      exact ⟨rfl, ha, hb, h.1, by omega, h.2.2⟩
theorem add_bad {l : List Ar} {a : Ar} (hij : aheadN l a.f < amongN l (a.f + a.m)) : okL (addL l a) = false := by
  rw [← Bool.not_eq_true]
  intro h
  rw [addL_ins, okL_iff] at h
  have hlt : aheadN l a.f < l.length := Nat.lt_of_lt_of_le hij (cntW_le _ _)
  have h1 : decide ((l.getD (aheadN l a.f) .z).f + (l.getD (aheadN l a.f) .z).m ≤ a.f) = false := cntW_at (P := aheadP a.f) hlt
  have h2 : decide ((l.getD (aheadN l a.f) .z).f < a.f + a.m) = true := cntW_lt (P := amongP (a.f + a.m)) hij
  have h3 := ins_apart h.1 _ (List.mem_of_getElem? (getD_mem hlt))
  rw [decide_eq_false_iff_not] at h1
  rw [decide_eq_true_eq] at h2
  omega
theorem add_good {l : List Ar} {a : Ar} (hok : okL l = true) (ha : okA a = true) (hl : l.length < 6) (hij : aheadN l a.f = amongN l (a.f + a.m)) :
    addB l a = true ∧ addR l a = l.take (aheadN l a.f) ++ [a] ++ l.drop (aheadN l a.f) := by
  have h1 := okL_iff.1 hok
  have haa := okA_parts ha
  obtain ⟨h2, h3⟩ := ins_mid ha h1.1 (by omega) hij
  have h4 : okL (addL l a) = true := by rw [addL_ins, okL_iff]; exact ⟨h3, by rw [← addL_ins, addL_len]; omega⟩
  have h5 : addB l a = true := by unfold addB; rw [hok, ha, h4]; rfl
  refine ⟨h5, ?_⟩
  unfold addR
  rw [if_pos h5, addL_ins, h2, List.append_assoc]
  rfl
theorem add_full {l : List Ar} {a : Ar} (hl : l.length = 6) : addB l a = false := by
  have : okL (addL l a) = false := by unfold okL; rw [addL_len, hl, decide_eq_false (by omega), Bool.and_false]
  unfold addB
  rw [this, Bool.and_false, Bool.and_false]
theorem addB_no {l : List Ar} {a : Ar} (h : addB l a = false) : addR l a = [] := by unfold addR; rw [if_neg (by rw [h]; exact Bool.false_ne_true)]
theorem cutB_no {l : List Ar} {p m : Int} (h : cutB l p m = false) : cutR l p m = [] := by unfold cutR; rw [if_neg (by rw [h]; exact Bool.false_ne_true)]
theorem setsB_no {l : List Ar} {p m : Int} {b : Bool} (h : setsB l p m b = false) : setsR l p m b = [] := by unfold setsR; rw [if_neg (by rw [h]; exact Bool.false_ne_true)]

/-! ## cuts -/
/-- the parts of an area as the program makes them -/
def cutI (a : Ar) (p e : Int) : List Ar := (if okA (partI a 0 p) = true then [partI a 0 p] else []) ++ (if okA (partI a e 16) = true then [partI a e 16] else [])
theorem okA_iff {a : Ar} : okA a = true ↔ 0 ≤ a.f ∧ 1 ≤ a.m ∧ a.f + a.m ≤ 16 := by
  unfold okA inB
  rw [Bool.and_eq_true, decide_eq_true_eq, decide_eq_true_eq]
  omega
theorem cutI_eq {a : Ar} {p e : Int} (ha : okA a = true) (hp : 0 ≤ p) (he : p ≤ e) (he2 : e ≤ 16) : cutI a p e = cutE a p e := by
  have h := okA_parts ha
  unfold cutI cutE
  congr 1
  · by_cases h1 : a.f < p
    · rw [if_pos h1, if_pos (by rw [okA_iff]; simp only [partI]; omega)]
      unfold partI
      congr 2
      · omega
      · split <;> omega
    · rw [if_neg h1, if_neg (by rw [okA_iff]; simp only [partI]; omega)]
  · by_cases h1 : e < a.f + a.m
    · rw [if_pos h1, if_pos (by rw [okA_iff]; simp only [partI]; omega)]
      unfold partI
      congr 2
      · split <;> omega
      · split <;> omega
    · rw [if_neg h1, if_neg (by rw [okA_iff]; simp only [partI]; omega)]
theorem cutE_ahead {a : Ar} {p e : Int} (ha : okA a = true) (h : a.f + a.m ≤ p) (he : p ≤ e) : cutE a p e = [a] := by
  have h1 := okA_parts ha
  have g1 : a.f < p := by omega
  have g2 : ¬ e < a.f + a.m := by omega
  unfold cutE
  rw [if_pos g1, if_neg g2, if_pos h]
  rfl
theorem cutE_behind {a : Ar} {p e : Int} (ha : okA a = true) (h : e ≤ a.f) (he : p ≤ e) : cutE a p e = [a] := by
  have h1 := okA_parts ha
  unfold cutE
  have g1 : ¬ a.f < p := by omega
  have g2 : e < a.f + a.m := by omega
  rw [if_neg g1, if_pos g2, if_pos h, if_pos h]
  rfl
/-- what the first k areas have left -/
def cutK (l : List Ar) (p e : Int) (k : Nat) : List Ar := (l.take k).flatMap fun a => cutE a p e
theorem cutK_step {l : List Ar} {p e : Int} {k : Nat} (hk : k < l.length) : cutK l p e (k + 1) = cutK l p e k ++ cutE (l.getD k .z) p e := by
  unfold cutK
  rw [List.take_add_one, getD_mem hk, List.flatMap_append]
  simp
theorem flatMap_one {f : Ar → List Ar} : ∀ {l : List Ar}, (∀ a ∈ l, f a = [a]) → l.flatMap f = l
  | [], _ => rfl
  | a :: l, h => by rw [List.flatMap_cons, h a (by simp), flatMap_one fun c hc => h c (by simp [hc])]; rfl
theorem mem_take {l : List Ar} {n : Nat} {a : Ar} (h : a ∈ l.take n) : ∃ k, k < n ∧ k < l.length ∧ a = l.getD k .z := by
  obtain ⟨k, hk⟩ := List.mem_iff_getElem?.1 h
  obtain ⟨hlt, e⟩ := List.getElem?_eq_some_iff.1 hk
  rw [List.length_take] at hlt
  refine ⟨k, by omega, by omega, ?_⟩
  rw [← e, List.getElem_take]
  simp [List.getD_eq_getElem?_getD, List.getElem?_eq_getElem (show k < l.length by omega)]
theorem mem_drop {l : List Ar} {n : Nat} {a : Ar} (h : a ∈ l.drop n) : ∃ k, n ≤ k ∧ k < l.length ∧ a = l.getD k .z := by
  obtain ⟨k, hk⟩ := List.mem_iff_getElem?.1 h
  rw [List.getElem?_drop] at hk
  obtain ⟨hlt, e⟩ := List.getElem?_eq_some_iff.1 hk
  refine ⟨n + k, by omega, hlt, ?_⟩
  rw [← e]
  simp [List.getD_eq_getElem?_getD, List.getElem?_eq_getElem hlt]
theorem asc_getD {l : List Ar} {b : Int} (h : Asc b l) : ∀ {j k : Nat}, j ≤ k → k < l.length → (l.getD j .z).f ≤ (l.getD k .z).f := by
  intro j k hjk hk
  induction k with
  | zero => obtain rfl : j = 0 := by omega
            exact Int.le_refl _
  | succ k ih =>
    by_cases e : j = k + 1
    · subst e; exact Int.le_refl _
    · have h1 := ih (by omega) (by omega)
      have h2 := (of_asc l b h).1 (k + 1) hk
      have h3 := okA_parts ((of_asc l b h).1 k (by omega)).1
      rcases h2.2 with h4 | h4
      · omega
      · simp only [Nat.add_sub_cancel] at h4
        omega
theorem behind_le {l : List Ar} {b y : Int} (h : Asc b l) {k : Nat} (h1 : amongN l y ≤ k) (hk : k < l.length) : y ≤ (l.getD k .z).f := by
  have h2 : decide ((l.getD (amongN l y) .z).f < y) = false := cntW_at (P := amongP y) (show amongN l y < l.length by omega)
  rw [decide_eq_false_iff_not] at h2
  have := asc_getD h h1 hk
  omega
theorem ahead_le {l : List Ar} {x : Int} {k : Nat} (h1 : k < aheadN l x) : (l.getD k .z).f + (l.getD k .z).m ≤ x := of_decide_eq_true (cntW_lt (P := aheadP x) h1)
theorem cutK_zero {l : List Ar} {p e : Int} (hok : okL l = true) (he : p ≤ e) : cutK l p e (aheadN l p) = l.take (aheadN l p) :=
  flatMap_one fun a ha => by
    obtain ⟨k, hk, hk2, rfl⟩ := mem_take ha
    exact cutE_ahead ((okL_iff.1 hok).1.mem _ (List.mem_of_getElem? (getD_mem hk2))).1 (ahead_le hk) he
theorem cutK_end {l : List Ar} {p m : Int} (hok : okL l = true) (hm : 0 ≤ m) : cutK l p (p + m) (amongN l (p + m)) ++ l.drop (amongN l (p + m)) = cutL l p m := by
  rw [cutL_flat (okL_iff.1 hok).1]
  unfold cutK
  have e1 : (l.drop (amongN l (p + m))).flatMap (fun a => cutE a p (p + m)) = l.drop (amongN l (p + m)) := flatMap_one fun a ha => by
    obtain ⟨k, hk, hk2, rfl⟩ := mem_drop ha
    exact cutE_behind ((okL_iff.1 hok).1.mem _ (List.mem_of_getElem? (getD_mem hk2))).1 (behind_le (okL_iff.1 hok).1 hk hk2) (by omega)
  rw [← e1, ← List.flatMap_append, List.take_append_drop]
theorem cutK_len (l : List Ar) (p e : Int) : ∀ k, (cutK l p e k).length ≤ 2 * k
  | 0 => by simp [cutK]
  | k + 1 => by
    have ih := cutK_len l p e k
    by_cases hk : k < l.length
    · rw [cutK_step hk, List.length_append]
      have : (cutE (l.getD k .z) p e).length ≤ 2 := by
        unfold cutE
        rw [List.length_append]
        have h1 : ∀ (c : Prop) [Decidable c] (x : Ar), (if c then [x] else []).length ≤ 1 := fun c _ x => by split <;> simp
        exact Nat.add_le_add (h1 _ _) (h1 _ _)
      omega
    · have e1 : cutK l p e (k + 1) = cutK l p e k := by unfold cutK; rw [List.take_of_length_le (by omega), List.take_of_length_le (by omega)]
      rw [e1]; omega
theorem asc_cutE {a : Ar} {p e b : Int} {r : List Ar} (ha : okA a = true) (hb : b ≤ a.f) (he : p ≤ e) (hr : Asc (a.f + a.m) r) : Asc b (cutE a p e ++ r) := by
  have h := okA_parts ha
  have hc := fun c hc => okA_cutE (a := a) (c := c) (p := p) (e := e) ha hc
  unfold cutE at hc ⊢
  by_cases h1 : a.f < p
  · by_cases h2 : e < a.f + a.m
    · rw [if_pos h1, if_pos h2] at hc ⊢
      have g1 : ¬ a.f + a.m ≤ p := by omega
      rw [if_neg g1] at hc ⊢
      have g2 : ¬ e ≤ a.f := by omega
      rw [if_neg g2, if_neg g2] at hc ⊢
      refine ⟨hc _ (by simp), hb, hc _ (by simp), ?_, hr.low ?_⟩
      · simp only; omega
      · simp only; omega
    · rw [if_pos h1, if_neg h2] at hc ⊢
      refine ⟨hc _ (by simp), hb, hr.low ?_⟩
      simp only
      split <;> omega
  · by_cases h2 : e < a.f + a.m
    · rw [if_neg h1, if_pos h2] at hc ⊢
      refine ⟨hc _ (by simp), ?_, hr.low ?_⟩
      · simp only; split <;> omega
      · simp only; split <;> omega
    · rw [if_neg h1, if_neg h2] at hc ⊢
      exact hr.low (by omega)
theorem asc_cutL {p e : Int} (he : p ≤ e) : ∀ {l : List Ar} {b : Int}, Asc b l → Asc b (l.flatMap fun a => cutE a p e)
  | [], _, _ => trivial
  | a :: l, b, h => by
    rw [List.flatMap_cons]
    exact asc_cutE h.1 h.2.1 he (asc_cutL he h.2.2)
theorem cut_ok {l : List Ar} {p m : Int} (hok : okL l = true) (hm : 0 ≤ m) : okL (cutL l p m) = decide ((cutL l p m).length ≤ 6) := by
  have h1 : Asc 0 (cutL l p m) := by rw [cutL_flat (okL_iff.1 hok).1]; exact asc_cutL (by omega) (okL_iff.1 hok).1
  by_cases h : (cutL l p m).length ≤ 6
  · rw [decide_eq_true h, okL_iff]; exact ⟨h1, h⟩
  · rw [decide_eq_false h, ← Bool.not_eq_true, okL_iff]; exact fun g => h g.2

/-! ## settings -/
theorem part_among {a : Ar} {p m : Int} (ha : okA a = true) (h1 : ¬ a.f + a.m ≤ p) (h2 : a.f < p + m) (hm : 1 ≤ m) : partB a p (p + m - 1) = true ∧ partA a p (p + m - 1) = partI a p (p + m) := by
  have h := okA_parts ha
  have e : partB a p (p + m - 1) = true := by rw [partB_iff]; omega
  refine ⟨e, ?_⟩
  rw [partA_eq e]
  unfold partI
  congr 1
  omega
theorem part_not {a : Ar} {p m : Int} (ha : okA a = true) (h : a.f + a.m ≤ p ∨ p + m ≤ a.f) : partB a p (p + m - 1) = false := by
  have h1 := okA_parts ha
  rw [← Bool.not_eq_true, partB_iff]
  omega
theorem not_ahead {l : List Ar} {b x : Int} (h : Asc b l) {k : Nat} (h1 : aheadN l x ≤ k) (hk : k < l.length) : ¬ (l.getD k .z).f + (l.getD k .z).m ≤ x := by
  have h2 : decide ((l.getD (aheadN l x) .z).f + (l.getD (aheadN l x) .z).m ≤ x) = false := cntW_at (P := aheadP x) (show aheadN l x < l.length by omega)
  rw [decide_eq_false_iff_not] at h2
  by_cases e : k = aheadN l x
  · rw [e]; exact h2
  · have h3 := asc_getD h (j := aheadN l x + 1) (k := k) (by omega) hk
    have h4 := (of_asc l b h).1 (aheadN l x + 1) (by omega)
    have h5 := okA_parts ((of_asc l b h).1 k hk).1
    rcases h4.2 with h6 | h6
    · omega
    · simp only [Nat.add_sub_cancel] at h6
      omega
theorem set_ahead {l : List Ar} {p m : Int} {b : Bool} (hok : okL l = true) : ∀ k, k ≤ aheadN l p → setTo l p m b k = cutL l p m ∧ setCnt l p m k = 0
  | 0, _ => ⟨rfl, rfl⟩
  | k + 1, hk => by
    have ih := set_ahead (p := p) (m := m) (b := b) hok k (by omega)
    have hlt : k < l.length := Nat.lt_of_lt_of_le hk (cntW_le _ _)
    have hb := part_not (m := m) ((okL_iff.1 hok).1.mem _ (List.mem_of_getElem? (getD_mem hlt))).1 (Or.inl (ahead_le hk))
    rw [setTo, setCnt, hb]
    exact ih
theorem set_behind {l : List Ar} {p m : Int} {b : Bool} (hok : okL l = true) : ∀ k, amongN l (p + m) + k ≤ l.length → setTo l p m b (amongN l (p + m) + k) = setTo l p m b (amongN l (p + m)) ∧ setCnt l p m (amongN l (p + m) + k) = setCnt l p m (amongN l (p + m))
  | 0, _ => ⟨rfl, rfl⟩
  | k + 1, hk => by
    have ih := set_behind (p := p) (m := m) (b := b) hok k (by omega)
    have hlt : amongN l (p + m) + k < l.length := by omega
    have hb := part_not (p := p) (m := m) ((okL_iff.1 hok).1.mem _ (List.mem_of_getElem? (getD_mem hlt))).1 (Or.inr (behind_le (okL_iff.1 hok).1 (by omega) hlt))
    rw [← Nat.add_assoc, setTo, setCnt, hb]
    exact ih
theorem set_end {l : List Ar} {p m : Int} {b : Bool} (hok : okL l = true) : setTo l p m b l.length = setTo l p m b (amongN l (p + m)) ∧ setCnt l p m l.length = setCnt l p m (amongN l (p + m)) := by
  have h := set_behind (m := m) (p := p) (b := b) hok (l.length - amongN l (p + m)) (by have := cntW_le (amongP (p + m)) l; unfold amongN; omega)
  have e : amongN l (p + m) + (l.length - amongN l (p + m)) = l.length := by have := cntW_le (amongP (p + m)) l; unfold amongN; omega
  rwa [e] at h
theorem okL_sub {l l' : List Ar} (h : l.Sublist l') (hok : okL l' = true) : okL l = true := by
  rw [okL_iff] at hok ⊢
  exact ⟨hok.1.sub h, Nat.le_trans h.length_le hok.2⟩
/-- one step among those that are set -/
theorem set_among {l : List Ar} {p m : Int} {b : Bool} (hok : okL l = true) (hm : 1 ≤ m) {k : Nat} (h1 : aheadN l p ≤ k) (h2 : k < amongN l (p + m)) :
    setTo l p m b (k + 1) = addL (setTo l p m b k) ((partI (l.getD k .z) p (p + m)).setW b) ∧ setCnt l p m (k + 1) = setCnt l p m k + (partI (l.getD k .z) p (p + m)).m := by
  have hlt : k < l.length := Nat.lt_of_lt_of_le h2 (cntW_le _ _)
  have ha := ((okL_iff.1 hok).1.mem _ (List.mem_of_getElem? (getD_mem hlt))).1
  have h3 : (l.getD k .z).f < p + m := of_decide_eq_true (cntW_lt (P := amongP (p + m)) h2)
  have hp := part_among ha (not_ahead (okL_iff.1 hok).1 h1 hlt) h3 hm
  rw [setTo, setCnt, if_pos hp.1, if_pos hp.1, hp.2]
  exact ⟨rfl, rfl⟩
theorem part_ok {l : List Ar} {p m : Int} (hok : okL l = true) (hm : 1 ≤ m) (hp : 0 ≤ p) (hpm : p + m ≤ 16) {k : Nat} (h1 : aheadN l p ≤ k) (h2 : k < amongN l (p + m)) (b : Bool) : okA ((partI (l.getD k .z) p (p + m)).setW b) = true := by
  have hlt : k < l.length := Nat.lt_of_lt_of_le h2 (cntW_le _ _)
  have ha := okA_parts ((okL_iff.1 hok).1.mem _ (List.mem_of_getElem? (getD_mem hlt))).1
  have h3 : (l.getD k .z).f < p + m := of_decide_eq_true (cntW_lt (P := amongP (p + m)) h2)
  have h4 := not_ahead (okL_iff.1 hok).1 h1 hlt
  rw [okA_iff]
  simp only [partI, Ar.setW]
  omega
theorem sets_bad {l : List Ar} {p m : Int} {b : Bool} {k : Nat} (hk : k ≤ l.length) (h : okL (setTo l p m b k) = false) : setsB l p m b = false := by
  have : okL (setTo l p m b l.length) = false := by
    rw [← Bool.not_eq_true]
    intro g
    rw [okL_sub (set_sub l p m b l.length k hk) g] at h
    cases h
  unfold setsB
  rw [this, Bool.and_false, Bool.and_false]
end Go.Proofs.Ytphanhlaojpbiaa

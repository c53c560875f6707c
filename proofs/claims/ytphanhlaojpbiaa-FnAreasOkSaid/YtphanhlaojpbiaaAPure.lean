/-
  Pure facts about areas: ascending lists, what a page is in, sums of pages.
-/
import Derived.Test.YtphanhlaojpbiaaASset
import Derived.Test.YtphanhlaojpbiaaAPages
namespace Go.Proofs.Ytphanhlaojpbiaa
open Go.RowKit

/-- valid areas, ascending from b on -/
def Asc : Int → List Ar → Prop
  | _, [] => True
  | b, a :: l => okA a = true ∧ b ≤ a.f ∧ Asc (a.f + a.m) l
theorem Asc.low {b c : Int} : ∀ {l : List Ar}, Asc b l → c ≤ b → Asc c l
  | [], _, _ => trivial
  | _ :: _, h, hc => ⟨h.1, by have := h.2.1; omega, h.2.2⟩
theorem okTo_iff {l : List Ar} : ∀ n, okTo l n = true ↔ ∀ k, k < n → okA (l.getD k .z) = true ∧ (k = 0 ∨ (l.getD (k - 1) .z).f + (l.getD (k - 1) .z).m ≤ (l.getD k .z).f)
  | 0 => ⟨fun _ k hk => absurd hk (Nat.not_lt_zero k), fun _ => rfl⟩
  | n + 1 => by
    have ih := okTo_iff (l := l) n
    simp only [okTo, Bool.and_eq_true, Bool.or_eq_true, decide_eq_true_eq, apart, ih]
    constructor
    · intro h k hk
      by_cases e : k = n
      · subst e; exact h.2
      · exact h.1 k (by omega)
    · intro h
      exact ⟨fun k hk => h k (by omega), h n (by omega)⟩
theorem asc_of : ∀ (l : List Ar) (b : Int), (∀ k, k < l.length → okA (l.getD k .z) = true ∧ (k = 0 ∨ (l.getD (k - 1) .z).f + (l.getD (k - 1) .z).m ≤ (l.getD k .z).f)) → (0 < l.length → b ≤ (l.getD 0 .z).f) → Asc b l
  | [], _, _, _ => trivial
  | a :: l, b, h, hb => by
    refine ⟨by simpa using (h 0 (by simp)).1, by simpa using hb (by simp), asc_of l _ (fun k hk => ?_) fun hl => ?_⟩
    · have h1 := h (k + 1) (by simpa using hk)
      refine ⟨by simpa using h1.1, ?_⟩
      cases k with
      | zero => exact Or.inl rfl
      | succ k => exact Or.inr (by simpa using h1.2)
    · have h1 := (h 1 (by simpa using hl)).2
      simpa using h1
theorem of_asc : ∀ (l : List Ar) (b : Int), Asc b l → (∀ k, k < l.length → okA (l.getD k .z) = true ∧ (k = 0 ∨ (l.getD (k - 1) .z).f + (l.getD (k - 1) .z).m ≤ (l.getD k .z).f)) ∧ (0 < l.length → b ≤ (l.getD 0 .z).f)
  | [], _, _ => ⟨fun k hk => absurd hk (Nat.not_lt_zero k), fun h => absurd h (Nat.not_lt_zero 0)⟩
  | a :: l, b, h => by
    have ih := of_asc l _ h.2.2
    refine ⟨fun k hk => ?_, fun _ => by simpa using h.2.1⟩
    cases k with
    | zero => exact ⟨by simpa using h.1, Or.inl rfl⟩
    | succ k =>
      have h1 := ih.1 k (by simpa using hk)
      refine ⟨by simpa using h1.1, Or.inr ?_⟩
      cases k with
      | zero => simpa using ih.2 (by simpa using hk)
      | succ k => simpa using h1.2
theorem okL_iff {l : List Ar} : okL l = true ↔ Asc 0 l ∧ l.length ≤ 6 := by
  unfold okL
  rw [Bool.and_eq_true, decide_eq_true_eq, okTo_iff]
  constructor
  · rintro ⟨h, h2⟩
    refine ⟨asc_of l 0 h fun hl => ?_, h2⟩
    have := okA_parts (h 0 hl).1
    omega
  · rintro ⟨h, h2⟩
    exact ⟨(of_asc l 0 h).1, h2⟩
theorem okL_one (a : Ar) : okL [a] = okA a := by
  have e : okL [a] = true ↔ okA a = true := by
    rw [okL_iff]
    constructor
    · rintro ⟨h, _⟩; exact h.1
    · intro h; exact ⟨⟨h, by have := okA_parts h; omega, trivial⟩, by simp⟩
  cases h1 : okL [a] <;> cases h2 : okA a <;> simp_all
theorem Asc.sub : ∀ {l l' : List Ar} {b : Int}, l.Sublist l' → Asc b l' → Asc b l := by
  intro l l' b hs
  induction hs generalizing b with
  | slnil => exact fun h => h
  | cons a hs ih => exact fun h => ih (h.2.2.low (by have := okA_parts h.1; have := h.2.1; omega))
  | cons_cons a hs ih => exact fun h => ⟨h.1, h.2.1, ih h.2.2⟩

/-- what kind of area a page is in -/
def cov : List Ar → Int → Option (Bool × Bool)
  | [], _ => none
  | a :: l, x => if hasA a x = true then some (a.w, a.s) else cov l x
theorem hasA_iff (a : Ar) (x : Int) : hasA a x = true ↔ a.f ≤ x ∧ x < a.f + a.m := by
  unfold hasA inB
  rw [decide_eq_true_eq]
  omega
theorem hasA_no (a : Ar) (x : Int) : hasA a x = false ↔ ¬ (a.f ≤ x ∧ x < a.f + a.m) := by
  rw [← hasA_iff]; simp
theorem cov_fst (x : Int) : ∀ l : List Ar, (fstA x l < l.length ∧ hasA (l.getD (fstA x l) .z) x = true ∧ cov l x = some ((l.getD (fstA x l) .z).w, (l.getD (fstA x l) .z).s)) ∨ (fstA x l = l.length ∧ cov l x = none)
  | [] => Or.inr ⟨rfl, rfl⟩
  | a :: l => by
    by_cases h : hasA a x = true
    · left
      simp only [fstA, cov, if_pos h]
      simp [h]
    · simp only [fstA, cov, if_neg h]
      rcases cov_fst x l with ⟨h1, h2, h3⟩ | ⟨h1, h2⟩
      · left
        refine ⟨by simpa using h1, by simpa using h2, by simpa using h3⟩
      · right
        exact ⟨by simpa using h1, h2⟩
theorem at_cov {l : List Ar} (h : okL l = true) (x : Int) : (∃ k : Nat, k < l.length ∧ atV l x = k ∧ hasA (l.getD k .z) x = true ∧ cov l x = some ((l.getD k .z).w, (l.getD k .z).s)) ∨ (atV l x = -1 ∧ cov l x = none) := by
  unfold atV l2AtV
  rw [if_pos h]
  rcases cov_fst x l with ⟨h1, h2, h3⟩ | ⟨h1, h2⟩
  · exact Or.inl ⟨fstA x l, h1, by rw [if_pos h1], h2, h3⟩
  · exact Or.inr ⟨by rw [if_neg (by omega)], h2⟩
theorem cov_low : ∀ {l : List Ar} {b x : Int}, Asc b l → x < b → cov l x = none
  | [], _, _, _, _ => rfl
  | a :: l, b, x, h, hx => by
    have h1 := okA_parts h.1
    have h2 := h.2.1
    have h3 : ¬ hasA a x = true := by rw [hasA_iff]; omega
    simp only [cov, if_neg h3]
    exact cov_low h.2.2 (by omega)
theorem cov_app (x : Int) : ∀ l l' : List Ar, cov (l ++ l') x = (cov l x).or (cov l' x)
  | [], _ => rfl
  | a :: l, l' => by
    simp only [List.cons_append, cov]
    split
    · rfl
    · exact cov_app x l l'
theorem cov_in : ∀ {l : List Ar} {b x : Int}, Asc b l → (cov l x).isSome = true → 0 ≤ x ∧ x ≤ 15
  | a :: l, b, x, h, hx => by
    have h1 := okA_parts h.1
    by_cases h3 : hasA a x = true
    · rw [hasA_iff] at h3; omega
    · simp only [cov, if_neg h3] at hx
      exact cov_in h.2.2 hx

/-- the pages of all areas -/
def sumM : List Ar → Int
  | [] => 0
  | a :: l => a.m + sumM l
theorem sumM_app : ∀ l l' : List Ar, sumM (l ++ l') = sumM l + sumM l'
  | [], l' => by simp [sumM]
  | a :: l, l' => by simp only [List.cons_append, sumM, sumM_app l l']; omega
theorem manyTo_sum (l : List Ar) : ∀ k, k ≤ l.length → manyTo l k = sumM (l.take k)
  | 0, _ => by simp [manyTo, sumM]
  | k + 1, hk => by
    rw [List.take_add_one, sumM_app, manyTo, manyTo_sum l k (by omega)]
    have : l[k]? = some (l.getD k .z) := by simp [List.getD, List.getElem?_eq_getElem (show k < l.length by omega)]
    rw [this]
    simp [sumM]
theorem pages_sum (l : List Ar) : pagesV l = if okL l = true then sumM l else -1 := by
  unfold pagesV
  rw [manyTo_sum l l.length (Nat.le_refl _), List.take_length]
theorem sumM_le : ∀ {l : List Ar} {b : Int}, Asc b l → b ≤ 16 → 0 ≤ sumM l ∧ sumM l ≤ 16 - b
  | [], b, _, hb => by simp only [sumM]; omega
  | a :: l, b, h, hb => by
    have h1 := okA_parts h.1
    have ih := sumM_le h.2.2 (by omega)
    have := h.2.1
    simp only [sumM]
    omega
/-- of the first k pages, how many are in an area -/
def cntTo (l : List Ar) : Nat → Int
  | 0 => 0
  | k + 1 => cntTo l k + if (cov l k).isSome = true then 1 else 0
theorem cntTo_cons {a : Ar} {l : List Ar} {b : Int} (h : Asc b (a :: l)) : ∀ k : Nat, cntTo (a :: l) k = cntTo l k + (if (k : Int) ≤ a.f then 0 else if (k : Int) ≤ a.f + a.m then k - a.f else a.m)
  | 0 => by have := okA_parts h.1; simp only [cntTo]; rw [if_pos (by omega)]; rfl
  | k + 1 => by
    have ih := cntTo_cons h k
    have h1 := okA_parts h.1
    simp only [cntTo, ih]
    by_cases h3 : hasA a k = true
    · have e1 : cov l k = none := cov_low h.2.2 (by rw [hasA_iff] at h3; omega)
      have e2 : cov (a :: l) k = some (a.w, a.s) := by simp only [cov, if_pos h3]
      rw [e1, e2]
      rw [hasA_iff] at h3
      simp only [Option.isSome_some, Option.isSome_none, if_true, Bool.false_eq_true, if_false]
      repeat' split
      all_goals omega
    · have e2 : cov (a :: l) k = cov l k := by simp only [cov, if_neg h3]
      rw [e2]
      rw [hasA_iff] at h3
      repeat' split
      all_goals omega
theorem cntTo_nil : ∀ k, cntTo [] k = 0
  | 0 => rfl
  | k + 1 => by simp [cntTo, cntTo_nil k, cov]
theorem cnt_sum : ∀ {l : List Ar} {b : Int}, Asc b l → cntTo l 16 = sumM l
  | [], _, _ => cntTo_nil 16
  | a :: l, b, h => by
    have h1 := okA_parts h.1
    rw [cntTo_cons h, cnt_sum h.2.2, sumM]
    repeat' split
    all_goals omega
theorem cntTo_le (l : List Ar) : ∀ k : Nat, 0 ≤ cntTo l k ∧ cntTo l k ≤ k
  | 0 => by simp [cntTo]
  | k + 1 => by
    have ih := cntTo_le l k
    simp only [cntTo]
    split <;> omega
theorem cntTo_same {l l' : List Ar} (h : ∀ x, (cov l x).isSome = (cov l' x).isSome) : ∀ k, cntTo l k = cntTo l' k
  | 0 => rfl
  | k + 1 => by simp only [cntTo, cntTo_same h k, h]
theorem sum_same {l l' : List Ar} {b b' : Int} (h1 : Asc b l) (h2 : Asc b' l') (h : ∀ x, (cov l x).isSome = (cov l' x).isSome) : sumM l = sumM l' := by
  rw [← cnt_sum h1, ← cnt_sum h2, cntTo_same h]

/-- what AreasOk and AreasPages tell of each other -/
theorem ok_pages (l : List Ar) : okL l = decide (0 ≤ pagesV l) ∧ pagesV l ≤ 16 := by
  rw [pages_sum]
  by_cases h : okL l = true
  · have h2 := sumM_le (okL_iff.1 h).1 (by omega)
    rw [if_pos h, h, decide_eq_true h2.1]
    exact ⟨rfl, by omega⟩
  · rw [if_neg h]
    exact ⟨by simpa using h, by omega⟩

/-- of the areas, how many have a page -/
def hasTo (l : List Ar) (x : Int) : Nat → Int
  | 0 => 0
  | k + 1 => hasTo l x k + if hasA (l.getD k .z) x = true then 1 else 0
end Go.Proofs.Ytphanhlaojpbiaa

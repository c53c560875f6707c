/-
  Locks: pure facts on what the program's functions answer.
-/
import Derived.Test.YtpmigekejipohaaLPure2
namespace Go.Proofs.Ytpmigekejipohaa
open Go.RowKit

/-- whether a thread may be in a lock, as the program asks -/
def tokI (t : EThread) : Bool :=
  inB t.f0 0 6 && (inB t.f1 0 2 && (inB t.f2 0 3 && ((decide (t.f1 = 0) || decide (t.f0 = 1)) && ((!t.f3 || decide (t.f0 = 3)) && (decide (t.f0 = 0) || decide (0 < t.f2))))))
/-- whether x is among the first k -/
def memTo (l : List Int) (x : Int) : Nat → Bool
  | 0 => false
  | k + 1 => memTo l x k || decide (l.getD k 0 = x)
theorem memTo_iff {l : List Int} {x : Int} : ∀ {n : Nat}, memTo l x n = true ↔ ∃ k, k < n ∧ l.getD k 0 = x
  | 0 => ⟨fun h => (by cases h), fun ⟨k, h, _⟩ => absurd h (Nat.not_lt_zero k)⟩
  | n + 1 => by
    show (memTo l x n || _) = true ↔ _
    rw [Bool.or_eq_true, memTo_iff (n := n), decide_eq_true_eq]
    constructor
    · rintro (⟨k, h1, h2⟩ | h)
      · exact ⟨k, by omega, h2⟩
      · exact ⟨n, by omega, h⟩
    · rintro ⟨k, h1, h2⟩
      rcases Nat.lt_or_ge k n with h | h
      · exact Or.inl ⟨k, h, h2⟩
      · obtain rfl : k = n := by omega
        exact Or.inr h2
theorem memTo_mono {l : List Int} {x : Int} {m n : Nat} (h : m ≤ n) (hm : memTo l x m = true) : memTo l x n = true := by
  obtain ⟨k, h1, h2⟩ := memTo_iff.1 hm
  exact memTo_iff.2 ⟨k, by omega, h2⟩
/-- the k-th of the line is fine -/
def lneAt (D : Lk) (k : Nat) : Bool := inB (D.2.2.getD k 0) 0 ((D.2.1.length : Int) - 1) && ((th D (D.2.2.getD k 0).toNat).f3 && !memTo D.2.2 (D.2.2.getD k 0) k)
def lneTo (D : Lk) : Nat → Bool
  | 0 => true
  | k + 1 => lneTo D k && lneAt D k
theorem lneTo_iff {D : Lk} : ∀ {n : Nat}, lneTo D n = true ↔ ∀ k, k < n → lneAt D k = true
  | 0 => ⟨fun _ k h => absurd h (Nat.not_lt_zero k), fun _ => rfl⟩
  | n + 1 => by
    show (lneTo D n && _) = true ↔ _
    rw [Bool.and_eq_true, lneTo_iff (n := n)]
    constructor
    · rintro ⟨h1, h2⟩ k hk
      rcases Nat.lt_or_ge k n with h | h
      · exact h1 k h
      · obtain rfl : k = n := by omega
        exact h2
    · exact fun h => ⟨fun k hk => h k (by omega), h n (by omega)⟩
def lineB (D : Lk) : Bool := decide (slpTo D D.2.1.length = D.2.2.length) && lneTo D D.2.2.length
def lkI (D : Lk) : Bool := inB D.1 0 2 && (inB (D.2.1.length : Int) 1 4 && (D.2.1.all tokI && lineB D))
theorem slp_ge {D : Lk} : ∀ {n : Nat}, (∀ i, i < n → (i : Int) ∈ D.2.2 → (th D i).f3 = true) → cntIn D.2.2 n ≤ slpTo D n ∧ (slpTo D n = cntIn D.2.2 n → ∀ i, i < n → (th D i).f3 = true → (i : Int) ∈ D.2.2)
  | 0, _ => ⟨Nat.le_refl _, fun _ i h => absurd h (Nat.not_lt_zero i)⟩
  | n + 1, h => by
    obtain ⟨h1, h2⟩ := slp_ge (D := D) (n := n) fun i hi => h i (by omega)
    have e1 : slpTo D (n + 1) = slpTo D n + (if (th D n).f3 = true then 1 else 0) := rfl
    have e2 : cntIn D.2.2 (n + 1) = cntIn D.2.2 n + (if (n : Int) ∈ D.2.2 then 1 else 0) := rfl
    rw [e1, e2]
    have h3 := h n (by omega)
    by_cases hm : (n : Int) ∈ D.2.2
    · rw [if_pos hm, if_pos (h3 hm)]
      refine ⟨by omega, fun e i hi hs => ?_⟩
      rcases Nat.lt_or_ge i n with hlt | hge
      · exact h2 (by omega) i hlt hs
      · obtain rfl : i = n := by omega
        exact hm
    · rw [if_neg hm]
      by_cases hs : (th D n).f3 = true
      · rw [if_pos hs]
        exact ⟨by omega, fun e => by omega⟩
      · rw [if_neg hs]
        refine ⟨by omega, fun e i hi hs2 => ?_⟩
        rcases Nat.lt_or_ge i n with hlt | hge
        · exact h2 (by omega) i hlt hs2
        · obtain rfl : i = n := by omega
          exact absurd hs2 hs
theorem getD_memI {l : List Int} {k : Nat} (h : k < l.length) : l.getD k 0 ∈ l := by
  rw [List.getD_eq_getElem?_getD, List.getElem?_eq_getElem h]
  exact List.getElem_mem h
theorem mem_getDI {l : List Int} {x : Int} (h : x ∈ l) : ∃ k, k < l.length ∧ l.getD k 0 = x := by
  obtain ⟨k, hk, e⟩ := List.getElem_of_mem h
  exact ⟨k, hk, by rw [List.getD_eq_getElem?_getD, List.getElem?_eq_getElem hk]; exact e⟩
theorem nodup_iffI {l : List Int} : l.Nodup ↔ ∀ k, k < l.length → memTo l (l.getD k 0) k = false := by
  rw [List.nodup_iff_pairwise_ne, List.pairwise_iff_getElem]
  constructor
  · intro h k hk
    cases e : memTo l (l.getD k 0) k
    · rfl
    · obtain ⟨j, hj, e2⟩ := memTo_iff.1 e
      rw [List.getD_eq_getElem?_getD, List.getD_eq_getElem?_getD, List.getElem?_eq_getElem hk, List.getElem?_eq_getElem (show j < l.length by omega)] at e2
      exact absurd e2 (h j k (by omega) hk hj)
  · intro h i j hi hj hij e
    have h1 := h j hj
    have h2 : memTo l (l.getD j 0) j = true := memTo_iff.2 ⟨i, hij, by
      rw [List.getD_eq_getElem?_getD, List.getD_eq_getElem?_getD, List.getElem?_eq_getElem hi, List.getElem?_eq_getElem hj]; exact e⟩
    rw [h1] at h2
    cases h2
theorem th_mem {D : Lk} {i : Nat} (h : i < D.2.1.length) : th D i ∈ D.2.1 := by
  unfold th
  rw [List.getD_eq_getElem?_getD, List.getElem?_eq_getElem h]
  exact List.getElem_mem h
theorem all_tok {D : Lk} {p : EThread → Bool} : D.2.1.all p = true ↔ ∀ i, i < D.2.1.length → p (th D i) = true := by
  rw [List.all_eq_true]
  constructor
  · exact fun h i hi => h _ (th_mem hi)
  · intro h t ht
    obtain ⟨k, hk, rfl⟩ := List.getElem_of_mem ht
    have := h k hk
    unfold th at this
    rwa [List.getD_eq_getElem?_getD, List.getElem?_eq_getElem hk] at this
theorem tokI_iff {t : EThread} : tokI t = true ↔ (0 ≤ t.f0 ∧ t.f0 ≤ 6) ∧ (0 ≤ t.f1 ∧ t.f1 ≤ 2) ∧ (0 ≤ t.f2 ∧ t.f2 ≤ 3) ∧ (t.f1 = 0 ∨ t.f0 = 1) ∧ (t.f3 = true → t.f0 = 3) ∧ (t.f0 = 0 ∨ 0 < t.f2) := by
  unfold tokI
  constructor
  · intro h
    simp only [Bool.and_eq_true, Bool.or_eq_true, decide_eq_true_eq, Bool.not_eq_true'] at h
    obtain ⟨h1, h2, h3, h4, h5, h6⟩ := h
    refine ⟨of_inB h1, of_inB h2, of_inB h3, h4, fun e => ?_, h6⟩
    rcases h5 with h | h
    · rw [e] at h; cases h
    · exact h
  · rintro ⟨h1, h2, h3, h4, h5, h6⟩
    simp only [Bool.and_eq_true, Bool.or_eq_true, decide_eq_true_eq, Bool.not_eq_true']
    refine ⟨inB_of h1, inB_of h2, inB_of h3, h4, ?_, h6⟩
    cases e : t.f3
    · exact Or.inl rfl
    · exact Or.inr (h5 e)
theorem lkI_eq (D : Lk) : lkI D = lkB D := by
  rw [Bool.eq_iff_iff, lk_iff]
  unfold lkI lineB
  simp only [Bool.and_eq_true, decide_eq_true_eq, all_tok, lneTo_iff]
  constructor
  · rintro ⟨h1, h2, h3, h4, h5⟩
    have h1 := of_inB h1
    have h2 := of_inB h2
    have hrng : ∀ x ∈ D.2.2, (0 ≤ x ∧ x < (D.2.1.length : Int)) ∧ (th D x.toNat).f3 = true := by
      intro x hx
      obtain ⟨k, hk, rfl⟩ := mem_getDI hx
      have h := h5 k hk
      unfold lneAt at h
      simp only [Bool.and_eq_true] at h
      have := of_inB h.1
      exact ⟨by omega, h.2.1⟩
    have hnd : D.2.2.Nodup := nodup_iffI.2 fun k hk => by
      have h := h5 k hk
      unfold lneAt at h
      simp only [Bool.and_eq_true, Bool.not_eq_true'] at h
      exact h.2.2
    have hc : cntIn D.2.2 D.2.1.length = D.2.2.length := cntIn_eq.2 ⟨hnd, fun x hx => (hrng x hx).1⟩
    have hl : ∀ i, i < D.2.1.length → (i : Int) ∈ D.2.2 → (th D i).f3 = true := fun i _ hm => by
      have := (hrng _ hm).2
      rwa [Int.toNat_natCast] at this
    have hr := (slp_ge hl).2 (by omega)
    refine ⟨h1, by omega, fun i hi => ?_, hnd, fun x hx => (hrng x hx).1⟩
    obtain ⟨a, b, c, d, e, f⟩ := tokI_iff.1 (h3 i hi)
    exact ⟨a, b, d.symm, c, by omega, e, ⟨hr i hi, hl i hi⟩⟩
  · rintro ⟨h1, h2, h3, h4, h5⟩
    have hc : cntIn D.2.2 D.2.1.length = D.2.2.length := cntIn_eq.2 ⟨h4, h5⟩
    refine ⟨inB_of h1, inB_of (by omega), fun i hi => ?_, by rw [slp_cnt fun i hi => (h3 i hi).l, hc], fun k hk => ?_⟩
    · have t := h3 i hi
      exact tokI_iff.2 ⟨t.a, t.s, t.u, t.s1.symm, t.z, by have := t.u1; have := t.a; omega⟩
    · have hm := getD_memI hk
      have hx := h5 _ hm
      unfold lneAt
      simp only [Bool.and_eq_true, Bool.not_eq_true']
      refine ⟨inB_of (by omega), (h3 _ (by omega)).l.2 ?_, nodup_iffI.1 h4 k hk⟩
      rwa [Int.toNat_of_nonneg hx.1]
end Go.Proofs.Ytpmigekejipohaa

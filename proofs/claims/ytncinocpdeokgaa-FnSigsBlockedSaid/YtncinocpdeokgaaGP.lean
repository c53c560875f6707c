/-
  Signals: pure facts on sets of eight (the landed program).
-/
import Derived.Test.YtncinocpdeokgaaGPure2
namespace Go.Proofs.Ytncinocpdeokgaa
open Go.RowKit

/-- an array of eight -/
def bA (L : List Bool) : Array Value := #[.bool (L.getD 0 false), .bool (L.getD 1 false), .bool (L.getD 2 false), .bool (L.getD 3 false), .bool (L.getD 4 false), .bool (L.getD 5 false), .bool (L.getD 6 false), .bool (L.getD 7 false)]
def iA (L : List Int) : Array Value := #[.int .i64 (L.getD 0 0), .int .i64 (L.getD 1 0), .int .i64 (L.getD 2 0), .int .i64 (L.getD 3 0), .int .i64 (L.getD 4 0), .int .i64 (L.getD 5 0), .int .i64 (L.getD 6 0), .int .i64 (L.getD 7 0)]
def noB : List Bool := List.replicate 8 false
def noI : List Int := List.replicate 8 0
/-- the first k without those of another set -/
def woTo (L M : List Bool) : Nat → List Bool
  | 0 => L
  | k + 1 => (woTo L M k).set k (L.getD k false && !(M.getD k false))
def wo (L M : List Bool) : List Bool := woTo L M 8
theorem woTo_len {L M : List Bool} : ∀ {k : Nat}, (woTo L M k).length = L.length
  | 0 => rfl
  | k + 1 => by show ((woTo L M k).set _ _).length = _; rw [List.length_set]; exact woTo_len
theorem woTo_at {L M : List Bool} (hL : L.length = 8) : ∀ {n : Nat}, n ≤ 8 → ∀ j, (woTo L M n).getD j false = if j < n then (L.getD j false && !(M.getD j false)) else L.getD j false
  | 0, _, j => by rw [if_neg (Nat.not_lt_zero _)]; rfl
  | n + 1, hn, j => by
    show ((woTo L M n).set n _).getD j false = _
    rw [getD_set' _ _ _ _ _ (by rw [woTo_len]; omega), woTo_at hL (show n ≤ 8 by omega) j]
    by_cases e : j = n
    · subst e; rw [if_pos rfl, if_pos (by omega)]
    · rw [if_neg e]
      by_cases h : j < n
      · rw [if_pos h, if_pos (by omega)]
      · rw [if_neg h, if_neg (by omega)]
theorem wo_len {L M : List Bool} : (wo L M).length = L.length := woTo_len
theorem wo_at {L M : List Bool} (hL : L.length = 8) (j : Nat) (hj : j < 8) : (wo L M).getD j false = (L.getD j false && !(M.getD j false)) := by
  unfold wo; rw [woTo_at hL (Nat.le_refl 8), if_pos hj]
theorem getD_big {α : Type} {l : List α} {j : Nat} (z : α) (h : l.length ≤ j) : l.getD j z = z := by
  rw [List.getD_eq_getElem?_getD, List.getElem?_eq_none h]; rfl
theorem ext8 {α : Type} {l m : List α} (z : α) (hl : l.length = 8) (hm : m.length = 8) (h : ∀ k, k < 8 → l.getD k z = m.getD k z) : l = m := getD_ext z (hl.trans hm.symm) fun k hk => h k (by omega)

/-- a set of some signals -/
def setOf : List Int → Nat → List Bool
  | _, 0 => noB
  | l, k + 1 => (setOf l k).set (l.getD k 0 - 1).toNat true
theorem setOf_len {l : List Int} : ∀ {k : Nat}, (setOf l k).length = 8
  | 0 => rfl
  | k + 1 => by show ((setOf l k).set _ _).length = _; rw [List.length_set]; exact setOf_len
def fixS : List Bool := [true, true, false, false, false, false, false, false]
theorem setOf_fix : setOf [1, 2] 2 = fixS := by decide
theorem fixS_at (k : Nat) (hk : k < 8) : fixS.getD k false = !decide (2 ≤ k) := by
  have h : ∀ k, k < 8 → fixS.getD k false = !decide (2 ≤ k) := by decide
  exact h k hk
theorem fixS_fix {n : Int} (h : inB n 1 8 = true) : fixS.getD (n - 1).toNat false = fixB n := by
  obtain ⟨k, hk, rfl, e⟩ := inB_nat h
  rw [e, fixS_at k hk]
  unfold fixB
  rw [Bool.eq_iff_iff]
  simp only [Bool.or_eq_true, decide_eq_true_eq, Bool.not_eq_true', decide_eq_false_iff_not]
  omega
def one (n : Int) : List Bool := setOf [n] 1
theorem one_at {n : Int} {k : Nat} (e : (n - 1).toNat = k) (hk : k < 8) (j : Nat) : (one n).getD j false = decide (j = k) := by
  show ((noB).set ([n].getD 0 0 - 1).toNat true).getD j false = _
  rw [show [n].getD 0 0 = n from rfl, e, getD_set' _ _ _ _ _ (by exact hk)]
  by_cases h : j = k
  · rw [if_pos h, decide_eq_true h]
  · rw [if_neg h, decide_eq_false h]; exact rep_at 8 j
def riv (n : Int) : List Bool := if n = 2 ∨ n = 6 then one 3 else if n = 3 then setOf [2, 6] 2 else noB
theorem sndA_wo {H : List Bool} {n : Int} (hH : H.length = 8) : wo H (riv n) = sndA H n := by
  refine ext8 false (wo_len.trans hH) (sndA_len.trans hH) fun k hk => ?_
  rw [wo_at hH k hk, sndA_at hH]
  unfold riv
  by_cases h1 : n = 2 ∨ n = 6
  · rw [if_pos h1, one_at (k := 2) (by decide) (by omega)]
    by_cases h2 : k = 2
    · subst h2; simp [h1]
    · have : ¬ (n = 3) := by omega
      simp [h2, this]
  · rw [if_neg h1]
    by_cases h3 : n = 3
    · rw [if_pos h3]
      have h : ∀ k, k < 8 → (setOf [2, 6] 2).getD k false = (decide (k = 1) || decide (k = 5)) := by decide
      rw [h k hk]
      by_cases h4 : k = 1 ∨ k = 5
      · rw [if_pos (Or.inr ⟨h3, h4⟩)]
        rcases h4 with rfl | rfl <;> simp
      · rw [if_neg (by omega)]
        have e1 : ¬ k = 1 := by omega
        have e5 : ¬ k = 5 := by omega
        simp [e1, e5]
    · rw [if_neg h3, if_neg (by omega)]
      have h : ∀ k, k < 8 → noB.getD k false = false := by decide
      rw [h k hk]; simp
theorem take_wo {H : List Bool} {n : Int} {k : Nat} (hH : H.length = 8) (hk : k < 8) (e : (n - 1).toNat = k) : wo H (one n) = H.set k false := by
  refine ext8 false (wo_len.trans hH) (by rw [List.length_set]; exact hH) fun j hj => ?_
  rw [wo_at hH j hj, one_at e hk, getD_set' _ _ _ _ _ (by omega)]
  by_cases h : j = k
  · rw [if_pos h]; simp [h]
  · rw [if_neg h]; simp [h]
theorem blk_wo {B L : List Bool} (hB : B.length = 8) (hL : L.length = 8) : wo L fixS = blkTo B L 8 := by
  refine ext8 false (wo_len.trans hL) (blkTo_len.trans hB) fun j hj => ?_
  rw [wo_at hL j hj, blkTo_at hB (Nat.le_refl 8), if_pos hj, fixS_at j hj]
  simp
/-- what a signal may do -/
def mayD (n d : Int) : Bool := decide (d = 0) || ((decide (d = 1) || decide (d = 4)) && !fixB n)
/-- the first k signals may do what they do -/
def mayTo (L : List Int) : Nat → Bool
  | 0 => true
  | k + 1 => mayTo L k && mayD ((k : Int) + 1) (L.getD k 0)
theorem mayTo_iff {L : List Int} : ∀ {n : Nat}, mayTo L n = true ↔ ∀ k, k < n → mayD ((k : Int) + 1) (L.getD k 0) = true
  | 0 => ⟨fun _ k h => absurd h (Nat.not_lt_zero k), fun _ => rfl⟩
  | n + 1 => by
    show (mayTo L n && _) = true ↔ _
    rw [Bool.and_eq_true, mayTo_iff (n := n)]
    constructor
    · rintro ⟨h1, h2⟩ k hk
      by_cases e : k = n
      · subst e; exact h2
      · exact h1 k (by omega)
    · intro h
      exact ⟨fun k hk => h k (by omega), h n (by omega)⟩
theorem mayTo_no {L : List Int} {k n : Nat} (hk : k < n) (h : mayTo L (k + 1) = false) : mayTo L n = false := by
  cases e : mayTo L n
  · rfl
  · rw [mayTo_iff.2 (fun j hj => mayTo_iff.1 e j (by omega))] at h
    cases h
theorem fixB_nat (k : Nat) : fixB ((k : Int) + 1) = true ↔ ¬ 2 ≤ k := by
  unfold fixB
  simp only [Bool.or_eq_true, decide_eq_true_eq]
  omega
theorem mayD_iff (k : Nat) (d : Int) : mayD ((k : Int) + 1) d = true ↔ dOk d = true ∧ (2 ≤ k ∨ d = 0) := by
  have h := fixB_nat k
  unfold mayD dOk
  simp only [Bool.or_eq_true, Bool.and_eq_true, decide_eq_true_eq, Bool.not_eq_true']
  rw [← Bool.not_eq_true, h]
  omega
/-- a valid list of what is blocked is without two -/
theorem blk_fix {B : List Bool} (hB : B.length = 8) : B = wo B fixS ↔ ∀ k, k < 8 → (2 ≤ k ∨ B.getD k false = false) := by
  constructor
  · intro h k hk
    rw [h, wo_at hB k hk, fixS_at k hk]
    by_cases e : 2 ≤ k
    · exact Or.inl e
    · right; simp [e]
  · intro h
    refine ext8 false hB (wo_len.trans hB) fun k hk => ?_
    rw [wo_at hB k hk, fixS_at k hk]
    rcases h k hk with e | e
    · simp [e]
    · rw [e]; rfl
theorem sig_wo {H B : List Bool} {L : List Int} (hH : H.length = 8) (hB : B.length = 8) (hL : L.length = 8) : sigB (H, B, L) = (decide (B = wo B fixS) && mayTo L 8) := by
  rw [Bool.eq_iff_iff, sig_iff, Bool.and_eq_true, decide_eq_true_eq, blk_fix hB, mayTo_iff]
  constructor
  · rintro ⟨_, _, _, h⟩
    exact ⟨fun k hk => by rcases (h k hk).2 with e | e; exact Or.inl e; exact Or.inr e.1, fun k hk => (mayD_iff k _).2 ⟨(h k hk).1, by rcases (h k hk).2 with e | e; exact Or.inl e; exact Or.inr e.2⟩⟩
  · rintro ⟨h1, h2⟩
    refine ⟨hH, hB, hL, fun k hk => ?_⟩
    have h3 := (mayD_iff k _).1 (h2 k hk)
    refine ⟨h3.1, ?_⟩
    rcases h3.2 with e | e
    · exact Or.inl e
    · rcases h1 k hk with e2 | e2
      · exact Or.inl e2
      · exact Or.inr ⟨e2, e⟩
/-- the first place from the k-th on where a list tells true, none if there is none; f: how many are left -/
def fstIn (L : List Bool) : Nat → Option Nat
  | 0 => none
  | f + 1 => if L.getD (7 - f) false = true then some (7 - f) else fstIn L f
theorem nxt_fst {H B : List Bool} (hH : H.length = 8) : ∀ {f : Nat}, f ≤ 8 → nxtIn H B f = match fstIn (wo H B) f with | none => 0 | some k => (k : Int) + 1
  | 0, _ => rfl
  | f + 1, h => by
    unfold nxtIn fstIn
    rw [wo_at hH (7 - f) (by omega)]
    by_cases e : H.getD (7 - f) false = true ∧ B.getD (7 - f) false = false
    · rw [if_pos e, e.1, e.2]
      show 8 - (f : Int) = ((7 - f : Nat) : Int) + 1
      omega
    · rw [if_neg e]
      have : (H.getD (7 - f) false && !B.getD (7 - f) false) = false := by
        cases h1 : H.getD (7 - f) false <;> cases h2 : B.getD (7 - f) false <;> simp_all
      rw [this]
      simp only [Bool.false_eq_true, if_false]
      exact nxt_fst hH (by omega)
theorem fst_none {L : List Bool} (hL : L.length = 8) : ∀ {f : Nat}, f ≤ 8 → (fstIn L f = none ↔ ∀ j, 8 - f ≤ j → j < 8 → L.getD j false = false)
  | 0, _ => ⟨fun _ j h1 h2 => by omega, fun _ => rfl⟩
  | f + 1, h => by
    unfold fstIn
    constructor
    · intro e j h1 h2
      by_cases e1 : L.getD (7 - f) false = true
      · rw [if_pos e1] at e; cases e
      · rw [if_neg e1] at e
        by_cases e2 : j = 7 - f
        · subst e2; simpa using e1
        · exact (fst_none hL (by omega)).1 e j (by omega) h2
    · intro e
      rw [if_neg (by rw [e (7 - f) (by omega) (by omega)]; decide)]
      exact (fst_none hL (by omega)).2 fun j h1 h2 => e j (by omega) h2
theorem fst_is {L : List Bool} {k : Nat} (hk : k < 8) (h1 : L.getD k false = true) (h2 : ∀ j, j < k → L.getD j false = false) : ∀ {f : Nat}, 8 - f ≤ k → fstIn L f = some k
  | 0, h => by omega
  | f + 1, h => by
    unfold fstIn
    by_cases e : 7 - f = k
    · rw [if_pos (by rw [e]; exact h1), e]
    · rw [if_neg (by rw [h2 (7 - f) (by omega)]; decide)]
      exact fst_is hk h1 h2 (by omega)
theorem fst_or {L : List Bool} : ∀ (n : Nat), (∀ j, j < n → L.getD j false = false) ∨ ∃ k, k < n ∧ L.getD k false = true ∧ ∀ j, j < k → L.getD j false = false
  | 0 => Or.inl fun j h => by omega
  | n + 1 => by
    rcases fst_or (L := L) n with h | ⟨k, hk, h1, h2⟩
    · cases e : L.getD n false
      · left; intro j hj
        by_cases ej : j = n
        · rw [ej]; exact e
        · exact h j (by omega)
      · exact Or.inr ⟨n, by omega, e, h⟩
    · exact Or.inr ⟨k, by omega, h1, h2⟩
/-- what is open: none, or the first one -/
theorem open_none {H B : List Bool} (hH : H.length = 8) (h : ∀ j, j < 8 → (wo H B).getD j false = false) : nxtIn H B 8 = 0 := by
  rw [nxt_fst hH (Nat.le_refl 8), (fst_none (wo_len.trans hH) (Nat.le_refl 8)).2 fun j _ hj => h j hj]
theorem open_is {H B : List Bool} {k : Nat} (hH : H.length = 8) (hk : k < 8) (h1 : (wo H B).getD k false = true) (h2 : ∀ j, j < k → (wo H B).getD j false = false) : nxtIn H B 8 = (k : Int) + 1 := by
  rw [nxt_fst hH (Nat.le_refl 8), fst_is hk h1 h2 (by omega)]
theorem eq_noB {L : List Bool} (hL : L.length = 8) : L = noB ↔ ∀ j, j < 8 → L.getD j false = false := by
  constructor
  · intro h j _; rw [h]; exact rep_at 8 j
  · intro h; exact ext8 false hL rfl fun k hk => by rw [h k hk]; exact (rep_at 8 k).symm
theorem set_same {α : Type} {l : List α} {k : Nat} (z : α) (hk : k < l.length) : l.set k (l.getD k z) = l := by
  refine getD_ext z (by rw [List.length_set]) fun j _ => ?_
  rw [getD_set' _ _ _ _ _ hk]
  by_cases e : j = k
  · rw [if_pos e, e]
  · rw [if_neg e]
theorem runTo_at' {L : List Int} (hL : L.length = 8) {k : Nat} (hk : k < 8) : (runTo L k).getD k 0 = L.getD k 0 := by
  rw [runTo_at hL (show k ≤ 8 by omega), if_neg (by omega)]
theorem runTo_same {L : List Int} (hL : L.length = 8) {k : Nat} (hk : k < 8) (h : ¬ L.getD k 0 = 4) : runTo L (k + 1) = runTo L k := by
  show (runTo L k).set k (if L.getD k 0 = 4 then 0 else L.getD k 0) = _
  rw [if_neg h, ← runTo_at' hL hk]
  exact set_same 0 (by rw [runTo_len]; omega)
theorem runTo_call {L : List Int} {k : Nat} (h : L.getD k 0 = 4) : runTo L (k + 1) = (runTo L k).set k 0 := by
  show (runTo L k).set k (if L.getD k 0 = 4 then 0 else L.getD k 0) = _
  rw [if_pos h]
theorem woTo_at' {L M : List Bool} (hL : L.length = 8) {k : Nat} (hk : k < 8) : (woTo L M k).getD k false = L.getD k false := by
  rw [woTo_at hL (show k ≤ 8 by omega), if_neg (by omega)]
theorem set_take {l : List Int} {k : Nat} : setOf l (k + 1) = (setOf l k).set (l.getD k 0 - 1).toNat true := rfl
end Go.Proofs.Ytncinocpdeokgaa

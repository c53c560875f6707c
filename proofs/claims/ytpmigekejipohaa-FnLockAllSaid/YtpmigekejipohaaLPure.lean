/-
  Locks: pure facts: validity, steps, mutual exclusion, nobody sleeps for ever, all turns end.
-/
import Derived.Test.YtpmigekejipohaaTsLock
namespace Go.Proofs.Ytpmigekejipohaa
open Go.RowKit

/-- the word, threads, the line -/
abbrev Lk := Int × List EThread × List Int
def thZ : EThread := ⟨0, 0, 0, false⟩
def lkZ : Lk := (0, [], [])
def th (D : Lk) (i : Nat) : EThread := D.2.1.getD i thZ
def inL (L : List Int) (x : Int) : Bool := decide (x ∈ L)
def tOk (L : List Int) (i : Nat) (t : EThread) : Bool :=
  inB t.f0 0 6 && (inB t.f1 0 2 && ((decide (t.f0 = 1) || decide (t.f1 = 0)) && (inB t.f2 0 3 && ((decide (t.f0 ≤ 0) || !decide (t.f2 = 0)) && ((!t.f3 || decide (t.f0 = 3)) && (t.f3 == inL L i))))))
def okTo (D : Lk) : Nat → Bool
  | 0 => true
  | k + 1 => okTo D k && tOk D.2.2 k (th D k)
def slpTo (D : Lk) : Nat → Nat
  | 0 => 0
  | k + 1 => slpTo D k + (if (th D k).f3 = true then 1 else 0)
def lkB (D : Lk) : Bool := inB D.1 0 2 && (inB (D.2.1.length : Int) 1 4 && (okTo D D.2.1.length && decide (slpTo D D.2.1.length = D.2.2.length)))
def canB (D : Lk) (i : Nat) : Bool := !(th D i).f3 && (decide (0 < (th D i).f0) || decide (0 < (th D i).f2))
/-- thread i becomes t -/
def putT (D : Lk) (w : Int) (i : Nat) (t : EThread) (L : List Int) : Lk := (w, D.2.1.set i t, L)
/-- what step a thread takes, told by what it is -/
def stepD (D : Lk) (i : Nat) : Lk :=
  let t := th D i
  if t.f0 = 0 ∨ t.f0 = 3 then
    if D.1 = 0 then putT D (1 + Int.tdiv t.f0 3) i ⟨4, t.f1, t.f2, t.f3⟩ D.2.2 else putT D D.1 i ⟨1, D.1, t.f2, t.f3⟩ D.2.2
  else if t.f0 = 1 then
    if t.f1 = 2 then putT D D.1 i ⟨2, 0, t.f2, t.f3⟩ D.2.2 else if D.1 = 0 then putT D D.1 i ⟨3, 0, t.f2, t.f3⟩ D.2.2 else putT D 2 i ⟨2, 0, t.f2, t.f3⟩ D.2.2
  else if t.f0 = 2 then
    if D.1 = 2 then putT D D.1 i ⟨3, t.f1, t.f2, true⟩ (D.2.2 ++ [(i : Int)]) else putT D D.1 i ⟨3, t.f1, t.f2, t.f3⟩ D.2.2
  else if t.f0 = 4 then
    if D.1 - 1 ≤ 0 then putT D 0 i ⟨0, t.f1, t.f2 - 1, t.f3⟩ D.2.2 else putT D (D.1 - 1) i ⟨5, t.f1, t.f2, t.f3⟩ D.2.2
  else if t.f0 = 5 then putT D 0 i ⟨6, t.f1, t.f2, t.f3⟩ D.2.2
  else match D.2.2 with
    | [] => putT D D.1 i ⟨0, t.f1, t.f2 - 1, t.f3⟩ []
    | x :: r => (D.1, (D.2.1.set x.toNat ⟨(th D x.toNat).f0, (th D x.toNat).f1, (th D x.toNat).f2, false⟩).set i ⟨0, t.f1, t.f2 - 1, t.f3⟩, r)

structure TOk (L : List Int) (i : Nat) (t : EThread) : Prop where
  a : 0 ≤ t.f0 ∧ t.f0 ≤ 6
  s : 0 ≤ t.f1 ∧ t.f1 ≤ 2
  s1 : t.f0 = 1 ∨ t.f1 = 0
  u : 0 ≤ t.f2 ∧ t.f2 ≤ 3
  u1 : t.f0 ≤ 0 ∨ 1 ≤ t.f2
  z : t.f3 = true → t.f0 = 3
  l : t.f3 = true ↔ (i : Int) ∈ L
structure LOk (D : Lk) : Prop where
  w : 0 ≤ D.1 ∧ D.1 ≤ 2
  n : 1 ≤ D.2.1.length ∧ D.2.1.length ≤ 4
  t : ∀ i, i < D.2.1.length → TOk D.2.2 i (th D i)
  nd : D.2.2.Nodup
  rng : ∀ x ∈ D.2.2, 0 ≤ x ∧ x < (D.2.1.length : Int)
theorem tOk_iff {L : List Int} {i : Nat} {t : EThread} : tOk L i t = true ↔ TOk L i t := by
  unfold tOk inL
  constructor
  · intro h
    simp only [Bool.and_eq_true, Bool.or_eq_true, decide_eq_true_eq, Bool.not_eq_true', decide_eq_false_iff_not, beq_iff_eq] at h
    obtain ⟨h1, h2, h3, h4, h5, h6, h7⟩ := h
    have h1 := of_inB h1
    have h2 := of_inB h2
    have h4 := of_inB h4
    refine ⟨h1, h2, h3, h4, by omega, fun e => by rcases h6 with h | h; rw [e] at h; cases h; exact h, ?_⟩
    rw [h7]; simp
  · rintro ⟨h1, h2, h3, h4, h5, h6, h7⟩
    simp only [Bool.and_eq_true, Bool.or_eq_true, decide_eq_true_eq, Bool.not_eq_true', decide_eq_false_iff_not, beq_iff_eq]
    refine ⟨inB_of h1, inB_of h2, h3, inB_of h4, by omega, ?_, ?_⟩
    · cases e : t.f3
      · exact Or.inl rfl
      · exact Or.inr (h6 e)
    · rw [Bool.eq_iff_iff, h7]; simp
theorem okTo_iff {D : Lk} : ∀ {n : Nat}, okTo D n = true ↔ ∀ i, i < n → TOk D.2.2 i (th D i)
  | 0 => ⟨fun _ i h => by omega, fun _ => rfl⟩
  | n + 1 => by
    show (okTo D n && _) = true ↔ _
    rw [Bool.and_eq_true, okTo_iff (n := n), tOk_iff]
    constructor
    · rintro ⟨h1, h2⟩ i hi
      by_cases e : i = n
      · subst e; exact h2
      · exact h1 i (by omega)
    · exact fun h => ⟨fun i hi => h i (by omega), h n (by omega)⟩
/-- how many of the first n numbers are in a list -/
def cntIn (L : List Int) : Nat → Nat
  | 0 => 0
  | n + 1 => cntIn L n + (if (n : Int) ∈ L then 1 else 0)
theorem cntIn_nil : ∀ (n : Nat), cntIn [] n = 0
  | 0 => rfl
  | n + 1 => by show cntIn [] n + _ = 0; rw [cntIn_nil n]; simp
theorem cntIn_cons (x : Int) (L : List Int) : ∀ (n : Nat), cntIn (x :: L) n = cntIn L n + (if (0 ≤ x ∧ x < n) ∧ x ∉ L then 1 else 0)
  | 0 => by rw [if_neg (by omega)]; rfl
  | n + 1 => by
    show cntIn (x :: L) n + _ = cntIn L n + _ + _
    rw [cntIn_cons x L n]
    by_cases hL : x ∈ L
    · have e1 : ((n : Int) ∈ x :: L) = ((n : Int) ∈ L) := by
        rw [List.mem_cons]; apply propext; constructor
        · rintro (h | h); rw [h]; exact hL; exact h
        · exact Or.inr
      simp only [hL, not_true, and_false, if_false, e1]
      omega
    · by_cases hx : (n : Int) = x
      · have e1 : ((n : Int) ∈ x :: L) := by rw [hx]; exact List.mem_cons_self
        have e2 : ¬ ((n : Int) ∈ L) := by rw [hx]; exact hL
        rw [if_pos e1, if_neg e2, if_neg (by omega), if_pos ⟨by omega, hL⟩]
      · have e1 : ((n : Int) ∈ x :: L) = ((n : Int) ∈ L) := by
          rw [List.mem_cons]; apply propext; constructor
          · rintro (h | h); exact absurd h hx; exact h
          · exact Or.inr
        have e3 : ((0 ≤ x ∧ x < (n : Int)) ∧ x ∉ L) = ((0 ≤ x ∧ x < ((n + 1 : Nat) : Int)) ∧ x ∉ L) := by apply propext; constructor <;> rintro ⟨h1, h2⟩ <;> exact ⟨by omega, h2⟩
        simp only [e1, e3]
        omega
theorem cntIn_le (L : List Int) (n : Nat) : cntIn L n ≤ L.length := by
  induction L with
  | nil => rw [cntIn_nil]; exact Nat.zero_le _
  | cons x L ih => rw [cntIn_cons, List.length_cons]; split <;> omega
theorem cntIn_eq {L : List Int} {n : Nat} : cntIn L n = L.length ↔ L.Nodup ∧ ∀ x ∈ L, 0 ≤ x ∧ x < (n : Int) := by
  induction L with
  | nil => rw [cntIn_nil]; simp
  | cons x L ih =>
    rw [cntIn_cons, List.length_cons, List.nodup_cons]
    have hle := cntIn_le L n
    constructor
    · intro h
      by_cases hx : (0 ≤ x ∧ x < (n : Int)) ∧ x ∉ L
      · rw [if_pos hx] at h
        obtain ⟨h1, h2⟩ := ih.1 (by omega)
        refine ⟨⟨hx.2, h1⟩, fun y hy => ?_⟩
        rcases List.mem_cons.1 hy with rfl | hy
        · exact hx.1
        · exact h2 y hy
      · rw [if_neg hx] at h; omega
    · rintro ⟨⟨h1, h2⟩, h3⟩
      rw [if_pos ⟨h3 x List.mem_cons_self, h1⟩, ih.2 ⟨h2, fun y hy => h3 y (List.mem_cons_of_mem _ hy)⟩]
theorem slp_cnt {D : Lk} : ∀ {n : Nat}, (∀ i, i < n → ((th D i).f3 = true ↔ (i : Int) ∈ D.2.2)) → slpTo D n = cntIn D.2.2 n
  | 0, _ => rfl
  | n + 1, h => by
    show slpTo D n + _ = cntIn _ n + _
    rw [slp_cnt (n := n) fun i hi => h i (by omega)]
    have := h n (by omega)
    by_cases e : (th D n).f3 = true
    · rw [if_pos e, if_pos (this.1 e)]
    · rw [if_neg e, if_neg (fun h2 => e (this.2 h2))]
theorem lk_iff {D : Lk} : lkB D = true ↔ LOk D := by
  unfold lkB
  simp only [Bool.and_eq_true, decide_eq_true_eq, okTo_iff]
  constructor
  · rintro ⟨h1, h2, h3, h4⟩
    have h1 := of_inB h1
    have h2 := of_inB h2
    rw [slp_cnt fun i hi => (h3 i hi).l, cntIn_eq] at h4
    exact ⟨h1, by omega, h3, h4.1, h4.2⟩
  · rintro ⟨h1, h2, h3, h4, h5⟩
    exact ⟨inB_of h1, inB_of (by omega), h3, by rw [slp_cnt fun i hi => (h3 i hi).l, cntIn_eq]; exact ⟨h4, h5⟩⟩
theorem th_put {D : Lk} {w : Int} {i : Nat} {t : EThread} {L : List Int} (hi : i < D.2.1.length) (j : Nat) : th (putT D w i t L) j = if j = i then t else th D j := by
  unfold th putT
  dsimp only
  simp only [List.getD_eq_getElem?_getD, List.getElem?_set]
  by_cases e : i = j
  · subst e; simp [hi]
  · rw [if_neg e, if_neg (fun h => e h.symm)]
theorem len_put {D : Lk} {w : Int} {i : Nat} {t : EThread} {L : List Int} : (putT D w i t L).2.1.length = D.2.1.length := by
  unfold putT; dsimp only; exact List.length_set ..
/-- a thread that is awake becomes another one, the line stays -/
theorem put_ok {D : Lk} (h : LOk D) {w : Int} {i : Nat} {t : EThread} (hi : i < D.2.1.length) (hw : 0 ≤ w ∧ w ≤ 2) (ht : TOk D.2.2 i t) : LOk (putT D w i t D.2.2) where
  w := hw
  n := by rw [len_put]; exact h.n
  t := fun j hj => by
    rw [len_put] at hj
    rw [th_put hi]
    by_cases e : j = i
    · rw [if_pos e]; subst e; exact ht
    · rw [if_neg e]; exact h.t j hj
  nd := h.nd
  rng := by rw [len_put]; exact h.rng
theorem can_iff {D : Lk} {i : Nat} : canB D i = true ↔ (th D i).f3 = false ∧ (0 < (th D i).f0 ∨ 0 < (th D i).f2) := by
  unfold canB; simp
/-- the steps, one by one: what becomes of the word, of the thread, and the line -/
inductive Stp (D : Lk) (i : Nat) : Lk → Prop where
  | take0 (h : (th D i).f0 = 0) (hw : D.1 = 0) : Stp D i (putT D 1 i ⟨4, (th D i).f1, (th D i).f2, (th D i).f3⟩ D.2.2)
  | take3 (h : (th D i).f0 = 3) (hw : D.1 = 0) : Stp D i (putT D 2 i ⟨4, (th D i).f1, (th D i).f2, (th D i).f3⟩ D.2.2)
  | see (h : (th D i).f0 = 0 ∨ (th D i).f0 = 3) (hw : D.1 ≠ 0) : Stp D i (putT D D.1 i ⟨1, D.1, (th D i).f2, (th D i).f3⟩ D.2.2)
  | saw2 (h : (th D i).f0 = 1) (hs : (th D i).f1 = 2) : Stp D i (putT D D.1 i ⟨2, 0, (th D i).f2, (th D i).f3⟩ D.2.2)
  | free (h : (th D i).f0 = 1) (hw : D.1 = 0) : Stp D i (putT D D.1 i ⟨3, 0, (th D i).f2, (th D i).f3⟩ D.2.2)
  | mark (h : (th D i).f0 = 1) (hw : D.1 ≠ 0) : Stp D i (putT D 2 i ⟨2, 0, (th D i).f2, (th D i).f3⟩ D.2.2)
  | sleep (h : (th D i).f0 = 2) (hw : D.1 = 2) : Stp D i (putT D D.1 i ⟨3, (th D i).f1, (th D i).f2, true⟩ (D.2.2 ++ [(i : Int)]))
  | stay (h : (th D i).f0 = 2) (hw : D.1 ≠ 2) : Stp D i (putT D D.1 i ⟨3, (th D i).f1, (th D i).f2, (th D i).f3⟩ D.2.2)
  | give (h : (th D i).f0 = 4) (hw : D.1 ≤ 1) : Stp D i (putT D 0 i ⟨0, (th D i).f1, (th D i).f2 - 1, (th D i).f3⟩ D.2.2)
  | less (h : (th D i).f0 = 4) (hw : D.1 = 2) : Stp D i (putT D 1 i ⟨5, (th D i).f1, (th D i).f2, (th D i).f3⟩ D.2.2)
  | zero (h : (th D i).f0 = 5) : Stp D i (putT D 0 i ⟨6, (th D i).f1, (th D i).f2, (th D i).f3⟩ D.2.2)
  | none (h : (th D i).f0 = 6) (hl : D.2.2 = []) : Stp D i (putT D D.1 i ⟨0, (th D i).f1, (th D i).f2 - 1, (th D i).f3⟩ D.2.2)
  | wake (h : (th D i).f0 = 6) (x : Int) (r : List Int) (hl : D.2.2 = x :: r) :
      Stp D i (D.1, (D.2.1.set x.toNat ⟨(th D x.toNat).f0, (th D x.toNat).f1, (th D x.toNat).f2, false⟩).set i ⟨0, (th D i).f1, (th D i).f2 - 1, (th D i).f3⟩, r)
theorem stp {D : Lk} (h : LOk D) {i : Nat} (hi : i < D.2.1.length) : Stp D i (stepD D i) := by
  have ht := h.t i hi
  have hw := h.w
  unfold stepD
  by_cases h0 : (th D i).f0 = 0
  · rw [if_pos (Or.inl h0), h0]
    by_cases e : D.1 = 0
    · rw [if_pos e]; exact .take0 h0 e
    · rw [if_neg e]; exact .see (Or.inl h0) e
  by_cases h3 : (th D i).f0 = 3
  · rw [if_pos (Or.inr h3), h3]
    by_cases e : D.1 = 0
    · rw [if_pos e]; exact .take3 h3 e
    · rw [if_neg e]; exact .see (Or.inr h3) e
  rw [if_neg (by omega)]
  by_cases h1 : (th D i).f0 = 1
  · rw [if_pos h1]
    by_cases e2 : (th D i).f1 = 2
    · rw [if_pos e2]; exact .saw2 h1 e2
    · rw [if_neg e2]
      by_cases e : D.1 = 0
      · rw [if_pos e]; exact .free h1 e
      · rw [if_neg e]; exact .mark h1 e
  rw [if_neg h1]
  by_cases h2 : (th D i).f0 = 2
  · rw [if_pos h2]
    by_cases e : D.1 = 2
    · rw [if_pos e]; exact .sleep h2 e
    · rw [if_neg e]; exact .stay h2 e
  rw [if_neg h2]
  by_cases h4 : (th D i).f0 = 4
  · rw [if_pos h4]
    by_cases e : D.1 - 1 ≤ 0
    · rw [if_pos e]; exact .give h4 (by omega)
    · rw [if_neg e, show D.1 - 1 = 1 by omega]; exact .less h4 (by omega)
  rw [if_neg h4]
  by_cases h5 : (th D i).f0 = 5
  · rw [if_pos h5]; exact .zero h5
  rw [if_neg h5]
  have h6 : (th D i).f0 = 6 := by have := ht.a; omega
  split
  · rename_i hl; have := Stp.none (D := D) (i := i) h6 hl; rw [hl] at this; exact this
  · rename_i x r hl; exact .wake h6 x r hl
theorem th_wake {D : Lk} {i x : Nat} {a b : EThread} {w : Int} {r : List Int} (hi : i < D.2.1.length) (hx : x < D.2.1.length) (j : Nat) :
    th (w, (D.2.1.set x a).set i b, r) j = if j = i then b else if j = x then a else th D j := by
  unfold th
  dsimp only
  simp only [List.getD_eq_getElem?_getD, List.getElem?_set, List.length_set]
  by_cases e : j = i
  · subst e; simp [hi]
  · have e' : ¬ i = j := fun h => e h.symm
    by_cases e2 : j = x
    · subst e2; simp [hx, e, e']
    · have e2' : ¬ x = j := fun h => e2 h.symm
      simp [e, e', e2, e2']
theorem step_ok {D : Lk} (h : LOk D) {i : Nat} (hi : i < D.2.1.length) (hc : canB D i = true) : LOk (stepD D i) := by
  obtain ⟨hz, hcu⟩ := can_iff.1 hc
  have ht := h.t i hi
  have hw := h.w
  have hnl : ¬ (i : Int) ∈ D.2.2 := fun e => by rw [ht.l.2 e] at hz; cases hz
  have hfl : ∀ (t : EThread), t.f3 = (th D i).f3 → (t.f3 = true ↔ (i : Int) ∈ D.2.2) := fun t e => by rw [e]; exact ht.l
  have hfz : ∀ (t : EThread), t.f3 = (th D i).f3 → t.f3 = true → t.f0 = 3 := fun t e e2 => by rw [e, hz] at e2; cases e2
  have ha := ht.a
  have hs := ht.s
  have hs1 := ht.s1
  have hu := ht.u
  have hu1 := ht.u1
  generalize hE : stepD D i = E
  have hst := stp h hi
  rw [hE] at hst
  cases hst with
  | take0 h0 h1 => exact put_ok h hi (by omega) ⟨by dsimp only; omega, by dsimp only; omega, by dsimp only; omega, hu, by dsimp only; omega, hfz _ rfl, hfl _ rfl⟩
  | take3 h0 h1 => exact put_ok h hi (by omega) ⟨by dsimp only; omega, by dsimp only; omega, by dsimp only; omega, hu, by dsimp only; omega, hfz _ rfl, hfl _ rfl⟩
  | see h0 h1 => exact put_ok h hi (by omega) ⟨by dsimp only; omega, by dsimp only; omega, by dsimp only; omega, hu, by dsimp only; omega, hfz _ rfl, hfl _ rfl⟩
  | saw2 h0 h1 => exact put_ok h hi (by omega) ⟨by dsimp only; omega, by dsimp only; omega, by dsimp only; omega, hu, by dsimp only; omega, hfz _ rfl, hfl _ rfl⟩
  | free h0 h1 => exact put_ok h hi (by omega) ⟨by dsimp only; omega, by dsimp only; omega, by dsimp only; omega, hu, by dsimp only; omega, hfz _ rfl, hfl _ rfl⟩
  | mark h0 h1 => exact put_ok h hi (by omega) ⟨by dsimp only; omega, by dsimp only; omega, by dsimp only; omega, hu, by dsimp only; omega, hfz _ rfl, hfl _ rfl⟩
  | stay h0 h1 => exact put_ok h hi (by omega) ⟨by dsimp only; omega, by dsimp only; omega, by dsimp only; omega, hu, by dsimp only; omega, hfz _ rfl, hfl _ rfl⟩
  | give h0 h1 => exact put_ok h hi (by omega) ⟨by dsimp only; omega, by dsimp only; omega, by dsimp only; omega, by dsimp only; omega, by dsimp only; omega, hfz _ rfl, hfl _ rfl⟩
  | less h0 h1 => exact put_ok h hi (by omega) ⟨by dsimp only; omega, by dsimp only; omega, by dsimp only; omega, hu, by dsimp only; omega, hfz _ rfl, hfl _ rfl⟩
  | zero h0 => exact put_ok h hi (by omega) ⟨by dsimp only; omega, by dsimp only; omega, by dsimp only; omega, hu, by dsimp only; omega, hfz _ rfl, hfl _ rfl⟩
  | none h0 h1 => exact put_ok h hi (by omega) ⟨by dsimp only; omega, by dsimp only; omega, by dsimp only; omega, by dsimp only; omega, by dsimp only; omega, hfz _ rfl, hfl _ rfl⟩
  | sleep h0 h1 =>
    refine ⟨by show 0 ≤ D.1 ∧ D.1 ≤ 2; omega, by rw [len_put]; exact h.n, fun j hj => ?_, ?_, fun x hx => ?_⟩
    · rw [len_put] at hj
      rw [th_put hi]
      show TOk (D.2.2 ++ [(i : Int)]) j _
      by_cases e : j = i
      · subst e
        rw [if_pos rfl]
        exact ⟨by dsimp only; omega, by dsimp only; omega, by dsimp only; omega, hu, by dsimp only; omega, fun _ => rfl, by simp⟩
      · rw [if_neg e]
        have hj2 := h.t j hj
        refine ⟨hj2.a, hj2.s, hj2.s1, hj2.u, hj2.u1, hj2.z, ?_⟩
        rw [hj2.l, List.mem_append, List.mem_singleton]
        constructor
        · exact Or.inl
        · rintro (h | h)
          · exact h
          · omega
    · show (D.2.2 ++ [(i : Int)]).Nodup
      rw [List.nodup_append]
      refine ⟨h.nd, by simp, fun a ha b hb => ?_⟩
      rw [List.mem_singleton] at hb
      intro e
      exact hnl (by rw [← hb, ← e]; exact ha)
    · rw [len_put]
      rcases List.mem_append.1 (show x ∈ D.2.2 ++ [(i : Int)] from hx) with hx | hx
      · exact h.rng x hx
      · rw [List.mem_singleton] at hx; omega
  | wake h0 x r hl =>
    have hxm : x ∈ D.2.2 := by rw [hl]; exact List.mem_cons_self
    have hxr := h.rng x hxm
    have hxn : x.toNat < D.2.1.length := by omega
    have hxc : ((x.toNat : Nat) : Int) = x := by omega
    have hnd := h.nd
    rw [hl, List.nodup_cons] at hnd
    refine ⟨by show 0 ≤ D.1 ∧ D.1 ≤ 2; omega, by simp only [List.length_set]; exact h.n, fun j hj => ?_, hnd.2, fun y hy => ?_⟩
    · simp only [List.length_set] at hj
      rw [th_wake hi hxn]
      show TOk r j _
      by_cases e : j = i
      · rw [if_pos e]
        subst e
        refine ⟨by dsimp only; omega, by dsimp only; omega, by dsimp only; omega, by dsimp only; omega, by dsimp only; omega, hfz _ rfl, ?_⟩
        show (th D j).f3 = true ↔ (j : Int) ∈ r
        rw [hz]
        constructor
        · intro h; cases h
        · intro h2; exact absurd (by rw [hl]; exact List.mem_cons_of_mem _ h2) hnl
      · rw [if_neg e]
        by_cases e2 : j = x.toNat
        · rw [if_pos e2, ← e2]
          have hj2 := h.t j hj
          refine ⟨hj2.a, hj2.s, hj2.s1, hj2.u, hj2.u1, (by intro h; cases h), ?_⟩
          show false = true ↔ (j : Int) ∈ r
          constructor
          · intro h; cases h
          · intro h2; exact absurd (by rw [← hxc, ← e2]; exact h2) hnd.1
        · rw [if_neg e2]
          have hj2 := h.t j hj
          refine ⟨hj2.a, hj2.s, hj2.s1, hj2.u, hj2.u1, hj2.z, ?_⟩
          rw [hj2.l, hl, List.mem_cons]
          constructor
          · rintro (h | h)
            · omega
            · exact h
          · exact Or.inr
    · simp only [List.length_set]
      exact h.rng y (by rw [hl]; exact List.mem_cons_of_mem _ hy)
/-- who holds the lock, or is about to wake another one -/
def holds (t : EThread) : Prop := t.f0 = 4 ∨ t.f0 = 5
def wayT (t : EThread) : Prop := t.f0 = 5 ∨ t.f0 = 6 ∨ (t.f0 = 3 ∧ t.f3 = false) ∨ t.f0 = 1 ∨ t.f0 = 2
structure LInv (D : Lk) : Prop where
  ok : LOk D
  one : ∀ i j, i < D.2.1.length → j < D.2.1.length → holds (th D i) → holds (th D j) → i = j
  word : D.1 ≠ 0 ↔ ∃ i, i < D.2.1.length ∧ holds (th D i)
  way : D.2.2 ≠ [] → D.1 = 2 ∨ ∃ i, i < D.2.1.length ∧ wayT (th D i)
theorem inv_put {D : Lk} (h : LInv D) {w : Int} {i : Nat} {t : EThread} {L : List Int} (hi : i < D.2.1.length) (hok : LOk (putT D w i t L))
    (hh : (¬ holds (th D i) ∧ holds t ∧ D.1 = 0 ∧ w ≠ 0) ∨ (holds (th D i) ∧ ¬ holds t ∧ w = 0) ∨ ((holds (th D i) ↔ holds t) ∧ (D.1 ≠ 0 ↔ w ≠ 0)))
    (hw : L ≠ [] → w = 2 ∨ wayT t ∨ (D.2.2 ≠ [] ∧ ((D.1 = 2 ∨ wayT (th D i)) → w = 2 ∨ wayT t))) : LInv (putT D w i t L) := by
  have hth := fun j => th_put (D := D) (w := w) (i := i) (t := t) (L := L) hi j
  have hword : (putT D w i t L).1 = w := rfl
  have hline : (putT D w i t L).2.2 = L := rfl
  have hself : th (putT D w i t L) i = t := by rw [hth, if_pos rfl]
  have hoth : ∀ j, j ≠ i → th (putT D w i t L) j = th D j := fun j e => by rw [hth, if_neg e]
  refine ⟨hok, ?_, ?_, ?_⟩
  · intro a b ha hb
    rw [len_put] at ha hb
    by_cases ea : a = i
    · by_cases eb : b = i
      · intro _ _; omega
      · rw [hoth b eb]
        subst ea
        rw [hself]
        intro h1 h2
        rcases hh with ⟨_, _, h0, _⟩ | ⟨_, h3, _⟩ | ⟨h3, _⟩
        · exact absurd (h.word.2 ⟨b, hb, h2⟩) (by rw [h0]; simp)
        · exact absurd h1 h3
        · exact h.one a b ha hb (h3.2 h1) h2
    · rw [hoth a ea]
      by_cases eb : b = i
      · subst eb
        rw [hself]
        intro h1 h2
        rcases hh with ⟨_, _, h0, _⟩ | ⟨_, h3, _⟩ | ⟨h3, _⟩
        · exact absurd (h.word.2 ⟨a, ha, h1⟩) (by rw [h0]; simp)
        · exact absurd h2 h3
        · exact h.one a b ha hb h1 (h3.2 h2)
      · rw [hoth b eb]; exact h.one a b ha hb
  · rw [hword, len_put]
    rcases hh with ⟨_, h1, _, h2⟩ | ⟨h1, h2, h3⟩ | ⟨h1, h2⟩
    · exact ⟨fun _ => ⟨i, hi, by rw [hself]; exact h1⟩, fun _ => h2⟩
    · constructor
      · intro h4; exact absurd h3 h4
      · rintro ⟨j, hj, h5⟩
        by_cases e : j = i
        · subst e; rw [hself] at h5; exact absurd h5 h2
        · rw [hoth j e] at h5; exact absurd (h.one j i hj hi h5 h1) e
    · rw [← h2, h.word]
      constructor
      · rintro ⟨j, hj, h5⟩
        by_cases e : j = i
        · subst e; exact ⟨j, hj, by rw [hself]; exact h1.1 h5⟩
        · exact ⟨j, hj, by rw [hoth j e]; exact h5⟩
      · rintro ⟨j, hj, h5⟩
        by_cases e : j = i
        · subst e; rw [hself] at h5; exact ⟨j, hj, h1.2 h5⟩
        · rw [hoth j e] at h5; exact ⟨j, hj, h5⟩
  · rw [hline, hword, len_put]
    intro hl
    rcases hw hl with h1 | h1 | ⟨h1, h2⟩
    · exact Or.inl h1
    · exact Or.inr ⟨i, hi, by rw [hself]; exact h1⟩
    · rcases h.way h1 with h3 | ⟨j, hj, h3⟩
      · rcases h2 (Or.inl h3) with h4 | h4
        · exact Or.inl h4
        · exact Or.inr ⟨i, hi, by rw [hself]; exact h4⟩
      · by_cases e : j = i
        · subst e
          rcases h2 (Or.inr h3) with h4 | h4
          · exact Or.inl h4
          · exact Or.inr ⟨j, hj, by rw [hself]; exact h4⟩
        · exact Or.inr ⟨j, hj, by rw [hoth j e]; exact h3⟩
theorem step_inv {D : Lk} (h : LInv D) {i : Nat} (hi : i < D.2.1.length) (hc : canB D i = true) : LInv (stepD D i) := by
  obtain ⟨hz, hcu⟩ := can_iff.1 hc
  have hok := step_ok h.ok hi hc
  have hst := stp h.ok hi
  have hw := h.ok.w
  generalize stepD D i = E at hok hst
  cases hst with
  | take0 h0 h1 => exact inv_put h hi hok (Or.inl ⟨by unfold holds; omega, Or.inl rfl, h1, by omega⟩) (fun hl => Or.inr (Or.inr ⟨hl, fun h2 => by unfold wayT at h2; omega⟩))
  | take3 h0 h1 => exact inv_put h hi hok (Or.inl ⟨by unfold holds; omega, Or.inl rfl, h1, by omega⟩) (fun hl => Or.inl rfl)
  | see h0 h1 => exact inv_put h hi hok (Or.inr (Or.inr ⟨by unfold holds; dsimp only; omega, Iff.rfl⟩)) (fun hl => Or.inr (Or.inl (by unfold wayT; dsimp only; omega)))
  | saw2 h0 h1 => exact inv_put h hi hok (Or.inr (Or.inr ⟨by unfold holds; dsimp only; omega, Iff.rfl⟩)) (fun hl => Or.inr (Or.inl (by unfold wayT; dsimp only; omega)))
  | free h0 h1 => exact inv_put h hi hok (Or.inr (Or.inr ⟨by unfold holds; dsimp only; omega, Iff.rfl⟩)) (fun hl => Or.inr (Or.inl (Or.inr (Or.inr (Or.inl ⟨rfl, hz⟩)))))
  | mark h0 h1 => exact inv_put h hi hok (Or.inr (Or.inr ⟨by unfold holds; dsimp only; omega, by omega⟩)) (fun hl => Or.inl rfl)
  | sleep h0 h1 => exact inv_put h hi hok (Or.inr (Or.inr ⟨by unfold holds; dsimp only; omega, Iff.rfl⟩)) (fun hl => Or.inl h1)
  | stay h0 h1 => exact inv_put h hi hok (Or.inr (Or.inr ⟨by unfold holds; dsimp only; omega, Iff.rfl⟩)) (fun hl => Or.inr (Or.inl (Or.inr (Or.inr (Or.inl ⟨rfl, hz⟩)))))
  | give h0 h1 => exact inv_put h hi hok (Or.inr (Or.inl ⟨Or.inl h0, by unfold holds; dsimp only; omega, rfl⟩)) (fun hl => Or.inr (Or.inr ⟨hl, fun h2 => by unfold wayT at h2; omega⟩))
  | less h0 h1 => exact inv_put h hi hok (Or.inr (Or.inr ⟨by unfold holds; dsimp only; omega, by omega⟩)) (fun hl => Or.inr (Or.inl (Or.inl rfl)))
  | zero h0 => exact inv_put h hi hok (Or.inr (Or.inl ⟨Or.inr h0, by unfold holds; dsimp only; omega, rfl⟩)) (fun hl => Or.inr (Or.inl (Or.inr (Or.inl rfl))))
  | none h0 h1 => exact inv_put h hi hok (Or.inr (Or.inr ⟨by unfold holds; dsimp only; omega, Iff.rfl⟩)) (fun hl => absurd h1 hl)
  | wake h0 x r hl =>
    have hxm : x ∈ D.2.2 := by rw [hl]; exact List.mem_cons_self
    have hxr := h.ok.rng x hxm
    have hxn : x.toNat < D.2.1.length := by omega
    have hxc : ((x.toNat : Nat) : Int) = x := by omega
    have hx3 := (h.ok.t x.toNat hxn).l.2 (by rw [hxc]; exact hxm)
    have hx0 := (h.ok.t x.toNat hxn).z hx3
    have hxi : x.toNat ≠ i := fun e => by rw [e, hz] at hx3; cases hx3
    have hth := fun j => th_wake (D := D) (a := ⟨(th D x.toNat).f0, (th D x.toNat).f1, (th D x.toNat).f2, false⟩) (b := ⟨0, (th D i).f1, (th D i).f2 - 1, (th D i).f3⟩) (w := D.1) (r := r) hi hxn j
    have hlen : (D.1, (D.2.1.set x.toNat ⟨(th D x.toNat).f0, (th D x.toNat).f1, (th D x.toNat).f2, false⟩).set i ⟨0, (th D i).f1, (th D i).f2 - 1, (th D i).f3⟩, r).2.1.length = D.2.1.length := by simp
    generalize hE : ((D.1, (D.2.1.set x.toNat ⟨(th D x.toNat).f0, (th D x.toNat).f1, (th D x.toNat).f2, false⟩).set i ⟨0, (th D i).f1, (th D i).f2 - 1, (th D i).f3⟩, r) : Lk) = E at hok hth hlen
    have hEw : E.1 = D.1 := by rw [← hE]
    have hEl : E.2.2 = r := by rw [← hE]
    have hho : ∀ j, holds (th E j) ↔ holds (th D j) := by
      intro j
      rw [hth]
      by_cases e : j = i
      · rw [if_pos e, e]; unfold holds; dsimp only; omega
      · rw [if_neg e]
        by_cases e2 : j = x.toNat
        · rw [if_pos e2, e2]; exact Iff.rfl
        · rw [if_neg e2]
    refine ⟨hok, ?_, ?_, ?_⟩
    · intro a b ha hb
      rw [hlen] at ha hb
      rw [hho, hho]; exact h.one a b ha hb
    · rw [hEw, hlen, h.word]
      constructor
      · rintro ⟨j, hj, h5⟩; exact ⟨j, hj, (hho j).2 h5⟩
      · rintro ⟨j, hj, h5⟩; exact ⟨j, hj, (hho j).1 h5⟩
    · intro _
      rw [hlen]
      refine Or.inr ⟨x.toNat, hxn, ?_⟩
      rw [hth, if_neg hxi, if_pos rfl]
      exact Or.inr (Or.inr (Or.inl ⟨hx0, rfl⟩))
/-- who may do a step -/
theorem can_of {D : Lk} (h : LOk D) {i : Nat} (hi : i < D.2.1.length) (h0 : (th D i).f0 = 5 ∨ (th D i).f0 = 6 ∨ ((th D i).f0 = 3 ∧ (th D i).f3 = false) ∨ (th D i).f0 = 1 ∨ (th D i).f0 = 2 ∨ (th D i).f0 = 4) : canB D i = true := by
  have hz := (h.t i hi).z
  refine can_iff.2 ⟨?_, Or.inl (by omega)⟩
  cases e : (th D i).f3
  · rfl
  · have := hz e; rw [e] at h0; simp at h0; omega
theorem not_stuck {D : Lk} (h : LInv D) (hl : D.2.2 ≠ []) : ∃ i, i < D.2.1.length ∧ canB D i = true := by
  rcases h.way hl with h1 | ⟨i, hi, h1⟩
  · obtain ⟨i, hi, h2⟩ := h.word.1 (by omega)
    exact ⟨i, hi, can_of h.ok hi (by unfold holds at h2; omega)⟩
  · refine ⟨i, hi, can_of h.ok hi ?_⟩
    unfold wayT at h1
    rcases h1 with h | h | h | h | h <;> simp [h]
/-- a step leaves others as they are, but wakes one -/
theorem step_keep {D : Lk} (h : LOk D) {i j : Nat} (hi : i < D.2.1.length) (hij : j ≠ i) : (th (stepD D i) j).f0 = (th D j).f0 ∧ (th (stepD D i) j).f1 = (th D j).f1 ∧ (th (stepD D i) j).f2 = (th D j).f2 ∧ ((th D j).f3 = false → (th (stepD D i) j).f3 = false) := by
  have hst := stp h hi
  generalize stepD D i = E at hst
  cases hst with
  | wake h0 x r hl =>
    have hxm : x ∈ D.2.2 := by rw [hl]; exact List.mem_cons_self
    have hxr := h.rng x hxm
    rw [th_wake hi (show x.toNat < D.2.1.length by omega), if_neg hij]
    by_cases e2 : j = x.toNat
    · rw [if_pos e2, e2]; exact ⟨rfl, rfl, rfl, fun _ => rfl⟩
    · rw [if_neg e2]; exact ⟨rfl, rfl, rfl, id⟩
  | _ => rw [th_put hi, if_neg hij]; exact ⟨rfl, rfl, rfl, id⟩
theorem step_len {D : Lk} (h : LOk D) {i : Nat} (hi : i < D.2.1.length) : (stepD D i).2.1.length = D.2.1.length := by
  have hst := stp h hi
  generalize stepD D i = E at hst
  cases hst with
  | wake h0 x r hl => simp
  | _ => exact len_put
/-- the turns of the first n -/
def totTo (D : Lk) : Nat → Int
  | 0 => 0
  | n + 1 => totTo D n + (th D n).f2
theorem tot_same {D E : Lk} : ∀ {n : Nat}, (∀ j, j < n → (th E j).f2 = (th D j).f2) → totTo E n = totTo D n
  | 0, _ => rfl
  | n + 1, h => by show totTo E n + _ = totTo D n + _; rw [tot_same fun j hj => h j (by omega), h n (by omega)]
theorem tot_one {D E : Lk} {i : Nat} : ∀ {n : Nat}, i < n → (∀ j, j < n → j ≠ i → (th E j).f2 = (th D j).f2) → totTo E n = totTo D n + ((th E i).f2 - (th D i).f2)
  | 0, h, _ => by omega
  | n + 1, hi, h => by
    show totTo E n + _ = totTo D n + _ + _
    by_cases e : i = n
    · subst e
      rw [tot_same fun j hj => h j (by omega) (by omega)]; omega
    · rw [tot_one (show i < n by omega) fun j hj => h j (by omega), h n (by omega) (fun h2 => e h2.symm)]; omega
def tot (D : Lk) : Int := totTo D D.2.1.length
theorem tot_nn {D : Lk} (h : LOk D) : ∀ {n : Nat}, n ≤ D.2.1.length → 0 ≤ totTo D n ∧ totTo D n ≤ 3 * n
  | 0, _ => by simp [totTo]
  | n + 1, hn => by
    have h1 := tot_nn h (n := n) (by omega)
    have h2 := (h.t n (by omega)).u
    show 0 ≤ totTo D n + _ ∧ totTo D n + _ ≤ _
    omega
/-- what a step makes of the thread: where it stands, and its turns -/
theorem step_self {D : Lk} (h : LOk D) {i : Nat} (hi : i < D.2.1.length) (hc : canB D i = true) :
    ((th (stepD D i) i).f2 = (th D i).f2 ∨ ((th (stepD D i) i).f2 = (th D i).f2 - 1)) ∧
    ((th D i).f0 = 6 → (th (stepD D i) i).f2 = (th D i).f2 - 1) ∧
    ((th D i).f0 = 5 → (th (stepD D i) i).f0 = 6 ∧ (th (stepD D i) i).f2 = (th D i).f2) ∧
    ((th D i).f0 = 4 → (th (stepD D i) i).f0 = 5 ∨ (th (stepD D i) i).f2 = (th D i).f2 - 1) ∧
    ((th D i).f0 = 1 → (th (stepD D i) i).f0 = 2 ∨ ((th (stepD D i) i).f0 = 3 ∧ (th (stepD D i) i).f3 = false)) ∧
    ((th D i).f0 = 2 → D.1 = 2 ∨ ((th (stepD D i) i).f0 = 3 ∧ (th (stepD D i) i).f3 = false)) ∧
    ((th D i).f0 = 0 ∨ (th D i).f0 = 3 → D.1 ≠ 0 ∨ (th (stepD D i) i).f0 = 4) := by
  obtain ⟨hz, hcu⟩ := can_iff.1 hc
  have hst := stp h hi
  generalize stepD D i = E at hst
  cases hst with
  | wake h0 x r hl =>
    have hxm : x ∈ D.2.2 := by rw [hl]; exact List.mem_cons_self
    have hxr := h.rng x hxm
    rw [th_wake hi (show x.toNat < D.2.1.length by omega), if_pos rfl]
    dsimp only
    refine ⟨Or.inr rfl, fun _ => rfl, by omega, by omega, by omega, by omega, by omega⟩
  | take0 h0 h1 => rw [th_put hi, if_pos rfl]; dsimp only; exact ⟨Or.inl rfl, by omega, by omega, by omega, by omega, by omega, fun _ => Or.inr rfl⟩
  | take3 h0 h1 => rw [th_put hi, if_pos rfl]; dsimp only; exact ⟨Or.inl rfl, by omega, by omega, by omega, by omega, by omega, fun _ => Or.inr rfl⟩
  | see h0 h1 => rw [th_put hi, if_pos rfl]; dsimp only; exact ⟨Or.inl rfl, by omega, by omega, by omega, by omega, by omega, fun _ => Or.inl h1⟩
  | saw2 h0 h1 => rw [th_put hi, if_pos rfl]; dsimp only; exact ⟨Or.inl rfl, by omega, by omega, by omega, fun _ => Or.inl rfl, by omega, by omega⟩
  | free h0 h1 => rw [th_put hi, if_pos rfl]; dsimp only; exact ⟨Or.inl rfl, by omega, by omega, by omega, fun _ => Or.inr ⟨rfl, hz⟩, by omega, by omega⟩
  | mark h0 h1 => rw [th_put hi, if_pos rfl]; dsimp only; exact ⟨Or.inl rfl, by omega, by omega, by omega, fun _ => Or.inl rfl, by omega, by omega⟩
  | sleep h0 h1 => rw [th_put hi, if_pos rfl]; dsimp only; exact ⟨Or.inl rfl, by omega, by omega, by omega, by omega, fun _ => Or.inl h1, by omega⟩
  | stay h0 h1 => rw [th_put hi, if_pos rfl]; dsimp only; exact ⟨Or.inl rfl, by omega, by omega, by omega, by omega, fun _ => Or.inr ⟨rfl, hz⟩, by omega⟩
  | give h0 h1 => rw [th_put hi, if_pos rfl]; dsimp only; exact ⟨Or.inr rfl, by omega, by omega, fun _ => Or.inr rfl, by omega, by omega, by omega⟩
  | less h0 h1 => rw [th_put hi, if_pos rfl]; dsimp only; exact ⟨Or.inl rfl, by omega, by omega, fun _ => Or.inl rfl, by omega, by omega, by omega⟩
  | zero h0 => rw [th_put hi, if_pos rfl]; dsimp only; exact ⟨Or.inl rfl, by omega, fun _ => ⟨rfl, rfl⟩, by omega, by omega, by omega, by omega⟩
  | none h0 h1 => rw [th_put hi, if_pos rfl]; dsimp only; exact ⟨Or.inr rfl, fun _ => rfl, by omega, by omega, by omega, by omega, by omega⟩
theorem tot_step {D : Lk} (h : LOk D) {i : Nat} (hi : i < D.2.1.length) : tot (stepD D i) = tot D + ((th (stepD D i) i).f2 - (th D i).f2) := by
  unfold tot
  rw [step_len h hi]
  exact tot_one hi fun j _ hij => (step_keep h hi hij).2.2.1
/-- a step, if it can be done -/
def tryD (D : Lk) (i : Nat) : Lk := if canB D i = true then stepD D i else D
theorem try_inv {D : Lk} (h : LInv D) {i : Nat} (hi : i < D.2.1.length) : LInv (tryD D i) := by
  unfold tryD; split
  · rename_i hc; exact step_inv h hi hc
  · exact h
theorem try_len {D : Lk} (h : LOk D) {i : Nat} (hi : i < D.2.1.length) : (tryD D i).2.1.length = D.2.1.length := by
  unfold tryD; split
  · exact step_len h hi
  · rfl
theorem try_tot {D : Lk} (h : LOk D) {i : Nat} (hi : i < D.2.1.length) : tot (tryD D i) ≤ tot D := by
  unfold tryD; split
  · rename_i hc
    have := tot_step h hi
    have := (step_self h hi hc).1
    omega
  · exact Int.le_refl _
/-- m threads have had their chance -/
def rndTo (D : Lk) : Nat → Lk
  | 0 => D
  | m + 1 => tryD (rndTo D m) m
theorem rnd_inv {D : Lk} (h : LInv D) : ∀ {m : Nat}, m ≤ D.2.1.length → LInv (rndTo D m) ∧ (rndTo D m).2.1.length = D.2.1.length ∧ tot (rndTo D m) ≤ tot D
  | 0, _ => ⟨h, rfl, Int.le_refl _⟩
  | m + 1, hm => by
    obtain ⟨h1, h2, h3⟩ := rnd_inv h (m := m) (by omega)
    have hl : m < (rndTo D m).2.1.length := by omega
    exact ⟨try_inv h1 hl, (try_len h1.ok hl).trans h2, Int.le_trans (try_tot h1.ok hl) h3⟩
/-- whose chance has not come is as it was, but awake -/
theorem rnd_wait {D : Lk} (h : LInv D) {j : Nat} : ∀ {m : Nat}, m ≤ D.2.1.length → m ≤ j → (th (rndTo D m) j).f0 = (th D j).f0 ∧ (th (rndTo D m) j).f2 = (th D j).f2 ∧ ((th D j).f3 = false → (th (rndTo D m) j).f3 = false)
  | 0, _, _ => ⟨rfl, rfl, id⟩
  | m + 1, hm, hj => by
    obtain ⟨h1, h2, h3⟩ := rnd_wait h (j := j) (m := m) (by omega) (by omega)
    obtain ⟨g1, g2, _⟩ := rnd_inv h (m := m) (by omega)
    rw [show rndTo D (m + 1) = tryD (rndTo D m) m from rfl]
    unfold tryD
    split
    · obtain ⟨k0, _, k2, k3⟩ := step_keep g1.ok (i := m) (j := j) (by omega) (by omega)
      exact ⟨k0.trans h1, k2.trans h2, fun e => k3 (h3 e)⟩
    · exact ⟨h1, h2, h3⟩
/-- a thread at 4, 5 or 6 goes on there, or turns are fewer -/
def busy (t : EThread) : Prop := t.f0 = 4 ∨ t.f0 = 5 ∨ t.f0 = 6
theorem try_busy {D : Lk} (h : LInv D) {i j : Nat} (hi : i < D.2.1.length) (hb : busy (th D j)) : busy (th (tryD D i) j) ∨ tot (tryD D i) < tot D := by
  unfold tryD
  split
  · rename_i hc
    by_cases e : j = i
    · subst e
      have h1 := step_self h.ok hi hc
      have h2 := tot_step h.ok hi
      unfold busy at hb ⊢
      omega
    · have := step_keep h.ok hi e
      left; unfold busy at hb ⊢; omega
  · exact Or.inl hb
theorem rnd_le {D : Lk} (h : LInv D) {a : Nat} : ∀ {m : Nat}, a ≤ m → m ≤ D.2.1.length → tot (rndTo D m) ≤ tot (rndTo D a)
  | 0, h1, _ => by obtain rfl : a = 0 := by omega
                   exact Int.le_refl _
  | m + 1, h1, h2 => by
    by_cases e : a = m + 1
    · subst e; exact Int.le_refl _
    · obtain ⟨g1, g2, _⟩ := rnd_inv h (m := m) (by omega)
      exact Int.le_trans (try_tot g1.ok (by omega)) (rnd_le h (m := m) (by omega) (by omega))
theorem rnd_busy {D : Lk} (h : LInv D) {j a : Nat} (hb : busy (th (rndTo D a) j)) : ∀ {m : Nat}, a ≤ m → m ≤ D.2.1.length → busy (th (rndTo D m) j) ∨ tot (rndTo D m) < tot (rndTo D a)
  | 0, h1, _ => by obtain rfl : a = 0 := by omega
                   exact Or.inl hb
  | m + 1, h1, h2 => by
    by_cases e : a = m + 1
    · subst e; exact Or.inl hb
    · obtain ⟨g1, g2, _⟩ := rnd_inv h (m := m) (by omega)
      have hl : m < (rndTo D m).2.1.length := by omega
      rcases rnd_busy h hb (m := m) (by omega) (by omega) with h3 | h3
      · rcases try_busy g1 hl h3 with h4 | h4
        · exact Or.inl h4
        · right
          exact Int.lt_of_lt_of_le h4 (rnd_le h (by omega) (by omega))
      · right
        exact Int.lt_of_le_of_lt (try_tot g1.ok hl) h3
def rnd (D : Lk) : Lk := rndTo D D.2.1.length
/-- how near somebody is to the end of a turn: 0 the nearest -/
def Ph (D : Lk) (p : Nat) : Prop := ∃ j, j < D.2.1.length ∧
  ((p = 0 ∧ (th D j).f0 = 6) ∨ (p = 1 ∧ (th D j).f0 = 5) ∨ (p = 2 ∧ (th D j).f0 = 4) ∨ (p = 3 ∧ (th D j).f3 = false ∧ ((th D j).f0 = 3 ∨ ((th D j).f0 = 0 ∧ 0 < (th D j).f2))) ∨ (p = 4 ∧ (th D j).f0 = 2) ∨ (p = 5 ∧ (th D j).f0 = 1))
theorem ph_some {D : Lk} (h : LInv D) (ht : 0 < tot D) : ∃ p, p ≤ 5 ∧ Ph D p := by
  have hex : ∃ j, j < D.2.1.length ∧ canB D j = true := by
    by_cases hl : D.2.2 = []
    · have hs : ∀ j, j < D.2.1.length → (th D j).f3 = false := fun j hj => by
        cases e : (th D j).f3
        · rfl
        · have := ((h.ok.t j hj).l).1 e; rw [hl] at this; cases this
      apply Classical.byContradiction
      intro hno
      have h0 : ∀ j, j < D.2.1.length → (th D j).f2 = 0 := fun j hj => by
        apply Classical.byContradiction
        intro e
        exact hno ⟨j, hj, can_iff.2 ⟨hs j hj, Or.inr (by have := (h.ok.t j hj).u; omega)⟩⟩
      have hz : ∀ n, n ≤ D.2.1.length → totTo D n = 0 := fun n => by
        induction n with
        | zero => intro _; rfl
        | succ n ih => intro hn; show totTo D n + _ = 0; rw [ih (by omega), h0 n (by omega)]; rfl
      have := hz _ (Nat.le_refl _)
      unfold tot at ht; omega
    · exact not_stuck h hl
  obtain ⟨j, hj, hc⟩ := hex
  obtain ⟨hz, hcu⟩ := can_iff.1 hc
  have ha := (h.ok.t j hj).a
  have : (th D j).f0 = 0 ∨ (th D j).f0 = 1 ∨ (th D j).f0 = 2 ∨ (th D j).f0 = 3 ∨ (th D j).f0 = 4 ∨ (th D j).f0 = 5 ∨ (th D j).f0 = 6 := by omega
  rcases this with e | e | e | e | e | e | e
  · exact ⟨3, by omega, j, hj, Or.inr (Or.inr (Or.inr (Or.inl ⟨rfl, hz, Or.inr ⟨e, by omega⟩⟩)))⟩
  · exact ⟨5, by omega, j, hj, Or.inr (Or.inr (Or.inr (Or.inr (Or.inr ⟨rfl, e⟩))))⟩
  · exact ⟨4, by omega, j, hj, Or.inr (Or.inr (Or.inr (Or.inr (Or.inl ⟨rfl, e⟩))))⟩
  · exact ⟨3, by omega, j, hj, Or.inr (Or.inr (Or.inr (Or.inl ⟨rfl, hz, Or.inl e⟩)))⟩
  · exact ⟨2, by omega, j, hj, Or.inr (Or.inr (Or.inl ⟨rfl, e⟩))⟩
  · exact ⟨1, by omega, j, hj, Or.inr (Or.inl ⟨rfl, e⟩)⟩
  · exact ⟨0, by omega, j, hj, Or.inl ⟨rfl, e⟩⟩
theorem ph_busy {D : Lk} {j : Nat} (hj : j < D.2.1.length) (h : busy (th D j)) : ∃ p, p ≤ 2 ∧ Ph D p := by
  rcases h with e | e | e
  · exact ⟨2, by omega, j, hj, Or.inr (Or.inr (Or.inl ⟨rfl, e⟩))⟩
  · exact ⟨1, by omega, j, hj, Or.inr (Or.inl ⟨rfl, e⟩)⟩
  · exact ⟨0, by omega, j, hj, Or.inl ⟨rfl, e⟩⟩
/-- others' chances behind one's own leave one where one stands -/
theorem rnd_rest {D : Lk} (h : LInv D) {j a : Nat} (ha : j < a) : ∀ {m : Nat}, a ≤ m → m ≤ D.2.1.length → (th (rndTo D m) j).f0 = (th (rndTo D a) j).f0 ∧ ((th (rndTo D a) j).f3 = false → (th (rndTo D m) j).f3 = false)
  | 0, h1, _ => by obtain rfl : a = 0 := by omega
                   exact ⟨rfl, id⟩
  | m + 1, h1, h2 => by
    by_cases e : a = m + 1
    · subst e; exact ⟨rfl, id⟩
    · obtain ⟨g1, g2, _⟩ := rnd_inv h (m := m) (by omega)
      obtain ⟨h3, h4⟩ := rnd_rest h ha (m := m) (by omega) (by omega)
      rw [show rndTo D (m + 1) = tryD (rndTo D m) m from rfl]
      unfold tryD
      split
      · obtain ⟨k0, _, k2, k3⟩ := step_keep g1.ok (i := m) (j := j) (by omega) (by omega)
        exact ⟨k0.trans h3, fun e => k3 (h4 e)⟩
      · exact ⟨h3, h4⟩
theorem ph_round {D : Lk} (h : LInv D) {p : Nat} (hp : Ph D p) : tot (rnd D) < tot D ∨ ∃ q, q < p ∧ Ph (rnd D) q := by
  obtain ⟨j, hj, hc⟩ := hp
  obtain ⟨g1, g2, g3⟩ := rnd_inv h (m := j) (by omega)
  obtain ⟨w0, w2, w3⟩ := rnd_wait h (j := j) (m := j) (by omega) (Nat.le_refl j)
  have hjl : j < (rndTo D j).2.1.length := by omega
  obtain ⟨e1, e2, e3⟩ := rnd_inv h (m := D.2.1.length) (Nat.le_refl _)
  have hlen : (rnd D).2.1.length = D.2.1.length := e2
  have hle := rnd_le h (a := j + 1) (m := D.2.1.length) (by omega) (Nat.le_refl _)
  have hle' : tot (rnd D) ≤ tot (rndTo D (j + 1)) := hle
  -- who may step at its chance
  have hcan : canB (rndTo D j) j = true := by
    rcases hc with ⟨_, e⟩ | ⟨_, e⟩ | ⟨_, e⟩ | ⟨_, e3, e⟩ | ⟨_, e⟩ | ⟨_, e⟩
    · exact can_of g1.ok hjl (by rw [w0]; omega)
    · exact can_of g1.ok hjl (by rw [w0]; omega)
    · exact can_of g1.ok hjl (by rw [w0]; omega)
    · exact can_iff.2 ⟨w3 e3, by rw [w0, w2]; omega⟩
    · exact can_of g1.ok hjl (by rw [w0]; omega)
    · exact can_of g1.ok hjl (by rw [w0]; omega)
  have hst : rndTo D (j + 1) = stepD (rndTo D j) j := by show tryD _ _ = _; unfold tryD; rw [if_pos hcan]
  have hs := step_self g1.ok hjl hcan
  have ht := tot_step g1.ok hjl
  rw [← hst] at hs ht
  rw [w0, w2] at hs
  rw [w2] at ht
  obtain ⟨r0, r3⟩ := rnd_rest h (j := j) (a := j + 1) (Nat.lt_succ_self j) (m := D.2.1.length) (by omega) (Nat.le_refl _)
  have r0' : (th (rnd D) j).f0 = (th (rndTo D (j + 1)) j).f0 := r0
  have hjr : j < (rnd D).2.1.length := by omega
  -- somebody else holds the lock at one's chance
  have hother : (rndTo D j).1 ≠ 0 → tot (rnd D) < tot D ∨ ∃ q, q ≤ 2 ∧ Ph (rnd D) q := fun hw => by
    obtain ⟨k, hk, hh⟩ := g1.word.1 hw
    have hb : busy (th (rndTo D j) k) := by unfold holds at hh; unfold busy; omega
    rcases rnd_busy h (j := k) (a := j) hb (m := D.2.1.length) (by omega) (Nat.le_refl _) with h1 | h1
    · exact Or.inr (ph_busy (D := rnd D) (by omega) h1)
    · exact Or.inl (Int.lt_of_lt_of_le h1 g3)
  obtain ⟨hs2, hs6, hs5, hs4, hs1, hsb, hs0⟩ := hs
  rcases hc with ⟨rfl, e⟩ | ⟨rfl, e⟩ | ⟨rfl, e⟩ | ⟨rfl, e3, e⟩ | ⟨rfl, e⟩ | ⟨rfl, e⟩
  · left; have := hs6 e; omega
  · right; exact ⟨0, by omega, j, hjr, Or.inl ⟨rfl, by rw [r0']; exact (hs5 e).1⟩⟩
  · rcases hs4 e with h1 | h1
    · right; exact ⟨1, by omega, j, hjr, Or.inr (Or.inl ⟨rfl, by rw [r0']; exact h1⟩)⟩
    · left; omega
  · rcases hs0 (by omega) with h1 | h1
    · rcases hother h1 with h2 | ⟨q, hq, h2⟩
      · exact Or.inl h2
      · exact Or.inr ⟨q, by omega, h2⟩
    · right; exact ⟨2, by omega, j, hjr, Or.inr (Or.inr (Or.inl ⟨rfl, by rw [r0']; exact h1⟩))⟩
  · rcases hsb e with h1 | ⟨h1, h2⟩
    · rcases hother (by omega) with h2 | ⟨q, hq, h2⟩
      · exact Or.inl h2
      · exact Or.inr ⟨q, by omega, h2⟩
    · right; exact ⟨3, by omega, j, hjr, Or.inr (Or.inr (Or.inr (Or.inl ⟨rfl, r3 h2, Or.inl (by rw [r0']; exact h1)⟩)))⟩
  · rcases hs1 e with h1 | ⟨h1, h2⟩
    · right; exact ⟨4, by omega, j, hjr, Or.inr (Or.inr (Or.inr (Or.inr (Or.inl ⟨rfl, by rw [r0']; exact h1⟩))))⟩
    · right; exact ⟨3, by omega, j, hjr, Or.inr (Or.inr (Or.inr (Or.inl ⟨rfl, r3 h2, Or.inl (by rw [r0']; exact h1)⟩)))⟩
/-- rounds -/
def rnds (D : Lk) : Nat → Lk
  | 0 => D
  | n + 1 => rnds (rnd D) n
theorem rnds_end : ∀ (n : Nat) {D : Lk} {p : Nat}, LInv D → (tot D ≤ 0 ∨ (Ph D p ∧ 6 * tot D + p < n + 6)) → LInv (rnds D n) ∧ (rnds D n).2.1.length = D.2.1.length ∧ (tot (rnds D n) ≤ 0 ∨ ∃ q, Ph (rnds D n) q ∧ 6 * tot (rnds D n) + q < 6)
  | 0, D, p, h, hc => ⟨h, rfl, by
    rcases hc with h1 | ⟨h1, h2⟩
    · exact Or.inl h1
    · exact Or.inr ⟨p, h1, by show 6 * tot D + _ < _; omega⟩⟩
  | n + 1, D, p, h, hc => by
    obtain ⟨g1, g2, g3⟩ := rnd_inv h (m := D.2.1.length) (Nat.le_refl _)
    have g1' : LInv (rnd D) := g1
    have g2' : (rnd D).2.1.length = D.2.1.length := g2
    have g3' : tot (rnd D) ≤ tot D := g3
    have key : ∃ q, tot (rnd D) ≤ 0 ∨ (Ph (rnd D) q ∧ 6 * tot (rnd D) + q < n + 6) := by
      by_cases h0 : tot (rnd D) ≤ 0
      · exact ⟨0, Or.inl h0⟩
      · rcases hc with h1 | ⟨h1, h2⟩
        · omega
        · rcases ph_round h h1 with h3 | ⟨q, h3, h4⟩
          · obtain ⟨q, h5, h6⟩ := ph_some g1' (by omega)
            exact ⟨q, Or.inr ⟨h6, by omega⟩⟩
          · exact ⟨q, Or.inr ⟨h4, by omega⟩⟩
    obtain ⟨q, hq⟩ := key
    obtain ⟨k1, k2, k3⟩ := rnds_end n g1' hq
    exact ⟨k1, k2.trans g2', k3⟩
/-- all turns are taken within 200 rounds -/
theorem all_end {D : Lk} (h : LInv D) : LInv (rnds D 200) ∧ (rnds D 200).2.1.length = D.2.1.length ∧ tot (rnds D 200) = 0 := by
  have hb := tot_nn h.ok (Nat.le_refl _)
  have hn := h.ok.n
  have hb2 : 0 ≤ tot D ∧ tot D ≤ 12 := by unfold tot; omega
  have key : ∃ p, tot D ≤ 0 ∨ (Ph D p ∧ 6 * tot D + p < ((200 : Nat) : Int) + 6) := by
    by_cases h0 : tot D ≤ 0
    · exact ⟨0, Or.inl h0⟩
    · obtain ⟨p, h1, h2⟩ := ph_some h (by omega)
      exact ⟨p, Or.inr ⟨h2, by omega⟩⟩
  obtain ⟨p, hp⟩ := key
  obtain ⟨k1, k2, k3⟩ := rnds_end 200 h hp
  have hb3 := tot_nn k1.ok (Nat.le_refl _)
  refine ⟨k1, k2, ?_⟩
  have hb4 : 0 ≤ tot (rnds D 200) := hb3.1
  rcases k3 with h1 | ⟨q, h1, h2⟩
  · omega
  · omega
/-- without turns all stand at 0, the lock is free, nobody sleeps -/
theorem done_of {D : Lk} (h : LInv D) (ht : tot D = 0) : (∀ i, i < D.2.1.length → (th D i).f2 = 0 ∧ (th D i).f0 = 0) ∧ D.1 = 0 ∧ D.2.2 = [] := by
  have hz : ∀ n, n ≤ D.2.1.length → totTo D n = 0 → ∀ i, i < n → (th D i).f2 = 0 := fun n => by
    induction n with
    | zero => intro _ _ i hi; omega
    | succ n ih =>
      intro hn h0 i hi
      have h1 := tot_nn h.ok (n := n) (by omega)
      have h2 := (h.ok.t n (by omega)).u
      have h3 : totTo D n + (th D n).f2 = 0 := h0
      by_cases e : i = n
      · subst e; omega
      · exact ih (by omega) (by omega) i (by omega)
  have h2 := hz _ (Nat.le_refl _) ht
  have h0 : ∀ i, i < D.2.1.length → (th D i).f0 = 0 := fun i hi => by
    have := h2 i hi
    have := (h.ok.t i hi).u1
    have := (h.ok.t i hi).a
    omega
  have hw : D.1 = 0 := by
    apply Classical.byContradiction
    intro e
    obtain ⟨i, hi, hh⟩ := h.word.1 e
    have := h0 i hi
    unfold holds at hh; omega
  refine ⟨fun i hi => ⟨h2 i hi, h0 i hi⟩, hw, ?_⟩
  apply Classical.byContradiction
  intro e
  rcases h.way e with h1 | ⟨i, hi, h1⟩
  · omega
  · have := h0 i hi
    unfold wayT at h1; omega
end Go.Proofs.Ytpmigekejipohaa

/-
  Locks: pure facts: new locks, runs, who holds, who is stuck, and what the laws ask of them.
-/
import Derived.Test.YtpmigekejipohaaLPure
namespace Go.Proofs.Ytpmigekejipohaa
open Go.RowKit

def newB (n t : Int) : Bool := inB n 1 4 && inB t 0 3
def newLk (n : Nat) (t : Int) : Lk := (0, List.replicate n ⟨0, 0, t, false⟩, [])
def newL (n t : Int) : Lk := if newB n t = true then newLk n.toNat t else lkZ
theorem th_new {n : Nat} {t : Int} {i : Nat} (hi : i < n) : th (newLk n t) i = ⟨0, 0, t, false⟩ := by
  unfold th newLk
  simp [List.getD_eq_getElem?_getD, hi]
theorem new_inv {n t : Int} (h : newB n t = true) : LInv (newLk n.toNat t) := by
  unfold newB at h
  rw [Bool.and_eq_true] at h
  have h1 := of_inB h.1
  have h2 := of_inB h.2
  have hl : (newLk n.toNat t).2.1.length = n.toNat := by simp [newLk]
  have hth := fun i (hi : i < (newLk n.toNat t).2.1.length) => th_new (t := t) (show i < n.toNat by omega)
  refine ⟨⟨by simp [newLk], by omega, fun i hi => ?_, List.nodup_nil, fun x hx => by cases hx⟩, fun i j hi hj a _ => ?_, ?_, fun h => absurd rfl h⟩
  · rw [hth i hi]
    exact ⟨by simp, by simp, Or.inr rfl, h2, Or.inl (Int.le_refl 0), fun h => by simp at h, by simp [newLk]⟩
  · rw [hth i hi] at a
    unfold holds at a; simp at a
  · constructor
    · intro h; exact absurd rfl h
    · rintro ⟨i, hi, a⟩
      rw [hth i hi] at a
      unfold holds at a; simp at a
/-- a step of a thread, told by a number -/
def mayL (D : Lk) (x : Int) : Bool := inB x 0 ((D.2.1.length : Int) - 1)
def stpB (D : Lk) (x : Int) : Bool := lkB D && (mayL D x && canB D x.toNat)
def stpL (D : Lk) (x : Int) : Lk := if lkB D = true ∧ mayL D x = true then (if canB D x.toNat = true then stepD D x.toNat else D) else lkZ
theorem may_iff {D : Lk} {x : Int} : mayL D x = true ↔ ∃ i : Nat, i < D.2.1.length ∧ x = (i : Int) ∧ x.toNat = i := by
  unfold mayL
  constructor
  · intro h; have := of_inB h; exact ⟨x.toNat, by omega, by omega, rfl⟩
  · rintro ⟨i, h1, h2, _⟩; exact inB_of (by omega)
/-- steps of the first k of a list: the lock, and how many were done -/
def runTo (D : Lk) (L : List Int) : Nat → Lk × Int
  | 0 => (D, 0)
  | k + 1 => if mayL (runTo D L k).1 (L.getD k 0) = true ∧ canB (runTo D L k).1 (L.getD k 0).toNat = true then (stepD (runTo D L k).1 (L.getD k 0).toNat, (runTo D L k).2 + 1) else runTo D L k
theorem runTo_succ (D : Lk) (L : List Int) (k : Nat) : runTo D L (k + 1) = if mayL (runTo D L k).1 (L.getD k 0) = true ∧ canB (runTo D L k).1 (L.getD k 0).toNat = true then (stepD (runTo D L k).1 (L.getD k 0).toNat, (runTo D L k).2 + 1) else runTo D L k := rfl
def runL (D : Lk) (L : List Int) : Lk := if lkB D = true then (runTo D L L.length).1 else lkZ
def runN (D : Lk) (L : List Int) : Int := if lkB D = true then (runTo D L L.length).2 else -1
theorem run_ok {D : Lk} {L : List Int} (h : LOk D) : ∀ {k : Nat}, LOk (runTo D L k).1 ∧ (runTo D L k).1.2.1.length = D.2.1.length ∧ 0 ≤ (runTo D L k).2 ∧ (runTo D L k).2 ≤ k
  | 0 => ⟨h, rfl, Int.le_refl 0, Int.le_refl 0⟩
  | k + 1 => by
    obtain ⟨h1, h2, h3, h4⟩ := run_ok (L := L) h (k := k)
    unfold runTo
    split
    · rename_i hc
      obtain ⟨i, hi, _, e⟩ := may_iff.1 hc.1
      rw [e] at hc ⊢
      exact ⟨step_ok h1 hi hc.2, (step_len h1 hi).trans h2, by dsimp only; omega, by dsimp only; omega⟩
    · exact ⟨h1, h2, h3, by omega⟩
theorem run_inv {D : Lk} {L : List Int} (h : LInv D) : ∀ {k : Nat}, LInv (runTo D L k).1
  | 0 => h
  | k + 1 => by
    have h1 := run_inv (L := L) h (k := k)
    unfold runTo
    split
    · rename_i hc
      obtain ⟨i, hi, _, e⟩ := may_iff.1 hc.1
      rw [e] at hc ⊢
      exact step_inv h1 hi hc.2
    · exact h1
theorem run_same {D : Lk} {L M : List Int} : ∀ {k : Nat}, (∀ j, j < k → L.getD j 0 = M.getD j 0) → runTo D L k = runTo D M k
  | 0, _ => rfl
  | k + 1, h => by
    unfold runTo
    rw [run_same (k := k) fun j hj => h j (by omega), h k (by omega)]
theorem run_addL {D : Lk} {L M : List Int} {c : Nat} : ∀ {k : Nat}, (∀ j, j < k → M.getD j 0 = L.getD (c + j) 0) → (runTo D L (c + k)).1 = (runTo (runTo D L c).1 M k).1 ∧ (runTo D L (c + k)).2 = (runTo D L c).2 + (runTo (runTo D L c).1 M k).2
  | 0, _ => ⟨rfl, by simp [runTo]⟩
  | k + 1, h => by
    obtain ⟨h1, h2⟩ := run_addL (D := D) (L := L) (M := M) (c := c) (k := k) fun j hj => h j (by omega)
    rw [show c + (k + 1) = c + k + 1 by omega, runTo_succ, runTo_succ, h1, ← h k (by omega)]
    split
    · exact ⟨rfl, by dsimp only; omega⟩
    · exact ⟨h1, h2⟩
theorem run_cut {D : Lk} {L : List Int} {c : Nat} (h : lkB D = true) (hc : c ≤ L.length) :
    runL (runL D (L.take c)) (L.drop c) = runL D L ∧ runN D (L.take c) + runN (runL D (L.take c)) (L.drop c) = runN D L ∧ lkB (runL D L) = true ∧ lkB (runL D (L.take c)) = true := by
  have hok := lk_iff.1 h
  have hlt : (L.take c).length = c := by rw [List.length_take]; omega
  have hld : (L.drop c).length = L.length - c := List.length_drop ..
  have e1 : runTo D (L.take c) c = runTo D L c := run_same fun j hj => by
    simp [List.getD_eq_getElem?_getD, hj]
  have h1 := run_ok (L := L) hok (k := c)
  have hb : lkB (runTo D L c).1 = true := lk_iff.2 h1.1
  obtain ⟨a1, a2⟩ := run_addL (D := D) (L := L) (M := L.drop c) (c := c) (k := L.length - c) fun j _ => by
    simp [List.getD_eq_getElem?_getD, List.getElem?_drop]
  rw [show c + (L.length - c) = L.length by omega] at a1 a2
  have e2 : runL D (L.take c) = (runTo D L c).1 := by unfold runL; rw [if_pos h, hlt, e1]
  refine ⟨?_, ?_, ?_, ?_⟩
  · rw [e2]; unfold runL; rw [if_pos hb, if_pos h, hld, a1]
  · rw [e2]; unfold runN; rw [if_pos hb, if_pos h, if_pos h, hlt, hld, a2, e1]
  · unfold runL; rw [if_pos h]; exact lk_iff.2 (run_ok hok).1
  · rw [e2]; exact hb
/-- how many of the first k hold the lock -/
def inTo (D : Lk) : Nat → Int
  | 0 => 0
  | k + 1 => inTo D k + (if (th D k).f0 = 4 then 1 else 0)
def inD (D : Lk) : Int := if lkB D = true then inTo D D.2.1.length else -1
theorem inTo_zero {D : Lk} : ∀ {n : Nat}, (∀ i, i < n → (th D i).f0 ≠ 4) → inTo D n = 0
  | 0, _ => rfl
  | n + 1, h => by show inTo D n + _ = 0; rw [inTo_zero fun i hi => h i (by omega), if_neg (h n (by omega))]; rfl
theorem inTo_nn {D : Lk} : ∀ {n : Nat}, 0 ≤ inTo D n ∧ inTo D n ≤ n
  | 0 => ⟨Int.le_refl 0, Int.le_refl 0⟩
  | n + 1 => by
    have := inTo_nn (D := D) (n := n)
    show 0 ≤ inTo D n + _ ∧ inTo D n + _ ≤ _
    split <;> omega
theorem inTo_one {D : Lk} (h : LInv D) : ∀ {n : Nat}, n ≤ D.2.1.length → inTo D n ≤ 1
  | 0, _ => by show (0 : Int) ≤ 1; omega
  | n + 1, hn => by
    show inTo D n + _ ≤ 1
    by_cases e : (th D n).f0 = 4
    · rw [if_pos e, inTo_zero (n := n) fun i hi e2 => by
        have := h.one i n (by omega) (by omega) (Or.inl e2) (Or.inl e)
        omega]
      omega
    · rw [if_neg e]
      have := inTo_one h (n := n) (by omega)
      omega
/-- none of the first k can do a step -/
def noneTo (D : Lk) : Nat → Bool
  | 0 => true
  | k + 1 => noneTo D k && !canB D k
def stuckB (D : Lk) : Bool := noneTo D D.2.1.length && !decide (D.2.2.length = 0)
def stkB (D : Lk) : Bool := lkB D && stuckB D
theorem none_iff {D : Lk} : ∀ {n : Nat}, noneTo D n = true ↔ ∀ i, i < n → canB D i = false
  | 0 => ⟨fun _ i h => by omega, fun _ => rfl⟩
  | n + 1 => by
    show (noneTo D n && _) = true ↔ _
    rw [Bool.and_eq_true, none_iff (n := n), Bool.not_eq_true']
    constructor
    · rintro ⟨h1, h2⟩ i hi
      by_cases e : i = n
      · subst e; exact h2
      · exact h1 i (by omega)
    · exact fun h => ⟨fun i hi => h i (by omega), h n (by omega)⟩
theorem inv_stuck {D : Lk} (h : LInv D) : stkB D = false := by
  cases e : stkB D
  · rfl
  · unfold stkB stuckB at e
    simp only [Bool.and_eq_true, none_iff, Bool.not_eq_true', decide_eq_false_iff_not] at e
    obtain ⟨i, hi, hc⟩ := not_stuck h (fun h2 => e.2.2 (by rw [h2]; rfl))
    rw [e.2.1 i hi] at hc; cases hc
theorem inv_in {D : Lk} (h : LInv D) : inD D ≤ 1 := by
  unfold inD; rw [if_pos (lk_iff.2 h.ok)]; exact inTo_one h (Nat.le_refl _)
theorem inv_ok {D : Lk} (h : LInv D) : lkB D = true := lk_iff.2 h.ok
/-- the word, and threads, as the law on them asks -/
def holdTo (D : Lk) : Nat → Bool
  | 0 => false
  | k + 1 => holdTo D k || (decide ((th D k).f0 = 4) || decide ((th D k).f0 = 5))
def wayTo (D : Lk) : Nat → Bool
  | 0 => false
  | k + 1 => wayTo D k || (decide ((th D k).f0 = 5) || (decide ((th D k).f0 = 6) || ((decide ((th D k).f0 = 3) && !(th D k).f3) || (decide ((th D k).f0 = 1) || decide ((th D k).f0 = 2)))))
theorem holdTo_iff {D : Lk} : ∀ {n : Nat}, holdTo D n = true ↔ ∃ i, i < n ∧ holds (th D i)
  | 0 => ⟨(by intro h; cases h), fun ⟨i, h, _⟩ => by omega⟩
  | n + 1 => by
    show (holdTo D n || _) = true ↔ _
    simp only [Bool.or_eq_true, holdTo_iff (n := n), decide_eq_true_eq]
    constructor
    · rintro (⟨i, h1, h2⟩ | h)
      · exact ⟨i, by omega, h2⟩
      · exact ⟨n, by omega, h⟩
    · rintro ⟨i, h1, h2⟩
      by_cases e : i = n
      · subst e; exact Or.inr h2
      · exact Or.inl ⟨i, by omega, h2⟩
theorem wayTo_iff {D : Lk} : ∀ {n : Nat}, wayTo D n = true ↔ ∃ i, i < n ∧ wayT (th D i)
  | 0 => ⟨(by intro h; cases h), fun ⟨i, h, _⟩ => by omega⟩
  | n + 1 => by
    show (wayTo D n || _) = true ↔ _
    simp only [Bool.or_eq_true, Bool.and_eq_true, wayTo_iff (n := n), decide_eq_true_eq, Bool.not_eq_true']
    constructor
    · rintro (⟨i, h1, h2⟩ | h)
      · exact ⟨i, by omega, h2⟩
      · exact ⟨n, by omega, h⟩
    · rintro ⟨i, h1, h2⟩
      by_cases e : i = n
      · subst e; exact Or.inr h2
      · exact Or.inl ⟨i, by omega, h2⟩
theorem inv_word {D : Lk} (h : LInv D) : (decide (D.1 = 0) == holdTo D D.2.1.length) = false ∧ (D.2.2.length = 0 ∨ D.1 = 2 ∨ wayTo D D.2.1.length = true) := by
  have h1 : holdTo D D.2.1.length = true ↔ D.1 ≠ 0 := holdTo_iff.trans h.word.symm
  constructor
  · by_cases e : D.1 = 0
    · have : holdTo D D.2.1.length = false := by
        cases e2 : holdTo D D.2.1.length
        · rfl
        · exact absurd e (h1.1 e2)
      rw [this, decide_eq_true e]; rfl
    · rw [h1.2 e, decide_eq_false e]; rfl
  · by_cases e : D.2.2 = []
    · left; rw [e]; rfl
    · rcases h.way e with h2 | h2
      · exact Or.inr (Or.inl h2)
      · exact Or.inr (Or.inr (wayTo_iff.2 h2))
/-- a step of one thread wakes one other one at most: how many of the first k others changed -/
def chgTo (D E : Lk) (i : Nat) : Nat → Int
  | 0 => 0
  | k + 1 => chgTo D E i k + (if k ≠ i ∧ (th D k).f3 = true ∧ (th E k).f3 = false then 1 else 0)
theorem step_law {D : Lk} (h : LOk D) {i : Nat} (hi : i < D.2.1.length) : ∃ x : Nat, ∀ j, j ≠ i → th (stepD D i) j = th D j ∨ (j = x ∧ (th D j).f3 = true ∧ th (stepD D i) j = ⟨(th D j).f0, (th D j).f1, (th D j).f2, false⟩) := by
  have hst := stp h hi
  generalize stepD D i = E at hst
  cases hst with
  | wake h0 x r hl =>
    have hxm : x ∈ D.2.2 := by rw [hl]; exact List.mem_cons_self
    have hxr := h.rng x hxm
    have hxc : ((x.toNat : Nat) : Int) = x := by omega
    have hx3 := (h.t x.toNat (by omega)).l.2 (by rw [hxc]; exact hxm)
    refine ⟨x.toNat, fun j hij => ?_⟩
    rw [th_wake hi (show x.toNat < D.2.1.length by omega), if_neg hij]
    by_cases e2 : j = x.toNat
    · rw [if_pos e2]; subst e2; exact Or.inr ⟨rfl, hx3, rfl⟩
    · rw [if_neg e2]; exact Or.inl rfl
  | _ => exact ⟨0, fun j hij => Or.inl (by rw [th_put hi, if_neg hij])⟩
theorem chg_le {D E : Lk} {i x : Nat} (h : ∀ j, j ≠ i → th E j = th D j ∨ (j = x ∧ (th D j).f3 = true ∧ th E j = ⟨(th D j).f0, (th D j).f1, (th D j).f2, false⟩)) : ∀ {k : Nat}, 0 ≤ chgTo D E i k ∧ chgTo D E i k ≤ (if x < k then 1 else 0)
  | 0 => by rw [if_neg (Nat.not_lt_zero x)]; exact ⟨Int.le_refl 0, Int.le_refl 0⟩
  | k + 1 => by
    have h1 := chg_le h (k := k)
    show 0 ≤ chgTo D E i k + _ ∧ chgTo D E i k + _ ≤ _
    by_cases e : k ≠ i ∧ (th D k).f3 = true ∧ (th E k).f3 = false
    · rw [if_pos e]
      rcases h k e.1 with h2 | ⟨h2, _⟩
      · rw [h2, e.2.1] at e; exact absurd e.2.2 (by simp)
      · subst h2
        rw [if_neg (Nat.lt_irrefl k)] at h1
        rw [if_pos (Nat.lt_succ_self k)]; omega
    · rw [if_neg e]
      by_cases hx : x < k
      · rw [if_pos hx] at h1; rw [if_pos (by omega)]; omega
      · rw [if_neg hx] at h1; split <;> omega
/-- the rounds at the end of an order -/
theorem run_round {D : Lk} {L : List Int} (h : LInv D) {p : Nat} (hL : ∀ i, i < D.2.1.length → L.getD (p + i) 0 = (i : Int)) : (runTo D L (p + D.2.1.length)).1 = rnd (runTo D L p).1 := by
  have hl := (run_ok (L := L) h.ok (k := p)).2.1
  have key : ∀ m, m ≤ D.2.1.length → (runTo D L (p + m)).1 = rndTo (runTo D L p).1 m := fun m => by
    induction m with
    | zero => intro _; rfl
    | succ m ih =>
      intro hm
      have hi := ih (by omega)
      rw [show p + (m + 1) = p + m + 1 by omega]
      show (if _ then _ else _ : Lk × Int).1 = tryD (rndTo _ m) m
      have hln := (run_ok (L := L) h.ok (k := p + m)).2.1
      have hmay : mayL (runTo D L (p + m)).1 (L.getD (p + m) 0) = true := may_iff.2 ⟨m, by omega, hL m (by omega), by rw [hL m (by omega)]; omega⟩
      have he : (L.getD (p + m) 0).toNat = m := by rw [hL m (by omega)]; omega
      rw [hmay, he, ← hi]
      unfold tryD
      by_cases hc : canB (runTo D L (p + m)).1 m = true
      · rw [if_pos ⟨rfl, hc⟩, if_pos hc]
      · rw [if_neg (fun h => hc h.2), if_neg hc]
  have := key D.2.1.length (Nat.le_refl _)
  rw [this]
  unfold rnd
  rw [hl]
theorem rnds_snoc : ∀ (n : Nat) (D : Lk), rnds D (n + 1) = rnd (rnds D n)
  | 0, D => rfl
  | n + 1, D => by show rnds (rnd D) (n + 1) = rnd (rnds (rnd D) n); rw [rnds_snoc n]
theorem run_rounds {D : Lk} {L : List Int} (h : LInv D) {p : Nat} : ∀ {r : Nat}, (∀ i, i < r * D.2.1.length → L.getD (p + i) 0 = ((i % D.2.1.length : Nat) : Int)) → (runTo D L (p + r * D.2.1.length)).1 = rnds (runTo D L p).1 r
  | 0, _ => by rw [Nat.zero_mul]; rfl
  | r + 1, hL => by
    have hn := h.ok.n
    have h1 := run_rounds h (p := p) (r := r) fun i hi => hL i (by rw [Nat.succ_mul]; omega)
    rw [rnds_snoc, ← h1, Nat.succ_mul, ← Nat.add_assoc]
    refine run_round h fun i hi => ?_
    rw [Nat.add_assoc, hL (r * D.2.1.length + i) (by rw [Nat.succ_mul]; omega), Nat.mul_comm r, Nat.mul_add_mod, Nat.mod_eq_of_lt hi]
theorem ends_law {D : Lk} {L : List Int} (h : LInv D) {p : Nat} (hlen : L.length = p + 200 * D.2.1.length) (hL : ∀ i, i < 200 * D.2.1.length → L.getD (p + i) 0 = ((i % D.2.1.length : Nat) : Int)) :
    lkB D = true ∧ 0 ≤ runN D L ∧ (runL D L).1 = 0 ∧ (runL D L).2.2 = [] ∧ (runL D L).2.1.length = D.2.1.length ∧ ∀ i, i < D.2.1.length → (th (runL D L) i).f2 = 0 ∧ (th (runL D L) i).f0 = 0 := by
  have hb := inv_ok h
  have h1 := run_rounds h (p := p) (r := 200) hL
  have hp := run_inv (L := L) h (k := p)
  have hpl := (run_ok (L := L) h.ok (k := p)).2.1
  obtain ⟨a1, a2, a3⟩ := all_end hp
  rw [← h1] at a1 a2 a3
  have e : runL D L = (runTo D L (p + 200 * D.2.1.length)).1 := by unfold runL; rw [if_pos hb, hlen]
  rw [e]
  obtain ⟨b1, b2, b3⟩ := done_of a1 a3
  refine ⟨hb, ?_, b2, b3, by omega, fun i hi => b1 i (by omega)⟩
  unfold runN; rw [if_pos hb]; exact (run_ok h.ok).2.2.1
theorem quick_law (t : Int) (h : newB 1 t = true) : ∀ L : List Int, L.length = (2 * t).toNat → (∀ i, L.getD i 0 = 0) → runN (newLk 1 t) L = 2 * t ∧ runL (newLk 1 t) L = newLk 1 0 := by
  intro L hl hz
  unfold newB at h
  rw [Bool.and_eq_true] at h
  have h2 := of_inB h.2
  have e : L = List.replicate (2 * t).toNat 0 := by
    apply List.ext_getElem
    · simp [hl]
    · intro i h1 h2
      have := hz i
      simp only [List.getD_eq_getElem?_getD, List.getElem?_eq_getElem h1] at this
      simpa using this
  rw [e]
  have ht : t = 0 ∨ t = 1 ∨ t = 2 ∨ t = 3 := by omega
  rcases ht with rfl | rfl | rfl | rfl <;> exact ⟨by decide, by rfl⟩
end Go.Proofs.Ytpmigekejipohaa

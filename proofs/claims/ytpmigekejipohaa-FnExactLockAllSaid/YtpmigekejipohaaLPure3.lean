/-
  Locks: pure facts on LockAll: the reachable locks, found breadth first, end.
-/
import Derived.Test.YtpmigekejipohaaLS6
namespace Go.Proofs.Ytpmigekejipohaa
open Go.RowKit

/-- a list without doubles of numbers below M is no longer than M -/
theorem nodup_len : ∀ (M : Nat) (l : List Nat), l.Nodup → (∀ x ∈ l, x < M) → l.length ≤ M
  | 0, l, _, h => by
    cases l with
    | nil => exact Nat.le_refl 0
    | cons a r => exact absurd (h a (List.mem_cons_self ..)) (Nat.not_lt_zero a)
  | M + 1, l, hn, h => by
    by_cases hm : M ∈ l
    · have h1 := nodup_len M (l.erase M) (hn.erase M) (fun x hx => by
        have h2 := (hn.mem_erase_iff).1 hx
        have h3 := h x h2.2
        have h4 := h2.1
        omega)
      rw [List.length_erase_of_mem hm] at h1
      omega
    · have h1 := nodup_len M l hn (fun x hx => by
        have h3 := h x hx
        have h4 : x ≠ M := fun e => hm (e ▸ hx)
        omega)
      omega

theorem eT_ext {a b : EThread} (h0 : a.f0 = b.f0) (h1 : a.f1 = b.f1) (h2 : a.f2 = b.f2) (h3 : a.f3 = b.f3) : a = b := by
  cases a; cases b; simp_all
instance decT : DecidableEq EThread := fun a b =>
  if h : a.f0 = b.f0 ∧ a.f1 = b.f1 ∧ a.f2 = b.f2 ∧ a.f3 = b.f3 then isTrue (eT_ext h.1 h.2.1 h.2.2.1 h.2.2.2) else isFalse (fun e => h (by subst e; exact ⟨rfl, rfl, rfl, rfl⟩))

/-- what a thread is, as a number -/
def encT (t : EThread) : Nat := t.f0.toNat + 7 * (t.f1.toNat + 3 * (t.f2.toNat + 4 * (if t.f3 = true then 1 else 0)))
structure TR (t : EThread) : Prop where
  a : 0 ≤ t.f0 ∧ t.f0 ≤ 6
  s : 0 ≤ t.f1 ∧ t.f1 ≤ 2
  u : 0 ≤ t.f2 ∧ t.f2 ≤ 3
theorem encT_lt {t : EThread} (h : TR t) : encT t < 168 := by
  have := h.a; have := h.s; have := h.u
  unfold encT
  split <;> omega
theorem encT_inj {a b : EThread} (ha : TR a) (hb : TR b) (h : encT a = encT b) : a = b := by
  have := ha.a; have := ha.s; have := ha.u
  have := hb.a; have := hb.s; have := hb.u
  unfold encT at h
  refine eT_ext ?_ ?_ ?_ ?_
  · split at h <;> split at h <;> omega
  · split at h <;> split at h <;> omega
  · split at h <;> split at h <;> omega
  · split at h <;> split at h
    · simp_all
    · omega
    · omega
    · simp_all
def encTs : List EThread → Nat
  | [] => 0
  | t :: r => encT t + 1 + 169 * encTs r
theorem encTs_lt : ∀ {l : List EThread}, (∀ t ∈ l, TR t) → encTs l < 169 ^ l.length
  | [], _ => by simp [encTs]
  | t :: r, h => by
    have h1 := encT_lt (h t (List.mem_cons_self ..))
    have h2 := encTs_lt (l := r) fun x hx => h x (List.mem_cons_of_mem _ hx)
    simp only [encTs, List.length_cons, Nat.pow_succ]
    omega
theorem encTs_inj : ∀ {l m : List EThread}, (∀ t ∈ l, TR t) → (∀ t ∈ m, TR t) → encTs l = encTs m → l = m
  | [], [], _, _, _ => rfl
  | [], t :: r, _, _, h => by simp only [encTs] at h; omega
  | t :: r, [], _, _, h => by simp only [encTs] at h; omega
  | t :: r, u :: s, hl, hm, h => by
    have h1 := encT_lt (hl t (List.mem_cons_self ..))
    have h2 := encT_lt (hm u (List.mem_cons_self ..))
    simp only [encTs] at h
    have e1 : encT t = encT u := by omega
    have e2 : encTs r = encTs s := by omega
    rw [encT_inj (hl t (List.mem_cons_self ..)) (hm u (List.mem_cons_self ..)) e1, encTs_inj (fun x hx => hl x (List.mem_cons_of_mem _ hx)) (fun x hx => hm x (List.mem_cons_of_mem _ hx)) e2]
def encL : List Int → Nat
  | [] => 0
  | x :: r => x.toNat + 1 + 5 * encL r
theorem encL_lt : ∀ {l : List Int}, (∀ x ∈ l, 0 ≤ x ∧ x < 4) → encL l < 5 ^ l.length
  | [], _ => by simp [encL]
  | x :: r, h => by
    have h1 := h x (List.mem_cons_self ..)
    have h2 := encL_lt (l := r) fun x hx => h x (List.mem_cons_of_mem _ hx)
    simp only [encL, List.length_cons, Nat.pow_succ]
    omega
theorem encL_inj : ∀ {l m : List Int}, (∀ x ∈ l, 0 ≤ x ∧ x < 4) → (∀ x ∈ m, 0 ≤ x ∧ x < 4) → encL l = encL m → l = m
  | [], [], _, _, _ => rfl
  | [], x :: r, _, _, h => by simp only [encL] at h; omega
  | x :: r, [], _, _, h => by simp only [encL] at h; omega
  | x :: r, y :: s, hl, hm, h => by
    have h1 := hl x (List.mem_cons_self ..)
    have h2 := hm y (List.mem_cons_self ..)
    simp only [encL] at h
    have e1 : x = y := by omega
    have e2 : encL r = encL s := by omega
    rw [e1, encL_inj (fun x hx => hl x (List.mem_cons_of_mem _ hx)) (fun x hx => hm x (List.mem_cons_of_mem _ hx)) e2]
/-- what a lock is, as a number -/
def enc (D : Lk) : Nat := D.1.toNat + 3 * (encTs D.2.1 + 815730721 * encL D.2.2)
theorem ok_tr {D : Lk} (h : LOk D) : ∀ t ∈ D.2.1, TR t := fun t ht => by
  obtain ⟨i, hi, e⟩ := List.getElem_of_mem ht
  have h1 := h.t i hi
  have e2 : th D i = t := by unfold th; rw [List.getD_eq_getElem?_getD, List.getElem?_eq_getElem hi, e]; rfl
  rw [e2] at h1
  exact ⟨h1.a, h1.s, h1.u⟩
theorem ok_rng {D : Lk} (h : LOk D) : ∀ x ∈ D.2.2, 0 ≤ x ∧ x < 4 := fun x hx => by
  have h1 := h.rng x hx
  have h2 := h.n
  omega
theorem ok_len {D : Lk} (h : LOk D) : encTs D.2.1 < 815730721 ∧ encL D.2.2 < 625 := by
  have h1 := encTs_lt (ok_tr h)
  have h2 := encL_lt (ok_rng h)
  have h3 := h.n
  have h4 := line_le (lk_iff.2 h)
  have h5 : 169 ^ D.2.1.length ≤ 169 ^ 4 := Nat.pow_le_pow_right (by omega) h3.2
  have h6 : 5 ^ D.2.2.length ≤ 5 ^ 4 := Nat.pow_le_pow_right (by omega) (by omega)
  constructor
  · exact Nat.lt_of_lt_of_le h1 h5
  · exact Nat.lt_of_lt_of_le h2 h6
theorem enc_lt {D : Lk} (h : LOk D) : enc D < 1529495101875 := by
  have h1 := ok_len h
  have h2 := h.w
  unfold enc
  omega
theorem enc_inj {A B : Lk} (ha : LOk A) (hb : LOk B) (h : enc A = enc B) : A = B := by
  have h1 := ok_len ha
  have h2 := ok_len hb
  have h3 := ha.w
  have h4 := hb.w
  unfold enc at h
  have e1 : A.1 = B.1 := by omega
  have e2 : encTs A.2.1 = encTs B.2.1 := by omega
  have e3 : encL A.2.2 = encL B.2.2 := by omega
  obtain ⟨a, b, c⟩ := A
  obtain ⟨x, y, z⟩ := B
  dsimp only at e1 e2 e3
  have f1 : b = y := encTs_inj (ok_tr ha) (ok_tr hb) e2
  have f2 : c = z := encL_inj (ok_rng ha) (ok_rng hb) e3
  rw [e1, f1, f2]
/-- locks without doubles are not many -/
theorem all_len {l : List Lk} (hn : l.Nodup) (h : ∀ D ∈ l, LOk D) : l.length ≤ 1529495101875 := by
  have h1 := nodup_len 1529495101875 (l.map enc) (List.pairwise_map.2 (List.Pairwise.imp_of_mem (fun ha hb hab e => hab (enc_inj (h _ ha) (h _ hb) e)) hn)) (fun x hx => by
    obtain ⟨D, hD, rfl⟩ := List.mem_map.1 hx
    exact enc_lt (h D hD))
  rw [List.length_map] at h1
  exact h1

/-- breadth first -/
def addU (l : List Lk) (D : Lk) : List Lk := if D ∈ l then l else l ++ [D]
def nxL (D : Lk) (i : Nat) : Lk := if canB D i = true then stepD D i else D
def rowA (l : List Lk) (i : Nat) : Nat → List Lk
  | 0 => l
  | k + 1 => addU (rowA l i k) (nxL (l.getD i lkZ) k)
def bfs (D : Lk) (n : Nat) : Nat → List Lk
  | 0 => [D]
  | i + 1 => rowA (bfs D n i) i n
structure Good (n : Nat) (l : List Lk) : Prop where
  nd : l.Nodup
  inv : ∀ D ∈ l, LInv D ∧ D.2.1.length = n
theorem good_len {n : Nat} {l : List Lk} (h : Good n l) : l.length ≤ 1529495101875 := all_len h.nd fun D hD => (h.inv D hD).1.ok
theorem addU_pre (l : List Lk) (D : Lk) : l <+: addU l D := by
  unfold addU
  split
  · exact List.prefix_refl l
  · exact List.prefix_append l [D]
theorem rowA_pre (l : List Lk) (i : Nat) : ∀ k, l <+: rowA l i k
  | 0 => List.prefix_refl l
  | k + 1 => (rowA_pre l i k).trans (addU_pre _ _)
theorem pre_get {l m : List Lk} (h : l <+: m) {i : Nat} (hi : i < l.length) : m.getD i lkZ = l.getD i lkZ := by
  obtain ⟨t, rfl⟩ := h
  rw [List.getD_eq_getElem?_getD, List.getD_eq_getElem?_getD, List.getElem?_append_left hi]
theorem getD_mem {l : List Lk} {i : Nat} (hi : i < l.length) : l.getD i lkZ ∈ l := by
  rw [List.getD_eq_getElem?_getD, List.getElem?_eq_getElem hi]
  exact List.getElem_mem hi
theorem good_add {n : Nat} {l : List Lk} {D : Lk} (h : Good n l) (hi : LInv D) (hl : D.2.1.length = n) : Good n (addU l D) := by
  unfold addU
  split
  · exact h
  · rename_i hm
    refine ⟨?_, fun E hE => ?_⟩
    · rw [List.nodup_append]
      exact ⟨h.nd, by simp, fun a ha b hb e => by rw [List.mem_singleton] at hb; subst hb; subst e; exact hm ha⟩
    · rcases List.mem_append.1 hE with h1 | h1
      · exact h.inv E h1
      · rw [List.mem_singleton] at h1; subst h1; exact ⟨hi, hl⟩
theorem nx_inv {n : Nat} {D : Lk} {k : Nat} (h : LInv D) (hl : D.2.1.length = n) (hk : k < n) : LInv (nxL D k) ∧ (nxL D k).2.1.length = n := by
  unfold nxL
  split
  · rename_i hc
    exact ⟨step_inv h (by omega) hc, by rw [step_len h.ok (by omega)]; exact hl⟩
  · exact ⟨h, hl⟩
theorem good_row {n : Nat} {l : List Lk} {i : Nat} (h : Good n l) (hi : i < l.length) : ∀ {k}, k ≤ n → Good n (rowA l i k)
  | 0, _ => h
  | k + 1, hk => by
    have h1 := h.inv _ (getD_mem hi)
    have h2 := nx_inv (k := k) h1.1 h1.2 (by omega)
    exact good_add (good_row h hi (by omega)) h2.1 h2.2
/-- where the search ends -/
structure EndsAt (D : Lk) (n i : Nat) : Prop where
  len : (bfs D n i).length = i
  run : ∀ j, j < i → j < (bfs D n j).length
theorem ends_one {D : Lk} {n i j : Nat} (h1 : EndsAt D n i) (h2 : EndsAt D n j) : i = j := by
  rcases Nat.lt_trichotomy i j with h | h | h
  · have h3 := h2.run i h; have h4 := h1.len; omega
  · exact h
  · have h3 := h1.run j h; have h4 := h2.len; omega
theorem bfs_good {D : Lk} {n : Nat} (h : LInv D) (hl : D.2.1.length = n) : ∀ {i}, (∀ j, j < i → j < (bfs D n j).length) → Good n (bfs D n i)
  | 0, _ => ⟨by simp [bfs], fun E hE => by
      simp only [bfs, List.mem_singleton] at hE
      subst hE
      exact ⟨h, hl⟩⟩
  | i + 1, hr => good_row (bfs_good h hl (i := i) fun j hj => hr j (by omega)) (hr i (by omega)) (Nat.le_refl n)
theorem bfs_pre (D : Lk) (n : Nat) {i : Nat} : ∀ {j}, i ≤ j → bfs D n i <+: bfs D n j
  | 0, h => by obtain rfl : i = 0 := by omega
               exact List.prefix_refl _
  | j + 1, h => by
    by_cases e : i = j + 1
    · subst e; exact List.prefix_refl _
    · exact (bfs_pre D n (j := j) (by omega)).trans (rowA_pre _ _ _)
/-- how many hold the lock at most, among the first k -/
def mostTo (l : List Lk) : Nat → Int
  | 0 => 0
  | k + 1 => max (mostTo l k) (inTo (l.getD k lkZ) (l.getD k lkZ).2.1.length)
theorem mostTo_pre {l m : List Lk} (h : l <+: m) : ∀ {k}, k ≤ l.length → mostTo m k = mostTo l k
  | 0, _ => rfl
  | k + 1, hk => by
    show max (mostTo m k) _ = max (mostTo l k) _
    rw [mostTo_pre h (by omega), pre_get h (by omega)]
theorem most_le {n : Nat} {l : List Lk} (h : Good n l) : ∀ {k}, k ≤ l.length → 0 ≤ mostTo l k ∧ mostTo l k ≤ 1
  | 0, _ => ⟨Int.le_refl 0, show (0 : Int) ≤ 1 by omega⟩
  | k + 1, hk => by
    have h1 := most_le h (k := k) (by omega)
    have h2 := h.inv _ (getD_mem (l := l) (i := k) (by omega))
    have h3 := inTo_one h2.1 (Nat.le_refl _)
    show 0 ≤ max (mostTo l k) _ ∧ max (mostTo l k) _ ≤ 1
    omega
theorem most_ge {l : List Lk} {j : Nat} : ∀ {k}, j < k → inTo (l.getD j lkZ) (l.getD j lkZ).2.1.length ≤ mostTo l k
  | 0, h => absurd h (Nat.not_lt_zero j)
  | k + 1, h => by
    show _ ≤ max (mostTo l k) _
    by_cases e : j = k
    · subst e; omega
    · have := most_ge (l := l) (j := j) (k := k) (by omega)
      omega
/-- the first round: each thread takes the lock at once -/
def fstD (n : Nat) (t : Int) (k : Nat) : Lk := putT (newLk n t) 1 k ⟨4, 0, t, false⟩ []
theorem nx_new {n : Nat} {t : Int} {k : Nat} (ht : 0 < t) (hk : k < n) : nxL (newLk n t) k = fstD n t k := by
  have h := th_new (n := n) (t := t) hk
  have hc : canB (newLk n t) k = true := by unfold canB; rw [h]; simp; omega
  unfold nxL
  rw [if_pos hc]
  unfold stepD
  rw [h]
  rfl
theorem fst_th {n : Nat} {t : Int} {k : Nat} (hk : k < n) (j : Nat) : (th (fstD n t k) j).f0 = if j = k then 4 else (th (newLk n t) j).f0 := by
  unfold fstD
  rw [th_put (by show k < (List.replicate n _).length; rw [List.length_replicate]; exact hk)]
  split <;> rfl
theorem new0 {n : Nat} {t : Int} (j : Nat) : (th (newLk n t) j).f0 = 0 := by
  by_cases h : j < n
  · rw [th_new h]
  · unfold th newLk
    rw [List.getD_eq_getElem?_getD, List.getElem?_eq_none (by rw [List.length_replicate]; omega)]
    rfl
theorem row_new {n : Nat} {t : Int} (ht : 0 < t) : ∀ {k}, k ≤ n → rowA [newLk n t] 0 k = newLk n t :: (List.range k).map (fstD n t)
  | 0, _ => rfl
  | k + 1, hk => by
    show addU (rowA [newLk n t] 0 k) (nxL (newLk n t) k) = _
    rw [row_new ht (by omega), nx_new ht (by omega)]
    unfold addU
    rw [if_neg, List.range_succ, List.map_append]
    · rfl
    · intro h
      have h4 := fst_th (n := n) (t := t) (k := k) (by omega) k
      rw [if_pos rfl] at h4
      rcases List.mem_cons.1 h with e | h
      · rw [e, new0] at h4; exact absurd h4 (by omega)
      · obtain ⟨j, hj, e⟩ := List.mem_map.1 h
        rw [List.mem_range] at hj
        rw [← e, fst_th (by omega), if_neg (by omega), new0] at h4
        exact absurd h4 (by omega)
theorem in_fst {n : Nat} {t : Int} (hn : 0 < n) : 1 ≤ inTo (fstD n t 0) (fstD n t 0).2.1.length := by
  have hl : (fstD n t 0).2.1.length = n := by
    show ((List.replicate n _).set 0 _).length = n
    rw [List.length_set, List.length_replicate]
  rw [hl]
  obtain ⟨m, rfl⟩ : ∃ m, n = m + 1 := ⟨n - 1, by omega⟩
  have h0 := fst_th (n := m + 1) (t := t) (k := 0) hn 0
  rw [if_pos rfl] at h0
  have h1 : ∀ k, 1 ≤ inTo (fstD (m + 1) t 0) (k + 1) := fun k => by
    induction k with
    | zero =>
      show 1 ≤ (0 : Int) + (if (th (fstD (m + 1) t 0) 0).f0 = 4 then 1 else 0)
      rw [if_pos h0]
      omega
    | succ k ih =>
      show 1 ≤ inTo (fstD (m + 1) t 0) (k + 1) + (if (th (fstD (m + 1) t 0) (k + 1)).f0 = 4 then 1 else 0)
      split <;> omega
  exact h1 m
/-- what the law on all locks asks -/
theorem all_law {n : Nat} {t : Int} (h : newB n t = true) (ht : 0 < t) {i : Nat} (he : EndsAt (newLk n t) n i) : mostTo (bfs (newLk n t) n i) i = 1 ∧ n < i := by
  have hinv : LInv (newLk n t) := by have := new_inv h; rwa [Int.toNat_natCast] at this
  have hn : 0 < n := by
    have := hinv.ok.n
    have hl : (newLk n t).2.1.length = n := by show (List.replicate n _).length = n; rw [List.length_replicate]
    omega
  have hl : (newLk n t).2.1.length = n := by show (List.replicate n _).length = n; rw [List.length_replicate]
  have hg := bfs_good hinv hl he.run
  have h0 : i ≠ 0 := fun e => by
    subst e
    have := he.len
    simp [bfs] at this
  have hb1 : bfs (newLk n t) n 1 = newLk n t :: (List.range n).map (fstD n t) := row_new ht (Nat.le_refl n)
  have hp := bfs_pre (newLk n t) n (i := 1) (j := i) (by omega)
  have hlen := hp.length_le
  rw [hb1, List.length_cons, List.length_map, List.length_range, he.len] at hlen
  refine ⟨?_, by omega⟩
  have h1 := most_le hg (k := i) (by rw [he.len]; exact Nat.le_refl i)
  have h2 := most_ge (l := bfs (newLk n t) n i) (j := 1) (k := i) (by omega)
  have e1 : (bfs (newLk n t) n i).getD 1 lkZ = fstD n t 0 := by
    rw [pre_get hp (by rw [hb1, List.length_cons, List.length_map, List.length_range]; omega), hb1]
    rw [List.getD_eq_getElem?_getD, List.getElem?_cons_succ, List.getElem?_map, List.getElem?_range hn]
    rfl
  rw [e1] at h2
  have h3 := in_fst (n := n) (t := t) hn
  omega
end Go.Proofs.Ytpmigekejipohaa

/-
  Queues: pure facts on the program's way (tasks put in order, filtered, mapped).
-/
import Derived.Test.YtagggajlpmdpdaaQPure4
namespace Go.Proofs.Ytagggajlpmdpdaa
open Go.RowKit

/-- each number is above the one ahead of it -/
def AscQ (l : List ETask) : Prop := ∀ k, 0 < k → k < l.length → (tA l (k - 1)).f0 < (tA l k).f0
theorem tA_get {l : List ETask} {k : Nat} (h : k < l.length) : tA l k = l[k] := by simp [tA, List.getD_eq_getElem?_getD, List.getElem?_eq_getElem h]
theorem any_tA {l : List ETask} {p : ETask → Bool} : l.any p = true ↔ ∃ k, k < l.length ∧ p (tA l k) = true := by
  rw [List.any_eq_true]
  constructor
  · rintro ⟨x, hx, hp⟩
    obtain ⟨k, hk, rfl⟩ := List.getElem_of_mem hx
    exact ⟨k, hk, by rw [tA_get hk]; exact hp⟩
  · rintro ⟨k, hk, hp⟩
    exact ⟨l[k], List.getElem_mem hk, by rw [← tA_get hk]; exact hp⟩
theorem any_none {l : List ETask} {p : ETask → Bool} : l.any p = false ↔ ∀ k, k < l.length → p (tA l k) = false := by
  constructor
  · intro h k hk
    cases e : p (tA l k)
    · rfl
    · rw [any_tA.2 ⟨k, hk, e⟩] at h; cases h
  · intro h
    cases e : l.any p
    · rfl
    · obtain ⟨k, hk, e2⟩ := any_tA.1 e
      rw [h k hk] at e2; cases e2
theorem qB_len {D : Qu} (h : 6 < D.1.length) : qB D = false := by
  cases e : qB D
  · rfl
  · have := (qB_iff.1 e).2.1; omega
theorem qB_fl {D : Qu} (h : inB D.2 0 1000000 = false) : qB D = false := by unfold qB; rw [h]; simp
theorem qB_asc {D : Qu} (h : ¬ AscQ D.1) : qB D = false := by
  cases e : qB D
  · rfl
  · exact absurd (fun k h0 hk => (((qB_iff.1 e).1 k hk).2).resolve_left (by omega)) h
theorem qB_any {D : Qu} (h1 : D.1.length ≤ 6) (h2 : inB D.2 0 1000000 = true) (h3 : AscQ D.1) : qB D = !(D.1.any fun t => !tokB t D.2) := by
  have h2' : 0 ≤ D.2 ∧ D.2 ≤ 1000000 := by simpa [inB] using h2
  cases e : D.1.any fun t => !tokB t D.2
  · have h4 := any_none.1 e
    refine qB_iff.2 ⟨fun k hk => ⟨by simpa using h4 k hk, ?_⟩, h1, h2'⟩
    rcases Nat.eq_zero_or_pos k with h | h
    · exact Or.inl h
    · exact Or.inr (h3 k h hk)
  · obtain ⟨k, hk, e2⟩ := any_tA.1 e
    cases e3 : qB D
    · rfl
    · rw [((qB_iff.1 e3).1 k hk).1] at e2; cases e2
/-- whether a task of the list has the number -/
def hasN (l : List ETask) (id : Int) : Bool := l.any fun t => t.f0 == id
theorem hasN_eq (l : List ETask) (id : Int) : hasN l id = decide (0 ≤ atI l id) := by
  rcases at_cases l id l.length with ⟨h1, h2⟩ | ⟨k, h1, h2, h3, h4⟩
  · have : hasN l id = false := any_none.2 fun k hk => by simpa using h2 k hk
    rw [this]; unfold atI; rw [h1]; rfl
  · have : hasN l id = true := any_tA.2 ⟨k, h1, by simpa using h4⟩
    rw [this]; unfold atI; rw [h2]; simp
theorem asc_of_q {D : Qu} (h : qB D = true) : AscQ D.1 := fun k h0 hk => (asc_of h k hk).resolve_left (by omega)
/-- the tasks of a number changed -/
def mapN (id : Int) (ch : ETask → ETask) (t : ETask) : ETask := if t.f0 = id then ch t else t
theorem mapN_set {l : List ETask} {id : Int} {ch : ETask → ETask} {m : Nat} (h : ∀ k, k < l.length → k = 0 ∨ (tA l (k - 1)).f0 < (tA l k).f0) (hm : m < l.length) (he : (tA l m).f0 = id) : l.map (mapN id ch) = l.set m (ch (tA l m)) := by
  apply List.ext_getElem
  · simp
  · intro j h1 h2
    rw [List.length_map] at h1
    rw [List.getElem_map, List.getElem_set]
    unfold mapN
    by_cases e : m = j
    · subst e
      rw [if_pos rfl, if_pos (by rw [← tA_get h1]; exact he), tA_get h1]
    · rw [if_neg e, if_neg]
      intro h3
      rw [← tA_get h1] at h3
      exact e (asc_inj h hm h1 (he.trans h3.symm))
theorem filt_erase {l : List ETask} {id : Int} {m : Nat} (h : ∀ k, k < l.length → k = 0 ∨ (tA l (k - 1)).f0 < (tA l k).f0) (hm : m < l.length) (he : (tA l m).f0 = id) : l.filter (fun t => !(t.f0 == id)) = l.eraseIdx m := by
  have e1 : l = l.take m ++ l[m] :: l.drop (m + 1) := by rw [← List.drop_eq_getElem_cons hm, List.take_append_drop]
  have h1 : ∀ x ∈ l.take m, (!(x.f0 == id)) = true := by
    intro x hx
    obtain ⟨k, hk, rfl⟩ := List.getElem_of_mem hx
    rw [List.length_take] at hk
    rw [List.getElem_take]
    have : ¬ (tA l k).f0 = id := fun h3 => by have := asc_inj h (show k < l.length by omega) hm (h3.trans he.symm); omega
    rw [tA_get (show k < l.length by omega)] at this
    simpa using this
  have h2 : ∀ x ∈ l.drop (m + 1), (!(x.f0 == id)) = true := by
    intro x hx
    obtain ⟨k, hk, rfl⟩ := List.getElem_of_mem hx
    rw [List.length_drop] at hk
    rw [List.getElem_drop]
    have : ¬ (tA l (m + 1 + k)).f0 = id := fun h3 => by have := asc_inj h (show m + 1 + k < l.length by omega) hm (h3.trans he.symm); omega
    rw [tA_get (show m + 1 + k < l.length by omega)] at this
    simpa using this
  rw [List.eraseIdx_eq_take_drop_succ]
  conv => lhs; rw [e1]
  rw [List.filter_append, List.filter_cons, List.filter_eq_self.2 h1, List.filter_eq_self.2 h2, if_neg]
  rw [tA_get hm] at he
  simp [he]
/-- two neighbours the other way round -/
def swp (l : List ETask) (j : Nat) : List ETask := (l.set (j + 1) (tA l j)).set j (tA l (j + 1))
/-- the task at a place goes ahead as long as it is less than the one ahead of it -/
def sink (lt : ETask → ETask → Bool) (l : List ETask) : Nat → List ETask
  | 0 => l
  | j + 1 => if lt (tA l (j + 1)) (tA l j) = true then sink lt (swp l j) j else l
def srtTo (lt : ETask → ETask → Bool) (l : List ETask) : Nat → List ETask
  | 0 => l
  | i + 1 => sink lt (srtTo lt l i) (i + 1)
/-- a list in order: neither of two the other way round where neither is less -/
def srt (lt : ETask → ETask → Bool) (l : List ETask) : List ETask := srtTo lt l (l.length - 1)
theorem swp_len (l : List ETask) (j : Nat) : (swp l j).length = l.length := by simp [swp]
theorem sink_len (lt : ETask → ETask → Bool) : ∀ (j : Nat) (l : List ETask), (sink lt l j).length = l.length
  | 0, _ => rfl
  | j + 1, l => by
    unfold sink
    split
    · rw [sink_len lt j, swp_len]
    · rfl
theorem srtTo_len (lt : ETask → ETask → Bool) (l : List ETask) : ∀ i, (srtTo lt l i).length = l.length
  | 0 => rfl
  | i + 1 => by unfold srtTo; rw [sink_len, srtTo_len lt l i]
theorem srt_len (lt : ETask → ETask → Bool) (l : List ETask) : (srt lt l).length = l.length := srtTo_len lt l _
def insB (lt : ETask → ETask → Bool) (x : ETask) : List ETask → List ETask
  | [] => [x]
  | y :: T => if lt x y = true then y :: insB lt x T else x :: y :: T
theorem tA_app {S R : List ETask} {x : ETask} : tA (S ++ x :: R) S.length = x := by simp [tA, List.getD_eq_getElem?_getD]
theorem sink_ins (lt : ETask → ETask → Bool) (x : ETask) : ∀ (T R : List ETask), sink lt (T.reverse ++ x :: R) T.length = (insB lt x T).reverse ++ R
  | [], R => rfl
  | y :: T, R => by
    have e1 : (y :: T).reverse ++ x :: R = T.reverse ++ y :: x :: R := by simp
    have hx : tA (T.reverse ++ y :: x :: R) (T.length + 1) = x := by
      simp [tA, List.getD_eq_getElem?_getD]
    have hy : tA (T.reverse ++ y :: x :: R) T.length = y := by
      have h := tA_app (S := T.reverse) (x := y) (R := x :: R)
      rwa [List.length_reverse] at h
    rw [e1, List.length_cons]
    unfold sink insB
    rw [hx, hy]
    by_cases h : lt x y = true
    · rw [if_pos h, if_pos h]
      have e2 : swp (T.reverse ++ y :: x :: R) T.length = T.reverse ++ x :: y :: R := by
        unfold swp
        rw [hx, hy]
        rw [List.set_append_right _ _ (by simp), List.set_append_right _ _ (by simp)]
        simp
      rw [e2, sink_ins lt x T (y :: R)]
      simp
    · rw [if_neg h, if_neg h]
      simp
theorem srtTo_fold (lt : ETask → ETask → Bool) (l : List ETask) : ∀ i, i < l.length → srtTo lt l i = ((l.take (i + 1)).foldl (fun T x => insB lt x T) []).reverse ++ l.drop (i + 1)
  | 0, h => by
    cases l with
    | nil => exact absurd h (Nat.not_lt_zero _)
    | cons a l => simp [srtTo, insB]
  | i + 1, h => by
    unfold srtTo
    rw [srtTo_fold lt l i (by omega)]
    generalize hT : (l.take (i + 1)).foldl (fun T x => insB lt x T) [] = T
    have hTl : T.length = i + 1 := by
      have h1 := srtTo_len lt l i
      rw [srtTo_fold lt l i (by omega), hT, List.length_append, List.length_reverse, List.length_drop] at h1
      omega
    have h2 := sink_ins lt l[i + 1] T (l.drop (i + 1 + 1))
    rw [← List.drop_eq_getElem_cons h, hTl] at h2
    rw [h2, List.take_succ_eq_append_getElem h, List.foldl_append, hT]
    rfl
theorem srt_fold (lt : ETask → ETask → Bool) (l : List ETask) : srt lt l = (l.foldl (fun T x => insB lt x T) []).reverse := by
  cases l with
  | nil => rfl
  | cons a l =>
    unfold srt
    rw [srtTo_fold lt (a :: l) _ (by simp)]
    simp
/-- less by the number; less by the cost -/
def ltN (a b : ETask) : Bool := decide (a.f0 < b.f0)
def ltC (a b : ETask) : Bool := decide (a.f2 < b.f2)
theorem ins_all {lt : ETask → ETask → Bool} {t : ETask} : ∀ {T : List ETask}, (∀ y ∈ T, lt t y = true) → insB lt t T = T ++ [t]
  | [], _ => rfl
  | y :: T, h => by
    unfold insB
    rw [if_pos (h y (by simp)), ins_all fun z hz => h z (by simp [hz])]
    rfl
theorem ins_not {lt : ETask → ETask → Bool} {t a : ETask} (ha : ¬ lt t a = true) : ∀ T : List ETask, insB lt t (T ++ [a]) = insB lt t T ++ [a]
  | [] => by simp [insB, ha]
  | y :: T => by
    rw [List.cons_append]
    unfold insB
    split
    · rw [ins_not ha T]; rfl
    · rfl
theorem fold_asc : ∀ (l T : List ETask), (∀ x ∈ l, ∀ y ∈ T, y.f0 < x.f0) → List.Pairwise (fun a b : ETask => a.f0 < b.f0) l → l.foldl (fun T x => insB ltN x T) T = l.reverse ++ T
  | [], _, _, _ => rfl
  | x :: l, T, h, hp => by
    rw [List.foldl_cons]
    have e : insB ltN x T = x :: T := by
      cases T with
      | nil => rfl
      | cons y T =>
        unfold insB
        rw [if_neg]
        have := h x (by simp) y (by simp)
        simp only [ltN, decide_eq_true_eq]
        omega
    rw [List.pairwise_cons] at hp
    rw [e, fold_asc l (x :: T) (fun a ha y hy => ?_) hp.2]
    · simp
    · rcases List.mem_cons.1 hy with rfl | hy
      · exact hp.1 a ha
      · exact h a (by simp [ha]) y hy
theorem pair_asc {l : List ETask} (h : ∀ k, k < l.length → k = 0 ∨ (tA l (k - 1)).f0 < (tA l k).f0) : List.Pairwise (fun a b : ETask => a.f0 < b.f0) l := by
  rw [List.pairwise_iff_getElem]
  intro i j hi hj hij
  have := asc_lt h hij hj
  rw [tA_get hi, tA_get hj] at this
  exact this
theorem ins_add (t : ETask) : ∀ {l : List ETask}, List.Pairwise (fun a b : ETask => a.f0 < b.f0) l → (insB ltN t l.reverse).reverse = addL t l
  | [], _ => rfl
  | a :: l, hp => by
    rw [List.pairwise_cons] at hp
    rw [List.reverse_cons]
    unfold addL
    by_cases h : t.f0 < a.f0
    · rw [if_pos h, ins_all]
      · simp
      · intro y hy
        simp only [ltN, decide_eq_true_eq]
        rcases List.mem_append.1 hy with hy | hy
        · have := hp.1 y (by simpa using hy); omega
        · rw [List.mem_singleton] at hy; subst hy; exact h
    · rw [if_neg h, ins_not (by simpa [ltN] using h), List.reverse_append, ins_add t hp.2]
      rfl
theorem srt_add {l : List ETask} (t : ETask) (h : ∀ k, k < l.length → k = 0 ∨ (tA l (k - 1)).f0 < (tA l k).f0) : srt ltN (l ++ [t]) = addL t l := by
  rw [srt_fold, List.foldl_append, fold_asc l [] (fun _ _ y hy => absurd hy List.not_mem_nil) (pair_asc h), List.append_nil]
  exact ins_add t (pair_asc h)
/-- costs do not ascend -/
def Desc (T : List ETask) : Prop := List.Pairwise (fun a b : ETask => b.f2 ≤ a.f2) T
theorem mem_ins {lt : ETask → ETask → Bool} {x z : ETask} : ∀ {T : List ETask}, z ∈ insB lt x T → z = x ∨ z ∈ T
  | [], h => by simpa [insB] using h
  | y :: T, h => by
    unfold insB at h
    split at h
    · rcases List.mem_cons.1 h with h | h
      · exact Or.inr (by simp [h])
      · rcases mem_ins h with h | h
        · exact Or.inl h
        · exact Or.inr (by simp [h])
    · rcases List.mem_cons.1 h with h | h
      · exact Or.inl h
      · exact Or.inr h
theorem ins_desc {x : ETask} : ∀ {T : List ETask}, Desc T → Desc (insB ltC x T)
  | [], _ => by simp [insB, Desc]
  | y :: T, h => by
    unfold insB
    have h' := List.pairwise_cons.1 h
    by_cases c : ltC x y = true
    · rw [if_pos c]
      refine List.pairwise_cons.2 ⟨fun z hz => ?_, ins_desc h'.2⟩
      rcases mem_ins hz with rfl | hz
      · simp only [ltC, decide_eq_true_eq] at c; omega
      · exact h'.1 z hz
    · rw [if_neg c]
      refine List.pairwise_cons.2 ⟨fun z hz => ?_, h⟩
      simp only [ltC, decide_eq_true_eq] at c
      rcases List.mem_cons.1 hz with rfl | hz
      · omega
      · have := h'.1 z hz; omega
theorem ins_last {x m : ETask} : ∀ {T : List ETask}, Desc T → T.getLast? = some m → (insB ltC x T).getLast? = some (if ltC x m = true then x else m)
  | [], _, h => by cases h
  | [y], _, h => by
    obtain rfl : y = m := by simpa using h
    unfold insB
    by_cases c : ltC x y = true
    · rw [if_pos c, if_pos c]; rfl
    · rw [if_neg c, if_neg c]; rfl
  | y :: z :: T, hd, h => by
    have hd' := List.pairwise_cons.1 hd
    rw [List.getLast?_cons_cons] at h
    have ih := ins_last (x := x) hd'.2 h
    have hm : m ∈ z :: T := List.mem_of_getLast? h
    unfold insB
    by_cases c : ltC x y = true
    · rw [if_pos c, ← ih]
      have : ∃ a R, insB ltC x (z :: T) = a :: R := by
        unfold insB
        split
        · exact ⟨_, _, rfl⟩
        · exact ⟨_, _, rfl⟩
      obtain ⟨a, R, e⟩ := this
      rw [e, List.getLast?_cons_cons]
    · have c2 : ¬ ltC x m = true := by
        have := hd'.1 m hm
        simp only [ltC, decide_eq_true_eq] at c ⊢
        omega
      rw [if_neg c, if_neg c2, List.getLast?_cons_cons, List.getLast?_cons_cons]
      exact h
theorem line_inv (l : List ETask) : ∀ k, k ≤ l.length → Desc (((l.take k).filter (·.f3)).foldl (fun T x => insB ltC x T) []) ∧
    ((nxTo l k = -1 ∧ (l.take k).filter (·.f3) = []) ∨ ∃ b : Nat, nxTo l k = b ∧ (((l.take k).filter (·.f3)).foldl (fun T x => insB ltC x T) []).getLast? = some (tA l b))
  | 0, _ => by simp [Desc, nxTo]
  | k + 1, h => by
    obtain ⟨h1, h2⟩ := line_inv l k (by omega)
    have hx : l[k]'(by omega) = tA l k := (tA_get (by omega)).symm
    rw [List.take_succ_eq_append_getElem (show k < l.length by omega), List.filter_append, hx]
    cases e : (tA l k).f3
    · have e2 : List.filter (fun t : ETask => t.f3) [tA l k] = [] := by rw [List.filter_cons, e]; rfl
      rw [e2, List.append_nil]
      refine ⟨h1, ?_⟩
      unfold nxTo
      rw [if_neg (by rw [e]; simp)]
      exact h2
    · have e2 : List.filter (fun t : ETask => t.f3) [tA l k] = [tA l k] := by rw [List.filter_cons, e]; rfl
      rw [e2, List.foldl_append, List.foldl_cons, List.foldl_nil]
      refine ⟨ins_desc h1, Or.inr ?_⟩
      unfold nxTo
      rcases h2 with ⟨h2, h3⟩ | ⟨b, h2, h3⟩
      · refine ⟨k, ?_, ?_⟩
        · rw [if_pos ⟨e, Or.inl (by omega)⟩]
        · rw [h3]; rfl
      · by_cases c : (tA l k).f2 < (tA l b).f2
        · refine ⟨k, ?_, ?_⟩
          · rw [h2, if_pos ⟨e, Or.inr (by simpa using c)⟩]
          · rw [ins_last h1 h3, if_pos (by simpa [ltC] using c)]
        · refine ⟨b, ?_, ?_⟩
          · rw [h2, if_neg]
            rintro ⟨_, c1 | c1⟩
            · omega
            · exact c (by simpa using c1)
          · rw [ins_last h1 h3, if_neg (by simpa [ltC] using c)]
/-- the ready tasks, the next one first -/
def lineL (l : List ETask) : List ETask := srt ltC (l.filter (·.f3))
theorem line_len (l : List ETask) : (lineL l).length = (l.filter (·.f3)).length := srt_len _ _
theorem line_none {l : List ETask} (h : nxI l < 0) : lineL l = [] := by
  obtain ⟨_, h2⟩ := line_inv l l.length (Nat.le_refl _)
  rw [List.take_of_length_le (Nat.le_refl _)] at h2
  rcases h2 with ⟨_, h2⟩ | ⟨b, h2, _⟩
  · unfold lineL; rw [h2]; rfl
  · unfold nxI at h; omega
theorem line_some {l : List ETask} {b : Nat} (h : nxI l = b) : 0 < (lineL l).length ∧ tA (lineL l) 0 = tA l b := by
  obtain ⟨_, h2⟩ := line_inv l l.length (Nat.le_refl _)
  rw [List.take_of_length_le (Nat.le_refl _)] at h2
  rcases h2 with ⟨h2, _⟩ | ⟨b', h2, h3⟩
  · unfold nxI at h; omega
  · obtain rfl : b' = b := by unfold nxI at h; omega
    unfold lineL
    rw [srt_fold]
    rw [← List.head?_reverse] at h3
    generalize (List.foldl (fun T x => insB ltC x T) [] (l.filter (·.f3))).reverse = R at h3
    cases R with
    | nil => cases h3
    | cons a R =>
      obtain rfl : a = tA l b' := by simpa using h3
      exact ⟨by simp, rfl⟩
theorem nxtR_line {D : Qu} (h : qB D = true) : nxtR D = if (lineL D.1).length = 0 then -1 else (tA (lineL D.1) 0).f0 := by
  unfold nxtR
  rw [if_pos h]
  rcases nxI_cases D.1 with ⟨h1, _⟩ | ⟨b, h1, _⟩
  · rw [if_pos (by omega), line_none (by omega)]; rfl
  · obtain ⟨h2, h3⟩ := line_some h1
    rw [if_neg (by omega), if_neg (by omega), h3, h1]
    rfl
theorem nxtR_bad {D : Qu} (h : qB D = false) : nxtR D = -1 := by unfold nxtR; rw [h]; rfl
/-- a task of the next one's number with a tick's cost -/
def tikT (t : ETask) : ETask := setC t (tickC t)
theorem has_neg {D : Qu} (h : qB D = true) : atI D.1 (-1) < 0 := by
  rcases at_cases D.1 (-1) D.1.length with ⟨h1, _⟩ | ⟨k, h1, h2, h3, h4⟩
  · unfold atI; omega
  · have := (tok_iff.1 ((qB_iff.1 h).1 k h1).1).1; omega
theorem tik_bad {D : Qu} (h : hasB D (nxtR D) = false) : tikO D = none := by
  unfold tikO
  by_cases hq : qB D = true
  · rw [if_pos hq]
    unfold tickD
    by_cases hn : nxI D.1 < 0
    · rw [if_pos hn]
    · exfalso
      rcases nxI_cases D.1 with ⟨h1, _⟩ | ⟨b, h1, h2⟩
      · omega
      · have e : nxtR D = (tA D.1 b).f0 := by unfold nxtR; rw [if_pos hq, if_neg hn, h1]; rfl
        have : hasB D (nxtR D) = true := by
          unfold hasB
          rw [hq, e, ← hasN_eq]
          exact any_tA.2 ⟨b, h2.1, by simp⟩
        rw [this] at h; cases h
  · rw [if_neg hq]
theorem tik_has {D : Qu} (h : hasB D (nxtR D) = true) : ∃ b : Nat, qB D = true ∧ nxI D.1 = b ∧ NxAt D.1 D.1.length b ∧ nxtR D = (tA D.1 b).f0 := by
  have hq : qB D = true := by
    unfold hasB at h
    exact ((Bool.and_eq_true _ _).mp h).1
  rcases nxI_cases D.1 with ⟨h1, _⟩ | ⟨b, h1, h2⟩
  · exfalso
    have e : nxtR D = -1 := by unfold nxtR; rw [if_pos hq, if_pos (by omega)]
    have h3 := has_neg hq
    unfold hasB at h
    rw [e] at h
    have := ((Bool.and_eq_true _ _).mp h).2
    rw [decide_eq_true_eq] at this
    omega
  · refine ⟨b, hq, h1, h2, ?_⟩
    unfold nxtR
    rw [if_pos hq, if_neg (by omega), h1]
    rfl
theorem tok_tik {t : ETask} {F : Int} (h : tokB t F = true) : tokB (tikT t) F = decide (tickC t ≤ 1000000) := by
  have h' := tok_iff.1 h
  have hd := tdiv_bounds h'.2.1
  by_cases c : tickC t ≤ 1000000
  · rw [decide_eq_true c]
    refine tok_iff.2 ⟨h'.1, h'.2.1, ⟨?_, c⟩, fun hr => ?_⟩
    · show 0 ≤ t.f2 + _; omega
    · have := h'.2.2.2 hr
      show F ≤ t.f2 + _; omega
  · rw [decide_eq_false c]
    cases e : tokB (tikT t) F
    · rfl
    · exact absurd (tok_iff.1 e).2.2.1.2 c
theorem tik_qB {D : Qu} {b : Nat} (hq : qB D = true) (hb : b < D.1.length) : qB (D.1.set b (tikT (tA D.1 b)), D.2) = decide (tickC (tA D.1 b) ≤ 1000000) := by
  have ht := ((qB_iff.1 hq).1 b hb).1
  have hk := tok_tik ht
  by_cases c : tickC (tA D.1 b) ≤ 1000000
  · rw [decide_eq_true c] at hk ⊢
    exact qB_set hq hb rfl hk
  · rw [decide_eq_false c] at hk ⊢
    cases e : qB (D.1.set b (tikT (tA D.1 b)), D.2)
    · rfl
    · have := ((qB_iff.1 e).1 b (by simpa using hb)).1
      rw [getD_setT _ _ _ _ hb, if_pos rfl, hk] at this
      cases this
theorem tik_map {D : Qu} {b : Nat} (hq : qB D = true) (hb : b < D.1.length) {id : Int} (he : id = (tA D.1 b).f0) (ch : ETask → ETask) : D.1.map (mapN id ch) = D.1.set b (ch (tA D.1 b)) := mapN_set (asc_of hq) hb he.symm
/-- what a tick makes of a queue that is valid and has a next one -/
theorem tik_yesP {D : Qu} (h : hasB D (nxtR D) = true) {D' : Qu} (hD : D' = (D.1.map (mapN (nxtR D) tikT), D.2)) :
    (qB D' = false → tikO D = none) ∧ (qB D' = true → 0 < (lineL D'.1).length ∧ tikO D = some ((D'.1, max D'.2 (tA (lineL D'.1) 0).f2), nxtR D)) := by
  obtain ⟨b, hq, h1, h2, h3⟩ := tik_has h
  rw [tik_map hq h2.1 h3] at hD
  have e1 := tik_qB hq h2.1
  rw [← hD] at e1
  have hb0 : ¬ ((b : Int) < 0) := by omega
  have e0 : tikO D = tickD D := by unfold tikO; rw [if_pos hq]
  constructor
  · intro h4
    rw [e1] at h4
    have c : 1000000 < tickC (tA D.1 b) := by have := of_decide_eq_false h4; omega
    rw [e0]
    unfold tickD
    rw [h1, if_neg hb0, Int.toNat_natCast, if_pos c]
  · intro h4
    rw [e1] at h4
    have c : ¬ 1000000 < tickC (tA D.1 b) := by have := of_decide_eq_true h4; omega
    have hr : (tA (D.1.set b (tikT (tA D.1 b))) b).f3 = true := by rw [getD_setT _ _ _ _ h2.1, if_pos rfl]; exact h2.2.1
    rcases nxI_cases (D.1.set b (tikT (tA D.1 b))) with ⟨_, h6⟩ | ⟨b2, h5, h6⟩
    · rw [h6 b (by simpa using h2.1)] at hr; cases hr
    · obtain ⟨h7, h8⟩ := line_some h5
      subst hD
      refine ⟨h7, ?_⟩
      rw [e0]
      unfold tickD
      rw [h1, if_neg hb0, Int.toNat_natCast, if_neg c]
      show some _ = some _
      rw [show setC (tA D.1 b) (tickC (tA D.1 b)) = tikT (tA D.1 b) from rfl, h5, Int.toNat_natCast, h8, h3]
theorem slp_map {D : Qu} {id : Int} (h : hasB D id = true) : slpD D id = (D.1.map (mapN id fun t => setR t false), D.2) := by
  obtain ⟨hq, m, h1, h2, h3, _⟩ := hasB_iff.1 h
  unfold slpD
  rw [if_pos h, h1, Int.toNat_natCast, mapN_set (asc_of hq) h2 h3]
def wkT (F : Int) (t : ETask) : ETask := ⟨t.f0, t.f1, max t.f2 F, true⟩
theorem wak_map {D : Qu} {id : Int} (h : hasB D id = true) : wakD D id = (D.1.map (mapN id (wkT D.2)), D.2) := by
  obtain ⟨hq, m, h1, h2, h3, _⟩ := hasB_iff.1 h
  unfold wakD
  rw [if_pos h, h1, Int.toNat_natCast, mapN_set (asc_of hq) h2 h3]
  have ht := tok_iff.1 ((qB_iff.1 hq).1 m h2).1
  have e : wakT (tA D.1 m) D.2 = wkT D.2 (tA D.1 m) := by
    unfold wakT wkT
    generalize tA D.1 m = t at ht
    obtain ⟨a, b, c, d⟩ := t
    cases d
    · rfl
    · rw [if_pos rfl]
      have := ht.2.2.2 rfl
      dsimp only at this ⊢
      rw [Int.max_eq_left this]
  rw [e]
theorem les_filt {D : Qu} {id : Int} (h : hasB D id = true) : lesD D id = (D.1.filter (fun t => !(t.f0 == id)), D.2) := by
  obtain ⟨hq, m, h1, h2, h3, _⟩ := hasB_iff.1 h
  unfold lesD
  rw [if_pos h, h1, Int.toNat_natCast, filt_erase (asc_of hq) h2 h3]
theorem hasB_q {D : Qu} (id : Int) (h : qB D = true) : hasB D id = hasN D.1 id := by unfold hasB; rw [h, Bool.true_and, hasN_eq]
theorem hasB_nq {D : Qu} (id : Int) (h : qB D = false) : hasB D id = false := by unfold hasB; rw [h, Bool.false_and]
theorem hasB_off {D : Qu} {id : Int} (h : hasB D id = false) : slpD D id = qZ ∧ wakD D id = qZ ∧ lesD D id = qZ := by
  unfold slpD wakD lesD
  rw [h]
  exact ⟨rfl, rfl, rfl⟩
theorem add_no {D : Qu} {id wt : Int} (h : qB D = false ∨ tokB ⟨id, wt, D.2, true⟩ D.2 = false ∨ D.1.length = 6 ∨ hasN D.1 id = true) : addB D id wt = false := by
  cases e : addB D id wt
  · rfl
  · exfalso
    unfold addB inB at e
    simp only [Bool.and_eq_true, decide_eq_true_eq] at e
    obtain ⟨h1, h2, h3, h4, h5⟩ := e
    rcases h with h | h | h | h
    · rw [h1] at h; cases h
    · have : tokB ⟨id, wt, D.2, true⟩ D.2 = true := tok_iff.2 ⟨h4, h5, (qB_iff.1 h1).2.2, fun _ => Int.le_refl _⟩
      rw [this] at h; cases h
    · omega
    · rw [hasN_eq, decide_eq_true_eq] at h; omega
theorem add_yes {D : Qu} {id wt : Int} (h1 : qB D = true) (h2 : tokB ⟨id, wt, D.2, true⟩ D.2 = true) (h3 : ¬ D.1.length = 6) (h4 : hasN D.1 id = false) : addB D id wt = true ∧ addD D id wt = (srt ltN (D.1 ++ [⟨id, wt, D.2, true⟩]), D.2) := by
  have h5 := tok_iff.1 h2
  rw [hasN_eq] at h4
  have h6 := of_decide_eq_false h4
  have h7 := (qB_iff.1 h1).2.1
  have h : addB D id wt = true := by
    unfold addB inB
    simp only [Bool.and_eq_true, decide_eq_true_eq]
    exact ⟨h1, by omega, by omega, h5.1, h5.2.1⟩
  refine ⟨h, ?_⟩
  unfold addD
  rw [if_pos h, srt_add _ (asc_of h1)]
theorem add_off {D : Qu} {id wt : Int} (h : addB D id wt = false) : addD D id wt = qZ := by unfold addD; rw [h]; rfl
theorem les_small {D : Qu} {id : Int} : (lesD D id).1.length ≤ D.1.length := by
  unfold lesD
  split
  · rw [List.length_eraseIdx]; split <;> omega
  · exact Nat.zero_le _
theorem run_tik {D : Qu} {k : Nat} {r : Qu × List Int} (hq : qB D = true) (h : runO D k = some r) : runO D (k + 1) = match tikO r.1 with | none => none | some s => some (s.1, r.2 ++ [s.2]) := by
  have h1 := (run_ok hq h).1
  conv => lhs; unfold runO
  rw [h]
  dsimp only
  rw [show tikO r.1 = tickD r.1 from by unfold tikO; rw [if_pos h1]]
  cases tickD r.1 <;> rfl
end Go.Proofs.Ytagggajlpmdpdaa

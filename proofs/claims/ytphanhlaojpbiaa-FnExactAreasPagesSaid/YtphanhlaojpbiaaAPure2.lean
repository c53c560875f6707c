/-
  Pure facts about cuts, sums and settings of areas.
-/
import Derived.Test.YtphanhlaojpbiaaAPure
namespace Go.Proofs.Ytphanhlaojpbiaa
open Go.RowKit

theorem Asc.mem : ∀ {l : List Ar} {b : Int}, Asc b l → ∀ a ∈ l, okA a = true ∧ b ≤ a.f
  | a :: l, b, h, c, hc => by
    rcases List.mem_cons.1 hc with rfl | hc
    · exact ⟨h.1, h.2.1⟩
    · have h1 := okA_parts h.1
      have h2 := h.2.1
      have h3 := h.2.2.mem c hc
      exact ⟨h3.1, by omega⟩
theorem Asc.before : ∀ {l : List Ar} {b : Int} {a : Ar}, Asc b (l ++ [a]) → ∀ c ∈ l, c.f + c.m ≤ a.f
  | d :: l, b, a, h, c, hc => by
    rcases List.mem_cons.1 hc with rfl | hc
    · exact (h.2.2.mem a (by simp)).2
    · exact Asc.before (l := l) h.2.2 c hc
theorem cov_none {x : Int} : ∀ {l : List Ar}, (∀ c ∈ l, ¬ hasA c x = true) → cov l x = none
  | [], _ => rfl
  | a :: l, h => by
    simp only [cov, if_neg (h a (by simp))]
    exact cov_none fun c hc => h c (by simp [hc])

/-- a cut of one area, plainly: the pages from p on and below e are gone -/
def cutE (a : Ar) (p e : Int) : List Ar :=
  (if a.f < p then [⟨a.f, (if a.f + a.m ≤ p then a.m else p - a.f), a.w, a.s⟩] else []) ++ (if e < a.f + a.m then [⟨(if e ≤ a.f then a.f else e), (if e ≤ a.f then a.m else a.f + a.m - e), a.w, a.s⟩] else [])
theorem cut1_eq {a : Ar} {p q : Int} (ha : okA a = true) : cut1 a p q = cutE a p (q + 1) := by
  have h := okA_parts ha
  have e1 : partF a 0 = a.f := by unfold partF; rw [if_pos (by omega)]
  have e2 : partT a 15 = a.f + a.m - 1 := by unfold partT; rw [if_pos (by omega)]
  unfold cut1 cutE
  congr 1
  · unfold partA partB
    rw [e1]
    unfold partT
    by_cases h1 : a.f < p
    · have h2 : a.f ≤ (if a.f + a.m - 1 ≤ p - 1 then a.f + a.m - 1 else p - 1) := by split <;> omega
      rw [if_pos h1, if_pos (decide_eq_true h2), if_pos (decide_eq_true h2)]
      congr 2
      repeat' split
      all_goals omega
    · have h2 : ¬ a.f ≤ (if a.f + a.m - 1 ≤ p - 1 then a.f + a.m - 1 else p - 1) := by split <;> omega
      rw [if_neg h1, if_neg (by simpa using h2)]
  · unfold partA partB
    rw [e2]
    unfold partF
    by_cases h1 : q + 1 < a.f + a.m
    · have h2 : (if q + 1 ≤ a.f then a.f else q + 1) ≤ a.f + a.m - 1 := by split <;> omega
      rw [if_pos h1, if_pos (decide_eq_true h2), if_pos (decide_eq_true h2)]
      congr 2
      repeat' split
      all_goals omega
    · have h2 : ¬ (if q + 1 ≤ a.f then a.f else q + 1) ≤ a.f + a.m - 1 := by split <;> omega
      rw [if_neg h1, if_neg (by simpa using h2)]
theorem cutTo_flat {l : List Ar} {p q b : Int} (h : Asc b l) : ∀ k, k ≤ l.length → cutTo l p q k = (l.take k).flatMap (fun a => cutE a p (q + 1))
  | 0, _ => by simp [cutTo]
  | k + 1, hk => by
    rw [List.take_add_one, List.flatMap_append, cutTo, cutTo_flat h k (by omega)]
    have e : l[k]? = some (l.getD k .z) := by simp [List.getD, List.getElem?_eq_getElem (show k < l.length by omega)]
    have hm : l.getD k .z ∈ l := List.mem_of_getElem? e
    rw [e, cut1_eq (h.mem _ hm).1]
    simp
theorem cutL_flat {l : List Ar} {p m b : Int} (h : Asc b l) : cutL l p m = l.flatMap (fun a => cutE a p (p + m)) := by
  unfold cutL
  rw [cutTo_flat h l.length (Nat.le_refl _), List.take_length]
  have e : p + m - 1 + 1 = p + m := by omega
  rw [e]
theorem cov_cutE {a : Ar} {p e x : Int} (ha : okA a = true) (hpe : p ≤ e) : cov (cutE a p e) x = if p ≤ x ∧ x < e then none else cov [a] x := by
  have h := okA_parts ha
  unfold cutE
  rw [cov_app]
  have c1 : cov (if a.f < p then [(⟨a.f, (if a.f + a.m ≤ p then a.m else p - a.f), a.w, a.s⟩ : Ar)] else []) x = if a.f ≤ x ∧ x < a.f + a.m ∧ x < p then some (a.w, a.s) else none := by
    by_cases h1 : a.f < p
    · rw [if_pos h1]
      simp only [cov, hasA_iff]
      congr 1
      apply propext
      split <;> omega
    · rw [if_neg h1, if_neg (by omega)]
      rfl
  have c2 : cov (if e < a.f + a.m then [(⟨(if e ≤ a.f then a.f else e), (if e ≤ a.f then a.m else a.f + a.m - e), a.w, a.s⟩ : Ar)] else []) x = if a.f ≤ x ∧ x < a.f + a.m ∧ e ≤ x then some (a.w, a.s) else none := by
    by_cases h1 : e < a.f + a.m
    · rw [if_pos h1]
      simp only [cov, hasA_iff]
      congr 1
      apply propext
      split <;> omega
    · rw [if_neg h1, if_neg (by omega)]
      rfl
  rw [c1, c2]
  simp only [cov, hasA_iff]
  repeat' split
  all_goals first | omega | simp
theorem cov_flat {x : Int} {C : Prop} [Decidable C] {f : Ar → List Ar} : ∀ {l : List Ar}, (∀ a ∈ l, cov (f a) x = if C then none else cov [a] x) → cov (l.flatMap f) x = if C then none else cov l x
  | [], _ => by simp [cov]
  | a :: l, h => by
    rw [List.flatMap_cons, cov_app, h a (by simp), cov_flat fun c hc => h c (by simp [hc])]
    by_cases hC : C
    · simp [if_pos hC]
    · rw [if_neg hC, if_neg hC, if_neg hC, ← cov_app]
      rfl
theorem cov_cut {l : List Ar} {p m b : Int} (h : Asc b l) (hm : 0 ≤ m) (x : Int) : cov (cutL l p m) x = if p ≤ x ∧ x < p + m then none else cov l x := by
  rw [cutL_flat h]
  exact cov_flat fun a ha => cov_cutE (h.mem a ha).1 (by omega)

theorem okA_cutE {a c : Ar} {p e : Int} (ha : okA a = true) (hc : c ∈ cutE a p e) : okA c = true := by
  have h := okA_parts ha
  unfold cutE at hc
  rcases List.mem_append.1 hc with hc | hc
  · split at hc
    · rw [List.mem_singleton] at hc
      subst hc
      unfold okA
      rw [Bool.and_eq_true]
      constructor
      · exact inB_of (by constructor <;> simp only <;> omega)
      · exact inB_of (by simp only; split <;> omega)
    · cases hc
  · split at hc
    · rw [List.mem_singleton] at hc
      subst hc
      unfold okA
      rw [Bool.and_eq_true]
      constructor
      · exact inB_of (by simp only; split <;> omega)
      · exact inB_of (by simp only; split <;> omega)
    · cases hc

/-- the part of an area from u on and below v -/
def piece (a : Ar) (u v : Int) : List Ar := if max a.f u < min (a.f + a.m) v then [⟨max a.f u, min (a.f + a.m) v - max a.f u, a.w, a.s⟩] else []
theorem piece_piece (a : Ar) (u v u' v' : Int) : (piece a u v).flatMap (fun c => piece c u' v') = piece a (max u u') (min v v') := by
  by_cases h : max a.f u < min (a.f + a.m) v
  · have e : piece a u v = [⟨max a.f u, min (a.f + a.m) v - max a.f u, a.w, a.s⟩] := if_pos h
    rw [e]
    simp only [List.flatMap_cons, List.flatMap_nil, List.append_nil]
    unfold piece
    have e1 : max (max a.f u) u' = max a.f (max u u') := by omega
    have e2 : min (max a.f u + (min (a.f + a.m) v - max a.f u)) v' = min (a.f + a.m) (min v v') := by omega
    simp only [e1, e2]
  · have e : piece a u v = [] := if_neg h
    have e' : piece a (max u u') (min v v') = [] := if_neg (by omega)
    rw [e, e']
    rfl
theorem piece_none (a : Ar) {u v : Int} (h : v ≤ u) : piece a u v = [] := if_neg (by omega)
theorem cutE_piece {a : Ar} (p e : Int) (ha : okA a = true) : cutE a p e = piece a 0 p ++ piece a e 16 := by
  have h := okA_parts ha
  unfold cutE piece
  congr 1
  · by_cases h1 : a.f < p
    · have h2 : max a.f 0 < min (a.f + a.m) p := by omega
      rw [if_pos h1, if_pos h2]
      simp only [List.cons.injEq, Ar.mk.injEq, and_true]
      exact ⟨by omega, by split <;> omega⟩
    · have h2 : ¬ max a.f 0 < min (a.f + a.m) p := by omega
      rw [if_neg h1, if_neg h2]
  · by_cases h1 : e < a.f + a.m
    · have h2 : max a.f e < min (a.f + a.m) 16 := by omega
      rw [if_pos h1, if_pos h2]
      simp only [List.cons.injEq, Ar.mk.injEq, and_true]
      exact ⟨by split <;> omega, by split <;> omega⟩
    · have h2 : ¬ max a.f e < min (a.f + a.m) 16 := by omega
      rw [if_neg h1, if_neg h2]
theorem okA_piece {a c : Ar} {u v : Int} (ha : okA a = true) (hc : c ∈ piece a u v) : okA c = true := by
  have h := okA_parts ha
  unfold piece at hc
  split at hc
  · rw [List.mem_singleton] at hc
    subst hc
    unfold okA
    rw [Bool.and_eq_true]
    exact ⟨inB_of (by simp only; omega), inB_of (by simp only; omega)⟩
  · cases hc
theorem flatMap_same {f g : Ar → List Ar} : ∀ {l : List Ar}, (∀ c ∈ l, f c = g c) → l.flatMap f = l.flatMap g
  | [], _ => rfl
  | a :: l, h => by
    rw [List.flatMap_cons, List.flatMap_cons, h a (by simp), flatMap_same fun c hc => h c (by simp [hc])]
theorem cut_piece {a : Ar} (u v p e : Int) (ha : okA a = true) : (piece a u v).flatMap (fun c => cutE c p e) = piece a (max u 0) (min v p) ++ piece a (max u e) (min v 16) := by
  rw [flatMap_same (g := fun c => piece c 0 p ++ piece c e 16) fun c hc => cutE_piece p e (okA_piece ha hc)]
  rw [← piece_piece, ← piece_piece]
  unfold piece
  split <;> simp
/-- two cuts of one area in either order -/
theorem cutE_comm {a : Ar} {p e p' e' : Int} (ha : okA a = true) (hpe : p < e) (hpe' : p' < e') :
    (cutE a p e).flatMap (fun c => cutE c p' e') = (cutE a p' e').flatMap (fun c => cutE c p e) := by
  have h := okA_parts ha
  rw [cutE_piece p e ha, cutE_piece p' e' ha, List.flatMap_append, List.flatMap_append, cut_piece _ _ _ _ ha, cut_piece _ _ _ _ ha, cut_piece _ _ _ _ ha, cut_piece _ _ _ _ ha]
  have e1 : min p p' = min p' p := by omega
  have e2 : max e e' = max e' e := by omega
  have e3 : ∀ u v : Int, piece a (max 0 u) (min v 16) = piece a u v := fun u v => by
    have g1 : max a.f (max 0 u) = max a.f u := by omega
    have g2 : min (a.f + a.m) (min v 16) = min (a.f + a.m) v := by omega
    unfold piece
    simp only [g1, g2]
  have e4 : ∀ u v : Int, piece a (max u 0) (min 16 v) = piece a u v := fun u v => by
    have g1 : max a.f (max u 0) = max a.f u := by omega
    have g2 : min (a.f + a.m) (min 16 v) = min (a.f + a.m) v := by omega
    unfold piece
    simp only [g1, g2]
  rw [e3, e3, e4, e4, e1, e2]
  by_cases h1 : e < p'
  · rw [piece_none a (u := e') (v := p) (by omega)]
    simp
  · rw [piece_none a (u := e) (v := p') (by omega)]
    simp
theorem flatMap_comm {f g : Ar → List Ar} : ∀ {l : List Ar}, (∀ c ∈ l, (f c).flatMap g = (g c).flatMap f) → (l.flatMap f).flatMap g = (l.flatMap g).flatMap f
  | [], _ => rfl
  | a :: l, h => by
    rw [List.flatMap_cons, List.flatMap_cons, List.flatMap_append, List.flatMap_append, h a (by simp), flatMap_comm fun c hc => h c (by simp [hc])]
/-- two cuts in either order -/
theorem cut_comm {l : List Ar} {p m p' m' b b1 b2 : Int} (h : Asc b l) (h1 : Asc b1 (cutL l p m)) (h2 : Asc b2 (cutL l p' m')) (hm : 0 < m) (hm' : 0 < m') :
    cutL (cutL l p m) p' m' = cutL (cutL l p' m') p m := by
  rw [cutL_flat h1, cutL_flat h2, cutL_flat h, cutL_flat h]
  exact flatMap_comm fun c hc => cutE_comm (h.mem c hc).1 (by omega) (by omega)

/-- an area at its place -/
def ins (a : Ar) : List Ar → List Ar
  | [] => [a]
  | b :: l => if a.f ≤ b.f then a :: b :: l else b :: ins a l
theorem doneTo_cons (a b : Ar) (l : List Ar) : ∀ k, doneTo (b :: l) a (k + 1) = (decide (a.f ≤ b.f) || doneTo l a k)
  | 0 => by simp [doneTo]
  | k + 1 => by
    rw [doneTo, doneTo_cons a b l k, doneTo]
    simp [Bool.or_assoc]
theorem addTo_yes (a b : Ar) (l : List Ar) (h : a.f ≤ b.f) : ∀ k, k ≤ l.length → addTo (b :: l) a (k + 1) = a :: b :: l.take k
  | 0, _ => by simp [addTo, doneTo, h]
  | k + 1, hk => by
    have e : l[k]? = some (l.getD k .z) := by simp [List.getD, List.getElem?_eq_getElem (show k < l.length by omega)]
    rw [addTo, addTo_yes a b l h k (by omega), doneTo_cons, decide_eq_true h, List.take_add_one, e]
    simp
theorem addTo_no (a b : Ar) (l : List Ar) (h : ¬ a.f ≤ b.f) : ∀ k, addTo (b :: l) a (k + 1) = b :: addTo l a k
  | 0 => by simp [addTo, h]
  | k + 1 => by
    rw [addTo, addTo_no a b l h k, doneTo_cons, decide_eq_false h, addTo]
    simp
theorem addL_ins (a : Ar) : ∀ l : List Ar, addL l a = ins a l
  | [] => by simp [addL, addTo, doneTo, ins]
  | b :: l => by
    have ih := addL_ins a l
    unfold addL at ih ⊢
    simp only [List.length_cons, ins, doneTo_cons]
    by_cases h : a.f ≤ b.f
    · rw [if_pos h, addTo_yes a b l h _ (Nat.le_refl _)]
      simp [h]
    · rw [if_neg h, addTo_no a b l h, ← ih]
      simp [h]
theorem sub_ins (a : Ar) : ∀ l : List Ar, l.Sublist (ins a l)
  | [] => List.nil_sublist _
  | b :: l => by
    unfold ins
    split
    · exact List.sublist_cons_self _ _
    · exact (sub_ins a l).cons_cons b
theorem mem_ins (a : Ar) : ∀ l : List Ar, a ∈ ins a l
  | [] => by simp [ins]
  | b :: l => by
    unfold ins
    split
    · simp
    · exact List.mem_cons_of_mem _ (mem_ins a l)
theorem ins_apart {a : Ar} : ∀ {l : List Ar} {b : Int}, Asc b (ins a l) → ∀ c ∈ l, c.f + c.m ≤ a.f ∨ a.f + a.m ≤ c.f
  | d :: l, b, h, c, hc => by
    unfold ins at h
    split at h
    · exact Or.inr (h.2.2.mem c hc).2
    · rcases List.mem_cons.1 hc with rfl | hc
      · exact Or.inl (h.2.2.mem a (mem_ins a l)).2
      · exact ins_apart h.2.2 c hc
theorem cov_ins {a : Ar} (x : Int) : ∀ {l : List Ar} {b : Int}, Asc b (ins a l) → cov (ins a l) x = if hasA a x = true then some (a.w, a.s) else cov l x
  | [], _, _ => rfl
  | d :: l, b, h => by
    have hap := ins_apart h d (by simp)
    unfold ins at h ⊢
    split
    · rfl
    · rename_i hn
      rw [if_neg hn] at h
      simp only [cov]
      rw [cov_ins x h.2.2]
      by_cases h1 : hasA a x = true
      · have h2 : ¬ hasA d x = true := by rw [hasA_iff] at h1 ⊢; omega
        rw [if_neg h2, if_pos h1, if_pos h1]
      · rw [if_neg h1, if_neg h1]
theorem sumM_ins (a : Ar) : ∀ l : List Ar, sumM (ins a l) = a.m + sumM l
  | [] => rfl
  | d :: l => by
    unfold ins
    split
    · rfl
    · simp only [sumM, sumM_ins a l]; omega
theorem flat_ins {a : Ar} {f : Ar → List Ar} (ha : f a = []) : ∀ {l : List Ar}, (∀ c ∈ l, f c = [c]) → (ins a l).flatMap f = l
  | [], _ => by simp [ins, ha]
  | d :: l, h => by
    have hd := h d (by simp)
    have ih := flat_ins ha fun c hc => h c (List.mem_cons_of_mem d hc)
    have hl : ∀ {l : List Ar}, (∀ c ∈ l, f c = [c]) → l.flatMap f = l := fun {l} h => by
      rw [flatMap_same (g := fun c => [c]) h]; simp
    unfold ins
    split
    · rw [List.flatMap_cons, ha, hl h]; rfl
    · rw [List.flatMap_cons, hd, ih]; rfl
/-- what was added is cut out again -/
theorem cut_add {l : List Ar} {a : Ar} {b : Int} (h : Asc b (addL l a)) : cutL (addL l a) a.f a.m = l := by
  rw [cutL_flat h]
  rw [addL_ins] at h ⊢
  have ha := okA_parts (h.mem a (mem_ins a l)).1
  refine flat_ins ?_ fun c hc => ?_
  · unfold cutE
    rw [if_neg (by omega), if_neg (by omega)]
    rfl
  · have hap := ins_apart h c hc
    have hcm := okA_parts (h.mem c ((sub_ins a l).mem hc)).1
    unfold cutE
    rcases hap with h1 | h1
    · have g1 : c.f < a.f := by omega
      have g2 : ¬ a.f + a.m < c.f + c.m := by omega
      rw [if_pos g1, if_neg g2, if_pos h1]
      rfl
    · have g1 : ¬ c.f < a.f := by omega
      have g2 : a.f + a.m < c.f + c.m := by omega
      rw [if_neg g1, if_pos g2, if_pos h1, if_pos h1]
      rfl
end Go.Proofs.Ytphanhlaojpbiaa

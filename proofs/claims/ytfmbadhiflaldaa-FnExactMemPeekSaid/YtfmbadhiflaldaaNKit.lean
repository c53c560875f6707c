/-
  Slices of structs with slices in them: how they read, what they own, how a copy grows.
-/
import Derived.Test.YtfmbadhiflaldaaTKit
namespace Go.Proofs.Ytfmbadhiflaldaa
open Go.RowKit

def elS : El ByteArray := ⟨1, .empty, fun a => [.string a], fun _ => rfl⟩

/-- the cells cs stand at b from o on -/
def At (w : World) (b o : Nat) (cs : List Value) : Prop := ∀ r, r < cs.length → w.cell? ⟨b, o + r, none⟩ = cs[r]?
theorem At.frame {w w' : World} {b o : Nat} {cs : List Value} (h : At w b o cs) (hb : w'.heap[b]? = w.heap[b]?) : At w' b o cs := fun r hr => (cell_of_block hb _).trans (h r hr)
theorem lt_of_block {w w' : World} {b : Nat} (hb : w'.heap[b]? = w.heap[b]?) (h : b < w.heap.size) : b < w'.heap.size := by
  rcases Nat.lt_or_ge b w'.heap.size with hlt | hge
  · exact hlt
  · rw [Array.getElem?_eq_none hge, Array.getElem?_eq_getElem h] at hb
    cases hb

section
variable {α : Type} (T : Ty α) (K : Nat)
/-- elements at an address, all below block hi -/
def RowN (w : World) (hi : Nat) (A : Option Addr) (n : Nat) (l : List α) : Prop :=
  0 < n → ∃ b o, A = some ⟨b, o, none⟩ ∧ b < hi ∧ b < w.heap.size ∧ ∀ k, k < n → ∃ cs, cs.length = K ∧ At w b (o + k * K) cs ∧ T.R w hi cs (l.getD k T.z)
/-- elements of one's own: block b, and the blocks that each one owns -/
def RowO (w : World) (fp : List Nat) (A : Option Addr) (n : Nat) (l : List α) : Prop :=
  0 < n → ∃ b o, ∃ fs : Nat → List Nat, A = some ⟨b, o, none⟩ ∧ b ∈ fp ∧ b < w.heap.size ∧ (∀ i, w.frozen? ⟨b, i, none⟩ = false) ∧
    (∀ k, k < n → ∀ x ∈ fs k, x ∈ fp ∧ x ≠ b ∧ x < w.heap.size) ∧ (∀ j k, j < n → k < n → j ≠ k → ∀ x ∈ fs j, x ∉ fs k) ∧
    ∀ k, k < n → ∃ cs, cs.length = K ∧ At w b (o + k * K) cs ∧ T.M w (fs k) cs (l.getD k T.z)
end
section
variable {α : Type} {T : Ty α} {K : Nat} {w w' : World} {hi : Nat} {A : Option Addr} {n : Nat} {l : List α} {fp : List Nat}
theorem RowN.frame (h : RowN T K w hi A n l) (hb : ∀ b, b < hi → w'.heap[b]? = w.heap[b]?) : RowN T K w' hi A n l := fun hn => by
  obtain ⟨b, o, e, h1, h2, h3⟩ := h hn
  refine ⟨b, o, e, h1, lt_of_block (hb b h1) h2, fun k hk => ?_⟩
  obtain ⟨cs, hl, hc, hr⟩ := h3 k hk
  exact ⟨cs, hl, hc.frame (hb b h1), T.rframe hr hb⟩
theorem RowN.below (h : RowN T K w hi A n l) (hb : Below hi w w') : RowN T K w' hi A n l := h.frame hb.block
theorem RowN.wb (h : RowN T K w hi A n l) (hb : Below w.heap.size w w') : RowN T K w' hi A n l := fun hn => by
  obtain ⟨b, o, e, h1, h2, h3⟩ := h hn
  refine ⟨b, o, e, h1, Nat.lt_of_lt_of_le h2 hb.size, fun k hk => ?_⟩
  obtain ⟨cs, hl, hc, hr⟩ := h3 k hk
  exact ⟨cs, hl, hc.frame (hb.block b h2), Ty.below_w hr hb⟩
theorem RowN.up {hi' : Nat} (h : RowN T K w hi A n l) (hh : hi ≤ hi') : RowN T K w hi' A n l := fun hn => by
  obtain ⟨b, o, e, h1, h2, h3⟩ := h hn
  refine ⟨b, o, e, by omega, h2, fun k hk => ?_⟩
  obtain ⟨cs, hl, hc, hr⟩ := h3 k hk
  exact ⟨cs, hl, hc, T.rup hr hh⟩
theorem RowO.frame (h : RowO T K w fp A n l) (hb : ∀ b ∈ fp, w'.heap[b]? = w.heap[b]?) : RowO T K w' fp A n l := fun hn => by
  obtain ⟨b, o, fs, e, h1, h2, hf, h4, h5, h6⟩ := h hn
  refine ⟨b, o, fs, e, h1, lt_of_block (hb b h1) h2, fun i => (frozen_of_block (hb b h1) i).trans (hf i), fun k hk x hx => ⟨(h4 k hk x hx).1, (h4 k hk x hx).2.1, lt_of_block (hb x (h4 k hk x hx).1) (h4 k hk x hx).2.2⟩, h5, fun k hk => ?_⟩
  obtain ⟨cs, hl, hc, hm⟩ := h6 k hk
  exact ⟨cs, hl, hc.frame (hb b h1), T.mframe hm fun x hx => hb x (h4 k hk x hx).1⟩
theorem RowO.row (h : RowO T K w fp A n l) (hb : ∀ b ∈ fp, b < hi) : RowN T K w hi A n l := fun hn => by
  obtain ⟨b, o, fs, e, h1, h2, _, h4, _, h6⟩ := h hn
  refine ⟨b, o, e, hb b h1, h2, fun k hk => ?_⟩
  obtain ⟨cs, hl, hc, hm⟩ := h6 k hk
  exact ⟨cs, hl, hc, T.mr hm fun x hx => hb x (h4 k hk x hx).1⟩
theorem RowO.off {b : Nat} (h : RowO T K w fp A n l) (hne : b ∉ fp) (i : Nat) (v : Value) : RowO T K (w.setCell ⟨b, i, none⟩ v) fp A n l :=
  h.frame fun x hx => heap_setCell_other _ _ _ _ fun e => hne (by have e2 : x = b := e; rw [← e2]; exact hx)
end
/-- a slice of such elements -/
def tyN {α : Type} (T : Ty α) (K : Nat) : Ty (List α) where
  z := []
  R w hi cs l := ∃ A n c, cs = [.slice A n c] ∧ l.length = n ∧ n ≤ maxLen ∧ RowN T K w hi A n l
  M w fp cs l := ∃ A n c, cs = [.slice A n c] ∧ l.length = n ∧ n ≤ 1048576 ∧ RowO T K w fp A n l
  rframe := fun ⟨A, n, c, e, h1, h2, h3⟩ hb => ⟨A, n, c, e, h1, h2, h3.frame hb⟩
  rup := fun ⟨A, n, c, e, h1, h2, h3⟩ hb => ⟨A, n, c, e, h1, h2, h3.up hb⟩
  mframe := fun ⟨A, n, c, e, h1, h2, h3⟩ hb => ⟨A, n, c, e, h1, h2, h3.frame hb⟩
  rlt := fun ⟨A, n, c, e, h1, h2, h3⟩ => ⟨A, n, c, e, h1, h2, fun hn => by
    obtain ⟨b, o, e2, h4, h5, h6⟩ := h3 hn
    refine ⟨b, o, e2, by omega, h5, fun k hk => ?_⟩
    obtain ⟨cs, hl, hc, hr⟩ := h6 k hk
    exact ⟨cs, hl, hc, T.rlt hr⟩⟩
  mr := fun ⟨A, n, c, e, h1, h2, h3⟩ hb => ⟨A, n, c, e, h1, by simp only [maxLen]; omega, h3.row hb⟩

/-- a copy under way: k of n elements stand in block g, with what they own beyond it -/
structure Grow {α : Type} (T : Ty α) (K : Nat) (wr : World) (g n : Nat) (l : List α) (k : Nat) (fs : Nat → List Nat) : Prop where
  lt : g < wr.heap.size
  frz : ∀ i, wr.frozen? ⟨g, i, none⟩ = false
  low : ∀ j, j < k → ∀ x ∈ fs j, g < x ∧ x < wr.heap.size
  dis : ∀ i j, i < k → j < k → i ≠ j → ∀ x ∈ fs i, x ∉ fs j
  elt : ∀ j, j < k → ∃ cs, cs.length = K ∧ At wr g (j * K) cs ∧ T.M wr (fs j) cs (l.getD j T.z)
  rest : ∀ q, q < n * K → ∃ v, wr.cell? ⟨g, q, none⟩ = some v
section
variable {α : Type} {T : Ty α} {K : Nat} {w wr w1 : World} {g n k : Nat} {l : List α} {fs : Nat → List Nat} {fp : List Nat} {ys : List Value}
theorem Grow.made (w : World) (n : Nat) (t : TypeId) (zc : Array Value) (fs : Nat → List Nat) :
    Grow T K (w.alloc (.cells (madeCells zc (n * K)) t)) w.heap.size n l 0 fs where
  lt := by simp
  frz := fun i => (Box.new w _ t).frz i
  low := fun j h => absurd h (Nat.not_lt_zero _)
  dis := fun i j h => absurd h (Nat.not_lt_zero _)
  elt := fun j h => absurd h (Nat.not_lt_zero _)
  rest := fun q hq => by
    rw [(Box.new w _ t).cell]
    simp [madeCells, hq]
theorem At.sets_other {w : World} {b o i : Nat} {cs vs : List Value} {b' : Nat} (h : At w b o cs) (hne : b ≠ b' ∨ o + cs.length ≤ i ∨ i + vs.length ≤ o) : At (sets w b' i vs) b o cs := fun r hr => by
  refine Eq.trans ?_ (h r hr)
  by_cases e : b = b'
  · subst e
    exact Go.Proofs.Ytfmbadhiflaldaa.sets_other b (o + r) vs w i (by omega)
  · clear hne h
    induction vs generalizing w i with
    | nil => rfl
    | cons v vs ih => exact (ih (w := w.setCell ⟨b', i, none⟩ v)).trans (World.cell?_setCell_other _ _ _ _ fun e2 => by injection e2 with e3 _; exact e e3.symm)
theorem sets_block (b x : Nat) (hne : x ≠ b) : ∀ (vs : List Value) (w : World) (i : Nat), (sets w b i vs).heap[x]? = w.heap[x]?
  | [], _, _ => rfl
  | _ :: vs, _, _ => (sets_block b x hne vs _ _).trans (heap_setCell_other _ _ _ _ hne)
theorem sets_some (b q : Nat) : ∀ (vs : List Value) (w : World) (i : Nat), (∃ v, w.cell? ⟨b, q, none⟩ = some v) → ∃ v, (sets w b i vs).cell? ⟨b, q, none⟩ = some v
  | [], _, _, h => h
  | v :: vs, w, i, ⟨u, hu⟩ => sets_some b q vs _ _ (by
    by_cases e : i = q
    · subst e
      exact ⟨v, World.cell?_setCell_same w ⟨b, i, none⟩ v hu⟩
    · exact ⟨u, by rw [World.cell?_setCell_other _ _ _ _ fun e2 => by injection e2 with _ e3; exact e e3]; exact hu⟩)
/-- one more element is copied: w1 behind the call that copies it -/
theorem Grow.step (h : Grow T K wr g n l k fs) (hk : k < n) (hb : Below wr.heap.size wr w1) (hm : T.M w1 fp ys (l.getD k T.z)) (hfp : ∀ b ∈ fp, wr.heap.size ≤ b ∧ b < w1.heap.size) (hy : ys.length = K) :
    Grow T K (sets w1 g (k * K) ys) g n l (k + 1) (fun j => if j = k then fp else fs j) where
  lt := by rw [sets_size]; exact Nat.lt_of_lt_of_le h.lt hb.size
  frz := fun i => by rw [sets_frozen]; exact (hb.frozen (p := ⟨g, i, none⟩) h.lt).trans (h.frz i)
  low := fun j hj x hx => by
    rw [sets_size]
    have hs := hb.size
    have hg := h.lt
    by_cases e : j = k
    · rw [if_pos e] at hx
      have := hfp x hx
      omega
    · rw [if_neg e] at hx
      have := h.low j (by omega) x hx
      omega
  dis := fun i j hi hj hne x hx hx2 => by
    by_cases e : i = k
    · rw [if_pos e] at hx
      rw [if_neg (by omega)] at hx2
      have h1 := hfp x hx
      have h2 := h.low j (by omega) x hx2
      omega
    · rw [if_neg e] at hx
      by_cases e2 : j = k
      · rw [if_pos e2] at hx2
        have h1 := hfp x hx2
        have h2 := h.low i (by omega) x hx
        omega
      · rw [if_neg e2] at hx2
        exact h.dis i j (by omega) (by omega) hne x hx hx2
  elt := fun j hj => by
    have hmul : (k + 1) * K ≤ n * K := Nat.mul_le_mul_right K hk
    rw [Nat.add_mul, Nat.one_mul] at hmul
    by_cases e : j = k
    · subst e
      rw [if_pos rfl]
      refine ⟨ys, hy, fun r hr => ?_, T.mframe hm fun b hb2 => sets_block g b (fun e => by have := hfp b hb2; have := h.lt; omega) _ _ _⟩
      refine sets_at g ys w1 (j * K) r hr ?_
      obtain ⟨v, hv⟩ := h.rest (j * K + r) (by omega)
      exact ⟨v, (hb.cell (p := ⟨g, j * K + r, none⟩) h.lt).trans hv⟩
    · rw [if_neg e]
      obtain ⟨cs, hl, hc, hm2⟩ := h.elt j (by omega)
      refine ⟨cs, hl, (hc.frame (hb.block g h.lt)).sets_other ?_, T.mframe (T.mframe hm2 fun b hb2 => hb.block b (h.low j (by omega) b hb2).2) fun b hb2 => sets_block g b (fun e => by have := h.low j (by omega) b hb2; omega) _ _ _⟩
      have : (j + 1) * K ≤ k * K := Nat.mul_le_mul_right K (by omega)
      rw [Nat.add_mul, Nat.one_mul] at this
      omega
  rest := fun q hq => by
    obtain ⟨v, hv⟩ := h.rest q hq
    exact sets_some g q _ _ _ ⟨v, (hb.cell (p := ⟨g, q, none⟩) h.lt).trans hv⟩
/-- what has been copied is one's own -/
theorem Grow.done (h : Grow T K wr g n l n fs) (hg : w.heap.size ≤ g) :
    ∃ fp, RowO T K wr fp (some ⟨g, 0, none⟩) n l ∧ ∀ b ∈ fp, w.heap.size ≤ b ∧ b < wr.heap.size := by
  refine ⟨g :: (List.range n).flatMap fs, fun hn => ⟨g, 0, fs, rfl, List.mem_cons_self, h.lt, h.frz, fun k hk x hx => ?_, fun i j hi hj => h.dis i j hi hj, fun k hk => ?_⟩, fun b hb => ?_⟩
  · have := h.low k hk x hx
    exact ⟨List.mem_cons_of_mem _ (List.mem_flatMap.2 ⟨k, List.mem_range.2 hk, hx⟩), by omega, this.2⟩
  · obtain ⟨cs, hl, hc, hm⟩ := h.elt k hk
    exact ⟨cs, hl, by rw [Nat.zero_add]; exact hc, hm⟩
  · rcases List.mem_cons.1 hb with rfl | hb
    · exact ⟨hg, h.lt⟩
    · obtain ⟨k, hk, hx⟩ := List.mem_flatMap.1 hb
      have := h.low k (List.mem_range.1 hk) b hx
      omega
end

/-- the sum over the first k elements -/
def upN {α : Type} (f : α → Nat) (l : List α) (k : Nat) : Nat := ((l.take k).map f).sum
def upZ {α : Type} (f : α → Int) (l : List α) (k : Nat) : Int := ((l.take k).map f).sum
section
variable {α : Type} (z : α) {l : List α} {k n : Nat}
omit z in
theorem upN_zero {f : α → Nat} : upN f l 0 = 0 := by simp [upN]
omit z in
theorem upZ_zero {f : α → Int} : upZ f l 0 = 0 := by simp [upZ]
theorem take_succ_getD (h : k < l.length) : l.take (k + 1) = l.take k ++ [l.getD k z] := by
  rw [List.take_succ_eq_append_getElem h]
  simp [List.getD_eq_getElem?_getD, List.getElem?_eq_getElem h]
theorem upN_step {f : α → Nat} (h : k < l.length) : upN f l (k + 1) = upN f l k + f (l.getD k z) := by
  unfold upN
  rw [take_succ_getD z h]
  simp
theorem upZ_step {f : α → Int} (h : k < l.length) : upZ f l (k + 1) = upZ f l k + f (l.getD k z) := by
  unfold upZ
  rw [take_succ_getD z h]
  simp
omit z in
theorem upN_end {f : α → Nat} (h : l.length = n) : upN f l n = (l.map f).sum := by unfold upN; rw [List.take_of_length_le (by omega)]
omit z in
theorem upZ_end {f : α → Int} (h : l.length = n) : upZ f l n = (l.map f).sum := by unfold upZ; rw [List.take_of_length_le (by omega)]
theorem getD_mem (h : k < l.length) : l.getD k z ∈ l := by
  rw [List.getD_eq_getElem?_getD, List.getElem?_eq_getElem h]
  exact List.getElem_mem h
theorem le_sum {f : α → Nat} : ∀ {l : List α} {a : α}, a ∈ l → f a ≤ (l.map f).sum
  | [], _, h => absurd h List.not_mem_nil
  | x :: l, a, h => by
    rw [List.map_cons, List.sum_cons]
    rcases List.mem_cons.1 h with rfl | h
    · omega
    · have := le_sum (f := f) h
      omega
theorem upN_le {f : α → Nat} : upN f l k + ((l.drop k).map f).sum = (l.map f).sum := by
  unfold upN
  rw [← List.sum_append, ← List.map_append, List.take_append_drop]
end
/-- elements marked one behind another one: mk marks one, c is how many marks it has -/
def mkL {α : Type} (mk : Int → α → α) (c : α → Int) : Int → List α → List α
  | _, [] => []
  | k, d :: l => mk k d :: mkL mk c (k + c d) l
def mkLto {α : Type} (mk : Int → α → α) (c : α → Int) (k : Int) (l : List α) (q : Nat) : List α := mkL mk c k (l.take q) ++ l.drop q
section
variable {α : Type} (z : α) {mk : Int → α → α} {c : α → Int}
theorem mkL_len : ∀ (k : Int) (l : List α), (mkL mk c k l).length = l.length
  | _, [] => rfl
  | k, d :: l => by rw [mkL, List.length_cons, List.length_cons, mkL_len]
theorem mkL_append : ∀ (k : Int) (l l2 : List α), mkL mk c k (l ++ l2) = mkL mk c k l ++ mkL mk c (k + (l.map c).sum) l2
  | k, [], l2 => by simp [mkL]
  | k, d :: l, l2 => by
    rw [List.cons_append, mkL, mkL, mkL_append, List.map_cons, List.sum_cons, List.cons_append, Int.add_assoc]
theorem mkL_at : ∀ (k : Int) (l : List α) (j : Nat), j < l.length → (mkL mk c k l).getD j z = mk (k + upZ c l j) (l.getD j z)
  | _, [], _, h => absurd h (Nat.not_lt_zero _)
  | k, d :: l, 0, _ => by simp [mkL, upZ]
  | k, d :: l, j + 1, h => by
    have := mkL_at (k + c d) l j (by simpa using h)
    simp only [mkL, List.getD_cons_succ, this]
    simp [upZ, Int.add_assoc]
theorem mkL_sum {f : α → Int} (hf : ∀ k a, f (mk k a) = f a) : ∀ (k : Int) (l : List α), ((mkL mk c k l).map f).sum = (l.map f).sum
  | _, [] => rfl
  | k, d :: l => by rw [mkL, List.map_cons, List.sum_cons, hf, mkL_sum hf, List.map_cons, List.sum_cons]
theorem mkL_sumN {f : α → Nat} (hf : ∀ k a, f (mk k a) = f a) : ∀ (k : Int) (l : List α), ((mkL mk c k l).map f).sum = (l.map f).sum
  | _, [] => rfl
  | k, d :: l => by rw [mkL, List.map_cons, List.sum_cons, hf, mkL_sumN hf, List.map_cons, List.sum_cons]
variable {k : Int} {l : List α} {n q : Nat}
theorem mkLto_zero : mkLto mk c k l 0 = l := by simp [mkLto, mkL]
theorem mkLto_end (h : l.length = n) : mkLto mk c k l n = mkL mk c k l := by
  unfold mkLto
  rw [List.drop_eq_nil_of_le (by omega), List.append_nil, List.take_of_length_le (by omega)]
theorem mkLto_len (h : l.length = n) : (mkLto mk c k l q).length = n := by
  unfold mkLto
  rw [List.length_append, mkL_len, List.length_take, List.length_drop]
  omega
theorem mkLto_at (h : q < l.length) : (mkLto mk c k l q).getD q z = l.getD q z := by
  unfold mkLto
  have h1 : (mkL mk c k (l.take q)).length = q := by rw [mkL_len, List.length_take]; omega
  rw [List.getD_eq_getElem?_getD, List.getD_eq_getElem?_getD, List.getElem?_append_right (by omega), h1, Nat.sub_self, List.getElem?_drop]
  simp
theorem mkLto_step (h : q < l.length) : (mkLto mk c k l q).set q (mk (k + upZ c l q) (l.getD q z)) = mkLto mk c k l (q + 1) := by
  unfold mkLto
  have h1 : (mkL mk c k (l.take q)).length = q := by rw [mkL_len, List.length_take]; omega
  have h3 : l.drop q = l.getD q z :: l.drop (q + 1) := by
    rw [List.drop_eq_getElem_cons h]
    simp [List.getD_eq_getElem?_getD, List.getElem?_eq_getElem h]
  rw [List.set_append_right _ _ (by omega), h1, Nat.sub_self, h3, List.set_cons_zero, take_succ_getD z h, mkL_append, List.append_assoc]
  rfl
theorem sum_bounds {f : α → Int} {g : α → Nat} (hf : ∀ a, 0 ≤ f a ∧ f a ≤ 8 + 8 * (g a : Int)) : ∀ l : List α, 0 ≤ (l.map f).sum ∧ (l.map f).sum ≤ 8 * ((l.length + (l.map g).sum : Nat) : Int)
  | [] => by simp
  | a :: l => by
    have h1 := hf a
    have h2 := sum_bounds hf l
    rw [List.map_cons, List.sum_cons, List.map_cons, List.sum_cons, List.length_cons]
    omega
end

/-- a row of one's own, laid open -/
structure OwnN {α : Type} (T : Ty α) (K : Nat) (w : World) (fp : List Nat) (b o n : Nat) (l : List α) (fs : Nat → List Nat) : Prop where
  mem : b ∈ fp
  lt : b < w.heap.size
  frz : ∀ i, w.frozen? ⟨b, i, none⟩ = false
  sub : ∀ k, k < n → ∀ x ∈ fs k, x ∈ fp ∧ x ≠ b ∧ x < w.heap.size
  dis : ∀ j k, j < n → k < n → j ≠ k → ∀ x ∈ fs j, x ∉ fs k
  elt : ∀ k, k < n → ∃ cs, cs.length = K ∧ At w b (o + k * K) cs ∧ T.M w (fs k) cs (l.getD k T.z)
/-- in block b nothing but the cells from p on, K of them, has turned -/
structure Blk (b p K : Nat) (w w' : World) : Prop where
  cell : ∀ i, i < p ∨ p + K ≤ i → w'.cell? ⟨b, i, none⟩ = w.cell? ⟨b, i, none⟩
  frz : ∀ i, w'.frozen? ⟨b, i, none⟩ = w.frozen? ⟨b, i, none⟩
section
variable {α : Type} {T : Ty α} {K : Nat} {w w' w2 : World} {A : Option Addr} {n : Nat} {l : List α} {fp : List Nat} {b o p : Nat} {fs : Nat → List Nat}
theorem RowO.own (h : RowO T K w fp A n l) (hn : 0 < n) : ∃ b o fs, A = some ⟨b, o, none⟩ ∧ OwnN T K w fp b o n l fs := by
  obtain ⟨b, o, fs, e, h1, h2, h3, h4, h5, h6⟩ := h hn
  exact ⟨b, o, fs, e, h1, h2, h3, h4, h5, h6⟩
theorem OwnN.row (h : OwnN T K w fp b o n l fs) : RowO T K w fp (some ⟨b, o, none⟩) n l := fun _ => ⟨b, o, fs, rfl, h.mem, h.lt, h.frz, h.sub, h.dis, h.elt⟩
theorem Blk.refl (b p K : Nat) (w : World) : Blk b p K w w := ⟨fun _ _ => rfl, fun _ => rfl⟩
theorem Blk.set (h : Blk b p K w w') (i : Nat) (hi : p ≤ i ∧ i < p + K) (v : Value) : Blk b p K w (w'.setCell ⟨b, i, none⟩ v) :=
  ⟨fun j hj => (World.cell?_setCell_other _ _ _ _ fun e => by injection e with _ e2; omega).trans (h.cell j hj), fun j => (by simp : (w'.setCell ⟨b, i, none⟩ v).frozen? ⟨b, j, none⟩ = w'.frozen? ⟨b, j, none⟩).trans (h.frz j)⟩
theorem Blk.same (h : Blk b p K w w') (hb : w2.heap[b]? = w'.heap[b]?) : Blk b p K w w2 := ⟨fun j hj => (cell_of_block hb j).trans (h.cell j hj), fun j => (frozen_of_block hb j).trans (h.frz j)⟩
theorem OwnN.step {q : Nat} {cs : List Value} {a : α} (h : OwnN T K w fp b o n l fs) (hl : l.length = n) (hq : q < n) (hF : Foot w w' (b :: fs q)) (hB : Blk b (o + q * K) K w w') (hcs : cs.length = K) (hat : At w' b (o + q * K) cs) (hm : T.M w' (fs q) cs a) :
    OwnN T K w' fp b o n (l.set q a) fs where
  mem := h.mem
  lt := Nat.lt_of_lt_of_le h.lt hF.size
  frz := fun i => (hB.frz i).trans (h.frz i)
  sub := fun k hk x hx => ⟨(h.sub k hk x hx).1, (h.sub k hk x hx).2.1, Nat.lt_of_lt_of_le (h.sub k hk x hx).2.2 hF.size⟩
  dis := h.dis
  elt := fun k hk => by
    rw [getD_set l q k a T.z (by omega)]
    by_cases e : k = q
    · subst e
      rw [if_pos rfl]
      exact ⟨cs, hcs, hat, hm⟩
    · rw [if_neg e]
      obtain ⟨cs', hl', hc', hm'⟩ := h.elt k hk
      refine ⟨cs', hl', fun r hr => (hB.cell _ ?_).trans (hc' r hr), T.mframe hm' fun x hx => hF.block x (h.sub k hk x hx).2.2 fun hx2 => ?_⟩
      · rcases Nat.lt_or_gt_of_ne e with h1 | h1
        · left
          have := Nat.mul_le_mul_right K (show k + 1 ≤ q by omega)
          rw [Nat.add_mul] at this
          omega
        · right
          have := Nat.mul_le_mul_right K (show q + 1 ≤ k by omega)
          rw [Nat.add_mul] at this
          omega
      · rcases List.mem_cons.1 hx2 with h1 | h1
        · exact (h.sub k hk x hx).2.1 h1
        · exact h.dis k q hk hq e x hx h1
end
end Go.Proofs.Ytfmbadhiflaldaa

/-
  A slice appended to a new empty one; slices of structs with slices in them that grow by append.
-/
import Derived.Test.YtnodmblieocamaaNKit
import Derived.Test.YtnodmblieocamaaTeArea
import Derived.Test.YtnodmblieocamaaTeInt
import Derived.Test.YtnodmblieocamaaTeString
import Derived.Maps.AppendAt
import Derived.Laws.OwnMore
namespace Go.Proofs.Ytnodmblieocamaa
open Go.RowKit

theorem append_none (w : World) (t ty e : TypeId) (i : TypeInfo) (ht : Try.prog.underlying t = some (.slice e)) (hi : Try.prog.info? e = some i) (X : Addr) (c : Nat) :
    (Builtin.append_ #[t, t] ty #[.slice (some X) 0 0, .slice none 0 c]).run Try.prog w = .ok (.slice (some X) 0 0) w := by
  simp [Builtin.append_, Builtin.lenOf, Builtin.firstCells, run_underlying ht, sizeOf, typeInfo, hi, storeCells]
section
variable {α : Type} {E : El α}
theorem flatE_len (E : El α) : ∀ l : List α, (l.flatMap E.C).length = l.length * E.K
  | [] => by simp
  | a :: l => by rw [List.flatMap_cons, List.length_append, E.len, flatE_len E l, List.length_cons, Nat.add_mul, Nat.one_mul, Nat.add_comm]
theorem flatE_at (E : El α) : ∀ (l : List α) (k r : Nat), k < l.length → r < E.K → (l.flatMap E.C)[k * E.K + r]? = (E.C (l.getD k E.z))[r]?
  | [], _, _, h, _ => absurd h (Nat.not_lt_zero _)
  | a :: l, 0, r, _, hr => by
    rw [List.flatMap_cons, Nat.zero_mul, Nat.zero_add, List.getElem?_append_left (by rw [E.len]; exact hr)]
    rfl
  | a :: l, k + 1, r, h, hr => by
    rw [List.flatMap_cons, List.getElem?_append_right (by rw [E.len, Nat.add_mul]; omega), E.len, show (k + 1) * E.K + r - E.K = k * E.K + r by rw [Nat.add_mul]; omega, flatE_at E l k r (by simpa using h) hr]
    rfl
theorem addE_plain (b o j : Nat) : (⟨b, o, none⟩ : Addr).add j = ⟨b, o + j, none⟩ := by unfold Addr.add; split <;> simp_all
theorem RowF.newsE {w : World} {hi b o n : Nat} {l : List α} (h : RowF E w hi (some ⟨b, o, none⟩) n l) (hl : l.length = n) (hK : 0 < E.K) : ∀ j u, (l.flatMap E.C)[j]? = some u → w.cell? ((⟨b, o, none⟩ : Addr).add j) = some u := fun j u hj => by
  have hlt : j < n * E.K := by
    have h1 := (List.getElem?_eq_some_iff.1 hj).1
    rw [flatE_len, hl] at h1
    exact h1
  have hn : 0 < n := by
    rcases Nat.eq_zero_or_pos n with rfl | h
    · rw [Nat.zero_mul] at hlt; omega
    · exact h
  obtain ⟨b', o', e, _, _, hc⟩ := h hn
  injection e with e
  injection e with e1 e2
  subst e1 e2
  have hk : j / E.K < n := Nat.div_lt_of_lt_mul (by rw [Nat.mul_comm]; exact hlt)
  have hr : j % E.K < E.K := Nat.mod_lt _ hK
  have hdm : j / E.K * E.K + j % E.K = j := by rw [Nat.mul_comm]; exact Nat.div_add_mod j E.K
  rw [addE_plain, ← hdm, ← Nat.add_assoc, hc _ hk _ hr, ← flatE_at E l _ _ (by rw [hl]; exact hk) hr, hdm]
  exact hj
/-- what stands in a row of one's own, as elements of one's own -/
theorem rowM_own {w : World} {base n : Nat} {t : TypeId} {v : Value} {l : List α} (h : w.ownsRow base t E.K v n (l.flatMap E.C)) (hl : l.length = n) : ∃ A c fp, v = .slice A n c ∧ RowM E w fp A n l ∧ ∀ b ∈ fp, v.ownBlock = some b ∧ base ≤ b ∧ b < w.heap.size := by
  have h0 := h
  rcases h.2 with ⟨rfl, rfl⟩ | ⟨g, cap, cur, rfl, _⟩
  · exact ⟨none, 0, [], rfl, fun hn => absurd hn (Nat.lt_irrefl 0), fun b hb => absurd hb List.not_mem_nil⟩
  · have hlt := h0.lt g rfl
    refine ⟨some ⟨g, 0, none⟩, cap, [g], rfl, fun _ => ⟨g, 0, rfl, rfl, hlt.2, fun i => World.ownsRow.frozenAt h0 i, fun k hk r hr => ?_⟩, fun b hb => by rw [List.mem_singleton] at hb; subst hb; exact ⟨rfl, hlt.1, hlt.2⟩⟩
    have hin : k * E.K + r < n * E.K := by
      have := Nat.mul_le_mul_right E.K (show k + 1 ≤ n by omega)
      rw [Nat.add_mul] at this
      omega
    rw [Nat.zero_add]
    exact (World.ownsRow.cellAt h0 (k * E.K + r) hin).trans (flatE_at E l k r (by rw [hl]; exact hk) hr)
set_option maxRecDepth 100000 in
/-- append of a slice to a new empty one, at the operation -/
theorem wpList_copy {ops : Array Oper} {rest : List Oper} {o : Oper} {a : Act} {w : World} {Q : Exit → Act → World → Prop} (hgd : o.guard = none) (s x : Operand) (t : TypeId)
    (ho : o.op = .call { callee := .builtin .append, args := #[s, x], argTypes := #[t, t] })
    (e : TypeId) (i : TypeInfo) (z : Value) (bytes : Nat) (ht : Try.prog.underlying t = some (.slice e)) (hi : Try.prog.info? e = some i) (hz : i.zero = some z)
    (hsize : i.size = E.K) (hby : i.bytes = bytes) (hzs : z.cells.size = E.K) (hK : 0 < E.K) (hC : ∀ a, ∀ u ∈ E.C a, u.oneCell' = true)
    {X n c hi2 : Nat} {A : Option Addr} {l : List α} (hs : a.eval s = .slice (some ⟨X, 0, none⟩) 0 0) (hX : Box w X #[] e) (hx : a.eval x = .slice A n c) (hr : RowF E w hi2 A n l) (hl : l.length = n)
    (hn : n ≤ maxLen) (hn2 : n * bytes ≤ 140737488355328)
    (h : ∀ A' c' fp w', RowM E w' fp A' n l → (∀ b ∈ fp, X ≤ b ∧ b < w'.heap.size) → (∀ b ∈ fp, b = X ∨ b = w.heap.size) → w.grownBy w' (some X) → wpList Try.prog ops Q rest (a.put o.dst (.slice A' n c')) w') :
    wpList Try.prog ops Q (o :: rest) a w := by
  cases A with
  | none =>
    have hn0 : n = 0 := by
      rcases Nat.eq_zero_or_pos n with h0 | h0
      · exact h0
      · obtain ⟨_, _, e, _⟩ := hr h0
        cases e
    subst hn0
    refine wpList_plain hgd fun K hK2 => ?_
    unfold Oper.wp execOp
    simp only [ho, resolve, invoke, builtin, Sem.run_bind, Sem.run_pure, Result.andThen_ok, List.map_toArray, List.map_cons, List.map_nil, hs, hx, append_none w t o.type e i ht hi ⟨X, 0, none⟩ c]
    exact hK2 _ _ (h _ _ [] w (fun hn => absurd hn (Nat.lt_irrefl 0)) (fun b hb => absurd hb List.not_mem_nil) (fun b hb => absurd hb List.not_mem_nil) ⟨rfl, rfl, rfl, Nat.le_refl _, fun _ _ _ => rfl⟩)
  | some ad =>
    have hown : w.ownsRow X e E.K (.slice (some ⟨X, 0, none⟩) 0 0) 0 [] := ⟨by simp, .inr ⟨X, 0, #[], rfl, Nat.le_refl _, hX, Nat.le_refl _, Nat.zero_le _, by simp, by simp⟩⟩
    have hnews : ∀ j u, (l.flatMap E.C)[j]? = some u → w.cell? (ad.add j) = some u := by
      intro j u hj
      rcases Nat.eq_zero_or_pos n with h0 | h0
      · rw [List.eq_nil_of_length_eq_zero (hl.trans h0)] at hj
        cases hj
      · obtain ⟨b, o2, e2, _⟩ := hr h0
        injection e2 with e2
        subst e2
        exact hr.newsE hl hK j u hj
    refine wpList_append_own_at w hgd s x t ho X e i z E.K bytes ht hi hz hsize hby hzs hK _ 0 [] hs hown ad n c (l.flatMap E.C) hx (by rw [flatE_len, hl]) hnews (fun u hu => ?_) (by unfold maxLen at hn ⊢; omega) (by rw [Nat.zero_add]; exact hn2) (Nat.le_of_lt hX.lt) ?_
    · obtain ⟨q, _, hq⟩ := List.mem_flatMap.1 hu
      exact hC q u hq
    · intro v' w' hown' hg _ hat
      rw [Nat.zero_add, List.nil_append] at hown'
      obtain ⟨A', c', fp, rfl, hm, hf⟩ := rowM_own hown' hl
      refine h A' c' fp w' hm (fun b hb => (hf b hb).2) (fun b hb => ?_) hg
      have h1 := (hf b hb).1
      rcases hat with h2 | h2
      · rw [h2] at h1
        exact Or.inl (by simpa [Value.ownBlock] using h1.symm)
      · rw [h2] at h1
        exact Or.inr (by injection h1 with h1; exact h1.symm)
end
theorem wpList_copyA {ops : Array Oper} {rest : List Oper} {o : Oper} {a : Act} {w : World} {Q : Exit → Act → World → Prop} (hgd : o.guard = none) (s x : Operand)
    (ho : o.op = .call { callee := .builtin .append, args := #[s, x], argTypes := #[40, 40] })
    {X n c hi2 : Nat} {A : Option Addr} {l : List EArea} (hs : a.eval s = .slice (some ⟨X, 0, none⟩) 0 0) (hX : Box w X #[] 47) (hx : a.eval x = .slice A n c) (hr : RowF elArea w hi2 A n l) (hl : l.length = n)
    (hn : n ≤ 1048576)
    (h : ∀ A' c' fp w', RowM elArea w' fp A' n l → (∀ b ∈ fp, X ≤ b ∧ b < w'.heap.size) → (∀ b ∈ fp, b = X ∨ b = w.heap.size) → w.grownBy w' (some X) → wpList Try.prog ops Q rest (a.put o.dst (.slice A' n c')) w') :
    wpList Try.prog ops Q (o :: rest) a w := by
  obtain ⟨i, h0, h1, h2, h3⟩ := infoArea
  refine wpList_copy hgd s x _ ho _ i _ 24 Try.underlying40 h0 h1 h2 h3 rfl (by decide) (fun a u hu => ?_) hs hX hx hr hl (by simp only [maxLen]; omega) (by omega) h
  simp only [elArea, List.mem_cons, List.not_mem_nil, or_false] at hu
  rcases hu with rfl | rfl | rfl | rfl <;> rfl
theorem wpList_copyI {ops : Array Oper} {rest : List Oper} {o : Oper} {a : Act} {w : World} {Q : Exit → Act → World → Prop} (hgd : o.guard = none) (s x : Operand)
    (ho : o.op = .call { callee := .builtin .append, args := #[s, x], argTypes := #[41, 41] })
    {X n c hi2 : Nat} {A : Option Addr} {l : List Int} (hs : a.eval s = .slice (some ⟨X, 0, none⟩) 0 0) (hX : Box w X #[] 3) (hx : a.eval x = .slice A n c) (hr : RowF elI w hi2 A n l) (hl : l.length = n)
    (hn : n ≤ 1048576)
    (h : ∀ A' c' fp w', RowM elI w' fp A' n l → (∀ b ∈ fp, X ≤ b ∧ b < w'.heap.size) → (∀ b ∈ fp, b = X ∨ b = w.heap.size) → w.grownBy w' (some X) → wpList Try.prog ops Q rest (a.put o.dst (.slice A' n c')) w') :
    wpList Try.prog ops Q (o :: rest) a w := by
  obtain ⟨i, h0, h1, h2, h3⟩ := infoInt
  refine wpList_copy hgd s x _ ho _ i _ 8 Try.underlying41 h0 h1 h2 h3 rfl (by decide) (fun a u hu => ?_) hs hX hx hr hl (by simp only [maxLen]; omega) (by omega) h
  simp only [elI, List.mem_cons, List.not_mem_nil, or_false] at hu
  subst hu
  rfl
theorem wpList_copyS {ops : Array Oper} {rest : List Oper} {o : Oper} {a : Act} {w : World} {Q : Exit → Act → World → Prop} (hgd : o.guard = none) (s x : Operand)
    (ho : o.op = .call { callee := .builtin .append, args := #[s, x], argTypes := #[42, 42] })
    {X n c hi2 : Nat} {A : Option Addr} {l : List ByteArray} (hs : a.eval s = .slice (some ⟨X, 0, none⟩) 0 0) (hX : Box w X #[] 9) (hx : a.eval x = .slice A n c) (hr : RowF elS w hi2 A n l) (hl : l.length = n)
    (hn : n ≤ 1048576)
    (h : ∀ A' c' fp w', RowM elS w' fp A' n l → (∀ b ∈ fp, X ≤ b ∧ b < w'.heap.size) → (∀ b ∈ fp, b = X ∨ b = w.heap.size) → w.grownBy w' (some X) → wpList Try.prog ops Q rest (a.put o.dst (.slice A' n c')) w') :
    wpList Try.prog ops Q (o :: rest) a w := by
  obtain ⟨i, h0, h1, h2, h3⟩ := infoString
  refine wpList_copy hgd s x _ ho _ i _ 16 Try.underlying42 h0 h1 h2 h3 rfl (by decide) (fun a u hu => ?_) hs hX hx hr hl (by simp only [maxLen]; omega) (by omega) h
  simp only [elS, List.mem_cons, List.not_mem_nil, or_false] at hu
  subst hu
  rfl
/-- a slice of structs of one's own that grows by append: k elements, with what each owns beside the row -/
structure GrowA {α : Type} (T : Ty α) (K : Nat) (wr : World) (base lo : Nat) (t : TypeId) (v : Value) (k : Nat) (l : List α) (xs : List Value) (fs : Nat → List Nat) : Prop where
  own : wr.ownsRow base t K v k xs
  low : ∀ j, j < k → ∀ x ∈ fs j, lo ≤ x ∧ x < wr.heap.size ∧ v.ownBlock ≠ some x
  dis : ∀ i j, i < k → j < k → i ≠ j → ∀ x ∈ fs i, x ∉ fs j
  elt : ∀ j, j < k → ∃ cs, cs.length = K ∧ (∀ r, r < K → xs[j * K + r]? = cs[r]?) ∧ T.M wr (fs j) cs (l.getD j T.z)
section
variable {α : Type} {T : Ty α} {K : Nat} {wr w1 w3 : World} {base lo k n : Nat} {t : TypeId} {v v' : Value} {l : List α} {xs ys : List Value} {fs : Nat → List Nat} {fp : List Nat}
theorem GrowA.empty (h : wr.ownsRow base t K v 0 []) (fs : Nat → List Nat) : GrowA T K wr base lo t v 0 l [] fs :=
  ⟨h, fun _ hj => absurd hj (Nat.not_lt_zero _), fun _ _ hi => absurd hi (Nat.not_lt_zero _), fun _ hj => absurd hj (Nat.not_lt_zero _)⟩
theorem GrowA.step (h : GrowA T K wr base lo t v k l xs fs) (hb : Below wr.heap.size wr w1) (hm : T.M w1 fp ys (l.getD k T.z)) (hfp : ∀ b ∈ fp, wr.heap.size ≤ b ∧ b < w1.heap.size) (hy : ys.length = K)
    (ho : w3.ownsRow base t K v' (k + 1) (xs ++ ys)) (hg : w1.grownBy w3 v.ownBlock) (hat : v'.ownBlock = v.ownBlock ∨ v'.ownBlock = some w1.heap.size) (hbase : lo ≤ wr.heap.size) :
    GrowA T K w3 base lo t v' (k + 1) l (xs ++ ys) (fun j => if j = k then fp else fs j) where
  own := ho
  low := fun j hj x hx => by
    have hs := hb.size
    have hs3 := hg.size
    by_cases e : j = k
    · rw [if_pos e] at hx
      have h1 := hfp x hx
      refine ⟨by omega, by omega, fun e2 => ?_⟩
      rcases hat with h2 | h2
      · rw [h2] at e2
        have := (h.own.lt x e2).2
        omega
      · rw [h2] at e2
        injection e2 with e2
        omega
    · rw [if_neg e] at hx
      have h1 := h.low j (by omega) x hx
      refine ⟨h1.1, by omega, fun e2 => ?_⟩
      rcases hat with h2 | h2
      · rw [h2] at e2
        exact h1.2.2 e2
      · rw [h2] at e2
        injection e2 with e2
        omega
  dis := fun i j hi hj hne x hx hx2 => by
    by_cases e : i = k
    · rw [if_pos e] at hx
      rw [if_neg (by omega)] at hx2
      have h1 := hfp x hx
      have h2 := h.low j (by omega) x hx2
      omega
    · rw [if_neg e] at hx
      by_cases e2 : j = k
      · rw [if_pos e2] at hx2
        have h1 := hfp x hx2
        have h2 := h.low i (by omega) x hx
        omega
      · rw [if_neg e2] at hx2
        exact h.dis i j (by omega) (by omega) hne x hx hx2
  elt := fun j hj => by
    have hxl : xs.length = k * K := h.own.1
    by_cases e : j = k
    · subst e
      rw [if_pos rfl]
      refine ⟨ys, hy, fun r hr => ?_, T.mframe hm fun b hb2 => hg.block b (hfp b hb2).2 fun e2 => ?_⟩
      · rw [List.getElem?_append_right (by omega), hxl, show j * K + r - j * K = r by omega]
      · have := (h.own.lt b e2.symm).2
        have := hfp b hb2
        omega
    · rw [if_neg e]
      obtain ⟨cs, hl, hc, hm2⟩ := h.elt j (by omega)
      refine ⟨cs, hl, fun r hr => ?_, T.mframe (T.mframe hm2 fun b hb2 => hb.block b (h.low j (by omega) b hb2).2.1) fun b hb2 => hg.block b (Nat.lt_of_lt_of_le (h.low j (by omega) b hb2).2.1 hb.size) fun e2 => (h.low j (by omega) b hb2).2.2 e2.symm⟩
      have : (j + 1) * K ≤ k * K := Nat.mul_le_mul_right K (by omega)
      rw [Nat.add_mul, Nat.one_mul] at this
      rw [List.getElem?_append_left (by omega)]
      exact hc r hr
theorem GrowA.keep (h : GrowA T K wr base lo t v k l xs fs) (hb : Below wr.heap.size wr w1) : GrowA T K w1 base lo t v k l xs fs where
  own := by
    refine ⟨h.own.1, ?_⟩
    rcases h.own.2 with h0 | ⟨g, cap, cur, rfl, h1, h2, h3⟩
    · exact Or.inl h0
    · exact Or.inr ⟨g, cap, cur, rfl, h1, (hb.block g ((h.own.lt g rfl).2)).trans h2, h3⟩
  low := fun j hj x hx => ⟨(h.low j hj x hx).1, Nat.lt_of_lt_of_le (h.low j hj x hx).2.1 hb.size, (h.low j hj x hx).2.2⟩
  dis := h.dis
  elt := fun j hj => by
    obtain ⟨cs, hl, hc, hm⟩ := h.elt j hj
    exact ⟨cs, hl, hc, T.mframe hm fun b hb2 => hb.block b (h.low j hj b hb2).2.1⟩
theorem GrowA.done (h : GrowA T K wr base lo t v n l xs fs) (hlo : base ≤ lo) : ∃ A c fp, v = .slice A n c ∧ RowO T K wr fp A n l ∧ ∀ b ∈ fp, base ≤ b ∧ b < wr.heap.size := by
  have h0 := h.own
  rcases h.own.2 with ⟨rfl, rfl⟩ | ⟨g, cap, cur, rfl, _⟩
  · exact ⟨none, 0, [], rfl, fun hn => absurd hn (Nat.lt_irrefl 0), fun b hb => absurd hb List.not_mem_nil⟩
  · have hlt := h0.lt g rfl
    refine ⟨some ⟨g, 0, none⟩, cap, g :: (List.range n).flatMap fs, rfl, fun _ => ⟨g, 0, fs, rfl, List.mem_cons_self, hlt.2, fun i => World.ownsRow.frozenAt h0 i, fun k hk x hx => ?_, fun i j hi hj => h.dis i j hi hj, fun k hk => ?_⟩, fun b hb => ?_⟩
    · have h1 := h.low k hk x hx
      refine ⟨List.mem_cons_of_mem _ (List.mem_flatMap.2 ⟨k, List.mem_range.2 hk, hx⟩), fun e => h1.2.2 (by rw [e]; rfl), h1.2.1⟩
    · obtain ⟨cs, hl, hc, hm⟩ := h.elt k hk
      refine ⟨cs, hl, fun r hr => ?_, hm⟩
      have hin : k * K + r < n * K := by
        have := Nat.mul_le_mul_right K (show k + 1 ≤ n by omega)
        rw [Nat.add_mul] at this
        omega
      rw [Nat.zero_add]
      exact (World.ownsRow.cellAt h0 (k * K + r) hin).trans (hc r (by omega))
    · rcases List.mem_cons.1 hb with rfl | hb
      · exact hlt
      · obtain ⟨k, hk, hx⟩ := List.mem_flatMap.1 hb
        have := h.low k (List.mem_range.1 hk) b hx
        exact ⟨Nat.le_trans hlo this.1, this.2.1⟩
end
end Go.Proofs.Ytnodmblieocamaa

/-
  A slice of any flat type appended to a new empty one, at a step of a region that draws its order: whatever its size, nil too.
-/
import Derived.Test.YtpmigekejipohaaLOwn
import Derived.Maps.AppendAt
import Derived.Deep.AppendLies
namespace Go.Proofs.Ytpmigekejipohaa
open Go.RowKit

theorem appendE_none (w : World) (t ty e : TypeId) (i : TypeInfo) (ht : Try.prog.underlying t = some (.slice e)) (hi : Try.prog.info? e = some i) (X : Addr) (c : Nat) :
    (Builtin.append_ #[t, t] ty #[.slice (some X) 0 0, .slice none 0 c]).run Try.prog w = .ok (.slice (some X) 0 0) w := by
  simp [Builtin.append_, Builtin.lenOf, Builtin.firstCells, run_underlying ht, sizeOf, typeInfo, hi, storeCells]
section
variable {α : Type} {E : El α}
set_option maxRecDepth 100000 in
theorem wp_copyE {w : World} {o : Oper} {a : Act} {K : Act → World → Prop} {Q : Exit → Act → World → Prop} (s x : Operand) (t : TypeId)
    (ho : o.op = .call { callee := .builtin .append, args := #[s, x], argTypes := #[t, t] })
    (e : TypeId) (i : TypeInfo) (z : Value) (bytes : Nat) (ht : Try.prog.underlying t = some (.slice e)) (hi : Try.prog.info? e = some i) (hz : i.zero = some z)
    (hsize : i.size = E.K) (hby : i.bytes = bytes) (hzs : z.cells.size = E.K) (hK : 0 < E.K) (hC : ∀ a, ∀ u ∈ E.C a, u.oneCell' = true)
    (X n c : Nat) {hi2 : Nat} (A : Option Addr) (l : List α) (hs : a.eval s = .slice (some ⟨X, 0, none⟩) 0 0) (hX : Box w X #[] e) (hx : a.eval x = .slice A n c) (hr : RowF E w hi2 A n l) (hl : l.length = n)
    (hn : n ≤ maxLen) (hn2 : n * bytes ≤ 140737488355328)
    (h : ∀ g c' w', OwnE E e w' X (.slice (some ⟨g, 0, none⟩) n c') l → w.grownBy w' (some X) → (g = X ∨ g = w.heap.size) → g < w'.heap.size → K (a.put o.dst (.slice (some ⟨g, 0, none⟩) n c')) w') :
    Oper.wp Try.prog o a w K Q := by
  have hown : w.ownsRow X e E.K (.slice (some ⟨X, 0, none⟩) 0 0) 0 [] := own_empty' hX (Nat.le_refl _)
  cases A with
  | none =>
    have hn0 : n = 0 := by
      rcases Nat.eq_zero_or_pos n with h0 | h0
      · exact h0
      · obtain ⟨_, _, e, _⟩ := hr h0
        cases e
    subst hn0
    obtain rfl : l = [] := List.eq_nil_of_length_eq_zero hl
    unfold Oper.wp execOp
    simp only [ho, resolve, invoke, builtin, Sem.run_bind, Sem.run_pure, Result.andThen_ok, List.map_toArray, List.map_cons, List.map_nil, hs, hx, appendE_none w t o.type e i ht hi ⟨X, 0, none⟩ c]
    exact h X 0 w (own_nil hX (Nat.le_refl _)) ⟨rfl, rfl, rfl, Nat.le_refl _, fun _ _ _ => rfl⟩ (Or.inl rfl) hX.lt
  | some ad =>
    have hnews : ∀ j u, (l.flatMap E.C)[j]? = some u → w.cell? (ad.add j) = some u := by
      intro j u hj
      rcases Nat.eq_zero_or_pos n with h0 | h0
      · rw [List.eq_nil_of_length_eq_zero (hl.trans h0)] at hj
        cases hj
      · obtain ⟨b, o2, e2, _⟩ := hr h0
        injection e2 with e2
        subst e2
        exact hr.news hl hK j u hj
    obtain ⟨v', w', hrun, h2, h3, h4, h5⟩ := run_append_own_at (P := Try.prog) w X t o.type e i z E.K bytes ht hi hz hsize hby hzs hK _ 0 [] hown ad n c (l.flatMap E.C) (by rw [flat_len, hl]) hnews (fun u hu => by
      obtain ⟨q, _, hq⟩ := List.mem_flatMap.1 hu
      exact hC q u hq) (by unfold maxLen at hn ⊢; omega) (by rw [Nat.zero_add]; exact hn2) (Nat.le_of_lt hX.lt)
    rw [Nat.zero_add, List.nil_append] at h2
    have hv : ∃ g c', v' = .slice (some ⟨g, 0, none⟩) n c' := by
      rcases h2.2 with ⟨h6, _⟩ | ⟨g, cap, cur, e6, _⟩
      · have := (h4.1 h6).1
        cases this
      · exact ⟨g, cap, e6⟩
    obtain ⟨g, c', rfl⟩ := hv
    unfold Oper.wp execOp
    simp only [ho, resolve, invoke, builtin, Sem.run_bind, Sem.run_pure, Result.andThen_ok, List.map_toArray, List.map_cons, List.map_nil, hs, hx, hrun]
    refine h g c' w' (by unfold OwnE; rw [hl]; exact h2) (by simpa [Value.ownBlock] using h3) ?_ (World.ownsRow.lt h2 g rfl).2
    rcases h5 with h6 | h6
    · left; simpa [Value.ownBlock] using h6
    · right; simpa [Value.ownBlock] using h6
set_option maxRecDepth 100000 in
theorem step_copyE {w : World} {ops : Array Oper} {o : Oper} {a : Act} {K : Act → World → Prop} {Q : Exit → Act → World → Prop} {E0 : Prop} (hgd : o.guard = none) (s x : Operand) (t : TypeId)
    (ho : o.op = .call { callee := .builtin .append, args := #[s, x], argTypes := #[t, t] })
    (e : TypeId) (i : TypeInfo) (z : Value) (bytes : Nat) (ht : Try.prog.underlying t = some (.slice e)) (hi : Try.prog.info? e = some i) (hz : i.zero = some z)
    (hsize : i.size = E.K) (hby : i.bytes = bytes) (hzs : z.cells.size = E.K) (hK : 0 < E.K) (hC : ∀ a, ∀ u ∈ E.C a, u.oneCell' = true)
    (X n c : Nat) {hi2 : Nat} (A : Option Addr) (l : List α) (hs : a.eval s = .slice (some ⟨X, 0, none⟩) 0 0) (hX : Box w X #[] e) (hx : a.eval x = .slice A n c) (hr : RowF E w hi2 A n l) (hl : l.length = n)
    (hn : n ≤ maxLen) (hn2 : n * bytes ≤ 140737488355328)
    (h : ∀ g c' w', OwnE E e w' X (.slice (some ⟨g, 0, none⟩) n c') l → w.grownBy w' (some X) → (g = X ∨ g = w.heap.size) → g < w'.heap.size → K (a.put o.dst (.slice (some ⟨g, 0, none⟩) n c')) w') :
    if Region.wanted o (yielded ops a.tmps) = true then Oper.wp Try.prog o a w K Q else E0 := by
  have hw : Region.wanted o (yielded ops a.tmps) = true := by simp [Region.wanted, hgd]
  rw [if_pos hw]
  exact wp_copyE s x t ho e i z bytes ht hi hz hsize hby hzs hK hC X n c A l hs hX hx hr hl hn hn2 h
theorem wpList_copyE {w : World} {ops : Array Oper} {rest : List Oper} {o : Oper} {a : Act} {Q : Exit → Act → World → Prop} (hgd : o.guard = none) (s x : Operand) (t : TypeId)
    (ho : o.op = .call { callee := .builtin .append, args := #[s, x], argTypes := #[t, t] })
    (e : TypeId) (i : TypeInfo) (z : Value) (bytes : Nat) (ht : Try.prog.underlying t = some (.slice e)) (hi : Try.prog.info? e = some i) (hz : i.zero = some z)
    (hsize : i.size = E.K) (hby : i.bytes = bytes) (hzs : z.cells.size = E.K) (hK : 0 < E.K) (hC : ∀ a, ∀ u ∈ E.C a, u.oneCell' = true)
    (X n c : Nat) {hi2 : Nat} (A : Option Addr) (l : List α) (hs : a.eval s = .slice (some ⟨X, 0, none⟩) 0 0) (hX : Box w X #[] e) (hx : a.eval x = .slice A n c) (hr : RowF E w hi2 A n l) (hl : l.length = n)
    (hn : n ≤ maxLen) (hn2 : n * bytes ≤ 140737488355328)
    (h : ∀ g c' w', OwnE E e w' X (.slice (some ⟨g, 0, none⟩) n c') l → w.grownBy w' (some X) → (g = X ∨ g = w.heap.size) → g < w'.heap.size → wpList Try.prog ops Q rest (a.put o.dst (.slice (some ⟨g, 0, none⟩) n c')) w') :
    wpList Try.prog ops Q (o :: rest) a w :=
  wpList_plain hgd fun _ hK2 => wp_copyE s x t ho e i z bytes ht hi hz hsize hby hzs hK hC X n c A l hs hX hx hr hl hn hn2 fun g c' w' h1 h2 h3 h4 => hK2 _ _ (h g c' w' h1 h2 h3 h4)
end
end Go.Proofs.Ytpmigekejipohaa

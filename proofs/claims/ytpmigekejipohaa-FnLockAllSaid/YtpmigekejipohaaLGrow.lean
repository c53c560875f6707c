/-
  A slice of locks of one's own that grows by append: what LockAll keeps.
-/
import Derived.Test.YtpmigekejipohaaLS8
import Derived.Laws.OwnMore
namespace Go.Proofs.Ytpmigekejipohaa
open Go.RowKit

/-- locks in a row of one's own; what each owns beside the row stands in other blocks -/
structure OwnL (w : World) (B : Nat) (v : Value) (l : List Lk) (xs : List Value) : Prop where
  own : w.ownsRow B 28 3 v l.length xs
  elt : ∀ j, j < l.length → ∃ cs fp, cs.length = 3 ∧ (∀ r, r < 3 → xs[j * 3 + r]? = cs[r]?) ∧ tyLock.M w fp cs (l.getD j lkZ) ∧ ∀ b ∈ fp, b < w.heap.size ∧ v.ownBlock ≠ some b
section
variable {w w' : World} {B : Nat} {v v' : Value} {l : List Lk} {xs : List Value} {D : Lk}
theorem OwnL.keep (h : OwnL w B v l xs) (hb : Below w.heap.size w w') : OwnL w' B v l xs where
  own := by
    refine ⟨h.own.1, ?_⟩
    rcases h.own.2 with h0 | ⟨g, cap, cur, rfl, h1, h2, h3⟩
    · exact Or.inl h0
    · exact Or.inr ⟨g, cap, cur, rfl, h1, (hb.block g ((h.own.lt g rfl).2)).trans h2, h3⟩
  elt := fun j hj => by
    obtain ⟨cs, fp, hl, hc, hm, hf⟩ := h.elt j hj
    exact ⟨cs, fp, hl, hc, tyLock.mframe hm fun b hb2 => hb.block b (hf b hb2).1, fun b hb2 => ⟨Nat.lt_of_lt_of_le (hf b hb2).1 hb.size, (hf b hb2).2⟩⟩
/-- a lock of the row: its cells, and what it is -/
theorem OwnL.get {g n c : Nat} (h : OwnL w B (.slice (some ⟨g, 0, none⟩) n c) l xs) (hn : n = l.length) {j : Nat} (hj : j < n) :
    ∃ x0 x1 x2, w.cell? ⟨g, j * 3, none⟩ = some x0 ∧ w.cell? ⟨g, j * 3 + 1, none⟩ = some x1 ∧ w.cell? ⟨g, j * 3 + 2, none⟩ = some x2 ∧ tyLock.R w w.heap.size [x0, x1, x2] (l.getD j lkZ) := by
  subst hn
  obtain ⟨cs, fp, hl, hc, hm, hf⟩ := h.elt j hj
  match cs, hl with
  | [x0, x1, x2], _ =>
    have hat := fun r (hr : r < 3) => (World.ownsRow.cellAt h.own (j * 3 + r) (by have : (j + 1) * 3 ≤ l.length * 3 := Nat.mul_le_mul_right 3 (by omega); omega)).trans (hc r hr)
    exact ⟨x0, x1, x2, hat 0 (by decide), hat 1 (by decide), hat 2 (by decide), tyLock.mr hm fun b hb => (hf b hb).1⟩
theorem OwnL.push {fp : List Nat} {cs : List Value} (h : OwnL w B v l xs) (hl : cs.length = 3) (hm : tyLock.M w fp cs D) (hf : ∀ b ∈ fp, b < w.heap.size ∧ v.ownBlock ≠ some b)
    (ho : w'.ownsRow B 28 3 v' (l.length + 1) (xs ++ cs)) (hg : w.grownBy w' v.ownBlock) (hat : v'.ownBlock = v.ownBlock ∨ v'.ownBlock = some w.heap.size) : OwnL w' B v' (l ++ [D]) (xs ++ cs) where
  own := by rw [List.length_append]; exact ho
  elt := fun j hj => by
    rw [List.length_append, List.length_singleton] at hj
    have hne : ∀ b, b < w.heap.size → v.ownBlock ≠ some b → v'.ownBlock ≠ some b := fun b h1 h2 e => by
      rcases hat with h3 | h3
      · rw [h3] at e; exact h2 e
      · rw [h3] at e; injection e with e; omega
    have hxl : xs.length = l.length * 3 := h.own.1
    rcases Nat.lt_or_ge j l.length with h1 | h1
    · obtain ⟨cs', fp', hl', hc, hm', hf'⟩ := h.elt j h1
      refine ⟨cs', fp', hl', fun r hr => ?_, ?_, fun b hb => ⟨Nat.lt_of_lt_of_le (hf' b hb).1 hg.size, hne b (hf' b hb).1 (hf' b hb).2⟩⟩
      · rw [List.getElem?_append_left (by omega)]
        exact hc r hr
      · rw [List.getD_eq_getElem?_getD, List.getElem?_append_left h1, ← List.getD_eq_getElem?_getD]
        exact tyLock.mframe hm' fun b hb => hg.block b (hf' b hb).1 fun e => (hf' b hb).2 e.symm
    · obtain rfl : j = l.length := by omega
      refine ⟨cs, fp, hl, fun r hr => ?_, ?_, fun b hb => ⟨Nat.lt_of_lt_of_le (hf b hb).1 hg.size, hne b (hf b hb).1 (hf b hb).2⟩⟩
      · rw [List.getElem?_append_right (by omega), hxl, show l.length * 3 + r - l.length * 3 = r by omega]
      · rw [List.getD_eq_getElem?_getD, List.getElem?_append_right (Nat.le_refl _), Nat.sub_self]
        exact tyLock.mframe hm fun b hb => hg.block b (hf b hb).1 fun e => (hf b hb).2 e.symm
/-- a row of one -/
theorem OwnL.one {fp : List Nat} {x0 x1 x2 : Value} (hm : tyLock.M w fp [x0, x1, x2] D) (hf : ∀ b ∈ fp, b < w.heap.size) (hB : B ≤ w.heap.size) :
    OwnL (w.alloc (.cells #[x0, x1, x2] 28)) B (.slice (some ⟨w.heap.size, 0, none⟩) 1 1) [D] [x0, x1, x2] where
  own := ⟨rfl, Or.inr ⟨w.heap.size, 1, #[x0, x1, x2], rfl, hB, Box.new w #[x0, x1, x2] _, Nat.le_refl _, by unfold maxLen; omega, rfl, rfl⟩⟩
  elt := fun j hj => by
    obtain rfl : j = 0 := by simpa using hj
    refine ⟨[x0, x1, x2], fp, rfl, fun r hr => ?_, tyLock.mframe hm fun b hb => ((Below.refl w.heap.size w).alloc (Nat.le_refl _) (.cells #[x0, x1, x2] 28)).block b (hf b hb), fun b hb => ⟨by rw [World.size_alloc]; have := hf b hb; omega, fun e => ?_⟩⟩
    · rw [Nat.zero_mul, Nat.zero_add]
    · have h1 := hf b hb
      simp [Value.ownBlock] at e
      omega
end
end Go.Proofs.Ytpmigekejipohaa

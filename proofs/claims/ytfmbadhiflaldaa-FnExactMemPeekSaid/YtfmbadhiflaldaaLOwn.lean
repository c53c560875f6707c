/-
  Elements of any flat type in a row of the call's own, grown by append.
-/
import Derived.Test.YtfmbadhiflaldaaTCopy
namespace Go.Proofs.Ytfmbadhiflaldaa
open Go.RowKit

section
variable {α : Type}
def OwnE (E : El α) (t : TypeId) (w : World) (base : Nat) (v : Value) (l : List α) : Prop := w.ownsRow base t E.K v l.length (l.flatMap E.C)
variable {E : El α} {t : TypeId} {w w' u : World} {base : Nat} {v v' : Value} {l : List α} {a : α}
theorem OwnE.below (h : OwnE E t w base v l) (hb : Below w.heap.size w w') : OwnE E t w' base v l := by
  refine ⟨h.1, ?_⟩
  rcases h.2 with h2 | ⟨g, cap, cur, e, hg, hhp, h3⟩
  · exact .inl h2
  · obtain ⟨hlt, _⟩ := Array.getElem?_eq_some_iff.1 hhp
    exact .inr ⟨g, cap, cur, e, hg, (hb.block g hlt).trans hhp, h3⟩
theorem OwnE.cap {g n c : Nat} (h : OwnE E t w base (.slice (some ⟨g, 0, none⟩) n c) l) : l.length ≤ c := by
  rcases h.2 with ⟨h2, _⟩ | ⟨g', cap', cur, e, h3⟩
  · cases h2
  · injection e with _ _ e3
    subst e3
    exact h3.2.2.1
theorem OwnE.other {g n c : Nat} (h : OwnE E t w base (.slice (some ⟨g, 0, none⟩) n c) l) (p : Addr) (x : Value) (hne : g ≠ p.block) : OwnE E t (w.setCell p x) base (.slice (some ⟨g, 0, none⟩) n c) l := by
  refine ⟨h.1, ?_⟩
  rcases h.2 with ⟨h2, _⟩ | ⟨g', cap, cur, e, hg, hhp, h3⟩
  · cases h2
  · have e1 : g = g' := by injection e with e1; injection e1 with e1; injection e1
    subst e1
    exact .inr ⟨g, cap, cur, e, hg, (heap_setCell_other _ _ _ _ hne).trans hhp, h3⟩
theorem OwnE.row {g n c : Nat} (h : OwnE E t w base (.slice (some ⟨g, 0, none⟩) n c) l) (hn : n = l.length) : RowM E w [g] (some ⟨g, 0, none⟩) n l := by
  subst hn
  exact RowM.of_owns (E := E) h rfl
theorem OwnE.lt {g n c : Nat} (h : OwnE E t w base (.slice (some ⟨g, 0, none⟩) n c) l) : base ≤ g ∧ g < w.heap.size := World.ownsRow.lt h g rfl
theorem own_nil {X : Nat} (h : Box w X #[] t) (hb : base ≤ X) : OwnE E t w base (.slice (some ⟨X, 0, none⟩) 0 0) ([] : List α) := own_empty' h hb
theorem elem_new (w : World) (a : α) (cs : Array Value) (t : TypeId) (hcs : cs.toList = E.C a) : ∀ j u, (E.C a)[j]? = some u → (w.alloc (.cells cs t)).cell? ((⟨w.heap.size, 0, none⟩ : Addr).add j) = some u := fun j u hj => by
  rw [add_plain, Nat.zero_add, (Box.new w _ t).cell, ← hj, ← hcs, Array.getElem?_toList]
theorem own_appE {cs : Array Value} (ho : OwnE E t u base v l) (hbase : base ≤ u.heap.size) (hown : w'.ownsRow base t E.K v' (l.length + 1) (l.flatMap E.C ++ E.C a))
    (hg : (u.alloc (.cells cs t)).grownBy w' v.ownBlock) : OwnE E t w' base v' (l ++ [a]) ∧ Below base u w' := by
  refine ⟨?_, ((Below.refl _ _).alloc hbase _).grown hg (by rw [World.size_alloc]; omega) (fun k e => (World.ownsRow.lt ho k e).1)⟩
  unfold OwnE
  rw [List.length_append]
  have e : (l ++ [a]).flatMap E.C = l.flatMap E.C ++ E.C a := by simp
  rw [e]
  exact hown
end
end Go.Proofs.Ytfmbadhiflaldaa

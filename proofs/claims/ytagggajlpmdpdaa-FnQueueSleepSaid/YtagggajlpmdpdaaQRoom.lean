/-
  The room that a row has behind its last task.
-/
import Derived.Test.YtagggajlpmdpdaaQS7
import Derived.Test.YtagggajlpmdpdaaQS4
set_option linter.unusedVariables false
namespace Go.Proofs.Ytagggajlpmdpdaa
open Go.RowKit

/-- as Foot, and no block has another size -/
structure FootK (w w' : World) (fp : List Nat) : Prop extends Foot w w' fp where
  kept : ∀ (b : Nat) (cs : Array Value) (t : TypeId) (fz : Nat × Nat), w.heap[b]? = some (.cells cs t fz) → ∃ cs' : Array Value, w'.heap[b]? = some (.cells cs' t fz) ∧ cs'.size = cs.size
section
variable {w w1 w2 w' : World} {fp : List Nat}
theorem heap_same {b i : Nat} {cs : Array Value} {T : TypeId} {fr : Nat × Nat} (hb : w.heap[b]? = some (.cells cs T fr)) (v : Value) : (w.setCell ⟨b, i, none⟩ v).heap[b]? = some (.cells (cs.setIfInBounds i v) T fr) := by
  unfold World.setCell
  rw [Array.getElem?_modify, if_pos rfl, hb]
  rfl
theorem kept_set {a : Addr} {v : Value} (ha : a.spot = none) {b : Nat} {cs : Array Value} {t : TypeId} {fz : Nat × Nat} (h : w.heap[b]? = some (.cells cs t fz)) : ∃ cs' : Array Value, (w.setCell a v).heap[b]? = some (.cells cs' t fz) ∧ cs'.size = cs.size := by
  obtain ⟨k, i, s⟩ := a
  dsimp only at ha
  subst ha
  by_cases e : b = k
  · subst e
    exact ⟨_, heap_same (i := i) h v, by simp⟩
  · exact ⟨cs, (heap_setCell_other _ _ _ _ e).trans h, rfl⟩
theorem FootK.refl (w : World) (fp : List Nat) : FootK w w fp := ⟨Foot.refl w fp, fun b cs t fz h => ⟨cs, h, rfl⟩⟩
theorem FootK.of_below (h : Below w.heap.size w w') (fp : List Nat) : FootK w w' fp := ⟨Foot.of_below h fp, fun b cs t fz hb => ⟨cs, (h.block b (Array.getElem?_eq_some_iff.1 hb).1).trans hb, rfl⟩⟩
theorem FootK.trans (h : FootK w w1 fp) (h2 : FootK w1 w2 fp) : FootK w w2 fp := ⟨h.toFoot.trans h2.toFoot, fun b cs t fz hb => by
  obtain ⟨c1, e1, s1⟩ := h.kept b cs t fz hb
  obtain ⟨c2, e2, s2⟩ := h2.kept b c1 t fz e1
  exact ⟨c2, e2, s2.trans s1⟩⟩
theorem FootK.set (h : FootK w w1 fp) {b : Nat} (hb : b ∈ fp) (i : Nat) (v : Value) : FootK w (w1.setCell ⟨b, i, none⟩ v) fp := ⟨h.toFoot.set hb i v, fun b cs t fz hb => by
  obtain ⟨c1, e1, s1⟩ := h.kept b cs t fz hb
  obtain ⟨c2, e2, s2⟩ := kept_set (v := v) (a := ⟨_, i, none⟩) rfl e1
  exact ⟨c2, e2, s2.trans s1⟩⟩
theorem FootK.fresh (h : FootK w w' fp) {b i : Nat} (v : Value) (ha : w.heap.size ≤ b) : FootK w (w'.setCell ⟨b, i, none⟩ v) fp := ⟨h.toFoot.fresh ha v, fun b cs t fz hb => by
  obtain ⟨c1, e1, s1⟩ := h.kept b cs t fz hb
  obtain ⟨c2, e2, s2⟩ := kept_set (v := v) (a := ⟨_, i, none⟩) rfl e1
  exact ⟨c2, e2, s2.trans s1⟩⟩
theorem FootK.drew (h : FootK w w1 fp) : FootK w w1.drew fp := ⟨h.toFoot.drew, h.kept⟩
end
/-- a row of tasks at its block's beginning, and the block's size -/
def RoomT (w : World) (base : Nat) (A : Option Addr) (n c : Nat) : Prop :=
  (A = none ∧ n = 0 ∧ c = 0) ∨ ∃ (g : Nat) (cur : Array Value), A = some ⟨g, 0, none⟩ ∧ base ≤ g ∧ w.heap[g]? = some (.cells cur 42 (0, 0)) ∧ n ≤ c ∧ c ≤ maxLen ∧ cur.size = c * 4
def RoomV (w : World) (base : Nat) (v : Value) : Prop := ∀ A n c, v = .slice A n c → RoomT w base A n c
section
variable {w w' : World} {base : Nat} {A : Option Addr} {n c : Nat}
theorem OwnT.room {v : Value} {l : List ETask} (h : OwnT w base v l) : RoomV w base v := fun A n c e => by
  rcases h.2 with ⟨h0, h1⟩ | ⟨g, cap, cur, e2, hg, hh, hn, hm, hs, _⟩
  · rw [h0] at e
    injection e with e1 e2 e3
    exact Or.inl ⟨e1.symm, e2.symm, e3.symm⟩
  · rw [e2] at e
    injection e with e1 e3 e4
    subst e1 e3 e4
    exact Or.inr ⟨g, cur, rfl, hg, hh, hn, hm, hs⟩
theorem RoomT.kept (h : RoomT w base A n c) (hk : ∀ (b : Nat) (cs : Array Value) (t : TypeId) (fz : Nat × Nat), w.heap[b]? = some (.cells cs t fz) → ∃ cs' : Array Value, w'.heap[b]? = some (.cells cs' t fz) ∧ cs'.size = cs.size) : RoomT w' base A n c := by
  rcases h with h | ⟨g, cur, e, hg, hh, hn, hm, hs⟩
  · exact Or.inl h
  · obtain ⟨c2, e2, s2⟩ := hk _ _ _ _ hh
    exact Or.inr ⟨g, c2, e, hg, e2, hn, hm, s2.trans hs⟩
theorem RoomT.low {b2 : Nat} (h : RoomT w base A n c) (hb : b2 ≤ base) : RoomT w b2 A n c := by
  rcases h with h | ⟨g, cur, e, hg, h3⟩
  · exact Or.inl h
  · exact Or.inr ⟨g, cur, e, Nat.le_trans hb hg, h3⟩
theorem RoomT.below (h : RoomT w base A n c) (hb : Below w.heap.size w w') : RoomT w' base A n c := h.kept fun b cs t fz hh => ⟨cs, (hb.block b (Array.getElem?_eq_some_iff.1 hh).1).trans hh, rfl⟩
theorem RoomT.cell (h : RoomT w base A n c) (b i : Nat) (v : Value) : RoomT (w.setCell ⟨b, i, none⟩ v) base A n c := h.kept fun _ _ _ _ hh => kept_set (a := ⟨b, i, none⟩) rfl hh
theorem RoomV.cell {y : Value} (h : RoomV w base y) (b i : Nat) (v : Value) : RoomV (w.setCell ⟨b, i, none⟩ v) base y := fun A n c e => (h A n c e).cell b i v
theorem RoomV.low {b2 : Nat} {y : Value} (h : RoomV w base y) (hb : b2 ≤ base) : RoomV w b2 y := fun A n c e => (h A n c e).low hb
/-- the row is one's own to append to -/
theorem RoomT.own {l : List ETask} {fp : List Nat} (h : RoomT w base A n c) (hr : RowM elTask w fp A n l) (hl : l.length = n) : w.ownsRow base 42 4 (.slice A n c) n (tkC l) := by
  refine ⟨by rw [tkC_len, hl], ?_⟩
  rcases h with ⟨rfl, rfl, rfl⟩ | ⟨g, cur, rfl, hg, hh, hn, hm, hs⟩
  · exact Or.inl ⟨rfl, rfl⟩
  · refine Or.inr ⟨g, c, cur, rfl, hg, hh, hn, hm, hs, ?_⟩
    have hbx : Box w g cur 42 := hh
    apply List.ext_getElem?
    intro j
    rw [List.getElem?_take]
    by_cases hj : j < n * 4
    · rw [if_pos hj]
      have hjl : j < (tkC l).length := by rw [tkC_len, hl]; exact hj
      have hu := List.getElem?_eq_getElem hjl
      rw [hu]
      have h0 : 0 < n := by omega
      obtain ⟨b0, o0, e0, hfp, _⟩ := hr h0
      have hrf := hr.row (hi := b0 + 1) fun b hb => by rw [hfp, List.mem_singleton] at hb; omega
      have h2 := hrf.news hl (by decide) j _ hu
      rw [show ((⟨g, 0, none⟩ : Addr).add j) = ⟨g, j, none⟩ from by rw [add_plain, Nat.zero_add], hbx.cell] at h2
      rw [← h2]
      simp
    · rw [if_neg hj, List.getElem?_eq_none]
      rw [tkC_len, hl]
      omega
end
end Go.Proofs.Ytagggajlpmdpdaa

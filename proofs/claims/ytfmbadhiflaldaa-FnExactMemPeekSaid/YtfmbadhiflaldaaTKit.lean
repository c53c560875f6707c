/-
  How a value of a law's type reads in memory: its cells, its data, the blocks it owns. One notion for all types, so that the exact laws' walks need not know them.
-/
import Derived.Test.YtfmbadhiflaldaaKit
namespace Go.Proofs.Ytfmbadhiflaldaa
open Go.RowKit

/-- nothing but the blocks in fp, and what is new, has turned -/
structure Foot (w w' : World) (fp : List Nat) : Prop where
  os : w'.os = w.os
  tape : w'.tape = w.tape
  output : w'.output = w.output
  size : w.heap.size ≤ w'.heap.size
  block : ∀ i, i < w.heap.size → i ∉ fp → w'.heap[i]? = w.heap[i]?
theorem Foot.refl (w : World) (fp : List Nat) : Foot w w fp := ⟨rfl, rfl, rfl, Nat.le_refl _, fun _ _ _ => rfl⟩
theorem Foot.of_below {w w' : World} (h : Below w.heap.size w w') (fp : List Nat) : Foot w w' fp := ⟨h.os, h.tape, h.output, h.size, fun i hi _ => h.block i hi⟩
theorem Foot.below {w w' : World} {fp : List Nat} {lo : Nat} (h : Foot w w' fp) (hlo : lo ≤ w.heap.size) (hfp : ∀ b ∈ fp, lo ≤ b) : Below lo w w' :=
  ⟨h.os, h.tape, h.output, h.size, fun k hk => h.block k (by omega) fun hm => by have := hfp k hm; omega⟩
theorem Foot.trans {w w1 w2 : World} {fp : List Nat} (h : Foot w w1 fp) (h2 : Foot w1 w2 fp) : Foot w w2 fp :=
  ⟨h2.os.trans h.os, h2.tape.trans h.tape, h2.output.trans h.output, Nat.le_trans h.size h2.size, fun i hi hm => (h2.block i (Nat.lt_of_lt_of_le hi h.size) hm).trans (h.block i hi hm)⟩
theorem Foot.sub {w w1 : World} {fp fp' : List Nat} (h : Foot w w1 fp) (hs : ∀ b ∈ fp, b ∈ fp') : Foot w w1 fp' :=
  ⟨h.os, h.tape, h.output, h.size, fun i hi hm => h.block i hi fun hm' => hm (hs i hm')⟩
theorem Foot.box {w w' : World} {fp : List Nat} (h : Foot w w' fp) {b : Nat} {cs : Array Value} {t : TypeId} (hb : Box w b cs t) (hne : b ∉ fp) : Box w' b cs t := (h.block b hb.lt hne).trans hb
theorem Foot.set {w w1 : World} {fp : List Nat} (h : Foot w w1 fp) {b : Nat} (hb : b ∈ fp) (i : Nat) (v : Value) : Foot w (w1.setCell ⟨b, i, none⟩ v) fp :=
  ⟨h.os, h.tape, h.output, by rw [World.size_setCell]; exact h.size, fun k hk hk2 => (heap_setCell_other w1 ⟨b, i, none⟩ k v (fun e => hk2 (by rw [e]; exact hb))).trans (h.block k hk hk2)⟩
theorem Foot.drewN {w w1 : World} {fp : List Nat} (h : Foot w w1 fp) (n : Nat) : Foot w (w1.drewN n) fp := ⟨h.os, h.tape, h.output, h.size, h.block⟩

theorem cell_of_block {w w' : World} {b : Nat} (h : w'.heap[b]? = w.heap[b]?) (i : Nat) : w'.cell? ⟨b, i, none⟩ = w.cell? ⟨b, i, none⟩ := World.cell?_of_block (w := w) (a := ⟨b, i, none⟩) h
theorem frozen_of_block {w w' : World} {b : Nat} (h : w'.heap[b]? = w.heap[b]?) (i : Nat) : w'.frozen? ⟨b, i, none⟩ = w.frozen? ⟨b, i, none⟩ := by
  simp only [World.frozen?]
  rw [h]

/-- a type of the laws: how many cells, what they read as (no block from hi on told), what they own -/
structure Ty (α : Type) where
  z : α
  R : World → Nat → List Value → α → Prop
  M : World → List Nat → List Value → α → Prop
  rframe : ∀ {w w' : World} {hi : Nat} {cs : List Value} {a : α}, R w hi cs a → (∀ b, b < hi → w'.heap[b]? = w.heap[b]?) → R w' hi cs a
  rup : ∀ {w : World} {hi hi' : Nat} {cs : List Value} {a : α}, R w hi cs a → hi ≤ hi' → R w hi' cs a
  mframe : ∀ {w w' : World} {fp : List Nat} {cs : List Value} {a : α}, M w fp cs a → (∀ b ∈ fp, w'.heap[b]? = w.heap[b]?) → M w' fp cs a
  mr : ∀ {w : World} {fp : List Nat} {cs : List Value} {a : α} {hi : Nat}, M w fp cs a → (∀ b ∈ fp, b < hi) → R w hi cs a
  rlt : ∀ {w : World} {hi : Nat} {cs : List Value} {a : α}, R w hi cs a → R w (min hi w.heap.size) cs a

section
variable {α β : Type} {T : Ty α} {w w' : World} {hi : Nat} {cs : List Value} {a : α} {fp fp' : List Nat}
theorem Ty.rb (h : T.R w hi cs a) (hb : Below hi w w') : T.R w' hi cs a := T.rframe h fun b hlt => hb.block b hlt
theorem Ty.below_w (h : T.R w hi cs a) (hb : Below w.heap.size w w') : T.R w' hi cs a := T.rup (T.rframe (T.rlt h) fun b hlt => hb.block b (by omega)) (Nat.min_le_left _ _)
theorem Ty.rf (h : T.R w hi cs a) (hf : Foot w w' fp) (hhi : hi ≤ w.heap.size) (hfp : ∀ b ∈ fp, hi ≤ b) : T.R w' hi cs a := Ty.rb h (hf.below hhi hfp)
theorem Ty.mb (h : T.M w fp cs a) (hb : Below w.heap.size w w') (hfp : ∀ b ∈ fp, b < w.heap.size) : T.M w' fp cs a := T.mframe h fun b hm => hb.block b (hfp b hm)
theorem Ty.mf (h : T.M w fp cs a) (hf : Foot w w' fp') (hfp : ∀ b ∈ fp, b < w.heap.size ∧ b ∉ fp') : T.M w' fp cs a := T.mframe h fun b hm => hf.block b (hfp b hm).1 (hfp b hm).2
end

/-- a number, a truth value, a text -/
def tyI : Ty Int := ⟨0, fun _ _ cs a => cs = [.int .i64 a], fun _ fp cs a => fp = [] ∧ cs = [.int .i64 a], fun h _ => h, fun h _ => h, fun h _ => h, fun h _ => h.2, fun h => h⟩
def tyB : Ty Bool := ⟨false, fun _ _ cs a => cs = [.bool a], fun _ fp cs a => fp = [] ∧ cs = [.bool a], fun h _ => h, fun h _ => h, fun h _ => h, fun h _ => h.2, fun h => h⟩
def tyS : Ty ByteArray := ⟨.empty, fun _ _ cs a => cs = [.string a] ∧ a.size ≤ maxLen, fun _ fp cs a => fp = [] ∧ cs = [.string a] ∧ a.size ≤ maxLen, fun h _ => h, fun h _ => h, fun h _ => h, fun h _ => h.2, fun h => h⟩
/-- one field behind another one -/
def Ty.pair {α β : Type} (A : Ty α) (B : Ty β) : Ty (α × β) where
  z := (A.z, B.z)
  R w hi cs p := ∃ c1 c2, cs = c1 ++ c2 ∧ A.R w hi c1 p.1 ∧ B.R w hi c2 p.2
  M w fp cs p := ∃ f1 f2 c1 c2, fp = f1 ++ f2 ∧ cs = c1 ++ c2 ∧ (∀ b ∈ f1, b ∉ f2) ∧ A.M w f1 c1 p.1 ∧ B.M w f2 c2 p.2
  rframe := fun ⟨c1, c2, e, h1, h2⟩ hb => ⟨c1, c2, e, A.rframe h1 hb, B.rframe h2 hb⟩
  rup := fun ⟨c1, c2, e, h1, h2⟩ hb => ⟨c1, c2, e, A.rup h1 hb, B.rup h2 hb⟩
  mframe := fun ⟨f1, f2, c1, c2, e, e2, hd, h1, h2⟩ hb => ⟨f1, f2, c1, c2, e, e2, hd, A.mframe h1 fun b hm => hb b (by rw [e]; exact List.mem_append_left _ hm), B.mframe h2 fun b hm => hb b (by rw [e]; exact List.mem_append_right _ hm)⟩
  rlt := fun ⟨c1, c2, e, h1, h2⟩ => ⟨c1, c2, e, A.rlt h1, B.rlt h2⟩
  mr := fun ⟨f1, f2, c1, c2, e, e2, hd, h1, h2⟩ hb => ⟨c1, c2, e2, A.mr h1 fun b hm => hb b (by rw [e]; exact List.mem_append_left _ hm), B.mr h2 fun b hm => hb b (by rw [e]; exact List.mem_append_right _ hm)⟩

/-- how an element without slices stands in its cells -/
structure El (α : Type) where
  K : Nat
  z : α
  C : α → List Value
  len : ∀ a, (C a).length = K
def elI : El Int := ⟨1, 0, fun a => [.int .i64 a], fun _ => rfl⟩
def elB : El Bool := ⟨1, false, fun a => [.bool a], fun _ => rfl⟩

section
variable {α : Type} (E : El α)
/-- elements at an address, all below block hi -/
def RowF (w : World) (hi : Nat) (A : Option Addr) (n : Nat) (l : List α) : Prop :=
  0 < n → ∃ b o, A = some ⟨b, o, none⟩ ∧ b < hi ∧ b < w.heap.size ∧ ∀ k, k < n → ∀ r, r < E.K → w.cell? ⟨b, o + k * E.K + r, none⟩ = (E.C (l.getD k E.z))[r]?
/-- elements of one's own -/
def RowM (w : World) (fp : List Nat) (A : Option Addr) (n : Nat) (l : List α) : Prop :=
  0 < n → ∃ b o, A = some ⟨b, o, none⟩ ∧ fp = [b] ∧ b < w.heap.size ∧ (∀ i, w.frozen? ⟨b, i, none⟩ = false) ∧ ∀ k, k < n → ∀ r, r < E.K → w.cell? ⟨b, o + k * E.K + r, none⟩ = (E.C (l.getD k E.z))[r]?
end
section
variable {α : Type} {E : El α} {w w' : World} {hi : Nat} {A : Option Addr} {n : Nat} {l : List α} {fp : List Nat}
theorem lt_of_cellE {w : World} {b i : Nat} {v : Value} (h : w.cell? ⟨b, i, none⟩ = some v) : b < w.heap.size := World.block_lt_of_cell? w _ h
theorem RowF.frame (h : RowF E w hi A n l) (hb : ∀ b, b < hi → w'.heap[b]? = w.heap[b]?) : RowF E w' hi A n l := fun hn => by
  obtain ⟨b, o, e, h1, h2, h3⟩ := h hn
  have hbb := hb b h1
  refine ⟨b, o, e, h1, ?_, fun k hk r hr => (cell_of_block hbb _).trans (h3 k hk r hr)⟩
  rcases Nat.lt_or_ge b w'.heap.size with hlt | hge
  · exact hlt
  · rw [Array.getElem?_eq_none hge, Array.getElem?_eq_getElem h2] at hbb
    cases hbb
theorem RowF.below (h : RowF E w hi A n l) (hb : Below hi w w') : RowF E w' hi A n l := h.frame hb.block
theorem RowF.wb (h : RowF E w hi A n l) (hb : Below w.heap.size w w') : RowF E w' hi A n l := fun hn => by
  obtain ⟨b, o, e, h1, h2, h3⟩ := h hn
  exact ⟨b, o, e, h1, Nat.lt_of_lt_of_le h2 hb.size, fun k hk r hr => (kc hb _ _ h2).trans (h3 k hk r hr)⟩
theorem RowM.off {g b : Nat} (h : RowM E w [g] A n l) (hne : g ≠ b) (i : Nat) (v : Value) : RowM E (w.setCell ⟨b, i, none⟩ v) [g] A n l := fun hn => by
  obtain ⟨b', o, e, he, h2, hf, h3⟩ := h hn
  injection he with he
  subst he
  refine ⟨g, o, e, rfl, by rw [World.size_setCell]; exact h2, fun j => by simp [hf j], fun k hk r hr => ?_⟩
  rw [World.cell?_setCell_other _ _ _ _ (fun e => by injection e with e1 _; exact hne e1.symm)]
  exact h3 k hk r hr
theorem RowF.up {hi' : Nat} (h : RowF E w hi A n l) (hh : hi ≤ hi') : RowF E w hi' A n l := fun hn => by
  obtain ⟨b, o, e, h1, h2, h3⟩ := h hn
  exact ⟨b, o, e, by omega, h2, h3⟩
theorem RowM.frame (h : RowM E w fp A n l) (hb : ∀ b ∈ fp, w'.heap[b]? = w.heap[b]?) : RowM E w' fp A n l := fun hn => by
  obtain ⟨b, o, e, rfl, h2, hf, h3⟩ := h hn
  have hbb := hb b (List.mem_singleton.2 rfl)
  refine ⟨b, o, e, rfl, ?_, fun i => (frozen_of_block hbb i).trans (hf i), fun k hk r hr => (cell_of_block hbb _).trans (h3 k hk r hr)⟩
  rcases Nat.lt_or_ge b w'.heap.size with hlt | hge
  · exact hlt
  · rw [Array.getElem?_eq_none hge, Array.getElem?_eq_getElem h2] at hbb
    cases hbb
theorem RowM.row (h : RowM E w fp A n l) (hb : ∀ b ∈ fp, b < hi) : RowF E w hi A n l := fun hn => by
  obtain ⟨b, o, e, rfl, h2, _, h3⟩ := h hn
  exact ⟨b, o, e, hb b (List.mem_singleton.2 rfl), h2, h3⟩
end
/-- a slice of elements without slices -/
def tyF {α : Type} (E : El α) : Ty (List α) where
  z := []
  R w hi cs l := ∃ A n c, cs = [.slice A n c] ∧ l.length = n ∧ n ≤ maxLen ∧ RowF E w hi A n l
  M w fp cs l := ∃ A n c, cs = [.slice A n c] ∧ l.length = n ∧ n ≤ 1048576 ∧ RowM E w fp A n l
  rframe := fun ⟨A, n, c, e, h1, h2, h3⟩ hb => ⟨A, n, c, e, h1, h2, h3.frame hb⟩
  rup := fun ⟨A, n, c, e, h1, h2, h3⟩ hb => ⟨A, n, c, e, h1, h2, h3.up hb⟩
  mframe := fun ⟨A, n, c, e, h1, h2, h3⟩ hb => ⟨A, n, c, e, h1, h2, h3.frame hb⟩
  rlt := fun ⟨A, n, c, e, h1, h2, h3⟩ => ⟨A, n, c, e, h1, h2, fun hn => by
    obtain ⟨b, o, e2, h4, h5, h6⟩ := h3 hn
    exact ⟨b, o, e2, by omega, h5, h6⟩⟩
  mr := fun ⟨A, n, c, e, h1, h2, h3⟩ hb => ⟨A, n, c, e, h1, by simp only [maxLen]; omega, h3.row hb⟩

/-- a slice of elements without slices, that may be cut up to its length -/
def tyFc {α : Type} (E : El α) : Ty (List α) where
  z := []
  R w hi cs l := ∃ A n c, cs = [.slice A n c] ∧ l.length = n ∧ (n ≤ maxLen ∧ n ≤ c) ∧ RowF E w hi A n l
  M w fp cs l := ∃ A n c, cs = [.slice A n c] ∧ l.length = n ∧ (n ≤ 1048576 ∧ n ≤ c) ∧ RowM E w fp A n l
  rframe := fun ⟨A, n, c, e, h1, h2, h3⟩ hb => ⟨A, n, c, e, h1, h2, h3.frame hb⟩
  rup := fun ⟨A, n, c, e, h1, h2, h3⟩ hb => ⟨A, n, c, e, h1, h2, h3.up hb⟩
  mframe := fun ⟨A, n, c, e, h1, h2, h3⟩ hb => ⟨A, n, c, e, h1, h2, h3.frame hb⟩
  rlt := fun ⟨A, n, c, e, h1, h2, h3⟩ => ⟨A, n, c, e, h1, h2, fun hn => by
    obtain ⟨b, o, e2, h4, h5, h6⟩ := h3 hn
    exact ⟨b, o, e2, by omega, h5, h6⟩⟩
  mr := fun ⟨A, n, c, e, h1, h2, h3⟩ hb => ⟨A, n, c, e, h1, ⟨by simp only [maxLen]; omega, h2.2⟩, h3.row hb⟩

/-- values stored one behind another one -/
def sets (w : World) (b i : Nat) : List Value → World
  | [] => w
  | v :: vs => sets (w.setCell ⟨b, i, none⟩ v) b (i + 1) vs
theorem sets_size (b : Nat) : ∀ (vs : List Value) (w : World) (i : Nat), (sets w b i vs).heap.size = w.heap.size
  | [], _, _ => rfl
  | _ :: vs, _, _ => (sets_size b vs _ _).trans (World.size_setCell ..)
theorem sets_frozen (b : Nat) (q : Addr) : ∀ (vs : List Value) (w : World) (i : Nat), (sets w b i vs).frozen? q = w.frozen? q
  | [], _, _ => rfl
  | _ :: vs, _, _ => (sets_frozen b q vs _ _).trans (by simp)
theorem sets_other (b j : Nat) : ∀ (vs : List Value) (w : World) (i : Nat), (j < i ∨ i + vs.length ≤ j) → (sets w b i vs).cell? ⟨b, j, none⟩ = w.cell? ⟨b, j, none⟩
  | [], _, _, _ => rfl
  | _ :: vs, _, _, h => by
    rw [List.length_cons] at h
    refine (sets_other b j vs _ _ (by omega)).trans (World.cell?_setCell_other _ _ _ _ fun e => ?_)
    injection e with _ e2
    omega
theorem sets_at (b : Nat) : ∀ (vs : List Value) (w : World) (i r : Nat), r < vs.length → (∃ u, w.cell? ⟨b, i + r, none⟩ = some u) → (sets w b i vs).cell? ⟨b, i + r, none⟩ = vs[r]?
  | [], _, _, _, h, _ => absurd h (Nat.not_lt_zero _)
  | v :: vs, w, i, 0, _, ⟨u, hu⟩ => by
    exact (sets_other b (i + 0) vs _ _ (by omega)).trans (World.cell?_setCell_same w ⟨b, i, none⟩ v hu)
  | v :: vs, w, i, r + 1, h, ⟨u, hu⟩ => by
    rw [List.length_cons] at h
    have h2 := sets_at b vs (w.setCell ⟨b, i, none⟩ v) (i + 1) r (by omega) ⟨u, by
      rw [World.cell?_setCell_other _ _ _ _ (fun e => by injection e with _ e2; omega), show i + 1 + r = i + (r + 1) by omega]
      exact hu⟩
    rw [show i + (r + 1) = i + 1 + r by omega]
    exact h2

section
variable {α : Type} {E : El α} {w : World} {A : Option Addr} {n : Nat} {l : List α} {fp : List Nat}
theorem RowM.put {b o : Nat} (h : RowM E w fp (some ⟨b, o, none⟩) n l) (hl : l.length = n) (k : Nat) (hk : k < n) (a : α) : RowM E (sets w b (o + k * E.K) (E.C a)) fp (some ⟨b, o, none⟩) n (l.set k a) := fun hn => by
  obtain ⟨b', o', e, hfp, hb, hf, hc⟩ := h hn
  injection e with e
  injection e with e1 e2
  subst e1 e2
  refine ⟨b, o, rfl, hfp, by rw [sets_size]; exact hb, fun i => by rw [sets_frozen]; exact hf i, fun j hj r hr => ?_⟩
  rw [getD_set l k j a E.z (by omega)]
  by_cases e : j = k
  · subst e
    rw [if_pos rfl]
    have hr2 : r < (E.C (l.getD j E.z)).length := by rw [E.len]; exact hr
    exact sets_at b _ _ _ r (by rw [E.len]; exact hr) ⟨_, (hc j hj r hr).trans (List.getElem?_eq_getElem hr2)⟩
  · rw [if_neg e]
    refine (sets_other b _ _ _ _ ?_).trans (hc j hj r hr)
    rw [E.len]
    rcases Nat.lt_or_gt_of_ne e with h1 | h1
    · left
      have := Nat.mul_le_mul_right E.K (show j + 1 ≤ k by omega)
      rw [Nat.add_mul] at this
      omega
    · right
      have := Nat.mul_le_mul_right E.K (show k + 1 ≤ j by omega)
      rw [Nat.add_mul] at this
      omega
theorem RowM.made (w : World) (n : Nat) (t : TypeId) (zc : Array Value) (hz : zc.toList = E.C E.z) :
    RowM E (w.alloc (.cells (madeCells zc (n * E.K)) t)) [w.heap.size] (some ⟨w.heap.size, 0, none⟩) n (List.replicate n E.z) := fun hn => by
  refine ⟨w.heap.size, 0, rfl, rfl, by simp, fun i => (Box.new w _ t).frz i, fun k hk r hr => ?_⟩
  have e1 : (List.replicate n E.z).getD k E.z = E.z := by simp [List.getD_eq_getElem?_getD, hk]
  rw [e1, (Box.new w _ t).cell, ← hz]
  have hzs : zc.size = E.K := by rw [← Array.length_toList, hz, E.len]
  have hkr : 0 + k * E.K + r < n * E.K := by
    have := Nat.mul_le_mul_right E.K (show k + 1 ≤ n by omega)
    rw [Nat.add_mul] at this
    omega
  have hm : (0 + k * E.K + r) % zc.size = r := by
    rw [hzs, Nat.zero_add, Nat.add_comm, Nat.add_mul_mod_self_right, Nat.mod_eq_of_lt hr]
  have hr3 : r < zc.size := by omega
  simp only [madeCells, Array.getElem?_map, Array.getElem?_range, hkr, if_true, Option.map_some, hm, Array.getElem?_toList]
  simp [hr3]
end
/-- the first k elements, the others empty -/
def upG {α : Type} (z : α) (l : List α) (n k : Nat) : List α := l.take k ++ List.replicate (n - k) z
section
variable {α : Type} {z : α} {l : List α} {n k : Nat}
theorem upG_len (hl : l.length = n) (hk : k ≤ n) : (upG z l n k).length = n := by simp [upG]; omega
theorem upG_step (hl : l.length = n) (hk : k < n) : (upG z l n k).set k (l.getD k z) = upG z l n (k + 1) := by
  unfold upG
  rw [List.set_append_right _ _ (by rw [List.length_take]; omega), List.length_take, Nat.min_eq_left (by omega), Nat.sub_self]
  have h1 : List.replicate (n - k) z = z :: List.replicate (n - (k + 1)) z := by rw [show n - k = (n - (k + 1)) + 1 by omega, List.replicate_succ]
  rw [h1, List.set_cons_zero]
  have h2 : l.take (k + 1) = l.take k ++ [l.getD k z] := by
    rw [List.take_succ_eq_append_getElem (by omega)]
    simp [List.getD_eq_getElem?_getD, List.getElem?_eq_getElem (show k < l.length by omega)]
  rw [h2, List.append_assoc]
  rfl
theorem upG_end (hl : l.length = n) : upG z l n n = l := by
  unfold upG
  rw [Nat.sub_self, List.take_of_length_le (by omega)]
  simp
theorem upG_zero : upG z l n 0 = List.replicate n z := by simp [upG]
end
/-- the marks of n elements from k on; the mark of one is mk k, s more for each -/
def mksG {α : Type} (mk : Int → α) (s : Nat) (k : Int) (n : Nat) : List α := (List.range n).map fun (j : Nat) => mk (k + s * j)
/-- q elements marked, the others as they were -/
def mkToG {α : Type} (mk : Int → α) (s : Nat) (k : Int) (l : List α) (q : Nat) : List α := mksG mk s k q ++ l.drop q
section
variable {α : Type} (z : α) {mk : Int → α} {s : Nat} {k : Int} {l : List α} {n q j : Nat}
omit z in
theorem mksG_len : (mksG mk s k n).length = n := by simp [mksG]
theorem mksG_at (h : j < n) : (mksG mk s k n).getD j z = mk (k + s * j) := by
  unfold mksG
  simp [List.getD_eq_getElem?_getD, List.getElem?_range h]
omit z in
theorem mkToG_len (hl : l.length = n) (hq : q ≤ n) : (mkToG mk s k l q).length = n := by simp [mkToG, mksG]; omega
include z in
theorem mkToG_step (hl : l.length = n) (hq : q < n) : (mkToG mk s k l q).set q (mk (k + s * q)) = mkToG mk s k l (q + 1) := by
  unfold mkToG
  rw [List.set_append_right _ _ (by rw [mksG_len]; exact Nat.le_refl _), mksG_len, Nat.sub_self]
  have h1 : l.drop q = l.getD q z :: l.drop (q + 1) := by
    rw [List.drop_eq_getElem_cons (by omega)]
    simp [List.getD_eq_getElem?_getD, List.getElem?_eq_getElem (show q < l.length by omega)]
  have h2 : mksG mk s k (q + 1) = mksG mk s k q ++ [mk (k + s * q)] := by simp [mksG, List.range_succ]
  rw [h1, List.set_cons_zero, h2, List.append_assoc]
  rfl
omit z in
theorem mkToG_end (hl : l.length = n) : mkToG mk s k l n = mksG mk s k n := by
  unfold mkToG
  rw [List.drop_eq_nil_of_le (by omega), List.append_nil]
omit z in
theorem mkToG_zero : mkToG mk s k l 0 = l := by simp [mkToG, mksG]
end
end Go.Proofs.Ytfmbadhiflaldaa

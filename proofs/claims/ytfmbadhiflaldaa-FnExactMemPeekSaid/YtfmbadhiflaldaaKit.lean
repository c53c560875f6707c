/-
  What any chapter's proofs begin with: ranges, rows, boxes, what is left as it was.
-/
import Derived.Test.YtfmbadhiflaldaaProg
import Derived.WalkKit
import Derived.BigQuiet
import Derived.Deep.QuietTactic
import Derived.WalkSpells
import Derived.Lib.Hide
import Derived.Deep.OwnRows
namespace Go.Proofs.Ytfmbadhiflaldaa
open Go.RowKit

/-- n lies in lo..hi -/
def inB (n lo hi : Int) : Bool := decide (lo ≤ n ∧ n ≤ hi)
theorem inB_of {n lo hi : Int} (h : lo ≤ n ∧ n ≤ hi) : inB n lo hi = true := decide_eq_true h
theorem inB_not {n lo hi : Int} (h : ¬ (lo ≤ n ∧ n ≤ hi)) : inB n lo hi = false := decide_eq_false h
theorem of_inB {n lo hi : Int} (h : inB n lo hi = true) : lo ≤ n ∧ n ≤ hi := of_decide_eq_true h
theorem of_inB_not {n lo hi : Int} (h : inB n lo hi = false) : ¬ (lo ≤ n ∧ n ≤ hi) := of_decide_eq_false h

theorem l6In_any (n lo hi : Int) (w : World) :
    Calls Try.prog 51 #[.int .i64 n, .int .i64 lo, .int .i64 hi] w fun e w' => e = .returned (.bool (inB n lo hi)) ∧ w = w' := by
  by_cases h1 : lo ≤ n
  · by_cases h2 : n ≤ hi
    · rw [inB_of ⟨h1, h2⟩]
      go_enter Try.func51, Try.ntmps51
      go_wp2
      go_ret
      exact ⟨rfl, rfl⟩
    · rw [inB_not (by omega)]
      go_enter Try.func51, Try.ntmps51
      go_wp2
      go_ret
      exact ⟨rfl, rfl⟩
  · rw [inB_not (by omega)]
    go_enter Try.func51, Try.ntmps51
    go_wp2
    go_ret
    exact ⟨rfl, rfl⟩

theorem kc {B : Nat} {w w' : World} (hb : Below B w w') : ∀ b o, b < B → w'.cell? ⟨b, o, none⟩ = w.cell? ⟨b, o, none⟩ := fun b o h => hb.cell (p := ⟨b, o, none⟩) h
theorem kf {B : Nat} {w w' : World} (hb : Below B w w') : ∀ b o, b < B → w'.frozen? ⟨b, o, none⟩ = w.frozen? ⟨b, o, none⟩ := fun b o h => hb.frozen (p := ⟨b, o, none⟩) h
theorem ret_bool {a b : Bool} (h : a = b) : Ending.returned (.bool a) = .returned (.bool b) := by rw [h]

theorem ret_int {a b : Int} (h : a = b) : Ending.returned (.int .i64 a) = .returned (.int .i64 b) := by rw [h]

/-- a slice's value, at an address with n elements, reads as the cells f 0, f 1, .. -/
def Row (w : World) (A : Option Addr) (n : Nat) (f : Nat → Value) : Prop :=
  0 < n → ∃ b o, A = some ⟨b, o, none⟩ ∧ b < w.heap.size ∧ ∀ k, k < n → w.cell? ⟨b, o + k, none⟩ = some (f k)
theorem Row.below {w w' : World} {A : Option Addr} {n : Nat} {f : Nat → Value} (h : Row w A n f) (hb : Below w.heap.size w w') : Row w' A n f := fun hn => by
  obtain ⟨b, o, e, hlt, hc⟩ := h hn
  exact ⟨b, o, e, Nat.lt_of_lt_of_le hlt hb.size, fun k hk => by rw [kc hb _ _ hlt]; exact hc k hk⟩

theorem info3 : (Try.prog.info? 3).map (fun i => (i.zero, i.size, i.bytes)) = some (some (.int .i64 0), 1, 8) := by kernel_rfl

/-- block b is just the cells cs of type t, none frozen -/
def Box (w : World) (b : Nat) (cs : Array Value) (t : TypeId) : Prop := w.heap[b]? = some (.cells cs t (0, 0))
theorem Box.lt {w : World} {b : Nat} {cs : Array Value} {t : TypeId} (h : Box w b cs t) : b < w.heap.size := by
  obtain ⟨hlt, _⟩ := Array.getElem?_eq_some_iff.1 (show w.heap[b]? = some _ from h)
  exact hlt
theorem Box.cell {w : World} {b : Nat} {cs : Array Value} {t : TypeId} (h : Box w b cs t) (i : Nat) : w.cell? ⟨b, i, none⟩ = cs[i]? := by
  unfold Box at h
  simp [World.cell?, h]
theorem Box.frz {w : World} {b : Nat} {cs : Array Value} {t : TypeId} (h : Box w b cs t) (i : Nat) : w.frozen? ⟨b, i, none⟩ = false := by
  unfold Box at h
  simp [World.frozen?, h]
theorem Box.new (w : World) (cs : Array Value) (t : TypeId) : Box (w.alloc (.cells cs t)) w.heap.size cs t := heap_alloc_new _ _
theorem Box.alloc {w : World} {b : Nat} {cs : Array Value} {t : TypeId} (h : Box w b cs t) (o : Obj) : Box (w.alloc o) b cs t := (heap_alloc_old _ _ h.lt).trans h
theorem Box.below {w w' : World} {B b : Nat} {cs : Array Value} {t : TypeId} (h : Box w b cs t) (hb : Below B w w') (hB : b < B) : Box w' b cs t := (hb.block b hB).trans h
theorem Box.other {w : World} {b : Nat} {cs : Array Value} {t : TypeId} (h : Box w b cs t) {a : Addr} (ha : b ≠ a.block) (v : Value) : Box (w.setCell a v) b cs t := (heap_setCell_other _ _ _ _ ha).trans h
theorem Box.set {w : World} {b : Nat} {cs : Array Value} {t : TypeId} (h : Box w b cs t) (i : Nat) (v : Value) : Box (w.setCell ⟨b, i, none⟩ v) b (cs.setIfInBounds i v) t := by
  unfold Box at h ⊢
  simp [World.setCell, Array.getElem?_modify, h]

theorem bel_drewN {B : Nat} {a w : World} (h : Below B a w) (n : Nat) : Below B a (w.drewN n) := ⟨h.os, h.tape, h.output, h.size, h.block⟩

/-- a row of the call's own, from block lo on; an empty one has no place -/
def OwnRow (w : World) (lo : Nat) (A : Option Addr) (n : Nat) (t : TypeId) (f : Nat → Value) : Prop := 0 < n → ∃ b, A = some ⟨b, 0, none⟩ ∧ lo ≤ b ∧ w.rowIs b t n f
/-- but for the block at A, if there is a cell at all, and what is new, nothing has turned -/
structure Touch (w w' : World) (A : Option Addr) (n : Nat) : Prop where
  os : w'.os = w.os
  tape : w'.tape = w.tape
  output : w'.output = w.output
  size : w.heap.size ≤ w'.heap.size
  block : ∀ i, i < w.heap.size → (0 < n → ∀ a, A = some a → i ≠ a.block) → w'.heap[i]? = w.heap[i]?
theorem Touch.refl (w : World) (A : Option Addr) (n : Nat) : Touch w w A n := ⟨rfl, rfl, rfl, Nat.le_refl _, fun _ _ _ => rfl⟩
theorem Touch.then_ {w w1 w2 : World} {A : Option Addr} {n : Nat} (h : Touch w w1 A n) (hb : Below w1.heap.size w1 w2) : Touch w w2 A n :=
  ⟨hb.os.trans h.os, hb.tape.trans h.tape, hb.output.trans h.output, Nat.le_trans h.size hb.size, fun k hk hk2 => (hb.block k (Nat.lt_of_lt_of_le hk h.size)).trans (h.block k hk hk2)⟩
theorem Touch.set {w w1 : World} {b n : Nat} (hn : 0 < n) (h : Touch w w1 (some ⟨b, 0, none⟩) n) (i : Nat) (v : Value) : Touch w (w1.setCell ⟨b, i, none⟩ v) (some ⟨b, 0, none⟩) n :=
  ⟨h.os, h.tape, h.output, by rw [World.size_setCell]; exact h.size, fun k hk hk2 => (heap_setCell_other w1 ⟨b, i, none⟩ k v (hk2 hn ⟨b, 0, none⟩ rfl)).trans (h.block k hk hk2)⟩
theorem OwnRow.row {w : World} {lo : Nat} {A : Option Addr} {n : Nat} {t : TypeId} {f : Nat → Value} (h : OwnRow w lo A n t f) : Row w A n f := fun hn => by
  obtain ⟨b, e, _, hr⟩ := h hn
  exact ⟨b, 0, e, hr.lt, fun k hk => by rw [Nat.zero_add]; exact hr.cell hk⟩
theorem OwnRow.below {w w' : World} {lo : Nat} {A : Option Addr} {n : Nat} {t : TypeId} {f : Nat → Value} (h : OwnRow w lo A n t f) (hb : Below w.heap.size w w') : OwnRow w' lo A n t f := fun hn => by
  obtain ⟨b, e, hl, hr⟩ := h hn
  exact ⟨b, e, hl, hr.of_block (hb.block b hr.lt)⟩

theorem getD_set {α : Type} (l : List α) (i k : Nat) (v d : α) (hi : i < l.length) : (l.set i v).getD k d = if k = i then v else l.getD k d := by
  simp only [List.getD_eq_getElem?_getD, List.getElem?_set]
  by_cases e : i = k
  · subst e
    rw [if_pos rfl, if_pos hi, if_pos rfl]
    rfl
  · rw [if_neg e, if_neg (fun h => e h.symm)]

theorem Touch.box {w w' : World} {A : Option Addr} {n : Nat} (h : Touch w w' A n) {b : Nat} {cs : Array Value} {t : TypeId} (hb : Box w b cs t) (hne : ∀ a, A = some a → b ≠ a.block) : Box w' b cs t :=
  (h.block b hb.lt fun _ => hne).trans hb
theorem Touch.low {w w' : World} {g n : Nat} {lo : Nat} (h : Touch w w' (some ⟨g, 0, none⟩) n) (hlo : lo ≤ w.heap.size) (hg : lo ≤ g) : Below lo w w' :=
  ⟨h.os, h.tape, h.output, h.size, fun k hk => h.block k (by omega) fun _ a e => by injection e with e; subst e; show k ≠ g; omega⟩

theorem set_self {α : Type} (l : List α) (i : Nat) (d : α) : l.set i (l.getD i d) = l := by
  apply List.ext_getElem?
  intro j
  rw [List.getElem?_set]
  by_cases e : i = j
  · subst e
    rw [if_pos rfl]
    by_cases h : i < l.length
    · rw [if_pos h, List.getD_eq_getElem?_getD, List.getElem?_eq_getElem h]; rfl
    · rw [if_neg h, List.getElem?_eq_none (by omega)]
  · rw [if_neg e]

theorem cell_off {w : World} {a q : Addr} {v : Value} (h : a.block ≠ q.block) : (w.setCell a v).cell? q = w.cell? q := World.cell?_setCell_other _ _ _ _ fun e => h (by rw [e])

theorem Touch.trans {w w1 w2 : World} {A : Option Addr} {n : Nat} (h : Touch w w1 A n) (h2 : Touch w1 w2 A n) : Touch w w2 A n :=
  ⟨h2.os.trans h.os, h2.tape.trans h.tape, h2.output.trans h.output, Nat.le_trans h.size h2.size, fun k hk hk2 => (h2.block k (Nat.lt_of_lt_of_le hk h.size) hk2).trans (h.block k hk hk2)⟩
theorem Touch.grown {w w1 : World} {g n : Nat} (h : Touch w w1 (some ⟨g, 0, none⟩) n) : w.grownBy w1 (some g) :=
  ⟨h.os, h.tape, h.output, h.size, fun k hk hk2 => h.block k hk fun _ a e => by injection e with e; subst e; exact fun e => hk2 (by rw [e])⟩
theorem Touch.of_below {w w1 : World} {A : Option Addr} {n : Nat} (h : Below w.heap.size w w1) : Touch w w1 A n := ⟨h.os, h.tape, h.output, h.size, fun k hk _ => h.block k hk⟩

theorem Touch.low_ {w w1 w2 : World} {A : Option Addr} {n : Nat} (h : Touch w w1 A n) (hb : Below w.heap.size w1 w2) : Touch w w2 A n :=
  ⟨hb.os.trans h.os, hb.tape.trans h.tape, hb.output.trans h.output, Nat.le_trans h.size hb.size, fun k hk hk2 => (hb.block k hk).trans (h.block k hk hk2)⟩
end Go.Proofs.Ytfmbadhiflaldaa

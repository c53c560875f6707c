/-
  The laws' helpers on texts and numbers: toStringS, toIntS make a slice of their own that reads as the argument; eqStringS, eqIntS compare; szStringS, szIntS count.
-/
import Derived.Test.YtemmcjjfjcjbeaaOks
import Derived.Deep.OwnRows
namespace Go.Proofs.Ytemmcjjfjcjbeaa
open Go.RowKit

theorem info9 : (Try.prog.info? 9).map (fun i => (i.zero, i.size, i.bytes)) = some (some (.string .empty), 1, 16) := by kernel_rfl
theorem info3 : (Try.prog.info? 3).map (fun i => (i.zero, i.size, i.bytes)) = some (some (.int .i64 0), 1, 8) := by kernel_rfl

/-- block b is just the cells cs of type t, none frozen -/
def Box (w : World) (b : Nat) (cs : Array Value) (t : TypeId) : Prop := w.heap[b]? = some (.cells cs t (0, 0))
theorem Box.lt {w : World} {b : Nat} {cs : Array Value} {t : TypeId} (h : Box w b cs t) : b < w.heap.size := by
  obtain ⟨hlt, _⟩ := Array.getElem?_eq_some_iff.1 (show w.heap[b]? = some _ from h)
  exact hlt
theorem Box.cell {w : World} {b : Nat} {cs : Array Value} {t : TypeId} (h : Box w b cs t) (i : Nat) : w.cell? ⟨b, i, none⟩ = cs[i]? := by
  unfold Box at h
  simp [World.cell?, h]
theorem Box.frz {w : World} {b : Nat} {cs : Array Value} {t : TypeId} (h : Box w b cs t) (i : Nat) : w.frozen? ⟨b, i, none⟩ = false := by
  unfold Box at h
  simp [World.frozen?, h]
theorem Box.new (w : World) (cs : Array Value) (t : TypeId) : Box (w.alloc (.cells cs t)) w.heap.size cs t := heap_alloc_new _ _
theorem Box.alloc {w : World} {b : Nat} {cs : Array Value} {t : TypeId} (h : Box w b cs t) (o : Obj) : Box (w.alloc o) b cs t := (heap_alloc_old _ _ h.lt).trans h
theorem Box.below {w w' : World} {B b : Nat} {cs : Array Value} {t : TypeId} (h : Box w b cs t) (hb : Below B w w') (hB : b < B) : Box w' b cs t := (hb.block b hB).trans h
theorem Box.other {w : World} {b : Nat} {cs : Array Value} {t : TypeId} (h : Box w b cs t) {a : Addr} (ha : b ≠ a.block) (v : Value) : Box (w.setCell a v) b cs t := (heap_setCell_other _ _ _ _ ha).trans h
theorem Box.set {w : World} {b : Nat} {cs : Array Value} {t : TypeId} (h : Box w b cs t) (i : Nat) (v : Value) : Box (w.setCell ⟨b, i, none⟩ v) b (cs.setIfInBounds i v) t := by
  unfold Box at h ⊢
  simp [World.setCell, Array.getElem?_modify, h]

theorem row_step {wr : World} {g : Nat} {t : TypeId} {n k : Nat} {f : Nat → Value} {z : Value} (h : wr.rowIs g t n (fun j => if j < k then f j else z)) :
    (wr.setCell ⟨g, k, none⟩ (f k)).rowIs g t n (fun j => if j < k + 1 then f j else z) :=
  (h.set k (f k)).congr fun i _ => by
    by_cases e : i = k
    · rw [if_pos e, if_pos (by omega), e]
    · rw [if_neg e]
      by_cases hk : i < k
      · rw [if_pos hk, if_pos (by omega)]
      · rw [if_neg hk, if_neg (by omega)]

section
variable {A : Option Addr} {n c : Nat} {w : World} {f : Nat → Value}

theorem toInts_any (hr : Row w A n f) (hn : n ≤ 1048576) (hf : ∀ k, ∃ i : Int, f k = .int .i64 i) :
    Calls Try.prog 90 #[.slice A n c] w fun e w' => ∃ b, e = .returned (.slice (some ⟨b, 0, none⟩) n n) ∧ w.heap.size ≤ b ∧ w'.rowIs b 3 n f ∧ Below w.heap.size w w' := by
  have hmk : ∀ u : World, (Instr.makeSlice 25 (.int .i64 (n : Int)) (.int .i64 (n : Int))).run Try.prog u = .ok (.slice (some ⟨u.heap.size, 0, none⟩) n n) (u.alloc (.cells (madeCells #[.int .i64 0] n) 3)) := fun u =>
    run_make_row' 25 3 (.int .i64 0) 8 Try.underlying25 info3 rfl _ _ n (by omega) (by omega) u
  have HR := Lib.hid hr
  have HF := Lib.hid hf
  clear hr hf
  go_enter Try.func90, Try.ntmps90
  go_wp2
  go_loopw [4] (fun i wr => ∃ k : Nat, k ≤ n ∧ i = .int .i64 k ∧ Hid (wr.rowIs w.heap.size 3 n (fun j => if j < k then f j else .int .i64 0)) ∧ Below w.heap.size w wr)
    (fun i _ => n - (intOf i).toNat)
  case atStart => exact ⟨0, Nat.zero_le _, rfl, Lib.hid ((World.rowIs_made w _ n _).congr fun i _ => by rw [if_neg (by omega)]), (Below.refl _ _).alloc (Nat.le_refl _) _⟩
  case round =>
    obtain ⟨k, hk, rfl, HB, hbl⟩ := hrel
    by_cases hlt : k < n
    · obtain ⟨b, o, rfl, hb, hc⟩ := HR.out (by omega)
      have c1 : wr.cell? ⟨b, o + k, none⟩ = some (f k) := (kc hbl _ _ hb).trans (hc k hlt)
      have c2 : wr.cell? ⟨w.heap.size, k, none⟩ = some (.int .i64 0) := by
        have := HB.out.cell hlt
        rw [if_neg (by omega)] at this
        exact this
      have c3 : wr.frozen? ⟨w.heap.size, k, none⟩ = false := HB.out.frozen k
      obtain ⟨i, hi⟩ := HF.out k
      rw [hi] at c1
      have HI := Lib.hid hi
      clear hc hi
      go_wp2
      go_roundw
      case rel => exact ⟨k + 1, by omega, by go_num, Lib.hid (by rw [← HI.out]; exact row_step HB.out), hbl.setCell (by simp) _⟩
      case measure => simp [intOf]; omega
    · obtain rfl : k = n := by omega
      go_wp2
      go_ret
      exact ⟨w.heap.size, rfl, Nat.le_refl _, HB.out.congr fun i hi => if_pos hi, hbl⟩

theorem toStrs_any (hr : Row w A n f) (hn : n ≤ 1048576) (hf : ∀ k, ∃ s : ByteArray, f k = .string s) :
    Calls Try.prog 89 #[.slice A n c] w fun e w' => ∃ b, e = .returned (.slice (some ⟨b, 0, none⟩) n n) ∧ w.heap.size ≤ b ∧ w'.rowIs b 9 n f ∧ Below w.heap.size w w' := by
  have hmk : ∀ u : World, (Instr.makeSlice 24 (.int .i64 (n : Int)) (.int .i64 (n : Int))).run Try.prog u = .ok (.slice (some ⟨u.heap.size, 0, none⟩) n n) (u.alloc (.cells (madeCells #[.string .empty] n) 9)) := fun u =>
    run_make_row' 24 9 (.string .empty) 16 Try.underlying24 info9 rfl _ _ n (by omega) (by omega) u
  have HR := Lib.hid hr
  have HF := Lib.hid hf
  clear hr hf
  go_enter Try.func89, Try.ntmps89
  go_wp2
  go_loopw [4] (fun i wr => ∃ k : Nat, k ≤ n ∧ i = .int .i64 k ∧ Hid (wr.rowIs w.heap.size 9 n (fun j => if j < k then f j else .string .empty)) ∧ Below w.heap.size w wr)
    (fun i _ => n - (intOf i).toNat)
  case atStart => exact ⟨0, Nat.zero_le _, rfl, Lib.hid ((World.rowIs_made w _ n _).congr fun i _ => by rw [if_neg (by omega)]), (Below.refl _ _).alloc (Nat.le_refl _) _⟩
  case round =>
    obtain ⟨k, hk, rfl, HB, hbl⟩ := hrel
    by_cases hlt : k < n
    · obtain ⟨b, o, rfl, hb, hc⟩ := HR.out (by omega)
      have c1 : wr.cell? ⟨b, o + k, none⟩ = some (f k) := (kc hbl _ _ hb).trans (hc k hlt)
      have c2 : wr.cell? ⟨w.heap.size, k, none⟩ = some (.string .empty) := by
        have := HB.out.cell hlt
        rw [if_neg (by omega)] at this
        exact this
      have c3 : wr.frozen? ⟨w.heap.size, k, none⟩ = false := HB.out.frozen k
      obtain ⟨i, hi⟩ := HF.out k
      rw [hi] at c1
      have HI := Lib.hid hi
      clear hc hi
      go_wp2
      go_roundw
      case rel => exact ⟨k + 1, by omega, by go_num, Lib.hid (by rw [← HI.out]; exact row_step HB.out), hbl.setCell (by simp) _⟩
      case measure => simp [intOf]; omega
    · obtain rfl : k = n := by omega
      go_wp2
      go_ret
      exact ⟨w.heap.size, rfl, Nat.le_refl _, HB.out.congr fun i hi => if_pos hi, hbl⟩
end
end Go.Proofs.Ytemmcjjfjcjbeaa

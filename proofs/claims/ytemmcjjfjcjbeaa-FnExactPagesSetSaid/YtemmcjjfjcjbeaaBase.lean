/-
  Small contracts: the range tests of the program and of the model, and the page's own methods (free, ok, in), each for every argument that it is asked for.
-/
import Derived.Test.YtemmcjjfjcjbeaaProg
import Derived.WalkKit
import Derived.BigQuiet
import Derived.Deep.QuietTactic
import Derived.WalkSpells
import Derived.Lib.Hide
namespace Go.Proofs.Ytemmcjjfjcjbeaa
open Go.RowKit

/-- n lies in lo..hi -/
def inB (n lo hi : Int) : Bool := decide (lo ≤ n ∧ n ≤ hi)
theorem inB_of {n lo hi : Int} (h : lo ≤ n ∧ n ≤ hi) : inB n lo hi = true := decide_eq_true h
theorem inB_not {n lo hi : Int} (h : ¬ (lo ≤ n ∧ n ≤ hi)) : inB n lo hi = false := decide_eq_false h
theorem of_inB {n lo hi : Int} (h : inB n lo hi = true) : lo ≤ n ∧ n ≤ hi := of_decide_eq_true h
theorem of_inB_not {n lo hi : Int} (h : inB n lo hi = false) : ¬ (lo ≤ n ∧ n ≤ hi) := of_decide_eq_false h

theorem l6In_any (n lo hi : Int) (w : World) :
    Calls Try.prog 64 #[.int .i64 n, .int .i64 lo, .int .i64 hi] w fun e w' => e = .returned (.bool (inB n lo hi)) ∧ w = w' := by
  by_cases h1 : lo ≤ n
  · by_cases h2 : n ≤ hi
    · rw [inB_of ⟨h1, h2⟩]
      go_enter Try.func64, Try.ntmps64
      go_wp2
      go_ret
      exact ⟨rfl, rfl⟩
    · rw [inB_not (by omega)]
      go_enter Try.func64, Try.ntmps64
      go_wp2
      go_ret
      exact ⟨rfl, rfl⟩
  · rw [inB_not (by omega)]
    go_enter Try.func64, Try.ntmps64
    go_wp2
    go_ret
    exact ⟨rfl, rfl⟩

theorem placesFit_any (n : Int) (w : World) :
    Calls Try.prog 63 #[.int .i64 n] w fun e w' => e = .returned (.bool (inB n 1 12)) ∧ w = w' := by
  by_cases h1 : 1 ≤ n
  · by_cases h2 : n ≤ 12
    · rw [inB_of ⟨h1, h2⟩]
      go_enter Try.func63, Try.ntmps63
      go_wp2
      go_ret
      exact ⟨rfl, rfl⟩
    · rw [inB_not (by omega)]
      go_enter Try.func63, Try.ntmps63
      go_wp2
      go_ret
      exact ⟨rfl, rfl⟩
  · rw [inB_not (by omega)]
    go_enter Try.func63, Try.ntmps63
    go_wp2
    go_ret
    exact ⟨rfl, rfl⟩

/-- a page that nobody refers to, without a text -/
def freeB (s : ByteArray) (r : Int) : Bool := decide (s.toList = [] ∧ r = 0)
theorem freeB_of {s : ByteArray} {r : Int} (h : s.toList = [] ∧ r = 0) : freeB s r = true := decide_eq_true h
theorem freeB_not {s : ByteArray} {r : Int} (h : ¬ (s.toList = [] ∧ r = 0)) : freeB s r = false := decide_eq_false h
theorem kc {B : Nat} {w w' : World} (hb : Below B w w') : ∀ b o, b < B → w'.cell? ⟨b, o, none⟩ = w.cell? ⟨b, o, none⟩ := fun b o h => hb.cell (p := ⟨b, o, none⟩) h
theorem kf {B : Nat} {w w' : World} (hb : Below B w w') : ∀ b o, b < B → w'.frozen? ⟨b, o, none⟩ = w.frozen? ⟨b, o, none⟩ := fun b o h => hb.frozen (p := ⟨b, o, none⟩) h
theorem ret_bool {a b : Bool} (h : a = b) : Ending.returned (.bool a) = .returned (.bool b) := by rw [h]

theorem free_any (s : ByteArray) (r : Int) (w : World) :
    Calls Try.prog 68 #[.agg #[.string s, .int .i64 r]] w fun e w' => e = .returned (.bool (freeB s r)) ∧ Below w.heap.size w w' := by
  go_enter Try.func68, Try.ntmps68
  go_wp2
  · go_ret
    exact ⟨ret_bool (freeB_of ⟨‹_›, ‹_›⟩).symm, (Below.refl _ _).alloc (Nat.le_refl _) _⟩
  · go_ret
    exact ⟨ret_bool (freeB_not fun h => ‹¬ r = 0› h.2).symm, (Below.refl _ _).alloc (Nat.le_refl _) _⟩
  · go_ret
    exact ⟨ret_bool (freeB_not fun h => ‹¬ s.toList = []› h.1).symm, (Below.refl _ _).alloc (Nat.le_refl _) _⟩

/-- a page that may be in a place -/
def okP (s : ByteArray) (r : Int) : Bool := freeB s r || decide (1 ≤ r ∧ r ≤ 99 ∧ (s.size : Int) = 4)
theorem okP_free {s : ByteArray} {r : Int} (h : freeB s r = true) : okP s r = true := by unfold okP; rw [h]; rfl
theorem okP_of {s : ByteArray} {r : Int} (h : 1 ≤ r ∧ r ≤ 99 ∧ (s.size : Int) = 4) : okP s r = true := by unfold okP; rw [decide_eq_true h, Bool.or_true]
theorem okP_not {s : ByteArray} {r : Int} (hf : freeB s r = false) (h : ¬ (1 ≤ r ∧ r ≤ 99 ∧ (s.size : Int) = 4)) : okP s r = false := by unfold okP; rw [hf, decide_eq_false h]; rfl

theorem pageok_any (s : ByteArray) (r : Int) (w : World) (_hs : s.size ≤ maxLen) :
    Calls Try.prog 67 #[.agg #[.string s, .int .i64 r]] w fun e w' => e = .returned (.bool (okP s r)) ∧ Below w.heap.size w w' := by
  unfold maxLen at _hs
  go_enter Try.func67, Try.ntmps67
  go_wp2_with (go_at_call 68; refine (free_any _ _ _).mono ?_; rintro e w1 ⟨rfl, hb1⟩; have hc1 := kc hb1)
  all_goals go_ret
  all_goals refine ⟨ret_bool ?_, ((Below.refl _ _).alloc (Nat.le_refl _) _).trans (hb1.mono (by simp))⟩
  · exact (okP_free ‹_›).symm
  · have hf : freeB s r = false := by simpa using ‹¬freeB s r = true›
    unfold okP; rw [hf, Bool.false_or, Bool.eq_iff_iff]; simp; omega
  · exact (okP_not (by simpa using ‹¬freeB s r = true›) (by omega)).symm
  · exact (okP_not (by simpa using ‹¬freeB s r = true›) (by omega)).symm

theorem in_any (s : ByteArray) (r : Int) (k : Nat) (A A2 : Nat) (o o2 : Nat) (n c m d : Nat) (w : World) (hk : k < n) (hk2 : k < m)
    (hs : w.cell? ⟨A, o + k, none⟩ = some (.string s)) (hr : w.cell? ⟨A2, o2 + k, none⟩ = some (.int .i64 r)) (hA : A < w.heap.size) (hA2 : A2 < w.heap.size) :
    Calls Try.prog 66 #[.agg #[.slice (some ⟨A, o, none⟩) n c, .slice (some ⟨A2, o2, none⟩) m d], .int .i64 k] w fun e w' =>
      e = .returned (.agg #[.string s, .int .i64 r]) ∧ Below w.heap.size w w' := by
  have hk' : (k : Int) < n := by omega
  have hk2' : (k : Int) < m := by omega
  have h0 : (0 : Int) ≤ k := by omega
  go_enter Try.func66, Try.ntmps66
  go_wp2
  go_region
  go_wp2
  refine bodyPost_ret (v := .agg #[.string s, .int .i64 r]) (by simp [results, Try.results66, go_sem]) rfl ⟨rfl, ?_⟩
  exact (((Below.refl _ _).alloc (Nat.le_refl _) _).alloc (by simp) _).drew
end Go.Proofs.Ytemmcjjfjcjbeaa

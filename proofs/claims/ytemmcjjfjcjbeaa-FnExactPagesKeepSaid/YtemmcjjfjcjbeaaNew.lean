/-
  PagesNew of the program and of the model: each makes so many free places of its own, or nothing.
-/
import Derived.Test.YtemmcjjfjcjbeaaMark
namespace Go.Proofs.Ytemmcjjfjcjbeaa
open Go.RowKit

theorem mk9 (n : Nat) (hn : n ≤ 1048576) (u : World) : (Instr.makeSlice 24 (.int .i64 (n : Int)) (.int .i64 (n : Int))).run Try.prog u = .ok (.slice (some ⟨u.heap.size, 0, none⟩) n n) (u.alloc (.cells (madeCells #[.string .empty] n) 9)) :=
  run_make_row' 24 9 (.string .empty) 16 Try.underlying24 info9 rfl _ _ n (by omega) (by omega) u
theorem mk3 (n : Nat) (hn : n ≤ 1048576) (u : World) : (Instr.makeSlice 25 (.int .i64 (n : Int)) (.int .i64 (n : Int))).run Try.prog u = .ok (.slice (some ⟨u.heap.size, 0, none⟩) n n) (u.alloc (.cells (madeCells #[.int .i64 0] n) 3)) :=
  run_make_row' 25 3 (.int .i64 0) 8 Try.underlying25 info3 rfl _ _ n (by omega) (by omega) u

theorem getD_rep {α : Type} (n k : Nat) (d : α) : (List.replicate n d).getD k d = d := by
  rw [List.getD_eq_getElem?_getD, List.getElem?_replicate]
  split <;> rfl

/-- free places, newly made -/
theorem gp_new {w : World} {lo b b2 n : Nat} (hn : n ≤ 1048576) (h1 : lo ≤ b) (h2 : lo ≤ b2) (hr : w.rowIs b 9 n fun _ => .string .empty) (hr2 : w.rowIs b2 3 n fun _ => .int .i64 0) :
    Gp w lo (some ⟨b, 0, none⟩) n (some ⟨b2, 0, none⟩) n (List.replicate n .empty) (List.replicate n 0) :=
  ⟨List.length_replicate, List.length_replicate, hn, hn, fun k => by rw [getD_rep]; simp [maxLen], fun _ => ⟨b, rfl, h1, hr.congr fun i _ => by rw [getD_rep]⟩, fun _ => ⟨b2, rfl, h2, hr2.congr fun i _ => by rw [getD_rep]⟩⟩
theorem gp_nil (w : World) (lo : Nat) : Gp w lo none 0 none 0 [] [] :=
  ⟨rfl, rfl, by omega, by omega, fun k => by simp [maxLen], fun h => absurd h (Nat.lt_irrefl 0), fun h => absurd h (Nat.lt_irrefl 0)⟩

/-- how many places PagesNew makes -/
def newN (x : Int) : Nat := if inB x 1 12 = true then x.toNat else 0
theorem newN_le (x : Int) : newN x ≤ 12 := by
  unfold newN
  split
  · have := of_inB (by assumption : inB x 1 12 = true)
    omega
  · omega

section
variable {w : World}
theorem new_yes (n : Nat) (h1 : 1 ≤ n) (h2 : n ≤ 12) :
    Calls Try.prog 22 #[.int .i64 n] w fun e w' => ∃ b b2, e = .returned (.tuple #[.agg #[.slice (some ⟨b, 0, none⟩) n n, .slice (some ⟨b2, 0, none⟩) n n], .bool true]) ∧
      Gp w' w.heap.size (some ⟨b, 0, none⟩) n (some ⟨b2, 0, none⟩) n (List.replicate n .empty) (List.replicate n 0) ∧ Below w.heap.size w w' := by
  have hin : inB (n : Int) 1 12 = true := inB_of (by omega)
  have m9 := mk9 n (by omega)
  have m3 := mk3 n (by omega)
  go_enter Try.func22, Try.ntmps22
  go_wp2_with (go_at_call 63; refine (placesFit_any _ _).mono ?_; rintro e w1 ⟨rfl, rfl⟩)
  go_region
  · go_wp2
    have r1 := World.rowIs_made (w.alloc (.cells #[.slice (some ⟨w.heap.size + 1, 0, none⟩) n n, .slice (some ⟨w.heap.size + 1 + 1, 0, none⟩) n n] 27)) (.string .empty) n 9
    have r2 := World.rowIs_made ((w.alloc (.cells #[.slice (some ⟨w.heap.size + 1, 0, none⟩) n n, .slice (some ⟨w.heap.size + 1 + 1, 0, none⟩) n n] 27)).alloc (.cells (madeCells #[.string .empty] n) 9)) (.int .i64 0) n 3
    simp only [World.size_alloc] at r1 r2
    refine bodyPost_ret (v := .tuple #[.agg #[.slice (some ⟨w.heap.size + 1, 0, none⟩) n n, .slice (some ⟨w.heap.size + 1 + 1, 0, none⟩) n n], .bool true]) (by simp [results, Try.results22, go_sem]) rfl ⟨_, _, rfl, ?_, ?_⟩
    · exact gp_new (by omega) (by omega) (by omega) (r1.alloc _).drew r2.drew
    · exact ((((Below.refl _ _).alloc (Nat.le_refl _) _).alloc (by simp) _).alloc (by simp; omega) _).drew
  · go_wp2
    have r1 := World.rowIs_made (w.alloc (.cells #[.slice (some ⟨w.heap.size + 1 + 1, 0, none⟩) n n, .slice (some ⟨w.heap.size + 1, 0, none⟩) n n] 27)) (.int .i64 0) n 3
    have r2 := World.rowIs_made ((w.alloc (.cells #[.slice (some ⟨w.heap.size + 1 + 1, 0, none⟩) n n, .slice (some ⟨w.heap.size + 1, 0, none⟩) n n] 27)).alloc (.cells (madeCells #[.int .i64 0] n) 3)) (.string .empty) n 9
    simp only [World.size_alloc] at r1 r2
    refine bodyPost_ret (v := .tuple #[.agg #[.slice (some ⟨w.heap.size + 1 + 1, 0, none⟩) n n, .slice (some ⟨w.heap.size + 1, 0, none⟩) n n], .bool true]) (by simp [results, Try.results22, go_sem]) rfl ⟨_, _, rfl, ?_, ?_⟩
    · exact gp_new (by omega) (by omega) (by omega) r2.drew (r1.alloc _).drew
    · exact ((((Below.refl _ _).alloc (Nat.le_refl _) _).alloc (by simp) _).alloc (by simp; omega) _).drew

theorem new_no (x : Int) (hin : inB x 1 12 = false) :
    Calls Try.prog 22 #[.int .i64 x] w fun e w' => e = .returned (.tuple #[.agg #[.slice none 0 0, .slice none 0 0], .bool false]) ∧ Below w.heap.size w w' := by
  go_enter Try.func22, Try.ntmps22
  go_wp2_with (go_at_call 63; refine (placesFit_any _ _).mono ?_; rintro e w1 ⟨rfl, rfl⟩)
  refine bodyPost_ret (v := .tuple #[.agg #[.slice none 0 0, .slice none 0 0], .bool false]) (by simp [results, Try.results22, go_sem]) rfl ⟨rfl, ?_⟩
  exact (Below.refl _ _).alloc (Nat.le_refl _) _

/-- what PagesNew answers, whatever it is asked -/
theorem new_any (x : Int) :
    Calls Try.prog 22 #[.int .i64 x] w fun e w' => ∃ (A B : Option Addr), e = .returned (.tuple #[.agg #[.slice A (newN x) (newN x), .slice B (newN x) (newN x)], .bool (inB x 1 12)]) ∧
      Gp w' w.heap.size A (newN x) B (newN x) (List.replicate (newN x) .empty) (List.replicate (newN x) 0) ∧ Below w.heap.size w w' := by
  by_cases hin : inB x 1 12 = true
  · obtain ⟨h1, h2⟩ := of_inB hin
    obtain ⟨n, rfl⟩ : ∃ n : Nat, x = n := ⟨x.toNat, by omega⟩
    have e : newN (n : Int) = n := by unfold newN; rw [if_pos hin]; omega
    rw [e, hin]
    refine (new_yes n (by omega) (by omega)).mono ?_
    rintro e w' ⟨b, b2, he, hg, hb⟩
    exact ⟨_, _, he, hg, hb⟩
  · have hin' : inB x 1 12 = false := by simpa using hin
    have e : newN x = 0 := by unfold newN; rw [if_neg hin]
    rw [e, hin']
    refine (new_no x hin').mono ?_
    rintro e w' ⟨he, hb⟩
    exact ⟨none, none, he, gp_nil _ _, hb⟩

theorem news_yes (n : Nat) (h1 : 1 ≤ n) (h2 : n ≤ 12) :
    Calls Try.prog 23 #[.int .i64 n] w fun e w' => ∃ b b2, e = .returned (.tuple #[.agg #[.slice (some ⟨b, 0, none⟩) n n, .slice (some ⟨b2, 0, none⟩) n n], .bool true]) ∧
      Gp w' w.heap.size (some ⟨b, 0, none⟩) n (some ⟨b2, 0, none⟩) n (List.replicate n .empty) (List.replicate n 0) ∧ Below w.heap.size w w' := by
  have hin : inB (n : Int) 1 12 = true := inB_of (by omega)
  have m9 := mk9 n (by omega)
  have m3 := mk3 n (by omega)
  go_enter Try.func23, Try.ntmps23
  go_wp2_with (go_at_call 64; refine (l6In_any _ _ _ _).mono ?_; rintro e w1 ⟨rfl, rfl⟩)
  go_region
  · go_wp2
    have r1 := World.rowIs_made (w.alloc (.cells #[.slice (some ⟨w.heap.size + 1, 0, none⟩) n n, .slice (some ⟨w.heap.size + 1 + 1, 0, none⟩) n n] 27)) (.string .empty) n 9
    have r2 := World.rowIs_made ((w.alloc (.cells #[.slice (some ⟨w.heap.size + 1, 0, none⟩) n n, .slice (some ⟨w.heap.size + 1 + 1, 0, none⟩) n n] 27)).alloc (.cells (madeCells #[.string .empty] n) 9)) (.int .i64 0) n 3
    simp only [World.size_alloc] at r1 r2
    refine bodyPost_ret (v := .tuple #[.agg #[.slice (some ⟨w.heap.size + 1, 0, none⟩) n n, .slice (some ⟨w.heap.size + 1 + 1, 0, none⟩) n n], .bool true]) (by simp [results, Try.results23, go_sem]) rfl ⟨_, _, rfl, ?_, ?_⟩
    · exact gp_new (by omega) (by omega) (by omega) (r1.alloc _).drew r2.drew
    · exact ((((Below.refl _ _).alloc (Nat.le_refl _) _).alloc (by simp) _).alloc (by simp; omega) _).drew
  · go_wp2
    have r1 := World.rowIs_made (w.alloc (.cells #[.slice (some ⟨w.heap.size + 1 + 1, 0, none⟩) n n, .slice (some ⟨w.heap.size + 1, 0, none⟩) n n] 27)) (.int .i64 0) n 3
    have r2 := World.rowIs_made ((w.alloc (.cells #[.slice (some ⟨w.heap.size + 1 + 1, 0, none⟩) n n, .slice (some ⟨w.heap.size + 1, 0, none⟩) n n] 27)).alloc (.cells (madeCells #[.int .i64 0] n) 3)) (.string .empty) n 9
    simp only [World.size_alloc] at r1 r2
    refine bodyPost_ret (v := .tuple #[.agg #[.slice (some ⟨w.heap.size + 1 + 1, 0, none⟩) n n, .slice (some ⟨w.heap.size + 1, 0, none⟩) n n], .bool true]) (by simp [results, Try.results23, go_sem]) rfl ⟨_, _, rfl, ?_, ?_⟩
    · exact gp_new (by omega) (by omega) (by omega) r2.drew (r1.alloc _).drew
    · exact ((((Below.refl _ _).alloc (Nat.le_refl _) _).alloc (by simp) _).alloc (by simp; omega) _).drew

theorem news_no (x : Int) (hin : inB x 1 12 = false) :
    Calls Try.prog 23 #[.int .i64 x] w fun e w' => e = .returned (.tuple #[.agg #[.slice none 0 0, .slice none 0 0], .bool false]) ∧ Below w.heap.size w w' := by
  go_enter Try.func23, Try.ntmps23
  go_wp2_with (go_at_call 64; refine (l6In_any _ _ _ _).mono ?_; rintro e w1 ⟨rfl, rfl⟩)
  refine bodyPost_ret (v := .tuple #[.agg #[.slice none 0 0, .slice none 0 0], .bool false]) (by simp [results, Try.results23, go_sem]) rfl ⟨rfl, ?_⟩
  exact (Below.refl _ _).alloc (Nat.le_refl _) _

/-- what PagesNew answers, whatever it is asked -/
theorem news_any (x : Int) :
    Calls Try.prog 23 #[.int .i64 x] w fun e w' => ∃ (A B : Option Addr), e = .returned (.tuple #[.agg #[.slice A (newN x) (newN x), .slice B (newN x) (newN x)], .bool (inB x 1 12)]) ∧
      Gp w' w.heap.size A (newN x) B (newN x) (List.replicate (newN x) .empty) (List.replicate (newN x) 0) ∧ Below w.heap.size w w' := by
  by_cases hin : inB x 1 12 = true
  · obtain ⟨h1, h2⟩ := of_inB hin
    obtain ⟨n, rfl⟩ : ∃ n : Nat, x = n := ⟨x.toNat, by omega⟩
    have e : newN (n : Int) = n := by unfold newN; rw [if_pos hin]; omega
    rw [e, hin]
    refine (news_yes n (by omega) (by omega)).mono ?_
    rintro e w' ⟨b, b2, he, hg, hb⟩
    exact ⟨_, _, he, hg, hb⟩
  · have hin' : inB x 1 12 = false := by simpa using hin
    have e : newN x = 0 := by unfold newN; rw [if_neg hin]
    rw [e, hin']
    refine (news_no x hin').mono ?_
    rintro e w' ⟨he, hb⟩
    exact ⟨none, none, he, gp_nil _ _, hb⟩

end
end Go.Proofs.Ytemmcjjfjcjbeaa

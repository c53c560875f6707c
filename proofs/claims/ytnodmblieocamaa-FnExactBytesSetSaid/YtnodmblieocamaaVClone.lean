/-
  The program's slices.Clone of areas, numbers and texts.
-/
import Derived.Test.YtnodmblieocamaaVCopy
import Derived.Lib.SliceRun
namespace Go.Proofs.Ytnodmblieocamaa
open Go.RowKit

set_option maxHeartbeats 1000000 in
theorem cloneI_any {w : World} {hi n c : Nat} {A : Option Addr} {l : List Int} (hr : RowF elI w hi A n l) (hl : l.length = n) (hs : n ≤ 1048576) :
    Calls Try.prog 50 #[.slice A n c] w fun e w' => ∃ A' c' fp, e = .returned (.slice A' n c') ∧ RowM elI w' fp A' n l ∧ (∀ b ∈ fp, w.heap.size ≤ b ∧ b < w'.heap.size) ∧ Below w.heap.size w w' := by
  have HR := Lib.hid hr
  have HL := Lib.hid hl
  clear hr hl
  have hnil : ∀ (w : World) (a : Option Addr) (n c n' c' : Nat), (binOp .eql 41 (.slice a n c) (.slice none n' c')).run Try.prog w = .ok (.bool a.isNone) w := fun w a n c n' c' => Lib.run_eql_slice_nil w _ _ a n c n' c' Try.underlying41
  have B3 := Lib.hid (Box.new w #[] 3)
  have HB := Lib.hid (show Below w.heap.size w (w.alloc (.cells #[] 3)) from (Below.refl _ _).alloc (Nat.le_refl _) _)
  cases A with
  | none =>
    obtain rfl : n = 0 := by
      rcases Nat.eq_zero_or_pos n with h | h
      · exact h
      · obtain ⟨_, _, e, _⟩ := HR.out h
        cases e
    go_enter Try.func50, Try.ntmps50
    go_wp2_with fail
    refine bodyPost_ret (v := .slice none 0 0) (by simp [results, Try.results50, go_sem]) rfl ⟨_, _, [], rfl, fun h => absurd h (Nat.lt_irrefl 0), fun b h => absurd h List.not_mem_nil, Below.refl _ _⟩
  | some ad =>
    go_enter Try.func50, Try.ntmps50
    go_wp2_with (at_builtin
                 refine wpList_copyI rfl _ _ rfl (X := w.heap.size) (n := n) (c := c) (A := some ad) (l := l) rfl B3.out rfl (HR.out.wb HB.out) HL.out hs ?_
                 intro A' c' fp w1 hm hf _ hg
                 have HM := Lib.hid hm
                 have HF := Lib.hid hf
                 have HB1 := Lib.hid (HB.out.grown hg HB.out.size (fun k e => by injection e with e; omega))
                 clear hm hf hg)
    refine bodyPost_ret (v := .slice A' n c') (by simp [results, Try.results50, go_sem]) rfl ⟨_, _, fp, rfl, HM.out, HF.out, HB1.out⟩
set_option maxHeartbeats 1000000 in
theorem cloneS_any {w : World} {hi n c : Nat} {A : Option Addr} {l : List ByteArray} (hr : RowF elS w hi A n l) (hl : l.length = n) (hs : n ≤ 1048576) :
    Calls Try.prog 51 #[.slice A n c] w fun e w' => ∃ A' c' fp, e = .returned (.slice A' n c') ∧ RowM elS w' fp A' n l ∧ (∀ b ∈ fp, w.heap.size ≤ b ∧ b < w'.heap.size) ∧ Below w.heap.size w w' := by
  have HR := Lib.hid hr
  have HL := Lib.hid hl
  clear hr hl
  have hnil : ∀ (w : World) (a : Option Addr) (n c n' c' : Nat), (binOp .eql 42 (.slice a n c) (.slice none n' c')).run Try.prog w = .ok (.bool a.isNone) w := fun w a n c n' c' => Lib.run_eql_slice_nil w _ _ a n c n' c' Try.underlying42
  have B3 := Lib.hid (Box.new w #[] 9)
  have HB := Lib.hid (show Below w.heap.size w (w.alloc (.cells #[] 9)) from (Below.refl _ _).alloc (Nat.le_refl _) _)
  cases A with
  | none =>
    obtain rfl : n = 0 := by
      rcases Nat.eq_zero_or_pos n with h | h
      · exact h
      · obtain ⟨_, _, e, _⟩ := HR.out h
        cases e
    go_enter Try.func51, Try.ntmps51
    go_wp2_with fail
    refine bodyPost_ret (v := .slice none 0 0) (by simp [results, Try.results51, go_sem]) rfl ⟨_, _, [], rfl, fun h => absurd h (Nat.lt_irrefl 0), fun b h => absurd h List.not_mem_nil, Below.refl _ _⟩
  | some ad =>
    go_enter Try.func51, Try.ntmps51
    go_wp2_with (at_builtin
                 refine wpList_copyS rfl _ _ rfl (X := w.heap.size) (n := n) (c := c) (A := some ad) (l := l) rfl B3.out rfl (HR.out.wb HB.out) HL.out hs ?_
                 intro A' c' fp w1 hm hf _ hg
                 have HM := Lib.hid hm
                 have HF := Lib.hid hf
                 have HB1 := Lib.hid (HB.out.grown hg HB.out.size (fun k e => by injection e with e; omega))
                 clear hm hf hg)
    refine bodyPost_ret (v := .slice A' n c') (by simp [results, Try.results51, go_sem]) rfl ⟨_, _, fp, rfl, HM.out, HF.out, HB1.out⟩
set_option maxHeartbeats 1000000 in
theorem cloneA_any {w : World} {hi n c : Nat} {A : Option Addr} {l : List EArea} (hr : RowF elArea w hi A n l) (hl : l.length = n) (hs : n ≤ 1048576) :
    Calls Try.prog 49 #[.slice A n c] w fun e w' => ∃ A' c' fp, e = .returned (.slice A' n c') ∧ RowM elArea w' fp A' n l ∧ (∀ b ∈ fp, w.heap.size ≤ b ∧ b < w'.heap.size) ∧ Below w.heap.size w w' := by
  have HR := Lib.hid hr
  have HL := Lib.hid hl
  clear hr hl
  have hnil : ∀ (w : World) (a : Option Addr) (n c n' c' : Nat), (binOp .eql 40 (.slice a n c) (.slice none n' c')).run Try.prog w = .ok (.bool a.isNone) w := fun w a n c n' c' => Lib.run_eql_slice_nil w _ _ a n c n' c' Try.underlying40
  have B3 := Lib.hid (Box.new w #[] 47)
  have HB := Lib.hid (show Below w.heap.size w (w.alloc (.cells #[] 47)) from (Below.refl _ _).alloc (Nat.le_refl _) _)
  cases A with
  | none =>
    obtain rfl : n = 0 := by
      rcases Nat.eq_zero_or_pos n with h | h
      · exact h
      · obtain ⟨_, _, e, _⟩ := HR.out h
        cases e
    go_enter Try.func49, Try.ntmps49
    go_wp2_with fail
    refine bodyPost_ret (v := .slice none 0 0) (by simp [results, Try.results49, go_sem]) rfl ⟨_, _, [], rfl, fun h => absurd h (Nat.lt_irrefl 0), fun b h => absurd h List.not_mem_nil, Below.refl _ _⟩
  | some ad =>
    go_enter Try.func49, Try.ntmps49
    go_wp2_with (at_builtin
                 refine wpList_copyA rfl _ _ rfl (X := w.heap.size) (n := n) (c := c) (A := some ad) (l := l) rfl B3.out rfl (HR.out.wb HB.out) HL.out hs ?_
                 intro A' c' fp w1 hm hf _ hg
                 have HM := Lib.hid hm
                 have HF := Lib.hid hf
                 have HB1 := Lib.hid (HB.out.grown hg HB.out.size (fun k e => by injection e with e; omega))
                 clear hm hf hg)
    refine bodyPost_ret (v := .slice A' n c') (by simp [results, Try.results49, go_sem]) rfl ⟨_, _, fp, rfl, HM.out, HF.out, HB1.out⟩
end Go.Proofs.Ytnodmblieocamaa

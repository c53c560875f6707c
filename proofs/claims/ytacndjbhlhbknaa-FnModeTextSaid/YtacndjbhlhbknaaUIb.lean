/-
  The program's slices.Clone, and the methods has and as of a Cred.
-/
import Derived.Test.YtacndjbhlhbknaaUIa
import Derived.Lib.SliceRun
namespace Go.Proofs.Ytacndjbhlhbknaa
open Go.RowKit

set_option maxHeartbeats 1000000 in
theorem clone_any {w : World} {hi n c : Nat} {A : Option Addr} {l : List Int} (hr : RowF elI w hi A n l) (hl : l.length = n) (hs : n ≤ 1048576) :
    Calls Try.prog 67 #[.slice A n c] w fun e w' => ∃ A' c' fp, e = .returned (.slice A' n c') ∧ RowM elI w' fp A' n l ∧ (∀ b ∈ fp, w.heap.size ≤ b ∧ b < w'.heap.size) ∧ Below w.heap.size w w' := by
  have HR := Lib.hid hr
  have HL := Lib.hid hl
  clear hr hl
  have hnil : ∀ (w : World) (a : Option Addr) (n c n' c' : Nat), (binOp .eql 23 (.slice a n c) (.slice none n' c')).run Try.prog w = .ok (.bool a.isNone) w := fun w a n c n' c' => Lib.run_eql_slice_nil w _ _ a n c n' c' Try.underlying23
  by_cases hz : 0 < n
  · obtain ⟨b, o, rfl, hbh, hb0, _⟩ := HR.out hz
    obtain ⟨i0, hi0, hz0, hz1, hz2⟩ := infoInt
    have HI := Lib.hid hi0
    have HZ0 := Lib.hid hz0
    have HZ1 := Lib.hid hz1
    have HZ2 := Lib.hid hz2
    clear hi0 hz0 hz1 hz2
    have B3 := Lib.hid (Box.new w #[] 3)
    have HB := Lib.hid (show Below w.heap.size w (w.alloc (.cells #[] 3)) from (Below.refl _ _).alloc (Nat.le_refl _) _)
    go_enter Try.func67, Try.ntmps67
    go_wp2_with (at_builtin
                 refine wpList_append_lies _ rfl _ _ 23 rfl w.heap.size 3 i0 (.int .i64 0) 1 8 Try.underlying23 HI.out HZ0.out HZ1.out HZ2.out rfl (by decide) (.slice (some ⟨w.heap.size, 0, none⟩) 0 0) 0 [] ?hs0 (own_empty' B3.out (by omega)) ⟨b, o, none⟩ n c (l.flatMap elI.C) ?hx0 ?hl0 ?hn0 ?h10 hz ?h63 ?hby ?hba _ rfl ?_
                 case hs0 => rfl
                 case hx0 => rfl
                 case hl0 => rw [flat_len, HL.out]; rfl
                 case hn0 => exact (HR.out.wb HB.out).news HL.out (by decide)
                 case h10 =>
                   intro q hq
                   obtain ⟨z, _, hz2⟩ := List.mem_flatMap.1 hq
                   rw [List.mem_singleton.1 hz2]
                   rfl
                 case h63 => simp only [maxLen]; omega
                 case hby => omega
                 case hba => exact HB.out.size
                 intro g cap w1 hown hg hat hlt
                 rw [Nat.zero_add, List.nil_append] at hown
                 rw [Nat.zero_add]
                 have HM := Lib.hid (RowM.of_owns hown HL.out)
                 have hge := (hown.lt g rfl).1
                 have HB1 := Lib.hid (HB.out.grown hg HB.out.size (fun k e => by simp [Value.ownBlock] at e; omega))
                 clear hown hg hat)
    refine bodyPost_ret (v := .slice (some ⟨g, 0, none⟩) n cap) (by simp [results, Try.results67, go_sem]) rfl ⟨_, _, [g], rfl, HM.out, ?_, HB1.out⟩
    intro x hx
    rw [List.mem_singleton] at hx
    subst hx
    exact ⟨hge, hlt⟩
  · obtain rfl : n = 0 := by omega
    cases A
    · go_enter Try.func67, Try.ntmps67
      go_wp2_with fail
      refine bodyPost_ret (v := .slice none 0 0) (by simp [results, Try.results67, go_sem]) rfl ⟨_, _, [], rfl, fun h => absurd h (Nat.lt_irrefl 0), fun b h => absurd h List.not_mem_nil, Below.refl _ _⟩
    · go_enter Try.func67, Try.ntmps67
      go_wp2_with fail
      refine bodyPost_ret (v := .slice (some ⟨w.heap.size, 0, none⟩) 0 0) (by simp [results, Try.results67, go_sem]) rfl ⟨_, _, [], rfl, fun h => absurd h (Nat.lt_irrefl 0), fun b h => absurd h List.not_mem_nil, (Below.refl _ _).alloc (Nat.le_refl _) _⟩

def hasU (D : Cr) (n : Int) : Bool := decide (n = D.1) || decide (n = D.2.1)
theorem has_any {w : World} {u v : Int} {A : Option Addr} {n c : Nat} {l : List Int} (x : Int) :
    Calls Try.prog 52 #[.agg #[.int .i64 u, .int .i64 v, .slice A n c], .int .i64 x] w fun e w' => e = .returned (.bool (hasU (u, v, l) x)) ∧ Below w.heap.size w w' := by
  unfold hasU
  dsimp only
  by_cases h1 : x = u
  · subst h1
    go_enter Try.func52, Try.ntmps52
    go_wp2_with fail
    go_ret
    exact ⟨ret_bool (by simp), (Below.refl _ _).alloc (Nat.le_refl _) _⟩
  · by_cases h2 : x = v
    · subst h2
      have e1 : (x == u) = false := by simpa using h1
      go_enter Try.func52, Try.ntmps52
      go_wp2_with fail
      go_ret
      exact ⟨ret_bool (by simp), (Below.refl _ _).alloc (Nat.le_refl _) _⟩
    · have e1 : (x == u) = false := by simpa using h1
      have e2 : (x == v) = false := by simpa using h2
      go_enter Try.func52, Try.ntmps52
      go_wp2_with fail
      go_ret
      exact ⟨ret_bool (by simp [h1, h2]), (Below.refl _ _).alloc (Nat.le_refl _) _⟩

set_option maxHeartbeats 1000000 in
theorem as_any {w : World} {hi : Nat} {u v : Int} {A : Option Addr} {n c : Nat} {l : List Int} (x y : Int) (hr : RowF elI w hi A n l) (hl : l.length = n) (hs : n ≤ 1048576) :
    Calls Try.prog 51 #[.agg #[.int .i64 u, .int .i64 v, .slice A n c], .int .i64 x, .int .i64 y] w fun e w' => ∃ A' c' fp, e = .returned (.agg #[.int .i64 x, .int .i64 y, .slice A' n c']) ∧ RowM elI w' fp A' n l ∧ (∀ b ∈ fp, w.heap.size ≤ b ∧ b < w'.heap.size) ∧ Below w.heap.size w w' := by
  have HR := Lib.hid hr
  have HL := Lib.hid hl
  clear hr hl
  have B2 := Lib.hid (Box.new (w.alloc (.cells #[.int .i64 u, .int .i64 v, .slice A n c] 25)) #[.int .i64 0, .int .i64 0, .slice none 0 0] 25)
  have HB := Lib.hid (show Below w.heap.size w ((w.alloc (.cells #[.int .i64 u, .int .i64 v, .slice A n c] 25)).alloc (.cells #[.int .i64 0, .int .i64 0, .slice none 0 0] 25)) from ((Below.refl _ _).alloc (Nat.le_refl _) _).alloc (by simp only [World.size_alloc]; omega) _)
  simp only [World.size_alloc] at B2
  go_enter Try.func51, Try.ntmps51
  go_wp2_with fail
  refine (clone_any (HR.out.wb HB.out) HL.out hs).mono ?_
  rintro e w1 ⟨A', c', fp, rfl, hm, hf, hb1⟩
  have HB1 := Lib.hid (HB.out.trans (hb1.mono HB.out.size))
  have C1 := Lib.hid (B2.out.below hb1 B2.out.lt)
  have HM := Lib.hid hm
  have HF := Lib.hid (fun b hb => (show w.heap.size + 1 < b ∧ b < w1.heap.size from by have h := hf b hb; simp only [World.size_alloc] at h; omega))
  clear hb1 hm hf
  have p0 := C1.out.frz 0
  have p1 := C1.out.frz 1
  have p2 := C1.out.frz 2
  have r0 := C1.out.cell 0
  have r1 := C1.out.cell 1
  have r2 := C1.out.cell 2
  have u1 := C1.out.lt
  simp at r0 r1 r2
  go_wp2_with fail
  refine bodyPost_ret (v := .agg #[.int .i64 x, .int .i64 y, .slice A' n c']) (by simp [results, Try.results51, go_sem, r0, r1, r2]) rfl ⟨_, _, fp, rfl, ?_, ?_, ?_⟩
  · exact ((HM.out.setOther ⟨w.heap.size + 1, 0, none⟩ _ (fun b hb => by have h := HF.out b hb; show b ≠ w.heap.size + 1; omega)).setOther ⟨w.heap.size + 1, 1, none⟩ _ (fun b hb => by have h := HF.out b hb; show b ≠ w.heap.size + 1; omega)).setOther ⟨w.heap.size + 1, 2, none⟩ _ (fun b hb => by have h := HF.out b hb; show b ≠ w.heap.size + 1; omega)
  · intro b hb
    have h := HF.out b hb
    simp only [World.size_setCell]
    omega
  · exact (((HB1.out.setCell (p := ⟨w.heap.size + 1, 0, none⟩) (by show w.heap.size ≤ w.heap.size + 1; omega) _).setCell (p := ⟨w.heap.size + 1, 1, none⟩) (by show w.heap.size ≤ w.heap.size + 1; omega) _).setCell (p := ⟨w.heap.size + 1, 2, none⟩) (by show w.heap.size ≤ w.heap.size + 1; omega) _)
end Go.Proofs.Ytacndjbhlhbknaa

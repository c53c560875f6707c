/-
  The program's slices.Clone, slices.Index and first.
-/
import Derived.Test.YtncinocpdeokgaaGIb
import Derived.Test.YtncinocpdeokgaaGIc
import Derived.Lib.SliceRun
import Derived.Lib.SliceRun
import Derived.Lib.SliceRun
import Derived.Lib.SliceRun
import Derived.Lib.SliceRun
import Derived.Lib.SliceRun
import Derived.Lib.SliceRun
import Derived.Lib.SliceRun
import Derived.Lib.SliceRun
import Derived.Lib.SliceRun
namespace Go.Proofs.Ytncinocpdeokgaa
open Go.RowKit

section
variable {w : World}
set_option maxHeartbeats 1000000 in
theorem cloneB {hi b o c : Nat} {l : List Bool} (hr : RowF elB w hi (some ⟨b, o, none⟩) 8 l) (hl : l.length = 8) :
    Calls Try.prog 85 #[.slice (some ⟨b, o, none⟩) 8 c] w fun e w' => ∃ g c', e = .returned (.slice (some ⟨g, 0, none⟩) 8 c') ∧ RowM elB w' [g] (some ⟨g, 0, none⟩) 8 l ∧ w.heap.size ≤ g ∧ g < w'.heap.size ∧ 8 ≤ c' ∧ Below w.heap.size w w' := by
  have HR := Lib.hid hr
  have HL := Lib.hid hl
  clear hr hl
  have hnil : ∀ (w : World) (a : Option Addr) (n c n' c' : Nat), (binOp .eql 23 (.slice a n c) (.slice none n' c')).run Try.prog w = .ok (.bool a.isNone) w := fun w a n c n' c' => Lib.run_eql_slice_nil w _ _ a n c n' c' Try.underlying23
  obtain ⟨i0, hi0, hz0, hz1, hz2⟩ := infoBool
  have HI := Lib.hid hi0
  have HZ0 := Lib.hid hz0
  have HZ1 := Lib.hid hz1
  have HZ2 := Lib.hid hz2
  clear hi0 hz0 hz1 hz2
  have B3 := Lib.hid (Box.new w #[] 4)
  have HB := Lib.hid (show Below w.heap.size w (w.alloc (.cells #[] 4)) from (Below.refl _ _).alloc (Nat.le_refl _) _)
  go_enter Try.func85, Try.ntmps85
  go_wp2_with (at_builtin
               refine wpList_append_lies _ rfl _ _ 23 rfl w.heap.size 4 i0 (.bool false) 1 1 Try.underlying23 HI.out HZ0.out HZ1.out HZ2.out rfl (by decide) (.slice (some ⟨w.heap.size, 0, none⟩) 0 0) 0 [] ?hs0 (own_empty' B3.out (by omega)) ⟨b, o, none⟩ 8 c (l.flatMap elB.C) ?hx0 ?hl0 ?hn0 ?h10 (by omega) ?h63 ?hby ?hba _ rfl ?_
               case hs0 => rfl
               case hx0 => rfl
               case hl0 => rw [flat_len, HL.out]; rfl
               case hn0 => exact (HR.out.wb HB.out).news HL.out (by decide)
               case h10 =>
                 intro q hq
                 obtain ⟨z, _, hz2⟩ := List.mem_flatMap.1 hq
                 rw [List.mem_singleton.1 hz2]
                 rfl
               case h63 => simp only [maxLen]; omega
               case hby => omega
               case hba => exact HB.out.size
               intro g cap w1 hown hg hat hlt
               rw [Nat.zero_add, List.nil_append] at hown
               try rw [Nat.zero_add]
               have HM := Lib.hid (RowM.of_owns hown HL.out)
               have hge := (hown.lt g rfl).1
               have hcp := own_cap hown
               have HB1 := Lib.hid (HB.out.grown hg HB.out.size (fun k e => by simp [Value.ownBlock] at e; omega))
               clear hown hg hat)
  exact bodyPost_ret (v := .slice (some ⟨g, 0, none⟩) 8 cap) (by simp [results, Try.results85, go_sem]) rfl ⟨_, _, rfl, HM.out, hge, hlt, hcp, HB1.out⟩

set_option maxHeartbeats 1000000 in
theorem cloneI {hi b o c : Nat} {l : List Int} (hr : RowF elI w hi (some ⟨b, o, none⟩) 8 l) (hl : l.length = 8) :
    Calls Try.prog 86 #[.slice (some ⟨b, o, none⟩) 8 c] w fun e w' => ∃ g c', e = .returned (.slice (some ⟨g, 0, none⟩) 8 c') ∧ RowM elI w' [g] (some ⟨g, 0, none⟩) 8 l ∧ w.heap.size ≤ g ∧ g < w'.heap.size ∧ 8 ≤ c' ∧ Below w.heap.size w w' := by
  have HR := Lib.hid hr
  have HL := Lib.hid hl
  clear hr hl
  have hnil : ∀ (w : World) (a : Option Addr) (n c n' c' : Nat), (binOp .eql 24 (.slice a n c) (.slice none n' c')).run Try.prog w = .ok (.bool a.isNone) w := fun w a n c n' c' => Lib.run_eql_slice_nil w _ _ a n c n' c' Try.underlying24
  obtain ⟨i0, hi0, hz0, hz1, hz2⟩ := infoInt
  have HI := Lib.hid hi0
  have HZ0 := Lib.hid hz0
  have HZ1 := Lib.hid hz1
  have HZ2 := Lib.hid hz2
  clear hi0 hz0 hz1 hz2
  have B3 := Lib.hid (Box.new w #[] 3)
  have HB := Lib.hid (show Below w.heap.size w (w.alloc (.cells #[] 3)) from (Below.refl _ _).alloc (Nat.le_refl _) _)
  go_enter Try.func86, Try.ntmps86
  go_wp2_with (at_builtin
               refine wpList_append_lies _ rfl _ _ 24 rfl w.heap.size 3 i0 (.int .i64 0) 1 8 Try.underlying24 HI.out HZ0.out HZ1.out HZ2.out rfl (by decide) (.slice (some ⟨w.heap.size, 0, none⟩) 0 0) 0 [] ?hs0 (own_empty' B3.out (by omega)) ⟨b, o, none⟩ 8 c (l.flatMap elI.C) ?hx0 ?hl0 ?hn0 ?h10 (by omega) ?h63 ?hby ?hba _ rfl ?_
               case hs0 => rfl
               case hx0 => rfl
               case hl0 => rw [flat_len, HL.out]; rfl
               case hn0 => exact (HR.out.wb HB.out).news HL.out (by decide)
               case h10 =>
                 intro q hq
                 obtain ⟨z, _, hz2⟩ := List.mem_flatMap.1 hq
                 rw [List.mem_singleton.1 hz2]
                 rfl
               case h63 => simp only [maxLen]; omega
               case hby => omega
               case hba => exact HB.out.size
               intro g cap w1 hown hg hat hlt
               rw [Nat.zero_add, List.nil_append] at hown
               try rw [Nat.zero_add]
               have HM := Lib.hid (RowM.of_owns hown HL.out)
               have hge := (hown.lt g rfl).1
               have hcp := own_cap hown
               have HB1 := Lib.hid (HB.out.grown hg HB.out.size (fun k e => by simp [Value.ownBlock] at e; omega))
               clear hown hg hat)
  exact bodyPost_ret (v := .slice (some ⟨g, 0, none⟩) 8 cap) (by simp [results, Try.results86, go_sem]) rfl ⟨_, _, rfl, HM.out, hge, hlt, hcp, HB1.out⟩

set_option maxHeartbeats 1000000 in
theorem indexI {hi b o c : Nat} {l : List Bool} {m : Nat} (hr : RowF elB w hi (some ⟨b, o, none⟩) 8 l) (hm : m < 8) (h1 : l.getD m false = true) (h2 : ∀ j, j < m → l.getD j false = false) :
    Calls Try.prog 88 #[.slice (some ⟨b, o, none⟩) 8 c, .bool true] w fun e w' => e = .returned (.int .i64 m) ∧ Below w.heap.size w w' := by
  have HR := Lib.hid hr
  have H1 := Lib.hid h1
  have H2 := Lib.hid h2
  clear hr h1 h2
  go_enter Try.func88, Try.ntmps88
  go_wp2_with fail
  go_loopw [8] (fun i wr => ∃ k : Nat, k ≤ m ∧ i = .int .i64 k ∧ wr = w) (fun i _ => 8 - (intOf i).toNat)
  case atStart => exact ⟨0, Nat.zero_le _, rfl, rfl⟩
  case round =>
    obtain ⟨k, hk, rfl, rfl⟩ := hrel
    have hk1 : (k : Int) < 8 := by omega
    have hk2 : (0 : Int) ≤ k := by omega
    obtain ⟨b', o', e, _, hb, hc⟩ := HR.out (by omega)
    injection e with e
    injection e with e1 e2
    subst e1 e2
    have hc := hc k (by omega) 0 (by decide)
    rw [show o + k * elB.K + 0 = o + k from by show o + k * 1 + 0 = o + k; omega] at hc
    replace hc : wr.cell? ⟨b, o + k, none⟩ = some (.bool (l.getD k false)) := hc
    by_cases e : k = m
    · rw [e] at hc
      rw [H1.out] at hc
      subst e
      go_wp2_with fail
      go_ret
      exact ⟨rfl, Below.refl _ _⟩
    · rw [H2.out k (by omega)] at hc
      have hkm : k + 1 ≤ m := by omega
      clear e
      go_wp2_with fail
      go_roundw
      case rel => exact ⟨k + 1, hkm, by go_num, by first | rfl | trivial⟩
      case measure => first | (simp [intOf]; done) | (simp [intOf]; omega)

set_option maxHeartbeats 1000000 in
theorem firstI {L : List Bool} {m : Nat} (hm : m < 8) (h1 : L.getD m false = true) (h2 : ∀ j, j < m → L.getD j false = false) :
    Calls Try.prog 59 #[.agg (bA L)] w fun e w' => e = .returned (.int .i64 ((m : Int) + 1)) ∧ Below w.heap.size w w' := by
  have HB := Lib.hid (show Below w.heap.size w (w.alloc (.cells (bA L) 59)) from (Below.refl _ _).alloc (Nat.le_refl _) _)
  have HR := Lib.hid ((rowB w L 59).row (hi := w.heap.size + 1) (fun b hb => by rw [List.mem_singleton] at hb; omega))
  have H1 := Lib.hid h1
  have H2 := Lib.hid h2
  clear h1 h2
  go_enter Try.func59, Try.ntmps59
  go_wp2_with fail
  refine (indexI HR.out hm H1.out H2.out).mono ?_
  rintro e w1 ⟨rfl, hb1⟩
  have HB1 := Lib.hid (HB.out.trans (hb1.mono HB.out.size))
  clear hb1
  go_wp2_with fail
  go_ret
  exact ⟨ret_int (by omega), HB1.out⟩
end
end Go.Proofs.Ytncinocpdeokgaa

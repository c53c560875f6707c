/-
  The program's signals: what a signal does and may do, and which it takes away.
-/
import Derived.Test.YtncinocpdeokgaaGIb
import Derived.Test.YtncinocpdeokgaaGIc
namespace Go.Proofs.Ytncinocpdeokgaa
open Go.RowKit

section
variable {w : World}
set_option maxHeartbeats 2000000 in
theorem mayDoI (n d : Int) (hn : inB n 1 8 = true) : Calls Try.prog 69 #[.int .i64 n, .int .i64 d] w fun e w' => e = .returned (.bool (mayD n d)) ∧ Below w.heap.size w w' := by
  have HN := Lib.hid hn
  have HM := Lib.hid (show mayD n d = (decide (d = 0) || ((decide (d = 1) || decide (d = 4)) && !fixB n)) from rfl)
  have HF := Lib.hid (fixS_fix hn)
  have HB := Lib.hid (Below.refl w.heap.size w)
  clear hn
  by_cases h0 : d = 0
  · subst h0
    go_enter Try.func69, Try.ntmps69
    go_wp2_with fail
    go_ret
    exact ⟨ret_bool (by rw [HM.out]; rfl), HB.out⟩
  have e0 : (d == 0) = false := by simpa using h0
  by_cases h1 : d = 1
  · subst h1
    have HR := Lib.hid (show mayD n 1 = !fixB n by rw [HM.out]; rfl)
    clear h0 HM
    go_enter Try.func69, Try.ntmps69
    go_wp2_with fail
    refine fixedI.mono ?_
    rintro e w1 ⟨rfl, hb1⟩
    have HB1 := Lib.hid (HB.out.trans (hb1.mono HB.out.size))
    clear hb1
    go_wp2_with fail
    refine (hasI fixS n HN.out).mono ?_
    rintro e w2 ⟨rfl, hb2⟩
    have HB2 := Lib.hid (HB1.out.trans (hb2.mono HB1.out.size))
    clear hb2
    rw [HF.out]
    generalize fixB n = b at HR ⊢
    go_wp2_with fail
    go_ret
    exact ⟨ret_bool (by rw [HR.out]), HB2.out⟩
  have e1 : (d == 1) = false := by simpa using h1
  by_cases h4 : d = 4
  · subst h4
    have HR := Lib.hid (show mayD n 4 = !fixB n by rw [HM.out]; rfl)
    clear h0 h1 HM
    go_enter Try.func69, Try.ntmps69
    go_wp2_with fail
    refine fixedI.mono ?_
    rintro e w1 ⟨rfl, hb1⟩
    have HB1 := Lib.hid (HB.out.trans (hb1.mono HB.out.size))
    clear hb1
    go_wp2_with fail
    refine (hasI fixS n HN.out).mono ?_
    rintro e w2 ⟨rfl, hb2⟩
    have HB2 := Lib.hid (HB1.out.trans (hb2.mono HB1.out.size))
    clear hb2
    rw [HF.out]
    generalize fixB n = b at HR ⊢
    go_wp2_with fail
    go_ret
    exact ⟨ret_bool (by rw [HR.out]), HB2.out⟩
  have e4 : (d == 4) = false := by simpa using h4
  have HR := Lib.hid (show mayD n d = false by rw [HM.out, decide_eq_false h0, decide_eq_false h1, decide_eq_false h4]; rfl)
  clear h0 h1 h4
  go_enter Try.func69, Try.ntmps69
  go_wp2_with fail
  go_ret
  exact ⟨ret_bool (by rw [HR.out]), HB.out⟩

set_option maxHeartbeats 2000000 in
theorem ofI (L : List Int) (n : Int) (hn : inB n 1 8 = true) :
    Calls Try.prog 61 #[.agg (iA L), .int .i64 n] w fun e w' => e = .returned (.int .i64 (doesI L n)) ∧ Below w.heap.size w w' := by
  have HD := Lib.hid (show doesI L n = if L.getD (n - 1).toNat 0 = 0 then usual n else L.getD (n - 1).toNat 0 from rfl)
  obtain ⟨k, hk, rfl, e⟩ := inB_nat hn
  rw [e] at HD
  have HB := Lib.hid (show Below w.heap.size w (w.alloc (.cells (iA L) 61)) from (Below.refl _ _).alloc (Nat.le_refl _) _)
  have hA := iA_at L k hk
  clear hn e
  have hk1 : (k : Int) < 8 := by omega
  have hk0 : (0 : Int) ≤ k := by omega
  by_cases h0 : L.getD k 0 = 0
  · have HR := Lib.hid (show doesI L ((k : Int) + 1) = usual ((k : Int) + 1) by rw [HD.out, if_pos h0])
    rw [h0] at hA
    clear h0
    go_enter Try.func61, Try.ntmps61
    go_wp2_with fail
    refine (usualI ((k : Int) + 1) _).mono ?_
    rintro e w1 ⟨rfl, rfl⟩
    go_wp2_with fail
    go_ret
    exact ⟨ret_int (by rw [HR.out]), HB.out⟩
  · have HR := Lib.hid (show doesI L ((k : Int) + 1) = L.getD k 0 by rw [HD.out, if_neg h0])
    have e0 : (L.getD k 0 == 0) = false := by simpa using h0
    generalize L.getD k 0 = d at hA HR e0
    clear h0
    go_enter Try.func61, Try.ntmps61
    go_wp2_with fail
    go_ret
    exact ⟨ret_int (by rw [HR.out]), HB.out⟩

set_option maxHeartbeats 2000000 in
theorem actsOkI (L : List Int) : Calls Try.prog 87 #[.agg (iA L)] w fun e w' => e = .returned (.bool (mayTo L 8)) ∧ Below w.heap.size w w' := by
  have HI := Lib.hid (idxI L)
  have HB := Lib.hid (show Below w.heap.size w (w.alloc (.cells (iA L) 61)) from (Below.refl _ _).alloc (Nat.le_refl _) _)
  obtain ⟨b0, b1, b2, b3, b4, b5, b6, b7⟩ := iAs
  go_enter Try.func87, Try.ntmps87
  go_wp2_with fail
  rw [iA_lit]
  go_loopw [6] (fun i wr => ∃ k : Nat, k ≤ 8 ∧ i = .int .i64 k ∧ mayTo L k = true ∧ Below w.heap.size w wr) (fun i _ => 8 - (intOf i).toNat)
  case atStart => exact ⟨0, Nat.zero_le _, rfl, rfl, HB.out⟩
  case round =>
    obtain ⟨k, hk, rfl, hm, hb⟩ := hrel
    have HQ := Lib.hid hb
    have HM := Lib.hid hm
    clear hb hm
    by_cases hlt : k < 8
    · have hk1 : (k : Int) < 8 := by omega
      have hk2 : (0 : Int) ≤ k := by omega
      have hi := HI.out k hlt
      have HN := Lib.hid (show mayTo L (k + 1) = mayD ((k : Int) + 1) (L.getD k 0) by show (mayTo L k && _) = _; rw [HM.out]; rfl)
      have hin : inB ((k : Int) + 1) 1 8 = true := inB_of (by omega)
      have HIN := Lib.hid hin
      clear hin
      generalize L.getD k 0 = d at hi HN
      go_wp2_with fail
      refine (mayDoI ((k : Int) + 1) d HIN.out).mono ?_
      rintro e w2 ⟨rfl, hb2⟩
      have HB2 := Lib.hid (HQ.out.trans (hb2.mono HQ.out.size))
      clear hb2
      rw [← HN.out]
      cases hq : mayTo L (k + 1)
      · have HR := Lib.hid (mayTo_no hlt hq)
        clear hq
        go_wp2_with fail
        go_ret
        exact ⟨ret_bool (by rw [HR.out]), HB2.out⟩
      · have HR := Lib.hid hq
        clear hq
        go_wp2_with fail
        go_roundw
        case rel => exact ⟨k + 1, by omega, by go_num, HR.out, HB2.out⟩
        case measure => first | (simp [intOf]; done) | (simp [intOf]; omega)
    · obtain rfl : k = 8 := by omega
      have hk3 : ¬ ((8 : Int) < 8) := by omega
      go_wp2_with fail
      go_ret
      exact ⟨ret_bool (by rw [HM.out]), HQ.out⟩
set_option maxHeartbeats 4000000 in
theorem rivalsI (n : Int) : Calls Try.prog 72 #[.int .i64 n] w fun e w' => e = .returned (.agg (bA (riv n))) ∧ Below w.heap.size w w' := by
  by_cases h2 : n = 2
  · subst h2
    have HX := Lib.hid (show setOf [3] 1 = riv 2 from rfl)
    generalize riv 2 = X at HX ⊢
    have HB0 := Lib.hid (show Below w.heap.size w ((w.alloc (.cells #[.bool false, .bool false, .bool false, .bool false, .bool false, .bool false, .bool false, .bool false] 59)).alloc (.cells #[.int .i64 3] 3)) from ((Below.refl _ _).alloc (Nat.le_refl _) _).alloc (by simp only [World.size_alloc]; omega) _)
    have HC0 := Lib.hid ((Box.new w #[.bool false, .bool false, .bool false, .bool false, .bool false, .bool false, .bool false, .bool false] 59).alloc (.cells #[.int .i64 3] 3))
    have HD0 := Lib.hid (Box.new (w.alloc (.cells #[.bool false, .bool false, .bool false, .bool false, .bool false, .bool false, .bool false, .bool false] 59)) #[.int .i64 3] 3)
    simp only [World.size_alloc] at HD0
    go_enter Try.func72, Try.ntmps72
    go_wp2_with fail
    refine (setOfI [3] 1 (litI HD0.out 1 rfl rfl) (by decide) (by decide)).mono ?_
    rintro e w1 ⟨rfl, hb1⟩
    have HB1 := Lib.hid (HB0.out.trans (hb1.mono HB0.out.size))
    have HC1 := Lib.hid (HC0.out.below hb1 HC0.out.lt)
    clear hb1
    rw [HX.out]
    unfold bA
    have r0 := HC1.out.cell 0
    have r1 := HC1.out.cell 1
    have r2 := HC1.out.cell 2
    have r3 := HC1.out.cell 3
    have r4 := HC1.out.cell 4
    have r5 := HC1.out.cell 5
    have r6 := HC1.out.cell 6
    have r7 := HC1.out.cell 7
    have q0 := HC1.out.frz 0
    have q1 := HC1.out.frz 1
    have q2 := HC1.out.frz 2
    have q3 := HC1.out.frz 3
    have q4 := HC1.out.frz 4
    have q5 := HC1.out.frz 5
    have q6 := HC1.out.frz 6
    have q7 := HC1.out.frz 7
    have ul := HC1.out.lt
    simp at r0 r1 r2 r3 r4 r5 r6 r7
    go_wp2_with fail
    exact bodyPost_ret (v := .agg (bA X)) (by simp [results, Try.results72, go_sem, bA, r0, r1, r2, r3, r4, r5, r6, r7]) rfl ⟨rfl, ((((((((HB1.out.setCell (p := ⟨w.heap.size, 0, none⟩) (Nat.le_refl _) _).setCell (p := ⟨w.heap.size, 1, none⟩) (Nat.le_refl _) _).setCell (p := ⟨w.heap.size, 2, none⟩) (Nat.le_refl _) _).setCell (p := ⟨w.heap.size, 3, none⟩) (Nat.le_refl _) _).setCell (p := ⟨w.heap.size, 4, none⟩) (Nat.le_refl _) _).setCell (p := ⟨w.heap.size, 5, none⟩) (Nat.le_refl _) _).setCell (p := ⟨w.heap.size, 6, none⟩) (Nat.le_refl _) _).setCell (p := ⟨w.heap.size, 7, none⟩) (Nat.le_refl _) _)⟩
  by_cases h6 : n = 6
  · subst h6
    have HX := Lib.hid (show setOf [3] 1 = riv 6 from rfl)
    generalize riv 6 = X at HX ⊢
    have HB0 := Lib.hid (show Below w.heap.size w ((w.alloc (.cells #[.bool false, .bool false, .bool false, .bool false, .bool false, .bool false, .bool false, .bool false] 59)).alloc (.cells #[.int .i64 3] 3)) from ((Below.refl _ _).alloc (Nat.le_refl _) _).alloc (by simp only [World.size_alloc]; omega) _)
    have HC0 := Lib.hid ((Box.new w #[.bool false, .bool false, .bool false, .bool false, .bool false, .bool false, .bool false, .bool false] 59).alloc (.cells #[.int .i64 3] 3))
    have HD0 := Lib.hid (Box.new (w.alloc (.cells #[.bool false, .bool false, .bool false, .bool false, .bool false, .bool false, .bool false, .bool false] 59)) #[.int .i64 3] 3)
    simp only [World.size_alloc] at HD0
    go_enter Try.func72, Try.ntmps72
    go_wp2_with fail
    refine (setOfI [3] 1 (litI HD0.out 1 rfl rfl) (by decide) (by decide)).mono ?_
    rintro e w1 ⟨rfl, hb1⟩
    have HB1 := Lib.hid (HB0.out.trans (hb1.mono HB0.out.size))
    have HC1 := Lib.hid (HC0.out.below hb1 HC0.out.lt)
    clear hb1
    rw [HX.out]
    unfold bA
    have r0 := HC1.out.cell 0
    have r1 := HC1.out.cell 1
    have r2 := HC1.out.cell 2
    have r3 := HC1.out.cell 3
    have r4 := HC1.out.cell 4
    have r5 := HC1.out.cell 5
    have r6 := HC1.out.cell 6
    have r7 := HC1.out.cell 7
    have q0 := HC1.out.frz 0
    have q1 := HC1.out.frz 1
    have q2 := HC1.out.frz 2
    have q3 := HC1.out.frz 3
    have q4 := HC1.out.frz 4
    have q5 := HC1.out.frz 5
    have q6 := HC1.out.frz 6
    have q7 := HC1.out.frz 7
    have ul := HC1.out.lt
    simp at r0 r1 r2 r3 r4 r5 r6 r7
    go_wp2_with fail
    exact bodyPost_ret (v := .agg (bA X)) (by simp [results, Try.results72, go_sem, bA, r0, r1, r2, r3, r4, r5, r6, r7]) rfl ⟨rfl, ((((((((HB1.out.setCell (p := ⟨w.heap.size, 0, none⟩) (Nat.le_refl _) _).setCell (p := ⟨w.heap.size, 1, none⟩) (Nat.le_refl _) _).setCell (p := ⟨w.heap.size, 2, none⟩) (Nat.le_refl _) _).setCell (p := ⟨w.heap.size, 3, none⟩) (Nat.le_refl _) _).setCell (p := ⟨w.heap.size, 4, none⟩) (Nat.le_refl _) _).setCell (p := ⟨w.heap.size, 5, none⟩) (Nat.le_refl _) _).setCell (p := ⟨w.heap.size, 6, none⟩) (Nat.le_refl _) _).setCell (p := ⟨w.heap.size, 7, none⟩) (Nat.le_refl _) _)⟩
  by_cases h3 : n = 3
  · subst h3
    have HX := Lib.hid (show setOf [2, 6] 2 = riv 3 from rfl)
    generalize riv 3 = X at HX ⊢
    have HB0 := Lib.hid (show Below w.heap.size w ((w.alloc (.cells #[.bool false, .bool false, .bool false, .bool false, .bool false, .bool false, .bool false, .bool false] 59)).alloc (.cells #[.int .i64 2, .int .i64 6] 3)) from ((Below.refl _ _).alloc (Nat.le_refl _) _).alloc (by simp only [World.size_alloc]; omega) _)
    have HC0 := Lib.hid ((Box.new w #[.bool false, .bool false, .bool false, .bool false, .bool false, .bool false, .bool false, .bool false] 59).alloc (.cells #[.int .i64 2, .int .i64 6] 3))
    have HD0 := Lib.hid (Box.new (w.alloc (.cells #[.bool false, .bool false, .bool false, .bool false, .bool false, .bool false, .bool false, .bool false] 59)) #[.int .i64 2, .int .i64 6] 3)
    simp only [World.size_alloc] at HD0
    go_enter Try.func72, Try.ntmps72
    go_wp2_with fail
    refine (setOfI [2, 6] 2 (litI HD0.out 2 rfl rfl) (by decide) (by decide)).mono ?_
    rintro e w1 ⟨rfl, hb1⟩
    have HB1 := Lib.hid (HB0.out.trans (hb1.mono HB0.out.size))
    have HC1 := Lib.hid (HC0.out.below hb1 HC0.out.lt)
    clear hb1
    rw [HX.out]
    unfold bA
    have r0 := HC1.out.cell 0
    have r1 := HC1.out.cell 1
    have r2 := HC1.out.cell 2
    have r3 := HC1.out.cell 3
    have r4 := HC1.out.cell 4
    have r5 := HC1.out.cell 5
    have r6 := HC1.out.cell 6
    have r7 := HC1.out.cell 7
    have q0 := HC1.out.frz 0
    have q1 := HC1.out.frz 1
    have q2 := HC1.out.frz 2
    have q3 := HC1.out.frz 3
    have q4 := HC1.out.frz 4
    have q5 := HC1.out.frz 5
    have q6 := HC1.out.frz 6
    have q7 := HC1.out.frz 7
    have ul := HC1.out.lt
    simp at r0 r1 r2 r3 r4 r5 r6 r7
    go_wp2_with fail
    exact bodyPost_ret (v := .agg (bA X)) (by simp [results, Try.results72, go_sem, bA, r0, r1, r2, r3, r4, r5, r6, r7]) rfl ⟨rfl, ((((((((HB1.out.setCell (p := ⟨w.heap.size, 0, none⟩) (Nat.le_refl _) _).setCell (p := ⟨w.heap.size, 1, none⟩) (Nat.le_refl _) _).setCell (p := ⟨w.heap.size, 2, none⟩) (Nat.le_refl _) _).setCell (p := ⟨w.heap.size, 3, none⟩) (Nat.le_refl _) _).setCell (p := ⟨w.heap.size, 4, none⟩) (Nat.le_refl _) _).setCell (p := ⟨w.heap.size, 5, none⟩) (Nat.le_refl _) _).setCell (p := ⟨w.heap.size, 6, none⟩) (Nat.le_refl _) _).setCell (p := ⟨w.heap.size, 7, none⟩) (Nat.le_refl _) _)⟩
  have e2 : (n == 2) = false := by simpa using h2
  have e3 : (n == 3) = false := by simpa using h3
  have e6 : (n == 6) = false := by simpa using h6
  have HR := Lib.hid (show riv n = noB by unfold riv; rw [if_neg (by omega), if_neg h3])
  rw [HR.out]
  have HB := Lib.hid (show Below w.heap.size w (w.alloc (.cells (bA noB) 59)) from (Below.refl _ _).alloc (Nat.le_refl _) _)
  clear h2 h3 h6
  go_enter Try.func72, Try.ntmps72
  go_wp2_with fail
  exact bodyPost_ret (v := .agg (bA noB)) (by simp [results, Try.results72, go_sem, bA, noB]) rfl ⟨rfl, HB.out⟩
end
end Go.Proofs.Ytncinocpdeokgaa

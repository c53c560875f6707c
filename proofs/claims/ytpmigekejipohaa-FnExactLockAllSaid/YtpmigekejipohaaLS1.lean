/-
  The model's l12Can, l12In, l12Stuck.
-/
import Derived.Test.YtpmigekejipohaaLKit
namespace Go.Proofs.Ytpmigekejipohaa
open Go.RowKit

section
variable {w : World}
set_option maxHeartbeats 1000000 in
theorem l12Can_any {hi : Nat} {x0 x1 x2 : Value} {D : Lk} (h : tyLock.R w hi [x0, x1, x2] D) (i : Nat) (hi2 : i < D.2.1.length) :
    Calls Try.prog 62 #[.agg #[x0, x1, x2], .int .i64 i] w fun e w' => e = .returned (.bool (canB D i)) ∧ Below w.heap.size w w' := by
  obtain ⟨A, n, c, A2, n2, c2, hcs, ⟨hl, hn, hr⟩, _⟩ := tyLock_R h
  simp only [List.cons.injEq, and_true] at hcs
  obtain ⟨rfl, rfl, rfl⟩ := hcs
  rw [hl] at hi2
  obtain ⟨b, o, rfl, hb0, hc⟩ := rowL hr (by omega)
  obtain ⟨c0, c1, c2', c3⟩ := hc i hi2
  obtain ⟨W, l, L⟩ := D
  dsimp only at hl c0 c1 c2' c3 ⊢
  have HC := Lib.hid (show canB (W, l, L) i = (!(l.getD i thZ).f3 && (decide (0 < (l.getD i thZ).f0) || decide (0 < (l.getD i thZ).f2))) from rfl)
  unfold maxLen at hn
  have hi3 : (i : Int) < n := by omega
  have hi4 : (0 : Int) ≤ i := by omega
  generalize l.getD i thZ = a at c0 c1 c2' c3 HC
  obtain ⟨a0, a1, a2, a3⟩ := a
  dsimp only at c0 c1 c2' c3 HC
  have HB := Lib.hid (show Below w.heap.size w ((w.alloc (.cells #[.int .i64 W, .slice (some ⟨b, o, none⟩) n c, .slice A2 n2 c2] 28)).alloc (.cells #[.int .i64 a0, .int .i64 a1, .int .i64 a2, .bool a3] 41)) from ((Below.refl _ _).alloc (Nat.le_refl _) _).alloc (by simp only [World.size_alloc]; omega) _)
  clear h hr hc hl hi2
  cases a3
  · by_cases h0 : 0 < a0
    · have d0 := Lib.hid (decide_eq_true h0)
      go_enter Try.func62, Try.ntmps62
      go_wp2_with fail
      go_ret
      exact ⟨ret_bool (by rw [HC.out, d0.out]; rfl), HB.out⟩
    · have d0 := Lib.hid (decide_eq_false h0)
      by_cases h2 : 0 < a2
      · have d2 := Lib.hid (decide_eq_true h2)
        go_enter Try.func62, Try.ntmps62
        go_wp2_with fail
        go_ret
        exact ⟨ret_bool (by rw [HC.out, d0.out, d2.out]; rfl), HB.out⟩
      · have d2 := Lib.hid (decide_eq_false h2)
        go_enter Try.func62, Try.ntmps62
        go_wp2_with fail
        go_ret
        exact ⟨ret_bool (by rw [HC.out, d0.out, d2.out]; rfl), HB.out⟩
  · go_enter Try.func62, Try.ntmps62
    go_wp2_with fail
    go_ret
    exact ⟨ret_bool (by rw [HC.out]; rfl), HB.out⟩
set_option maxHeartbeats 1000000 in
theorem l12In_any {hi : Nat} {x0 x1 x2 : Value} {D : Lk} (h : tyLock.R w hi [x0, x1, x2] D) :
    Calls Try.prog 65 #[.agg #[x0, x1, x2]] w fun e w' => e = .returned (.int .i64 (inTo D D.2.1.length)) ∧ Below w.heap.size w w' := by
  obtain ⟨A, n, c, A2, n2, c2, hcs, ⟨hl, hn, hr⟩, _⟩ := tyLock_R h
  simp only [List.cons.injEq, and_true] at hcs
  obtain ⟨rfl, rfl, rfl⟩ := hcs
  rw [hl]
  have HR := Lib.hid (rowL hr)
  have HX := Lib.hid (Box.new w #[.int .i64 D.1, .slice A n c, .slice A2 n2 c2] 28)
  have HB := Lib.hid (show Below w.heap.size w (w.alloc (.cells #[.int .i64 D.1, .slice A n c, .slice A2 n2 c2] 28)) from (Below.refl _ _).alloc (Nat.le_refl _) _)
  unfold maxLen at hn
  clear h hr hl
  go_enter Try.func65, Try.ntmps65
  go_wp2_with fail
  go_loopw [3, 4] (fun s i wr => ∃ k : Nat, k ≤ n ∧ i = .int .i64 k ∧ s = .int .i64 (inTo D k) ∧ wr = w.alloc (.cells #[.int .i64 D.1, .slice A n c, .slice A2 n2 c2] 28)) (fun _ i _ => n - (intOf i).toNat)
  case atStart => exact ⟨0, Nat.zero_le _, rfl, rfl, by first | rfl | trivial⟩
  case round =>
    obtain ⟨k, hk, rfl, rfl, rfl⟩ := hrel
    have hnn := inTo_nn (D := D) (n := k)
    by_cases hlt : k < n
    · obtain ⟨b, o, rfl, hb0, hc⟩ := HR.out (by omega)
      have hk1 : (k : Int) < n := by omega
      have hk2 : (0 : Int) ≤ k := by omega
      obtain ⟨c0, _, _, _⟩ := hc k hlt
      have HS := Lib.hid (show inTo D (k + 1) = inTo D k + (if (D.2.1.getD k thZ).f0 = 4 then 1 else 0) from rfl)
      clear hc
      generalize (D.2.1.getD k thZ).f0 = a at c0 HS
      generalize inTo D k = s at HS hnn ⊢
      by_cases h4 : a = 4
      · subst h4
        rw [if_pos rfl] at HS
        go_wp2_with fail
        go_roundw
        case rel => exact ⟨k + 1, by omega, by go_num, by rw [HS.out], by first | rfl | trivial⟩
        case measure => simp [intOf]; omega
      · have h5 : (a == 4) = false := by simpa using h4
        rw [if_neg h4, Int.add_zero] at HS
        clear h4
        go_wp2_with fail
        go_roundw
        case rel => exact ⟨k + 1, by omega, by go_num, by rw [HS.out], by first | rfl | trivial⟩
        case measure => simp [intOf]; omega
    · obtain rfl : k = n := by omega
      go_wp2_with fail
      go_ret
      exact ⟨rfl, HB.out⟩
set_option maxHeartbeats 1000000 in
theorem l12Stuck_any {hi : Nat} {x0 x1 x2 : Value} {D : Lk} (h : tyLock.R w hi [x0, x1, x2] D) :
    Calls Try.prog 67 #[.agg #[x0, x1, x2]] w fun e w' => e = .returned (.bool (stuckB D)) ∧ Below w.heap.size w w' := by
  have HH := Lib.hid h
  obtain ⟨A, n, c, A2, n2, c2, hcs, ⟨hl, hn, hr⟩, ⟨hl2, hn2, _⟩⟩ := tyLock_R h
  simp only [List.cons.injEq, and_true] at hcs
  obtain ⟨rfl, rfl, rfl⟩ := hcs
  have HL := Lib.hid hl
  have HS := Lib.hid (show stuckB D = (noneTo D n && !decide (n2 = 0)) by unfold stuckB; rw [hl, hl2])
  have HX := Lib.hid (Box.new w #[.int .i64 D.1, .slice A n c, .slice A2 n2 c2] 28)
  have HB0 := Lib.hid (show Below w.heap.size w (w.alloc (.cells #[.int .i64 D.1, .slice A n c, .slice A2 n2 c2] 28)) from (Below.refl _ _).alloc (Nat.le_refl _) _)
  unfold maxLen at hn hn2
  clear h hr hl hl2
  go_enter Try.func67, Try.ntmps67
  go_wp2_with fail
  go_loopw [3] (fun i wr => ∃ k : Nat, k ≤ n ∧ i = .int .i64 k ∧ noneTo D k = true ∧ Box wr w.heap.size #[.int .i64 D.1, .slice A n c, .slice A2 n2 c2] 28 ∧ Below w.heap.size w wr) (fun i _ => n - (intOf i).toNat)
  case atStart => exact ⟨0, Nat.zero_le _, rfl, rfl, HX.out, HB0.out⟩
  case round =>
    obtain ⟨k, hk, rfl, hno, hx, hb⟩ := hrel
    have HB := Lib.hid hb
    have HX := Lib.hid hx
    have HN := Lib.hid hno
    clear hb hx hno
    have p0 := HX.out.cell 0
    have p1 := HX.out.cell 1
    have p2 := HX.out.cell 2
    have pl := HX.out.lt
    simp at p0 p1 p2
    by_cases hlt : k < n
    · have hk1 : (k : Int) < n := by omega
      have HK := Lib.hid (show noneTo D (k + 1) = !canB D k by show (noneTo D k && _) = _; rw [HN.out]; rfl)
      have HF := Lib.hid (fun h : noneTo D (k + 1) = false => show stuckB D = false by
        rw [HS.out]
        cases e : noneTo D n
        · rfl
        · rw [none_iff.2 (fun i hi => none_iff.1 e i (by omega))] at h; cases h)
      go_wp2_with fail
      refine (l12Can_any (Ty.below_w HH.out HB.out) k (by rw [HL.out]; exact hlt)).mono ?_
      rintro e w1 ⟨rfl, hb1⟩
      have HB1 := Lib.hid (HB.out.trans (hb1.mono HB.out.size))
      have HX1 := Lib.hid (HX.out.below hb1 HX.out.lt)
      clear hb1 p0 p1 p2 pl
      cases hc : canB D k
      · have HR := Lib.hid (show noneTo D (k + 1) = true by rw [HK.out, hc]; rfl)
        clear hc
        go_wp2_with fail
        go_roundw
        case rel => exact ⟨k + 1, by omega, by go_num, HR.out, HX1.out, HB1.out⟩
        case measure => simp [intOf]; omega
      · have HR := Lib.hid (HF.out (by rw [HK.out, hc]; rfl))
        clear hc
        go_wp2_with fail
        go_ret
        exact ⟨ret_bool (by rw [HR.out]), HB1.out⟩
    · obtain rfl : k = n := by omega
      have HR := Lib.hid (show stuckB D = !decide (n2 = 0) by rw [HS.out, HN.out]; rfl)
      rcases Nat.eq_zero_or_pos n2 with h0 | h0
      · subst h0
        go_wp2_with fail
        go_ret
        exact ⟨ret_bool (by rw [HR.out]; rfl), HB.out⟩
      · have h1 : (0 : Int) < n2 := by omega
        have hd := Lib.hid (decide_eq_false (show ¬ n2 = 0 by omega))
        go_wp2_with fail
        go_ret
        exact ⟨ret_bool (by rw [HR.out, hd.out]; rfl), HB.out⟩
end
end Go.Proofs.Ytpmigekejipohaa

/-
  The program's slices.Index, slices.Contains, allows, ModeMay.
-/
import Derived.Test.YtacndjbhlhbknaaUId
namespace Go.Proofs.Ytacndjbhlhbknaa
open Go.RowKit

theorem hasTo_find {l : List Int} {x : Int} : ∀ n, hasTo l x n = true → ∃ k, k < n ∧ l.getD k 0 = x
  | 0, h => by cases h
  | n + 1, h => by
    unfold hasTo at h
    rcases Bool.or_eq_true_iff.1 h with h | h
    · obtain ⟨k, hk, e⟩ := hasTo_find n h
      exact ⟨k, by omega, e⟩
    · exact ⟨n, by omega, of_decide_eq_true h⟩
theorem index_any {w : World} {hi : Nat} {A : Option Addr} {n c : Nat} {l : List Int} (x : Int) (hr : RowF elI w hi A n l) (hn : n ≤ maxLen) :
    Calls Try.prog 72 #[.slice A n c, .int .i64 x] w fun e w' => (∃ z : Int, e = .returned (.int .i64 z) ∧ decide (0 ≤ z) = hasTo l x n) ∧ w = w' := by
  have HR := Lib.hid hr
  unfold maxLen at hn
  clear hr
  go_enter Try.func72, Try.ntmps72
  go_wp2
  go_loop [8] (fun i => ∃ k : Nat, k ≤ n ∧ i = .int .i64 k ∧ hasTo l x k = false) (fun i => n - (intOf i).toNat)
  case atStart => exact ⟨0, Nat.zero_le _, rfl, rfl⟩
  case round =>
    obtain ⟨k, hk, rfl, hf⟩ := hrel
    have HF := Lib.hid hf
    clear hf
    by_cases hlt : k < n
    · obtain ⟨b, o, rfl, _, hb0, hc⟩ := HR.out (by omega)
      have hk1 : (k : Int) < n := by omega
      have hk2 : (0 : Int) ≤ k := by omega
      have c0 : w.cell? ⟨b, o + k, none⟩ = some (.int .i64 (l.getD k 0)) := by
        have h := hc k hlt 0 (by decide)
        rw [show o + k * elI.K + 0 = o + k from by show o + k * 1 + 0 = o + k; omega] at h
        exact h
      have HX := Lib.hid (show hasTo l x (k + 1) = (hasTo l x k || decide (l.getD k 0 = x)) from rfl)
      generalize l.getD k 0 = a at c0 HX
      clear hc
      by_cases hax : x = a
      · subst hax
        have HY := Lib.hid (show hasTo l x n = true from hasTo_mono (show k + 1 ≤ n from hlt) (by rw [HX.out]; simp))
        go_wp2
        refine bodyPost_ret (v := .int .i64 k) (by simp [results, Try.results72, go_sem]) rfl ⟨⟨k, rfl, by rw [HY.out]; simp⟩, rfl⟩
      · have hb : (x == a) = false := by simpa using hax
        have HY := Lib.hid (show hasTo l x (k + 1) = false by rw [HX.out, HF.out, decide_eq_false (fun e => hax e.symm)]; rfl)
        go_wp2
        go_round
        case rel => exact ⟨k + 1, by omega, by go_num, HY.out⟩
        case measure => simp [intOf]; omega
    · obtain rfl : k = n := by omega
      go_wp2
      refine bodyPost_ret (v := .int .i64 (-1)) (by simp [results, Try.results72, go_sem]) rfl ⟨⟨-1, rfl, by rw [HF.out]; decide⟩, rfl⟩
theorem contains_any {w : World} {hi : Nat} {A : Option Addr} {n c : Nat} {l : List Int} (x : Int) (hr : RowF elI w hi A n l) (hn : n ≤ maxLen) :
    Calls Try.prog 69 #[.slice A n c, .int .i64 x] w fun e w' => e = .returned (.bool (hasTo l x n)) ∧ w = w' := by
  go_enter Try.func69, Try.ntmps69
  go_wp2_with fail
  refine (index_any (c := c) x hr hn).mono ?_
  rintro e w1 ⟨⟨z, rfl, hz⟩, rfl⟩
  have HZ := Lib.hid hz
  clear hz
  go_wp2_with fail
  go_ret
  exact ⟨ret_bool HZ.out, rfl⟩

set_option maxHeartbeats 2000000 in
theorem allows_any {w : World} {hi : Nat} {u v : Int} {A : Option Addr} {n c : Nat} {l : List Int} (o g m : Int) (hr : RowF elI w hi A n l) (hl : l.length = n) (hn : n ≤ maxLen) (hm : 0 ≤ m ∧ m ≤ 511) :
    Calls Try.prog 56 #[.int .i64 m, .agg #[.int .i64 u, .int .i64 v, .slice A n c], .int .i64 o, .int .i64 g] w fun e w' => e = .returned (.int .i64 (digM (u, v, l) o g m)) ∧ Below w.heap.size w w' := by
  have HR := Lib.hid hr
  have HN := Lib.hid hn
  have HM := Lib.hid hm
  have HO := Lib.hid (or_digits hm)
  clear hr hn
  have HD : Hid (digM (u, v, l) o g m = (if u = 0 then (if 0 < m % 2 + m / 8 % 2 + m / 64 % 2 then 7 else 6) else if u = o then m / 64 else if hasTo l g n = true then m / 8 % 8 else m % 8)) := Lib.hid (by subst hl; rfl)
  clear hl hm
  have B0 := Lib.hid ((Box.new w #[.int .i64 u, .int .i64 v, .slice A n c] 25).alloc (.cells #[.int .i64 m] 61))
  have C0 := Lib.hid (Box.new (w.alloc (.cells #[.int .i64 u, .int .i64 v, .slice A n c] 25)) #[.int .i64 m] 61)
  have HW := Lib.hid (show Below w.heap.size w ((w.alloc (.cells #[.int .i64 u, .int .i64 v, .slice A n c] 25)).alloc (.cells #[.int .i64 m] 61)) from ((Below.refl _ _).alloc (Nat.le_refl _) _).alloc (by simp only [World.size_alloc]; omega) _)
  go_enter Try.func56, Try.ntmps56
  go_wp2_with fail
  refine (digits_any m).mono ?_
  rintro e w1 ⟨rfl, hw1⟩
  rw [hw1]
  clear hw1
  simp only [World.size_alloc] at C0 ⊢
  generalize hW : ((w.alloc (.cells #[.int .i64 u, .int .i64 v, .slice A n c] 25)).alloc (.cells #[.int .i64 m] 61)) = W at B0 C0 HW
  clear hW
  have t0 := B0.out.cell 0
  have t2 := B0.out.cell 2
  have r0 := C0.out.cell 0
  have u0 := B0.out.lt
  have u1 := C0.out.lt
  simp at t0 t2 r0
  by_cases h0 : u = 0
  · subst h0
    rw [if_pos rfl] at HD
    go_wp2_with (go_at_call 71; refine (dig1_any m _ HM.out (by decide) r0).mono ?_; rintro e w2 ⟨rfl, rfl⟩)
    go_ret
    exact ⟨by rw [HD.out, ← HO.out]; rfl, HW.out⟩
  · have e0 : (u == 0) = false := by simpa using h0
    rw [if_neg h0] at HD
    by_cases h1 : u = o
    · subst h1
      rw [if_pos rfl] at HD
      go_wp2_with (go_at_call 71; refine (dig1_any m _ HM.out (by decide) r0).mono ?_; rintro e w2 ⟨rfl, rfl⟩)
      go_ret
      exact ⟨by rw [HD.out]; rfl, HW.out⟩
    · have e1 : (u == o) = false := by simpa using h1
      rw [if_neg h1] at HD
      clear h0 h1
      go_wp2_with fail
      refine (contains_any (c := c) g (HR.out.wb HW.out) HN.out).mono ?_
      rintro e w2 ⟨rfl, rfl⟩
      by_cases h2 : hasTo l g n = true
      · rw [if_pos h2] at HD
        rw [h2]
        clear h2
        go_wp2_with (go_at_call 71; refine (dig1_any m _ HM.out (by decide) r0).mono ?_; rintro e w2 ⟨rfl, rfl⟩)
        go_ret
        exact ⟨by rw [HD.out]; rfl, HW.out⟩
      · have h3 : hasTo l g n = false := by simpa using h2
        rw [if_neg h2] at HD
        rw [h3]
        clear h2 h3
        go_wp2_with (go_at_call 71; refine (dig1_any m _ HM.out (by decide) r0).mono ?_; rintro e w2 ⟨rfl, rfl⟩)
        go_ret
        exact ⟨by rw [HD.out]; rfl, HW.out⟩

set_option maxHeartbeats 2000000 in
theorem modeMayI : CMay 24 := by
  intro w hi x0 x1 x2 D o g m t h
  have HA0 := Lib.hid h
  obtain ⟨A, n, c, hcs, hl, hn, hr⟩ := tyCred_R h
  simp only [List.cons.injEq, and_true] at hcs
  obtain ⟨rfl, rfl, rfl⟩ := hcs
  clear h
  obtain ⟨u, v, l⟩ := D
  dsimp only at HA0 hr hl ⊢
  have HR := Lib.hid hr
  have HL := Lib.hid hl
  have HN := Lib.hid hn
  clear hr hl hn
  have HS := Lib.hid (show mayB (u, v, l) o g m t = (credB (u, v, l) && (uB o && (uB g && (inB m 0 511 && (inB t 1 7 && mayR (u, v, l) o g m t))))) from rfl)
  have HMR := Lib.hid (show mayR (u, v, l) o g m t = (bits BinOp.and IntKind.i64 (digM (u, v, l) o g m) t == t) from rfl)
  have X0 := Lib.hid (Box.new w #[.int .i64 u, .int .i64 v, .slice A n c] 25)
  have HW0 := Lib.hid (show Below w.heap.size w (w.alloc (.cells #[.int .i64 u, .int .i64 v, .slice A n c] 25)) from (Below.refl _ _).alloc (Nat.le_refl _) _)
  go_enter Try.func24, Try.ntmps24
  go_wp2_with fail
  refine (credOkI (Ty.below_w HA0.out HW0.out)).mono ?_
  rintro e w1 ⟨rfl, hb1⟩
  have HW1 := Lib.hid (HW0.out.trans (hb1.mono HW0.out.size))
  have X1 := Lib.hid (X0.out.below hb1 X0.out.lt)
  clear hb1
  have p0 := X1.out.cell 0
  have p1 := X1.out.cell 1
  have p2 := X1.out.cell 2
  have pl := X1.out.lt
  simp at p0 p1 p2
  by_cases hc : credB (u, v, l) = true
  · rw [hc] at HS ⊢
    clear hc
    go_wp2_with fail
    refine (userOk_any o).mono ?_
    rintro e w10 ⟨rfl, rfl⟩
    by_cases h0 : uB o = true
    · rw [h0] at HS ⊢
      clear h0
      go_wp2_with fail
      refine (userOk_any g).mono ?_
      rintro e w11 ⟨rfl, rfl⟩
      by_cases h1 : uB g = true
      · rw [h1] at HS ⊢
        clear h1
        go_wp2_with fail
        refine (modeOk_any m).mono ?_
        rintro e w12 ⟨rfl, rfl⟩
        by_cases h2 : inB m 0 511 = true
        · have HM := Lib.hid (of_inB h2)
          rw [h2] at HS ⊢
          clear h2
          by_cases h3 : 1 ≤ t
          · have h3' : ¬ t < 1 := by omega
            by_cases h4 : t ≤ 7
            · have h4' : ¬ 7 < t := by omega
              rw [inB_of ⟨h3, h4⟩] at HS
              clear h3 h4
              go_wp2_with fail
              refine (allows_any (v := v) (c := c) o g m (HR.out.wb HW1.out) HL.out HN.out HM.out).mono ?_
              rintro e w3 ⟨rfl, hb3⟩
              have HW3 := Lib.hid (HW1.out.trans (hb3.mono HW1.out.size))
              clear hb3
              go_wp2_with fail
              go_ret
              exact ⟨ret_bool (by rw [HS.out, HMR.out]; rfl), HW3.out⟩
            · have h4' : 7 < t := by omega
              rw [inB_not (by omega)] at HS
              clear h4
              go_wp2_with fail
              go_ret
              exact ⟨ret_bool (by rw [HS.out]; rfl), HW1.out⟩
          · have h3' : t < 1 := by omega
            rw [inB_not (by omega)] at HS
            clear h3
            go_wp2_with fail
            go_ret
            exact ⟨ret_bool (by rw [HS.out]; rfl), HW1.out⟩
        · have hn2 : inB m 0 511 = false := by simpa using h2
          rw [hn2] at HS ⊢
          clear h2 hn2
          go_wp2_with fail
          go_ret
          exact ⟨ret_bool (by rw [HS.out]; rfl), HW1.out⟩
      · have hn1 : uB g = false := by simpa using h1
        rw [hn1] at HS ⊢
        clear h1 hn1
        go_wp2_with fail
        go_ret
        exact ⟨ret_bool (by rw [HS.out]; rfl), HW1.out⟩
    · have hn0 : uB o = false := by simpa using h0
      rw [hn0] at HS ⊢
      clear h0 hn0
      go_wp2_with fail
      go_ret
      exact ⟨ret_bool (by rw [HS.out]; rfl), HW1.out⟩
  · have hc' : credB (u, v, l) = false := by simpa using hc
    rw [hc'] at HS ⊢
    clear hc hc'
    go_wp2_with fail
    go_ret
    exact ⟨ret_bool (by rw [HS.out]; rfl), HW1.out⟩
end Go.Proofs.Ytacndjbhlhbknaa

/-
  The model's l5In, l5May, ModeMay.
-/
import Derived.Test.YtacndjbhlhbknaaUS4
namespace Go.Proofs.Ytacndjbhlhbknaa
open Go.RowKit

/-- n is among the first k -/
def hasTo (l : List Int) (n : Int) : Nat → Bool
  | 0 => false
  | k + 1 => hasTo l n k || decide (l.getD k 0 = n)
theorem hasTo_mono {l : List Int} {x : Int} : ∀ {n k : Nat}, k ≤ n → hasTo l x k = true → hasTo l x n = true
  | 0, k, h, h2 => by obtain rfl : k = 0 := by omega
                      exact h2
  | n + 1, k, h, h2 => by
    by_cases e : k = n + 1
    · subst e; exact h2
    · show (hasTo l x n || _) = true
      rw [hasTo_mono (show k ≤ n by omega) h2]
      rfl
theorem l5In_any {w : World} {hi : Nat} {A : Option Addr} {n c : Nat} {l : List Int} (x : Int) (hr : RowF elI w hi A n l) (hn : n ≤ maxLen) :
    Calls Try.prog 70 #[.slice A n c, .int .i64 x] w fun e w' => e = .returned (.bool (hasTo l x n)) ∧ w = w' := by
  have HR := Lib.hid hr
  unfold maxLen at hn
  clear hr
  go_enter Try.func70, Try.ntmps70
  go_wp2
  go_loop [5] (fun i => ∃ k : Nat, k ≤ n ∧ i = .int .i64 k ∧ hasTo l x k = false) (fun i => n - (intOf i).toNat)
  case atStart => exact ⟨0, Nat.zero_le _, rfl, rfl⟩
  case round =>
    obtain ⟨k, hk, rfl, hf⟩ := hrel
    have HF := Lib.hid hf
    clear hf
    by_cases hlt : k < n
    · obtain ⟨b, o, rfl, _, hb0, hc⟩ := HR.out (by omega)
      have hk1 : (k : Int) < n := by omega
      have hk2 : (0 : Int) ≤ k := by omega
      have c0 : w.cell? ⟨b, o + k, none⟩ = some (.int .i64 (l.getD k 0)) := by
        have h := hc k hlt 0 (by decide)
        rw [show o + k * elI.K + 0 = o + k from by show o + k * 1 + 0 = o + k; omega] at h
        exact h
      have HX := Lib.hid (show hasTo l x (k + 1) = (hasTo l x k || decide (l.getD k 0 = x)) from rfl)
      generalize l.getD k 0 = a at c0 HX
      clear hc
      by_cases hax : a = x
      · subst hax
        have HY := Lib.hid (show hasTo l a n = true from hasTo_mono (show k + 1 ≤ n from hlt) (by rw [HX.out]; simp))
        go_wp2
        go_ret
        exact ⟨ret_bool HY.out.symm, rfl⟩
      · have hb : (a == x) = false := by simpa using hax
        have HY := Lib.hid (show hasTo l x (k + 1) = false by rw [HX.out, HF.out, decide_eq_false hax]; rfl)
        go_wp2
        go_round
        case rel => exact ⟨k + 1, by omega, by go_num, HY.out⟩
        case measure => simp [intOf]; omega
    · obtain rfl : k = n := by omega
      go_wp2
      go_ret
      exact ⟨ret_bool HF.out.symm, rfl⟩

/-- the digit that counts -/
def digM (D : Cr) (o g m : Int) : Int := if D.1 = 0 then (if 0 < m % 2 + m / 8 % 2 + m / 64 % 2 then 7 else 6) else if D.1 = o then m / 64 else if hasTo D.2.2 g D.2.2.length = true then m / 8 % 8 else m % 8
def mayR (D : Cr) (o g m t : Int) : Bool := bits BinOp.and IntKind.i64 (digM D o g m) t == t
def mayB (D : Cr) (o g m t : Int) : Bool := credB D && (uB o && (uB g && (inB m 0 511 && (inB t 1 7 && mayR D o g m t))))
def CMay (f : Nat) : Prop := ∀ ⦃w : World⦄ ⦃hi : Nat⦄ ⦃x0 x1 x2 : Value⦄ ⦃D : Cr⦄ (o g m t : Int), tyCred.R w hi [x0, x1, x2] D →
  Calls Try.prog f #[.agg #[x0, x1, x2], .int .i64 o, .int .i64 g, .int .i64 m, .int .i64 t] w fun e w' => e = .returned (.bool (mayB D o g m t)) ∧ Below w.heap.size w w'
set_option maxHeartbeats 1000000 in
theorem l5May_any {w : World} {hi : Nat} {u v : Int} {A : Option Addr} {n c : Nat} {l : List Int} (o g m t : Int) (hr : RowF elI w hi A n l) (hl : l.length = n) (hn : n ≤ maxLen) (hm : 0 ≤ m ∧ m ≤ 511) :
    Calls Try.prog 58 #[.agg #[.int .i64 u, .int .i64 v, .slice A n c], .int .i64 o, .int .i64 g, .int .i64 m, .int .i64 t] w fun e w' => e = .returned (.bool (mayR (u, v, l) o g m t)) ∧ Below w.heap.size w w' := by
  have HR := Lib.hid hr
  have HN := Lib.hid hn
  have HW := Lib.hid (show Below w.heap.size w (w.alloc (.cells #[.int .i64 u, .int .i64 v, .slice A n c] 25)) from (Below.refl _ _).alloc (Nat.le_refl _) _)
  obtain ⟨m0, m1⟩ := hm
  clear hr hn
  have hD : mayR (u, v, l) o g m t = (bits BinOp.and IntKind.i64 (if u = 0 then (if 0 < m % 2 + m / 8 % 2 + m / 64 % 2 then 7 else 6) else if u = o then m / 64 else if hasTo l g n = true then m / 8 % 8 else m % 8) t == t) := by
    subst hl
    rfl
  have HD := Lib.hid hD
  clear hD hl
  by_cases h0 : u = 0
  · subst h0
    rw [if_pos rfl] at HD
    by_cases h1 : 0 < m % 2 + m / 8 % 2 + m / 64 % 2
    · rw [if_pos h1] at HD
      go_enter Try.func58, Try.ntmps58
      go_wp2_with fail
      go_ret
      exact ⟨ret_bool HD.out.symm, HW.out⟩
    · rw [if_neg h1] at HD
      go_enter Try.func58, Try.ntmps58
      go_wp2_with fail
      go_ret
      exact ⟨ret_bool HD.out.symm, HW.out⟩
  · have e0 : (u == 0) = false := by simpa using h0
    rw [if_neg h0] at HD
    by_cases h1 : u = o
    · subst h1
      rw [if_pos rfl] at HD
      go_enter Try.func58, Try.ntmps58
      go_wp2_with fail
      go_ret
      exact ⟨ret_bool HD.out.symm, HW.out⟩
    · have e1 : (u == o) = false := by simpa using h1
      rw [if_neg h1] at HD
      clear h0 h1
      go_enter Try.func58, Try.ntmps58
      go_wp2_with fail
      refine (l5In_any g (HR.out.wb HW.out) HN.out).mono ?_
      rintro e w1 ⟨rfl, rfl⟩
      by_cases h2 : hasTo l g n = true
      · rw [if_pos h2] at HD
        rw [h2]
        go_wp2_with fail
        go_ret
        exact ⟨ret_bool HD.out.symm, HW.out⟩
      · have h3 : hasTo l g n = false := by simpa using h2
        rw [if_neg h2] at HD
        rw [h3]
        go_wp2_with fail
        go_ret
        exact ⟨ret_bool HD.out.symm, HW.out⟩

set_option maxHeartbeats 2000000 in
theorem modeMay_any : CMay 25 := by
  intro w hi x0 x1 x2 D o g m t h
  have HA0 := Lib.hid h
  obtain ⟨A, n, c, hcs, hl, hn, hr⟩ := tyCred_R h
  simp only [List.cons.injEq, and_true] at hcs
  obtain ⟨rfl, rfl, rfl⟩ := hcs
  clear h
  obtain ⟨u, v, l⟩ := D
  dsimp only at HA0 hr hl ⊢
  have HR := Lib.hid hr
  have HL := Lib.hid hl
  have HN := Lib.hid hn
  clear hr hl hn
  have hS : mayB (u, v, l) o g m t = (credB (u, v, l) && (uB o && (uB g && (inB m 0 511 && (inB t 1 7 && mayR (u, v, l) o g m t))))) := rfl
  have HS := Lib.hid hS
  clear hS
  have X0 := Lib.hid (Box.new w #[.int .i64 u, .int .i64 v, .slice A n c] 25)
  have HW0 := Lib.hid (show Below w.heap.size w (w.alloc (.cells #[.int .i64 u, .int .i64 v, .slice A n c] 25)) from (Below.refl _ _).alloc (Nat.le_refl _) _)
  go_enter Try.func25, Try.ntmps25
  go_wp2_with fail
  refine (credOk_any (Ty.below_w HA0.out HW0.out)).mono ?_
  rintro e w1 ⟨rfl, hb1⟩
  have HW1 := Lib.hid (HW0.out.trans (hb1.mono HW0.out.size))
  have X1 := Lib.hid (X0.out.below hb1 X0.out.lt)
  clear hb1
  by_cases hc : credB (u, v, l) = true
  · rw [hc] at HS ⊢
    clear hc
    go_wp2_with fail
    refine (l5User_any o).mono ?_
    rintro e w10 ⟨rfl, rfl⟩
    by_cases h0 : uB o = true
    · rw [h0]
      go_wp2_with fail
      refine (l5User_any g).mono ?_
      rintro e w11 ⟨rfl, rfl⟩
      by_cases h1 : uB g = true
      · rw [h1]
        go_wp2_with fail
        refine (l6In_any m 0 511 _).mono ?_
        rintro e w12 ⟨rfl, rfl⟩
        by_cases h2 : inB m 0 511 = true
        · rw [h2]
          go_wp2_with fail
          refine (l6In_any t 1 7 _).mono ?_
          rintro e w13 ⟨rfl, rfl⟩
          by_cases h3 : inB t 1 7 = true
          · rw [h3]
            have p0 := X1.out.cell 0
            have p1 := X1.out.cell 1
            have p2 := X1.out.cell 2
            have pl := X1.out.lt
            simp at p0 p1 p2
            have hm' := of_inB h2
            have ht' := of_inB h3
            go_wp2_with fail
            refine (l5May_any (v := v) (c := c) o g m t (HR.out.wb HW1.out) HL.out HN.out hm').mono ?_
            rintro e w3 ⟨rfl, hb3⟩
            have HW3 := Lib.hid (HW1.out.trans (hb3.mono HW1.out.size))
            go_wp2_with fail
            go_ret
            exact ⟨ret_bool (by rw [HS.out, h0, h1, h2, h3]; rfl), HW3.out⟩
          · have hn3 : inB t 1 7 = false := by simpa using h3
            rw [hn3]
            go_wp2_with fail
            go_ret
            exact ⟨ret_bool (by rw [HS.out, h0, h1, h2, hn3]; rfl), HW1.out⟩
        · have hn2 : inB m 0 511 = false := by simpa using h2
          rw [hn2]
          go_wp2_with fail
          go_ret
          exact ⟨ret_bool (by rw [HS.out, h0, h1, hn2]; rfl), HW1.out⟩
      · have hn1 : uB g = false := by simpa using h1
        rw [hn1]
        go_wp2_with fail
        go_ret
        exact ⟨ret_bool (by rw [HS.out, h0, hn1]; rfl), HW1.out⟩
    · have hn0 : uB o = false := by simpa using h0
      rw [hn0]
      go_wp2_with fail
      go_ret
      exact ⟨ret_bool (by rw [HS.out, hn0]; rfl), HW1.out⟩
  · have hc' : credB (u, v, l) = false := by simpa using hc
    rw [hc'] at HS ⊢
    clear hc
    go_wp2_with fail
    go_ret
    exact ⟨ret_bool (by rw [HS.out]; rfl), HW1.out⟩
end Go.Proofs.Ytacndjbhlhbknaa

/-
  The model's l3Addr, l4Who, BytesGet.
-/
import Derived.Test.YtnodmblieocamaaVKit
namespace Go.Proofs.Ytnodmblieocamaa
open Go.RowKit

def liveS (s : DS) : Bool := s.1 && (decide (s.2.2.1.length = 16) && (decide (s.2.2.2.length = 16) && okL (arL s.2.1)))
def liveV (D : DV) (who : Int) : Bool := inB who 0 ((D.length : Int) - 1) && liveS (D.getD who.toNat zS)
def byV (s : ByteArray) (k : Nat) : Int := ((s.data.toList.getD k 0).toNat : Int)
theorem byV_get (s : ByteArray) (k : Nat) (h : k < s.size) : ((s[k]'h).toNat : Int) = byV s k := by
  have h2 : k < s.data.toList.length := by rw [Array.length_toList]; exact h
  unfold byV
  rw [List.getD_eq_getElem?_getD, List.getElem?_eq_getElem h2]
  rfl
/-- the text of a space's page, and whether there is one to read -/
def pgV (s : DS) (addr : Int) : ByteArray := s.2.2.2.getD (addr / 4).toNat .empty
def hasV (s : DS) (addr : Int) : Bool := decide (0 ≤ l2AtV (arL s.2.1) (addr / 4)) && decide ((pgV s addr).size = 4)
def getN (D : DV) (who addr : Int) : Int := if (liveV D who && inB addr 0 63) = true then (if hasV (D.getD who.toNat zS) addr = true then byV (pgV (D.getD who.toNat zS) addr) (addr % 4).toNat else -1) else -1
def getC (D : DV) (who addr : Int) : Int := if (liveV D who && inB addr 0 63) = true then (if hasV (D.getD who.toNat zS) addr = true then 0 else 2) else 1

section
variable {w : World} {hi : Nat} {D : DV} {x0 : Value}
theorem l3Addr_any (a : Int) : Calls Try.prog 13 #[.int .i64 a] w fun e w' => e = .returned (.bool (inB a 0 63)) ∧ w = w' := by
  go_enter Try.func13, Try.ntmps13
  go_wp2_with fail
  refine (l6In_any _ _ _ _).mono ?_
  rintro e w1 ⟨rfl, rfl⟩
  go_wp2_with fail
  go_ret
  exact ⟨rfl, rfl⟩

set_option maxHeartbeats 2000000 in
theorem l4Who_any (who : Int) (h : tyViews.R w hi [x0] D) : Calls Try.prog 12 #[.agg #[x0], .int .i64 who] w fun e w' => e = .returned (.bool (liveV D who)) ∧ Below w.heap.size w w' := by
  have HR := Lib.hid h
  obtain ⟨A, n, c, hcs, hl, hn, _⟩ := h
  simp only [List.cons.injEq, and_true] at hcs
  subst hcs
  unfold maxLen at hn
  have hw1 : IntKind.i64.wrap ((n : Int) - 1) = n - 1 := IntWalk.i64_in _ (by omega)
  have HV := Lib.hid (show liveV D who = (inB who 0 ((n : Int) - 1) && liveS (D.getD who.toNat zS)) by rw [← hl]; rfl)
  have HW := Lib.hid (show Below w.heap.size w (w.alloc (.cells #[.slice A n c] 28)) from (Below.refl _ _).alloc (Nat.le_refl _) _)
  have X0 := Lib.hid (Box.new w #[.slice A n c] 28)
  have HL := Lib.hid hl
  clear hl
  by_cases hin : inB who 0 ((n : Int) - 1) = true
  · have hb2 := of_inB hin
    obtain ⟨k, rfl⟩ : ∃ k : Nat, who = k := ⟨who.toNat, by omega⟩
    have hk : k < D.length := by rw [HL.out]; omega
    obtain ⟨b, o, c', A1, n1, c1, A2, n2, c2, A3, n3, c3, hx, _, hbw, q0, q1, q2, q3, ⟨p1, m1, r1⟩, ⟨p2, m2, r2⟩, ⟨p3, m3, r3⟩⟩ := views_at HR.out hk
    simp only [Value.slice.injEq] at hx
    obtain ⟨rfl, -, rfl⟩ := hx
    rw [hin, show (k : Int).toNat = k by omega] at HV
    have HR1 := Lib.hid r1
    have HP1 := Lib.hid p1
    have HP2 := Lib.hid p2
    have HP3 := Lib.hid p3
    have HM1 := Lib.hid m1
    clear HR r1 r2 r3 m1 m2 m3 p1 p2 p3
    generalize D.getD k zS = s at *
    obtain ⟨lv, la, lg, lt⟩ := s
    dsimp only at *
    have HS : Hid (liveV D k = (lv && (decide (n2 = 16) && (decide (n3 = 16) && okL (arL la))))) := Lib.hid (by rw [HV.out, ← HP2.out, ← HP3.out]; rfl)
    clear HV
    rw [← kc HW.out _ _ hbw] at q0 q1 q2 q3
    have hk1 : (k : Int) < n := by omega
    have hk2 : (0 : Int) ≤ k := by omega
    go_enter Try.func12, Try.ntmps12
    go_wp2_with fail
    refine (l6In_any _ _ _ _).mono ?_
    rintro e w1 ⟨rfl, rfl⟩
    rw [hin]
    clear hin hb2
    generalize hW : w.alloc (.cells #[.slice (some ⟨b, o, none⟩) n c] 28) = W at *
    clear hW
    have t0 := X0.out.cell 0
    have u0 := X0.out.lt
    simp at t0
    cases lv
    · go_wp2_with fail
      go_ret
      exact ⟨ret_bool (by rw [HS.out]; rfl), HW.out⟩
    by_cases h3 : n3 = 16
    rotate_left
    · have e3 : ((n3 : Int) == 16) = false := by simp only [beq_eq_false_iff_ne, ne_eq]; omega
      rw [decide_eq_false h3] at HS
      clear h3
      go_wp2_with fail
      go_ret
      exact ⟨ret_bool (by rw [HS.out]; simp), HW.out⟩
    have e3 : ((n3 : Int) == 16) = true := by simp only [beq_iff_eq]; omega
    rw [decide_eq_true h3] at HS
    clear h3
    by_cases h2 : n2 = 16
    rotate_left
    · have e2 : ((n2 : Int) == 16) = false := by simp only [beq_eq_false_iff_ne, ne_eq]; omega
      rw [decide_eq_false h2] at HS
      clear h2
      go_wp2_with fail
      go_ret
      exact ⟨ret_bool (by rw [HS.out]; simp), HW.out⟩
    have e2 : ((n2 : Int) == 16) = true := by simp only [beq_iff_eq]; omega
    rw [decide_eq_true h2] at HS
    clear h2
    go_wp2_with fail
    refine (oksL_any (c := c1) (HR1.out.rowA.below HW.out) (by rw [arL_len]; exact HP1.out) HM1.out).mono ?_
    rintro e w2 ⟨rfl, hb⟩
    have HB := Lib.hid (HW.out.trans (hb.mono HW.out.size))
    clear hb
    go_wp2_with fail
    go_ret
    exact ⟨ret_bool (by rw [HS.out]; simp), HB.out⟩
  · have hin' : inB who 0 ((n : Int) - 1) = false := by simpa using hin
    rw [hin'] at HV
    clear hin HR
    go_enter Try.func12, Try.ntmps12
    go_wp2_with fail
    refine (l6In_any _ _ _ _).mono ?_
    rintro e w1 ⟨rfl, rfl⟩
    rw [hin']
    go_wp2_with fail
    go_ret
    exact ⟨ret_bool (by rw [HV.out]; rfl), HW.out⟩
end
end Go.Proofs.Ytnodmblieocamaa

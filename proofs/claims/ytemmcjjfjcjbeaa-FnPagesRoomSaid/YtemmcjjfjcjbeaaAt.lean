/-
  The draw of a place: a number of -1..12, and only the reader moves.
-/
import Derived.Test.YtemmcjjfjcjbeaaDraw
namespace Go.Proofs.Ytemmcjjfjcjbeaa
open Go.RowKit

/-- a place was drawn -/
def AtDrawn (w : World) (g : Nat) (A : Option Addr) (n c : Nat) (p : Int) (e : Ending) (w' : World) : Prop :=
  ∃ (v q : Int), e = .returned (.int .i64 v) ∧ -1 ≤ v ∧ v ≤ 12 ∧ Rd w' g A n c q ∧ q ≤ p + 2 ∧ Touch w w' (some ⟨g, 0, none⟩) 1

section
variable {A : Option Addr} {n c : Nat} {w : World} {g : Nat} {p : Int}

theorem Rd.drew (h : Rd w g A n c p) : Rd w.drew g A n c p := h.below (Below.refl _ _).drew
theorem Rd.alloc (h : Rd w g A n c p) (o : Obj) : Rd (w.alloc o) g A n c p := h.below ((Below.refl _ _).alloc (Nat.le_refl _) _)

theorem three_at {w w' : World} {W : Nat} {x : Int} {t : TypeId} (h : Box w W #[.int .i64 (-1), .int .i64 12, .int .i64 11] t) (ht : Touch w w' (some ⟨g, 0, none⟩) 1) (hne : g ≠ W) (x0 : 0 ≤ x) (x1 : x < 3) :
    ∃ r : Int, w'.cell? ⟨W, x.toNat, none⟩ = some (.int .i64 r) ∧ -1 ≤ r ∧ r ≤ 12 := by
  have hb := ht.box h fun a e => by injection e with e; subst e; exact fun e => hne e.symm
  rw [hb.cell]
  obtain h | h | h : x = 0 ∨ x = 1 ∨ x = 2 := by omega
  all_goals subst h; exact ⟨_, rfl, by omega, by omega⟩

set_option maxHeartbeats 1000000 in
theorem at_any (hr : Rd w g A n c p) (hp : p ≤ 1000) :
    Calls Try.prog 76 #[.pointer (some ⟨g, 0, none⟩)] w (AtDrawn w g A n c p) := by
  have HR := Lib.hid hr
  have hp0 := hr.p0
  have hg := hr.box.lt
  clear hr
  go_enter Try.func76, Try.ntmps76
  go_wp2_with fail
  refine (pick2_any 10 (by omega) (by omega) HR.out (by omega)).mono ?_
  rintro e w1 ⟨v, rfl, v0, v1, hrd1, ht1⟩
  have HRD1 := Lib.hid hrd1
  have HT1 := Lib.hid ht1
  have hsz := ht1.size
  clear hrd1 ht1
  by_cases c0 : v = 0
  · subst c0
    have HRA := Lib.hid (HRD1.out.alloc (.cells #[.int .i64 (-1), .int .i64 12, .int .i64 11] 3))
    have HTA := Lib.hid (HT1.out.then_ ((Below.refl _ _).alloc (Nat.le_refl _) (.cells #[.int .i64 (-1), .int .i64 12, .int .i64 11] 3)))
    have HB := Lib.hid (show Box (w1.alloc (.cells #[.int .i64 (-1), .int .i64 12, .int .i64 11] 3)) w1.heap.size #[.int .i64 (-1), .int .i64 12, .int .i64 11] 3 from Box.new w1 _ _)
    have HG := Lib.hid (show g ≠ w1.heap.size by omega)
    clear v0 v1
    go_wp2_with fail
    refine (pick2_any 3 (by omega) (by omega) HRA.out (by omega)).mono ?_
    rintro e w21 ⟨x2, rfl, x20, x21, hrd21, ht21⟩
    obtain ⟨r, r4, r5, r6⟩ := three_at HB.out ht21 HG.out x20 x21
    have HF := Lib.hid (show Rd w21 g A n c (p + 1 + 1) ∧ Touch w w21 (some ⟨g, 0, none⟩) 1 from ⟨hrd21, HTA.out.trans ht21⟩)
    clear hrd21 ht21
    go_wp2_with fail
    go_ret
    exact ⟨r, p + 1 + 1, rfl, r5, r6, HF.out.1, by omega, HF.out.2⟩
  · have c0' : (v == 0) = false := by rw [beq_eq_false_iff_ne]; exact c0
    go_wp2_with fail
    refine (pick2_any 8 (by omega) (by omega) HRD1.out (by omega)).mono ?_
    rintro e w2 ⟨x, rfl, x0, x1, hrd2, ht2⟩
    go_wp2_with fail
    go_ret
    exact ⟨x, p + 1 + 1, rfl, by omega, by omega, hrd2, by omega, HT1.out.trans ht2⟩
end
end Go.Proofs.Ytemmcjjfjcjbeaa

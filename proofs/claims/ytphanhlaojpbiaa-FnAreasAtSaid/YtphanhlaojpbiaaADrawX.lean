/-
  The draws of what the functions of areas are asked.
-/
import Derived.Test.YtphanhlaojpbiaaADraws
namespace Go.Proofs.Ytphanhlaojpbiaa
open Go.RowKit

/-- areas were drawn, and what was there reads as before -/
def DrawnL (w : World) (e : Ending) (w' : World) : Prop := ∃ (v : Value) (l : List Ar), e = .returned v ∧ OwnA w' w.heap.size v l ∧ (l.length ≤ 7 ∧ TopL l) ∧ Below w.heap.size w w'
def DrawnLAt (w : World) (e : Ending) (w' : World) : Prop := ∃ (v : Value) (l : List Ar) (x : Int), e = .returned (.tuple #[v, .int .i64 x]) ∧ -1 ≤ x ∧ x ≤ 16 ∧ OwnA w' w.heap.size v l ∧ (l.length ≤ 7 ∧ TopL l) ∧ Below w.heap.size w w'
def DrawnLCut (w : World) (e : Ending) (w' : World) : Prop := ∃ (v : Value) (l : List Ar) (x y : Int), e = .returned (.tuple #[v, .int .i64 x, .int .i64 y]) ∧ -1 ≤ x ∧ x ≤ 16 ∧ 0 ≤ y ∧ y ≤ 6 ∧ OwnA w' w.heap.size v l ∧ (l.length ≤ 7 ∧ TopL l) ∧ Below w.heap.size w w'
def DrawnLSet (w : World) (e : Ending) (w' : World) : Prop := ∃ (v : Value) (l : List Ar) (x y : Int) (b : Bool), e = .returned (.tuple #[v, .int .i64 x, .int .i64 y, .bool b]) ∧ 0 ≤ x ∧ x ≤ 15 ∧ 1 ≤ y ∧ y ≤ 5 ∧ OwnA w' w.heap.size v l ∧ (l.length ≤ 7 ∧ TopL l) ∧ Below w.heap.size w w'

section
variable {A : Option Addr} {n c : Nat} {w : World}
theorem drawAreasOk_any (hc : Code w A n) (hcap : n ≤ c) (hcap2 : c ≤ maxLen) :
    Calls Try.prog 23 #[.slice A n c] w (DrawnL w) := by
  go_enter Try.func23, Try.ntmps23
  go_wp2_with fail
  refine (open_any hc hcap hcap2).mono ?_
  rintro e w1 ⟨A', n', c', rfl, hr, hb1⟩
  have HB1 := Lib.hid hb1
  have hg := hr.box.lt
  clear hb1
  go_wp2_with fail
  refine (areas_any hr (by omega)).mono ?_
  rintro e w2 ⟨v, l, q, rfl, ho, hl, hrd, hq, ht⟩
  go_wp2_with fail
  go_ret
  exact ⟨v, l, rfl, ho.low HB1.out.size, hl, HB1.out.trans (ht.low HB1.out.size (Nat.le_refl _))⟩

theorem drawAreasPages_any (hc : Code w A n) (hcap : n ≤ c) (hcap2 : c ≤ maxLen) :
    Calls Try.prog 39 #[.slice A n c] w (DrawnL w) := by
  go_enter Try.func39, Try.ntmps39
  go_wp2_with fail
  refine (open_any hc hcap hcap2).mono ?_
  rintro e w1 ⟨A', n', c', rfl, hr, hb1⟩
  have HB1 := Lib.hid hb1
  have hg := hr.box.lt
  clear hb1
  go_wp2_with fail
  refine (areas_any hr (by omega)).mono ?_
  rintro e w2 ⟨v, l, q, rfl, ho, hl, hrd, hq, ht⟩
  go_wp2_with fail
  go_ret
  exact ⟨v, l, rfl, ho.low HB1.out.size, hl, HB1.out.trans (ht.low HB1.out.size (Nat.le_refl _))⟩

theorem drawAreasAt_any (hc : Code w A n) (hcap : n ≤ c) (hcap2 : c ≤ maxLen) :
    Calls Try.prog 26 #[.slice A n c] w (DrawnLAt w) := by
  go_enter Try.func26, Try.ntmps26
  go_wp2_with fail
  refine (open_any hc hcap hcap2).mono ?_
  rintro e w1 ⟨A', n', c', rfl, hr, hb1⟩
  have HB1 := Lib.hid hb1
  have hg := hr.box.lt
  clear hb1
  go_wp2_with fail
  refine (areas_any hr (by omega)).mono ?_
  rintro e w2 ⟨v, l, q, rfl, ho, hl, hrd, hq, ht⟩
  have HO := Lib.hid ho
  have HT := Lib.hid ht
  have hq0 := hrd.p0
  clear ho ht hr
  go_wp2_with fail
  refine (pick2_any 18 (by omega) (by omega) hrd (by omega)).mono ?_
  rintro e w3 ⟨x, rfl, x0, x1, hrd3, ht3⟩
  have HO3 := Lib.hid (HO.out.touch ht3 hg)
  have HB3 := Lib.hid (HB1.out.trans ((HT.out.trans ht3).low HB1.out.size (Nat.le_refl _)))
  have hwx : IntKind.i64.wrap (x - 1) = x - 1 := IntWalk.i64_in _ (by omega)
  go_wp2_with fail
  refine bodyPost_ret (v := .tuple #[v, .int .i64 (x - 1)]) (by simp [results, Try.results26, go_sem]) rfl ⟨v, l, x - 1, rfl, by omega, by omega, HO3.out.low HB1.out.size, hl, HB3.out⟩

theorem drawAreasCut_any (hc : Code w A n) (hcap : n ≤ c) (hcap2 : c ≤ maxLen) :
    Calls Try.prog 34 #[.slice A n c] w (DrawnLCut w) := by
  go_enter Try.func34, Try.ntmps34
  go_wp2_with fail
  refine (open_any hc hcap hcap2).mono ?_
  rintro e w1 ⟨A', n', c', rfl, hr, hb1⟩
  have HB1 := Lib.hid hb1
  have hg := hr.box.lt
  clear hb1
  go_wp2_with fail
  refine (areas_any hr (by omega)).mono ?_
  rintro e w2 ⟨v, l, q, rfl, ho, hl, hrd, hq, ht⟩
  have HO := Lib.hid ho
  have HT := Lib.hid ht
  have hq0 := hrd.p0
  clear ho ht hr
  go_wp2_with fail
  refine (pick2_any 17 (by omega) (by omega) hrd (by omega)).mono ?_
  rintro e w3 ⟨x, rfl, x0, x1, hrd3, ht3⟩
  have HT3 := Lib.hid (HT.out.trans ht3)
  have HO3 := Lib.hid (HO.out.touch ht3 hg)
  clear ht3 hrd
  go_wp2_with fail
  refine (pick2_any 9 (by omega) (by omega) hrd3 (by omega)).mono ?_
  rintro e w4 ⟨y, rfl, y0, y1, hrd4, ht4⟩
  have HT4 := Lib.hid (HT3.out.trans ht4)
  have HO4 := Lib.hid (HO3.out.touch ht4 hg)
  have hdy : y.tdiv 8 = y / 8 := Int.tdiv_eq_ediv_of_nonneg y0
  have hwx : IntKind.i64.wrap (x - y / 8) = x - y / 8 := IntWalk.i64_in _ (by omega)
  clear ht4 hrd3
  go_wp2_with fail
  refine (pick2_any 7 (by omega) (by omega) hrd4 (by omega)).mono ?_
  rintro e w5 ⟨z, rfl, z0, z1, hrd5, ht5⟩
  have HO5 := Lib.hid (HO4.out.touch ht5 hg)
  have HB5 := Lib.hid (HB1.out.trans ((HT4.out.trans ht5).low HB1.out.size (Nat.le_refl _)))
  clear ht5 hrd4
  go_wp2_with fail
  refine bodyPost_ret (v := .tuple #[v, .int .i64 (x - y / 8), .int .i64 z]) (by simp [results, Try.results34, go_sem]) rfl ⟨v, l, x - y / 8, z, rfl, by omega, by omega, z0, by omega, HO5.out.low HB1.out.size, hl, HB5.out⟩

theorem drawAreasSet_any (hc : Code w A n) (hcap : n ≤ c) (hcap2 : c ≤ maxLen) :
    Calls Try.prog 36 #[.slice A n c] w (DrawnLSet w) := by
  go_enter Try.func36, Try.ntmps36
  go_wp2_with fail
  refine (open_any hc hcap hcap2).mono ?_
  rintro e w1 ⟨A', n', c', rfl, hr, hb1⟩
  have HB1 := Lib.hid hb1
  have hg := hr.box.lt
  clear hb1
  go_wp2_with fail
  refine (areas_any hr (by omega)).mono ?_
  rintro e w2 ⟨v, l, q, rfl, ho, hl, hrd, hq, ht⟩
  have HO := Lib.hid ho
  have HT := Lib.hid ht
  have hq0 := hrd.p0
  clear ho ht hr
  go_wp2_with fail
  refine (pick2_any 16 (by omega) (by omega) hrd (by omega)).mono ?_
  rintro e w3 ⟨x, rfl, x0, x1, hrd3, ht3⟩
  have HT3 := Lib.hid (HT.out.trans ht3)
  have HO3 := Lib.hid (HO.out.touch ht3 hg)
  clear ht3 hrd
  go_wp2_with fail
  refine (pick2_any 5 (by omega) (by omega) hrd3 (by omega)).mono ?_
  rintro e w4 ⟨y, rfl, y0, y1, hrd4, ht4⟩
  have HT4 := Lib.hid (HT3.out.trans ht4)
  have HO4 := Lib.hid (HO3.out.touch ht4 hg)
  have hwx : IntKind.i64.wrap (1 + y) = 1 + y := IntWalk.i64_in _ (by omega)
  clear ht4 hrd3
  go_wp2_with fail
  refine (pick2_any 2 (by omega) (by omega) hrd4 (by omega)).mono ?_
  rintro e w5 ⟨z, rfl, z0, z1, hrd5, ht5⟩
  have HO5 := Lib.hid (HO4.out.touch ht5 hg)
  have HB5 := Lib.hid (HB1.out.trans ((HT4.out.trans ht5).low HB1.out.size (Nat.le_refl _)))
  clear ht5 hrd4
  go_wp2_with fail
  refine bodyPost_ret (v := .tuple #[v, .int .i64 x, .int .i64 (1 + y), .bool (z == 0)]) (by simp [results, Try.results36, go_sem]) rfl ⟨v, l, x, 1 + y, z == 0, rfl, x0, by omega, by omega, by omega, HO5.out.low HB1.out.size, hl, HB5.out⟩
end
end Go.Proofs.Ytphanhlaojpbiaa

/-
  The draws of areas.
-/
import Derived.Test.YtphanhlaojpbiaaKOpen
import Derived.Test.YtphanhlaojpbiaaASpec
import Derived.Deep.RegionHeld3
import Derived.Deep.RegionWith
namespace Go.Proofs.Ytphanhlaojpbiaa
open Go.RowKit

/-- an area was drawn -/
def AreaDrawn (w : World) (g : Nat) (A : Option Addr) (n c : Nat) (p : Int) (e : Ending) (w' : World) : Prop :=
  ∃ (a : Ar) (q : Int), e = .returned (.agg #[.int .i64 a.f, .int .i64 a.m, .bool a.w, .bool a.s]) ∧ 0 ≤ a.f ∧ a.f ≤ 15 ∧ -1 ≤ a.m ∧ a.m ≤ 17 ∧ Rd w' g A n c q ∧ q ≤ p + 6 ∧ Touch w w' (some ⟨g, 0, none⟩) 1

theorem fourA_at {w w' : World} {W g : Nat} {x : Int} {t : TypeId} (h : Box w W #[.int .i64 0, .int .i64 (-1), .int .i64 16, .int .i64 17] t) (ht : Touch w w' (some ⟨g, 0, none⟩) 1) (hne : g ≠ W) (x0 : 0 ≤ x) (x1 : x < 4) :
    ∃ r : Int, w'.cell? ⟨W, x.toNat, none⟩ = some (.int .i64 r) ∧ -1 ≤ r ∧ r ≤ 17 := by
  have hb : Box w' W _ t := (ht.box h fun a e => by injection e with e; subst e; exact fun e => hne e.symm)
  rw [hb.cell]
  obtain h | h | h | h : x = 0 ∨ x = 1 ∨ x = 2 ∨ x = 3 := by omega
  all_goals subst h; exact ⟨_, rfl, by omega, by omega⟩
theorem fourA_at' {x : Int} (x0 : 0 ≤ x) (x1 : x < 4) : ∃ r : Int, (∀ h : x.toNat < ([Value.int .i64 0, .int .i64 (-1), .int .i64 16, .int .i64 17] : List Value).length, ([Value.int .i64 0, .int .i64 (-1), .int .i64 16, .int .i64 17] : List Value)[x.toNat]'h = .int .i64 r) ∧ -1 ≤ r ∧ r ≤ 17 := by
  obtain h | h | h | h : x = 0 ∨ x = 1 ∨ x = 2 ∨ x = 3 := by omega
  all_goals subst h; exact ⟨_, fun _ => rfl, by omega, by omega⟩

/-- the result stands in its box -/
theorem area_end {w w6 : World} {g : Nat} {A : Option Addr} {n c : Nat} {p q : Int} (hr : Rd w g A n c p) (hq : Rd w6 g A n c q) (hq2 : q ≤ p + 6) (ht : Touch w w6 (some ⟨g, 0, none⟩) 1) (a : Ar) (h1 : 0 ≤ a.f ∧ a.f ≤ 15 ∧ -1 ≤ a.m ∧ a.m ≤ 17) :
    AreaDrawn w g A n c p (.returned (.agg #[.int .i64 a.f, .int .i64 a.m, .bool a.w, .bool a.s])) ((((w6.setCell ⟨w.heap.size, 0, none⟩ (.int .i64 a.f)).setCell ⟨w.heap.size, 1, none⟩ (.int .i64 a.m)).setCell ⟨w.heap.size, 2, none⟩ (.bool a.w)).setCell ⟨w.heap.size, 3, none⟩ (.bool a.s)) := by
  have hg := hr.box.lt
  have hgn : g ≠ w.heap.size := by omega
  have hb := (((hq.box.other (a := ⟨w.heap.size, 0, none⟩) hgn (.int .i64 a.f)).other (a := ⟨w.heap.size, 1, none⟩) hgn (.int .i64 a.m)).other (a := ⟨w.heap.size, 2, none⟩) hgn (.bool a.w)).other (a := ⟨w.heap.size, 3, none⟩) hgn (.bool a.s)
  have hbl : Below w.heap.size w6 ((((w6.setCell ⟨w.heap.size, 0, none⟩ (.int .i64 a.f)).setCell ⟨w.heap.size, 1, none⟩ (.int .i64 a.m)).setCell ⟨w.heap.size, 2, none⟩ (.bool a.w)).setCell ⟨w.heap.size, 3, none⟩ (.bool a.s)) :=
    ((((Below.refl w.heap.size w6).setCell (Nat.le_refl _) _).setCell (Nat.le_refl _) _).setCell (Nat.le_refl _) _).setCell (Nat.le_refl _) _
  have ht2 := ht.low_ hbl
  exact ⟨a, q, rfl, h1.1, h1.2.1, h1.2.2.1, h1.2.2.2, hr.of_touch ht2 hb hq.p0 hq.p1, hq2, ht2⟩

section
variable {A : Option Addr} {n c : Nat} {w : World} {g : Nat} {p : Int}
set_option maxHeartbeats 2000000 in
theorem area_any (hr : Rd w g A n c p) (hp : p ≤ 10000) :
    Calls Try.prog 48 #[.pointer (some ⟨g, 0, none⟩)] w (AreaDrawn w g A n c p) := by
  have HR := Lib.hid hr
  have hp0 := hr.p0
  have hg := hr.box.lt
  have HR0 := Lib.hid (hr.below ((Below.refl _ _).alloc (Nat.le_refl _) (.cells #[.int .i64 0, .int .i64 0, .bool false, .bool false] 24)))
  have HT0 := Lib.hid (Touch.of_below (A := some ⟨g, 0, none⟩) (n := 1) ((Below.refl w.heap.size w).alloc (Nat.le_refl _) (.cells #[.int .i64 0, .int .i64 0, .bool false, .bool false] 24)))
  have Z0 := Lib.hid (Box.new w #[.int .i64 0, .int .i64 0, .bool false, .bool false] 24)
  clear hr
  go_enter Try.func48, Try.ntmps48
  go_wp2_with fail
  refine (pick2_any 16 (by omega) (by omega) HR0.out (by omega)).mono ?_
  rintro e w1 ⟨x, rfl, x0, x1, hrd1, ht1⟩
  have HR1 := Lib.hid hrd1
  have HT1 := Lib.hid (HT0.out.trans ht1)
  have Z1 := Lib.hid (ht1.box Z0.out (fun a e => by injection e with e; subst e; show w.heap.size ≠ g; omega))
  clear hrd1 ht1
  go_wp2_with fail
  refine (pick2_any 5 (by omega) (by omega) HR1.out (by omega)).mono ?_
  rintro e w2 ⟨y, rfl, y0, y1, hrd2, ht2⟩
  have HR2 := Lib.hid hrd2
  have HT2 := Lib.hid (HT1.out.trans ht2)
  have Z2 := Lib.hid (ht2.box Z1.out (fun a e => by injection e with e; subst e; show w.heap.size ≠ g; omega))
  clear hrd2 ht2
  go_wp2_with fail
  refine (pick2_any 4 (by omega) (by omega) HR2.out (by omega)).mono ?_
  rintro e w3 ⟨u, rfl, u0, u1, hrd3, ht3⟩
  have HR3 := Lib.hid hrd3
  have HT3 := Lib.hid (HT2.out.trans ht3)
  have Z3 := Lib.hid (ht3.box Z2.out (fun a e => by injection e with e; subst e; show w.heap.size ≠ g; omega))
  clear hrd3 ht3
  go_wp2_with fail
  refine (pick2_any 3 (by omega) (by omega) HR3.out (by omega)).mono ?_
  rintro e w4 ⟨v, rfl, v0, v1, hrd4, ht4⟩
  have HR4 := Lib.hid hrd4
  have HT4 := Lib.hid (HT3.out.trans ht4)
  have Z4 := Lib.hid (ht4.box Z3.out (fun a e => by injection e with e; subst e; show w.heap.size ≠ g; omega))
  clear hrd4 ht4
  have z0 := Z4.out.cell 0
  have z1 := Z4.out.cell 1
  have z2 := Z4.out.cell 2
  have z3 := Z4.out.cell 3
  have z4 := Z4.out.frz 0
  have z5 := Z4.out.frz 1
  have z6 := Z4.out.frz 2
  have z7 := Z4.out.frz 3
  have lz := Z4.out.lt
  simp at z0 z1 z2 z3
  have hwy : IntKind.i64.wrap (1 + y) = 1 + y := IntWalk.i64_in _ (by omega)
  clear z0 z1 z2 z3 z4 z5 z6 z7 lz
  have hs4 := HT4.out.size
  have HR5 := Lib.hid (HR4.out.below ((Below.refl _ _).alloc (Nat.le_refl _) (.cells #[.int .i64 x, .int .i64 (1 + y), .bool (decide (0 < u)), .bool (v == 0)] 24)))
  have HT5 := Lib.hid (HT4.out.then_ ((Below.refl w4.heap.size w4).alloc (Nat.le_refl _) (.cells #[.int .i64 x, .int .i64 (1 + y), .bool (decide (0 < u)), .bool (v == 0)] 24)))
  have Z5 := Lib.hid (Z4.out.alloc (.cells #[.int .i64 x, .int .i64 (1 + y), .bool (decide (0 < u)), .bool (v == 0)] 24))
  have X5 := Lib.hid (Box.new w4 #[.int .i64 x, .int .i64 (1 + y), .bool (decide (0 < u)), .bool (v == 0)] 24)
  go_wp2_with fail
  refine (pick2_any 20 (by omega) (by omega) HR5.out (by omega)).mono ?_
  rintro e w6 ⟨t, rfl, t0, t1, hrd6, ht6⟩
  have HR6 := Lib.hid hrd6
  have HT6 := Lib.hid (HT5.out.trans ht6)
  have Z6 := Lib.hid (ht6.box Z5.out (fun a e => by injection e with e; subst e; show w.heap.size ≠ g; omega))
  have X6 := Lib.hid (ht6.box X5.out (fun a e => by injection e with e; subst e; show w4.heap.size ≠ g; omega))
  clear hrd6 ht6
  have hne1 : w4.heap.size ≠ w.heap.size := by have := Z4.out.lt; omega
  by_cases c0 : t = 0
  · subst c0
    clear t0 t1
    have HRB := Lib.hid (HR6.out.below ((Below.refl _ _).alloc (Nat.le_refl _) (.cells #[.int .i64 0, .int .i64 (-1), .int .i64 16, .int .i64 17] 3)))
    have HTB := Lib.hid (HT6.out.then_ ((Below.refl w6.heap.size w6).alloc (Nat.le_refl _) (.cells #[.int .i64 0, .int .i64 (-1), .int .i64 16, .int .i64 17] 3)))
    have LB := Lib.hid (Box.new w6 #[.int .i64 0, .int .i64 (-1), .int .i64 16, .int .i64 17] 3)
    have ZB := Lib.hid (Z6.out.alloc (.cells #[.int .i64 0, .int .i64 (-1), .int .i64 16, .int .i64 17] 3))
    have XB := Lib.hid (X6.out.alloc (.cells #[.int .i64 0, .int .i64 (-1), .int .i64 16, .int .i64 17] 3))
    have hs6 := HT6.out.size
    go_wp2_with fail
    refine (pick2_any 4 (by omega) (by omega) HRB.out (by omega)).mono ?_
    rintro e w7 ⟨s, rfl, s0, s1, hrd7, ht7⟩
    obtain ⟨r, r4, r5, r6⟩ := fourA_at LB.out ht7 (by omega) s0 s1
    have HR7 := Lib.hid hrd7
    have HT7 := Lib.hid (HTB.out.trans ht7)
    have Z7 := Lib.hid (ht7.box ZB.out (fun a e => by injection e with e; subst e; show w.heap.size ≠ g; omega))
    have X7 := Lib.hid (ht7.box XB.out (fun a e => by injection e with e; subst e; show w4.heap.size ≠ g; omega))
    clear hrd7 ht7
    have z0 := Z7.out.cell 0
    have z1 := Z7.out.cell 1
    have z2 := Z7.out.cell 2
    have z3 := Z7.out.cell 3
    have z4 := Z7.out.frz 0
    have z5 := Z7.out.frz 1
    have z6 := Z7.out.frz 2
    have z7 := Z7.out.frz 3
    have lz := Z7.out.lt
    simp at z0 z1 z2 z3
    have x0' := X7.out.cell 0
    have x1' := X7.out.cell 1
    have x2' := X7.out.cell 2
    have x3' := X7.out.cell 3
    have x4' := X7.out.frz 0
    have x5' := X7.out.frz 1
    have x6' := X7.out.frz 2
    have x7' := X7.out.frz 3
    have lx := X7.out.lt
    simp at x0' x1' x2' x3'
    have HT8 := Lib.hid (HT7.out.low_ (show Below w.heap.size w7 (w7.setCell ⟨w4.heap.size, 1, none⟩ (.int .i64 r)) from (Below.refl _ _).setCell hs4 _))
    have HR8 := Lib.hid (HR.out.of_touch HT8.out (HR7.out.box.other (a := ⟨w4.heap.size, 1, none⟩) (by show g ≠ w4.heap.size; omega) (.int .i64 r)) HR7.out.p0 HR7.out.p1)
    go_wp2
    refine bodyPost_ret (v := .agg #[.int .i64 x, .int .i64 r, .bool (decide (0 < u)), .bool (v == 0)]) (by simp [results, Try.results48, go_sem, z0, z1, z2, z3]) rfl (area_end HR.out HR8.out (by omega) HT8.out ⟨x, r, decide (0 < u), v == 0⟩ ⟨x0, by show x ≤ 15; omega, r5, r6⟩)
  · have c0' : (t == 0) = false := by rw [beq_eq_false_iff_ne]; exact c0
    clear c0
    have z0 := Z6.out.cell 0
    have z1 := Z6.out.cell 1
    have z2 := Z6.out.cell 2
    have z3 := Z6.out.cell 3
    have z4 := Z6.out.frz 0
    have z5 := Z6.out.frz 1
    have z6 := Z6.out.frz 2
    have z7 := Z6.out.frz 3
    have lz := Z6.out.lt
    simp at z0 z1 z2 z3
    have x0' := X6.out.cell 0
    have x1' := X6.out.cell 1
    have x2' := X6.out.cell 2
    have x3' := X6.out.cell 3
    have x4' := X6.out.frz 0
    have x5' := X6.out.frz 1
    have x6' := X6.out.frz 2
    have x7' := X6.out.frz 3
    have lx := X6.out.lt
    simp at x0' x1' x2' x3'
    go_wp2
    refine bodyPost_ret (v := .agg #[.int .i64 x, .int .i64 (1 + y), .bool (decide (0 < u)), .bool (v == 0)]) (by simp [results, Try.results48, go_sem, z0, z1, z2, z3]) rfl (area_end HR.out HR6.out (by omega) HT6.out ⟨x, 1 + y, decide (0 < u), v == 0⟩ ⟨x0, by show x ≤ 15; omega, by show -1 ≤ 1 + y; omega, by show 1 + y ≤ 17; omega⟩)
end
end Go.Proofs.Ytphanhlaojpbiaa

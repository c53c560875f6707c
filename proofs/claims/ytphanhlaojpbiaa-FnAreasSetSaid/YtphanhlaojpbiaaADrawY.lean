/-
  The draws of an area, and of areas and an area.
-/
import Derived.Test.YtphanhlaojpbiaaADrawX
namespace Go.Proofs.Ytphanhlaojpbiaa
open Go.RowKit

def DrawnA (w : World) (e : Ending) (w' : World) : Prop := ∃ (a : Ar), e = .returned (.agg #[.int .i64 a.f, .int .i64 a.m, .bool a.w, .bool a.s]) ∧ 0 ≤ a.f ∧ a.f ≤ 15 ∧ -1 ≤ a.m ∧ a.m ≤ 17 ∧ Below w.heap.size w w'
def DrawnLA (w : World) (e : Ending) (w' : World) : Prop := ∃ (v : Value) (l : List Ar) (a : Ar), e = .returned (.tuple #[v, .agg #[.int .i64 a.f, .int .i64 a.m, .bool a.w, .bool a.s]]) ∧ 0 ≤ a.f ∧ a.f ≤ 15 ∧ -1 ≤ a.m ∧ a.m ≤ 17 ∧ OwnA w' w.heap.size v l ∧ (l.length ≤ 7 ∧ TopL l) ∧ Below w.heap.size w w'

theorem OwnA.off {w : World} {base : Nat} {v : Value} {l : List Ar} (h : OwnA w base v l) {a : Addr} (ha : a.block < base) (u : Value) : OwnA (w.setCell a u) base v l := by
  refine ⟨h.1, ?_⟩
  rcases h.2 with h2 | ⟨b, cap, cur, e, hb, hhp, h3⟩
  · exact .inl h2
  · exact .inr ⟨b, cap, cur, e, hb, (heap_setCell_other _ _ _ _ (by omega)).trans hhp, h3⟩

section
variable {A : Option Addr} {n c : Nat} {w : World}
set_option maxHeartbeats 1000000 in
theorem drawAreaOk_any (hc : Code w A n) (hcap : n ≤ c) (hcap2 : c ≤ maxLen) :
    Calls Try.prog 19 #[.slice A n c] w (DrawnA w) := by
  have HW := Lib.hid (show Below w.heap.size w (w.alloc (.cells #[.int .i64 0, .int .i64 0, .bool false, .bool false] 24)) from (Below.refl _ _).alloc (Nat.le_refl _) _)
  have R0 := Lib.hid (Box.new w #[.int .i64 0, .int .i64 0, .bool false, .bool false] 24)
  have HC := Lib.hid hc
  clear hc
  go_enter Try.func19, Try.ntmps19
  go_wp2_with fail
  refine (open_any (HC.out.below HW.out) hcap hcap2).mono ?_
  rintro e w1 ⟨A', n', c', rfl, hr, hb1⟩
  rw [World.size_alloc] at hb1 hr ⊢
  have R1 := Lib.hid (R0.out.below hb1 (by omega))
  have HW1 := Lib.hid (HW.out.trans (hb1.mono (by omega)))
  have l1 := R1.out.lt
  have hg := hr.box.lt
  clear hb1
  go_wp2_with fail
  refine (area_any hr (by omega)).mono ?_
  rintro e w2 ⟨a, q, rfl, a0, a1, a2, a3, hrd, hq, ht⟩
  have R2 := Lib.hid (ht.box R1.out fun a e => by injection e with e; subst e; show w.heap.size ≠ w.heap.size + 1; omega)
  have HB2 := Lib.hid (HW1.out.trans (ht.low HW1.out.size (Nat.le_succ _)))
  clear ht hrd hr
  have p0 := R2.out.cell 0
  have p1 := R2.out.cell 1
  have p2 := R2.out.cell 2
  have p3 := R2.out.cell 3
  have p4 := R2.out.frz 0
  have p5 := R2.out.frz 1
  have p6 := R2.out.frz 2
  have p7 := R2.out.frz 3
  have lp := R2.out.lt
  simp at p0 p1 p2 p3
  go_wp2_with fail
  refine bodyPost_ret (v := .agg #[.int .i64 a.f, .int .i64 a.m, .bool a.w, .bool a.s]) (by simp [results, Try.results19, go_sem, p0, p1, p2, p3]) rfl ⟨a, rfl, a0, a1, a2, a3, ?_⟩
  exact (((HB2.out.setCell (Nat.le_refl _) _).setCell (Nat.le_refl _) _).setCell (Nat.le_refl _) _).setCell (Nat.le_refl _) _

set_option maxHeartbeats 1000000 in
theorem drawAreasAdd_any (hc : Code w A n) (hcap : n ≤ c) (hcap2 : c ≤ maxLen) :
    Calls Try.prog 29 #[.slice A n c] w (DrawnLA w) := by
  have HW := Lib.hid (show Below w.heap.size w (w.alloc (.cells #[.int .i64 0, .int .i64 0, .bool false, .bool false] 24)) from (Below.refl _ _).alloc (Nat.le_refl _) _)
  have R0 := Lib.hid (Box.new w #[.int .i64 0, .int .i64 0, .bool false, .bool false] 24)
  have HC := Lib.hid hc
  clear hc
  go_enter Try.func29, Try.ntmps29
  go_wp2_with fail
  refine (open_any (HC.out.below HW.out) hcap hcap2).mono ?_
  rintro e w1 ⟨A', n', c', rfl, hr, hb1⟩
  rw [World.size_alloc] at hb1 hr ⊢
  have R1 := Lib.hid (R0.out.below hb1 (by omega))
  have HW1 := Lib.hid (HW.out.trans (hb1.mono (by omega)))
  have l1 := R1.out.lt
  have hg := hr.box.lt
  clear hb1
  go_wp2_with fail
  refine (areas_any hr (by omega)).mono ?_
  rintro e w2 ⟨v, l, q, rfl, ho, hl, hrd, hq, ht⟩
  have HO := Lib.hid (ho.low (base' := w.heap.size + 2) hg)
  have HT := Lib.hid ht
  have hq0 := hrd.p0
  have R2 := Lib.hid (ht.box R1.out fun a e => by injection e with e; subst e; show w.heap.size ≠ w.heap.size + 1; omega)
  clear ho ht hr
  go_wp2_with fail
  refine (area_any hrd (by omega)).mono ?_
  rintro e w3 ⟨a, q3, rfl, a0, a1, a2, a3, hrd3, hq3, ht3⟩
  have HO3 := Lib.hid (HO.out.touch ht3 (Nat.lt_succ_self _))
  have R3 := Lib.hid (ht3.box R2.out fun a e => by injection e with e; subst e; show w.heap.size ≠ w.heap.size + 1; omega)
  have HB3 := Lib.hid (HW1.out.trans ((HT.out.trans ht3).low HW1.out.size (Nat.le_succ _)))
  clear ht3 hrd hrd3
  have p0 := R3.out.cell 0
  have p1 := R3.out.cell 1
  have p2 := R3.out.cell 2
  have p3 := R3.out.cell 3
  have p4 := R3.out.frz 0
  have p5 := R3.out.frz 1
  have p6 := R3.out.frz 2
  have p7 := R3.out.frz 3
  have lp := R3.out.lt
  simp at p0 p1 p2 p3
  go_wp2_with fail
  refine bodyPost_ret (v := .tuple #[v, .agg #[.int .i64 a.f, .int .i64 a.m, .bool a.w, .bool a.s]]) (by simp [results, Try.results29, go_sem, p0, p1, p2, p3]) rfl ⟨v, l, a, rfl, a0, a1, a2, a3, ?_, hl, ?_⟩
  · exact ((((HO3.out.off (a := ⟨w.heap.size, 0, none⟩) (by show w.heap.size < _; omega) _).off (a := ⟨w.heap.size, 1, none⟩) (by show w.heap.size < _; omega) _).off (a := ⟨w.heap.size, 2, none⟩) (by show w.heap.size < _; omega) _).off (a := ⟨w.heap.size, 3, none⟩) (by show w.heap.size < _; omega) _).low (by omega)
  · exact (((HB3.out.setCell (Nat.le_refl _) _).setCell (Nat.le_refl _) _).setCell (Nat.le_refl _) _).setCell (Nat.le_refl _) _
end
end Go.Proofs.Ytphanhlaojpbiaa

/-
  The draws of what the functions of pages are asked: pages that can be read, and a place.
-/
import Derived.Test.YtemmcjjfjcjbeaaAt
namespace Go.Proofs.Ytemmcjjfjcjbeaa
open Go.RowKit

/-- pages were drawn, and what was there reads as before -/
def DrawnPg (w : World) (e : Ending) (w' : World) : Prop :=
  ∃ (C : Option Addr) (n1 c1 : Nat) (D : Option Addr) (m1 d1 : Nat) (ts : List ByteArray) (rs : List Int),
    e = .returned (.agg #[.slice C n1 c1, .slice D m1 d1]) ∧ Pg w' C n1 D m1 ts rs ∧ Below w.heap.size w w'
/-- pages and a place were drawn -/
def DrawnPgAt (w : World) (e : Ending) (w' : World) : Prop :=
  ∃ (C : Option Addr) (n1 c1 : Nat) (D : Option Addr) (m1 d1 : Nat) (ts : List ByteArray) (rs : List Int) (x : Int),
    e = .returned (.tuple #[.agg #[.slice C n1 c1, .slice D m1 d1], .int .i64 x]) ∧ Pg w' C n1 D m1 ts rs ∧ -1 ≤ x ∧ x ≤ 12 ∧ Below w.heap.size w w'

section
variable {A : Option Addr} {n c : Nat} {w : World}

theorem Row.touch {w w' : World} {g k : Nat} {C : Option Addr} {n : Nat} {f : Nat → Value} (h : Row w C n f) (ht : Touch w w' (some ⟨g, 0, none⟩) k) (hne : ∀ a, C = some a → g < a.block) : Row w' C n f := fun hn => by
  obtain ⟨b, o, e, hb, hc⟩ := h hn
  have h1 : g < b := hne _ e
  have hbl := ht.block b hb fun _ a e => by injection e with e; subst e; show b ≠ g; omega
  exact ⟨b, o, e, Nat.lt_of_lt_of_le hb ht.size, fun k hk => (World.cell?_of_block (w := w) (a := ⟨b, o + k, none⟩) hbl).trans (hc k hk)⟩
theorem Pg.touch {w w' : World} {g k : Nat} {C : Option Addr} {n : Nat} {D : Option Addr} {m : Nat} {ts : List ByteArray} {rs : List Int} (hp : Pg w C n D m ts rs) (ht : Touch w w' (some ⟨g, 0, none⟩) k)
    (h1 : ∀ a, C = some a → g < a.block) (h2 : ∀ a, D = some a → g < a.block) : Pg w' C n D m ts rs :=
  ⟨hp.tl, hp.rl, hp.nb, hp.mb, hp.small, hp.tc.touch ht h1, hp.rc.touch ht h2⟩

theorem Touch.cell (w : World) (X i : Nat) (v : Value) : Touch w (w.setCell ⟨X, i, none⟩ v) (some ⟨X, 0, none⟩) 1 :=
  ⟨rfl, rfl, rfl, by rw [World.size_setCell]; exact Nat.le_refl _, fun k _ h => heap_setCell_other w ⟨X, i, none⟩ k v (h (by omega) ⟨X, 0, none⟩ rfl)⟩
/-- what is drawn stands in the result's box -/
theorem drawn_box {w w1 w2 : World} {g : Nat} {C : Option Addr} {n1 : Nat} {D : Option Addr} {m1 : Nat} {ts : List ByteArray} {rs : List Int} (h1 : Below w.heap.size w w1) (hsz : w.heap.size < w1.heap.size) (ht : Touch w1 w2 (some ⟨g, 0, none⟩) 1) (hg : w.heap.size ≤ g) (hp : Pg w2 C n1 D m1 ts rs)
    (hC : ∀ a, C = some a → w1.heap.size < a.block) (hD : ∀ a, D = some a → w1.heap.size < a.block) (u v : Value) :
    Pg ((w2.setCell ⟨w.heap.size, 0, none⟩ u).setCell ⟨w.heap.size, 1, none⟩ v) C n1 D m1 ts rs ∧ Below w.heap.size w ((w2.setCell ⟨w.heap.size, 0, none⟩ u).setCell ⟨w.heap.size, 1, none⟩ v) :=
  ⟨hp.touch ((Touch.cell _ _ _ _).trans (Touch.cell _ _ _ _)) (fun a e => by have := hC a e; omega) (fun a e => by have := hD a e; omega),
    ((h1.trans (ht.low h1.size hg)).setCell (Nat.le_refl _) _).setCell (Nat.le_refl _) _⟩

theorem drawOk_any (hc : Code w A n) (hcap : n ≤ c) (hcap2 : c ≤ maxLen) :
    Calls Try.prog 27 #[.slice A n c] w (DrawnPg w) := by
  have HW := Lib.hid (show Below w.heap.size w (w.alloc (.cells #[.slice none 0 0, .slice none 0 0] 27)) from (Below.refl _ _).alloc (Nat.le_refl _) _)
  have R0 := Lib.hid (Box.new w #[.slice none 0 0, .slice none 0 0] 27)
  have HC := Lib.hid hc
  clear hc
  go_enter Try.func27, Try.ntmps27
  go_wp2_with fail
  refine (open_any (HC.out.below HW.out) hcap hcap2).mono ?_
  rintro e w1 ⟨A', n', c', rfl, hr, hb1⟩
  rw [World.size_alloc] at hb1 hr ⊢
  have R1 := Lib.hid (R0.out.below hb1 (by omega))
  have HW1 := Lib.hid (HW.out.trans (hb1.mono (by omega)))
  have l1 := R1.out.lt
  clear hb1
  go_wp2_with fail
  refine (draw_any hr (by omega)).mono ?_
  rintro e w2 ⟨C, n1, c1, D, m1, d1, ts, rs, q, rfl, hpg, hrd, hq, ht, hC, hD⟩
  have R2 := Lib.hid (ht.box R1.out fun a e => by injection e with e; subst e; show w.heap.size ≠ w.heap.size + 1; omega)
  have HF := Lib.hid (drawn_box HW1.out l1 ht (Nat.le_succ _) hpg hC hD (.slice C n1 c1) (.slice D m1 d1))
  clear hpg ht hC hD hr hrd
  have p0 := R2.out.cell 0
  have p1 := R2.out.cell 1
  have p2 := R2.out.frz 0
  have p3 := R2.out.frz 1
  simp at p0 p1
  go_wp2_with fail
  refine bodyPost_ret (v := .agg #[.slice C n1 c1, .slice D m1 d1]) (by simp [results, Try.results27, go_sem, p0, p1]) rfl ⟨C, n1, c1, D, m1, d1, ts, rs, rfl, HF.out.1, HF.out.2⟩

theorem drawRoom_any (hc : Code w A n) (hcap : n ≤ c) (hcap2 : c ≤ maxLen) :
    Calls Try.prog 29 #[.slice A n c] w (DrawnPg w) := by
  have HW := Lib.hid (show Below w.heap.size w (w.alloc (.cells #[.slice none 0 0, .slice none 0 0] 27)) from (Below.refl _ _).alloc (Nat.le_refl _) _)
  have R0 := Lib.hid (Box.new w #[.slice none 0 0, .slice none 0 0] 27)
  have HC := Lib.hid hc
  clear hc
  go_enter Try.func29, Try.ntmps29
  go_wp2_with fail
  refine (open_any (HC.out.below HW.out) hcap hcap2).mono ?_
  rintro e w1 ⟨A', n', c', rfl, hr, hb1⟩
  rw [World.size_alloc] at hb1 hr ⊢
  have R1 := Lib.hid (R0.out.below hb1 (by omega))
  have HW1 := Lib.hid (HW.out.trans (hb1.mono (by omega)))
  have l1 := R1.out.lt
  clear hb1
  go_wp2_with fail
  refine (draw_any hr (by omega)).mono ?_
  rintro e w2 ⟨C, n1, c1, D, m1, d1, ts, rs, q, rfl, hpg, hrd, hq, ht, hC, hD⟩
  have R2 := Lib.hid (ht.box R1.out fun a e => by injection e with e; subst e; show w.heap.size ≠ w.heap.size + 1; omega)
  have HF := Lib.hid (drawn_box HW1.out l1 ht (Nat.le_succ _) hpg hC hD (.slice C n1 c1) (.slice D m1 d1))
  clear hpg ht hC hD hr hrd
  have p0 := R2.out.cell 0
  have p1 := R2.out.cell 1
  have p2 := R2.out.frz 0
  have p3 := R2.out.frz 1
  simp at p0 p1
  go_wp2_with fail
  refine bodyPost_ret (v := .agg #[.slice C n1 c1, .slice D m1 d1]) (by simp [results, Try.results29, go_sem, p0, p1]) rfl ⟨C, n1, c1, D, m1, d1, ts, rs, rfl, HF.out.1, HF.out.2⟩

theorem drawGet_any (hc : Code w A n) (hcap : n ≤ c) (hcap2 : c ≤ maxLen) :
    Calls Try.prog 43 #[.slice A n c] w (DrawnPgAt w) := by
  have HW := Lib.hid (show Below w.heap.size w (w.alloc (.cells #[.slice none 0 0, .slice none 0 0] 27)) from (Below.refl _ _).alloc (Nat.le_refl _) _)
  have R0 := Lib.hid (Box.new w #[.slice none 0 0, .slice none 0 0] 27)
  have HC := Lib.hid hc
  clear hc
  go_enter Try.func43, Try.ntmps43
  go_wp2_with fail
  refine (open_any (HC.out.below HW.out) hcap hcap2).mono ?_
  rintro e w1 ⟨A', n', c', rfl, hr, hb1⟩
  rw [World.size_alloc] at hb1 hr ⊢
  have R1 := Lib.hid (R0.out.below hb1 (by omega))
  have HW1 := Lib.hid (HW.out.trans (hb1.mono (by omega)))
  have l1 := R1.out.lt
  clear hb1
  go_wp2_with fail
  refine (draw_any hr (by omega)).mono ?_
  rintro e w2 ⟨C, n1, c1, D, m1, d1, ts, rs, q, rfl, hpg, hrd, hq, ht, hC, hD⟩
  have HF := Lib.hid (show Pg w2 C n1 D m1 ts rs ∧ Touch w1 w2 (some ⟨w.heap.size + 1, 0, none⟩) 1 ∧ (∀ a, C = some a → w1.heap.size < a.block) ∧ (∀ a, D = some a → w1.heap.size < a.block) from ⟨hpg, ht, hC, hD⟩)
  clear hpg ht hC hD hr
  go_wp2_with fail
  refine (at_any hrd hq).mono ?_
  rintro e w3 ⟨x, q', rfl, x0, x1, hrd3, hq3, ht3⟩
  obtain ⟨hpg, ht, hC, hD⟩ := HF.out
  have ht4 := ht.trans ht3
  have R2 := Lib.hid (ht4.box R1.out fun a e => by injection e with e; subst e; show w.heap.size ≠ w.heap.size + 1; omega)
  have HF := Lib.hid (drawn_box HW1.out l1 ht4 (Nat.le_succ _) (hpg.touch ht3 (fun a e => by have := hC a e; omega) (fun a e => by have := hD a e; omega)) hC hD (.slice C n1 c1) (.slice D m1 d1))
  clear hpg ht hC hD hrd3 ht3 ht4 hrd
  have p0 := R2.out.cell 0
  have p1 := R2.out.cell 1
  have p2 := R2.out.frz 0
  have p3 := R2.out.frz 1
  simp at p0 p1
  go_wp2_with fail
  refine bodyPost_ret (v := .tuple #[.agg #[.slice C n1 c1, .slice D m1 d1], .int .i64 x]) (by simp [results, Try.results43, go_sem, p0, p1]) rfl ⟨C, n1, c1, D, m1, d1, ts, rs, x, rfl, HF.out.1, x0, x1, HF.out.2⟩

theorem drawKeep_any (hc : Code w A n) (hcap : n ≤ c) (hcap2 : c ≤ maxLen) :
    Calls Try.prog 36 #[.slice A n c] w (DrawnPgAt w) := by
  have HW := Lib.hid (show Below w.heap.size w (w.alloc (.cells #[.slice none 0 0, .slice none 0 0] 27)) from (Below.refl _ _).alloc (Nat.le_refl _) _)
  have R0 := Lib.hid (Box.new w #[.slice none 0 0, .slice none 0 0] 27)
  have HC := Lib.hid hc
  clear hc
  go_enter Try.func36, Try.ntmps36
  go_wp2_with fail
  refine (open_any (HC.out.below HW.out) hcap hcap2).mono ?_
  rintro e w1 ⟨A', n', c', rfl, hr, hb1⟩
  rw [World.size_alloc] at hb1 hr ⊢
  have R1 := Lib.hid (R0.out.below hb1 (by omega))
  have HW1 := Lib.hid (HW.out.trans (hb1.mono (by omega)))
  have l1 := R1.out.lt
  clear hb1
  go_wp2_with fail
  refine (draw_any hr (by omega)).mono ?_
  rintro e w2 ⟨C, n1, c1, D, m1, d1, ts, rs, q, rfl, hpg, hrd, hq, ht, hC, hD⟩
  have HF := Lib.hid (show Pg w2 C n1 D m1 ts rs ∧ Touch w1 w2 (some ⟨w.heap.size + 1, 0, none⟩) 1 ∧ (∀ a, C = some a → w1.heap.size < a.block) ∧ (∀ a, D = some a → w1.heap.size < a.block) from ⟨hpg, ht, hC, hD⟩)
  clear hpg ht hC hD hr
  go_wp2_with fail
  refine (at_any hrd hq).mono ?_
  rintro e w3 ⟨x, q', rfl, x0, x1, hrd3, hq3, ht3⟩
  obtain ⟨hpg, ht, hC, hD⟩ := HF.out
  have ht4 := ht.trans ht3
  have R2 := Lib.hid (ht4.box R1.out fun a e => by injection e with e; subst e; show w.heap.size ≠ w.heap.size + 1; omega)
  have HF := Lib.hid (drawn_box HW1.out l1 ht4 (Nat.le_succ _) (hpg.touch ht3 (fun a e => by have := hC a e; omega) (fun a e => by have := hD a e; omega)) hC hD (.slice C n1 c1) (.slice D m1 d1))
  clear hpg ht hC hD hrd3 ht3 ht4 hrd
  have p0 := R2.out.cell 0
  have p1 := R2.out.cell 1
  have p2 := R2.out.frz 0
  have p3 := R2.out.frz 1
  simp at p0 p1
  go_wp2_with fail
  refine bodyPost_ret (v := .tuple #[.agg #[.slice C n1 c1, .slice D m1 d1], .int .i64 x]) (by simp [results, Try.results36, go_sem, p0, p1]) rfl ⟨C, n1, c1, D, m1, d1, ts, rs, x, rfl, HF.out.1, x0, x1, HF.out.2⟩

theorem drawGive_any (hc : Code w A n) (hcap : n ≤ c) (hcap2 : c ≤ maxLen) :
    Calls Try.prog 41 #[.slice A n c] w (DrawnPgAt w) := by
  have HW := Lib.hid (show Below w.heap.size w (w.alloc (.cells #[.slice none 0 0, .slice none 0 0] 27)) from (Below.refl _ _).alloc (Nat.le_refl _) _)
  have R0 := Lib.hid (Box.new w #[.slice none 0 0, .slice none 0 0] 27)
  have HC := Lib.hid hc
  clear hc
  go_enter Try.func41, Try.ntmps41
  go_wp2_with fail
  refine (open_any (HC.out.below HW.out) hcap hcap2).mono ?_
  rintro e w1 ⟨A', n', c', rfl, hr, hb1⟩
  rw [World.size_alloc] at hb1 hr ⊢
  have R1 := Lib.hid (R0.out.below hb1 (by omega))
  have HW1 := Lib.hid (HW.out.trans (hb1.mono (by omega)))
  have l1 := R1.out.lt
  clear hb1
  go_wp2_with fail
  refine (draw_any hr (by omega)).mono ?_
  rintro e w2 ⟨C, n1, c1, D, m1, d1, ts, rs, q, rfl, hpg, hrd, hq, ht, hC, hD⟩
  have HF := Lib.hid (show Pg w2 C n1 D m1 ts rs ∧ Touch w1 w2 (some ⟨w.heap.size + 1, 0, none⟩) 1 ∧ (∀ a, C = some a → w1.heap.size < a.block) ∧ (∀ a, D = some a → w1.heap.size < a.block) from ⟨hpg, ht, hC, hD⟩)
  clear hpg ht hC hD hr
  go_wp2_with fail
  refine (at_any hrd hq).mono ?_
  rintro e w3 ⟨x, q', rfl, x0, x1, hrd3, hq3, ht3⟩
  obtain ⟨hpg, ht, hC, hD⟩ := HF.out
  have ht4 := ht.trans ht3
  have R2 := Lib.hid (ht4.box R1.out fun a e => by injection e with e; subst e; show w.heap.size ≠ w.heap.size + 1; omega)
  have HF := Lib.hid (drawn_box HW1.out l1 ht4 (Nat.le_succ _) (hpg.touch ht3 (fun a e => by have := hC a e; omega) (fun a e => by have := hD a e; omega)) hC hD (.slice C n1 c1) (.slice D m1 d1))
  clear hpg ht hC hD hrd3 ht3 ht4 hrd
  have p0 := R2.out.cell 0
  have p1 := R2.out.cell 1
  have p2 := R2.out.frz 0
  have p3 := R2.out.frz 1
  simp at p0 p1
  go_wp2_with fail
  refine bodyPost_ret (v := .tuple #[.agg #[.slice C n1 c1, .slice D m1 d1], .int .i64 x]) (by simp [results, Try.results41, go_sem, p0, p1]) rfl ⟨C, n1, c1, D, m1, d1, ts, rs, x, rfl, HF.out.1, x0, x1, HF.out.2⟩

end
end Go.Proofs.Ytemmcjjfjcjbeaa

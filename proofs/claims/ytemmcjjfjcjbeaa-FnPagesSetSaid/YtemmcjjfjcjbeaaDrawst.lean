/-
  The draw of what PagesSet is asked: pages, a place, a byte's place and a byte.
-/
import Derived.Test.YtemmcjjfjcjbeaaDraws
import Derived.Deep.RegionHeld3
import Derived.Deep.RegionWith
namespace Go.Proofs.Ytemmcjjfjcjbeaa
open Go.RowKit

/-- pages, a place, a byte's place and a byte were drawn -/
def DrawnPgSet (w : World) (e : Ending) (w' : World) : Prop :=
  ∃ (C : Option Addr) (n1 c1 : Nat) (D : Option Addr) (m1 d1 : Nat) (ts : List ByteArray) (rs : List Int) (x k b : Int),
    e = .returned (.tuple #[.agg #[.slice C n1 c1, .slice D m1 d1], .int .i64 x, .int .i64 k, .int .i64 b]) ∧ Pg w' C n1 D m1 ts rs ∧ Below w.heap.size w w'

theorem five_at {w w' : World} {W g : Nat} {x v : Int} {t : TypeId} (h : Box w W #[.int .i64 0, .int .i64 255, .int .i64 v, .int .i64 256, .int .i64 (-1)] t) (ht : Touch w w' (some ⟨g, 0, none⟩) 1) (hne : g ≠ W) (x0 : 0 ≤ x) (x1 : x < 5) :
    ∃ r : Int, w'.cell? ⟨W, x.toNat, none⟩ = some (.int .i64 r) := by
  have hb := ht.box h fun a e => by injection e with e; subst e; exact fun e => hne e.symm
  rw [hb.cell]
  obtain h | h | h | h | h : x = 0 ∨ x = 1 ∨ x = 2 ∨ x = 3 ∨ x = 4 := by omega
  all_goals subst h; exact ⟨_, rfl⟩
theorem five_at' {x v : Int} (x0 : 0 ≤ x) (x1 : x < 5) :
    ∃ r : Int, ∀ h : x.toNat < ([Value.int .i64 0, .int .i64 255, .int .i64 v, .int .i64 256, .int .i64 (-1)] : List Value).length, ([Value.int .i64 0, .int .i64 255, .int .i64 v, .int .i64 256, .int .i64 (-1)] : List Value)[x.toNat]'h = .int .i64 r := by
  obtain h | h | h | h | h : x = 0 ∨ x = 1 ∨ x = 2 ∨ x = 3 ∨ x = 4 := by omega
  all_goals subst h; exact ⟨_, fun _ => rfl⟩

section
variable {A : Option Addr} {n c : Nat} {w : World}

set_option maxHeartbeats 2000000 in
theorem drawSet_any (hc : Code w A n) (hcap : n ≤ c) (hcap2 : c ≤ maxLen) :
    Calls Try.prog 45 #[.slice A n c] w (DrawnPgSet w) := by
  have HW := Lib.hid (show Below w.heap.size w (w.alloc (.cells #[.slice none 0 0, .slice none 0 0] 27)) from (Below.refl _ _).alloc (Nat.le_refl _) _)
  have R0 := Lib.hid (Box.new w #[.slice none 0 0, .slice none 0 0] 27)
  have HC := Lib.hid hc
  clear hc
  go_enter Try.func45, Try.ntmps45
  go_wp2_with fail
  refine (open_any (HC.out.below HW.out) hcap hcap2).mono ?_
  rintro e w1 ⟨A', n', c', rfl, hr, hb1⟩
  rw [World.size_alloc] at hb1 hr ⊢
  have R1 := Lib.hid (R0.out.below hb1 (by omega))
  have HW1 := Lib.hid (HW.out.trans (hb1.mono (by omega)))
  have l1 : w.heap.size < w1.drew.heap.size := R1.out.lt
  have HRD := Lib.hid hr.drew
  have RD := Lib.hid R1.out.drew
  have HWD := Lib.hid HW1.out.drew
  clear hb1 hr
  go_wp2_with fail
  go_region_with (first
    | (go_at_call 62
       refine (pick2_any 5 (by omega) (by omega) (hrd5.alloc (.cells #[.int .i64 0, .int .i64 255, .int .i64 v, .int .i64 256, .int .i64 (-1)] 3)) (by omega)).mono ?_
       rintro e w6 ⟨y, rfl, y0, y1, hrd6, ht6⟩
       have ht5 := (HT5.out.then_ ((Below.refl _ _).alloc (Nat.le_refl _) (.cells #[.int .i64 0, .int .i64 255, .int .i64 v, .int .i64 256, .int .i64 (-1)] 3))).trans ht6; obtain ⟨r, r4⟩ := five_at (Box.new w5 #[.int .i64 0, .int .i64 255, .int .i64 v, .int .i64 256, .int .i64 (-1)] 3) ht6 (by omega) y0 y1; have HA := Lib.hid r4
       obtain ⟨hpg, ht, hC, hD⟩ := HF.out
       have ht7 := ht.trans ht5
       have R2 := Lib.hid (ht7.box RD.out fun a e => by injection e with e; subst e; show w.heap.size ≠ w.heap.size + 1; omega)
       have HG := Lib.hid (drawn_box HWD.out l1 ht7 (Nat.le_succ _) (hpg.touch ht5 (fun a e => by have := hC a e; omega) (fun a e => by have := hD a e; omega)) hC hD (.slice C n1 c1) (.slice D m1 d1))
       clear hpg ht hC hD hrd6 ht6 ht5 ht7
       have p0 := R2.out.cell 0
       have p1 := R2.out.cell 1
       have p2 := R2.out.frz 0
       have p3 := R2.out.frz 1
       have p4 := R2.out.lt
       simp at p0 p1)
    | (go_at_call 62
       refine (pick2_any 5 (by omega) (by omega) hrd5 (by omega)).mono ?_
       rintro e w6 ⟨y, rfl, y0, y1, hrd6, ht6⟩
       have ht5 := HT5.out.trans ht6; obtain ⟨r, r4⟩ := five_at' (v := v) y0 y1; have HB := Lib.hid r4
       obtain ⟨hpg, ht, hC, hD⟩ := HF.out
       have ht7 := ht.trans ht5
       have R2 := Lib.hid (ht7.box RD.out fun a e => by injection e with e; subst e; show w.heap.size ≠ w.heap.size + 1; omega)
       have HG := Lib.hid (drawn_box HWD.out l1 ht7 (Nat.le_succ _) (hpg.touch ht5 (fun a e => by have := hC a e; omega) (fun a e => by have := hD a e; omega)) hC hD (.slice C n1 c1) (.slice D m1 d1))
       clear hpg ht hC hD hrd6 ht6 ht5 ht7
       have p0 := R2.out.cell 0
       have p1 := R2.out.cell 1
       have p2 := R2.out.frz 0
       have p3 := R2.out.frz 1
       have p4 := R2.out.lt
       simp at p0 p1)
    | (go_at_call 62
       refine (pick2_any 256 (by omega) (by omega) hrd4 (by omega)).mono ?_
       rintro e w5 ⟨v, rfl, v0, v1, hrd5, ht5⟩
       have HT5 := Lib.hid (HT4.out.trans ht5)
       have hg5 := hrd5.box.lt
       clear ht5)
    | (go_at_call 62
       refine (pick2_any 6 (by omega) (by omega) hrd3 (by omega)).mono ?_
       rintro e w4 ⟨k, rfl, k0, k1, hrd4, ht4⟩
       have hwk : IntKind.i64.wrap (k - 1) = k - 1 := IntWalk.i64_in _ (by omega)
       have HT4 := Lib.hid (ht3.trans ht4)
       clear ht4)
    | (go_at_call 76
       refine (at_any hrd hq).mono ?_
       rintro e w3 ⟨x, q', rfl, x0, x1, hrd3, hq3, ht3⟩
       have hp3 := hrd3.p0)
    | (go_at_call 69
       refine (draw_any HRD.out (by omega)).mono ?_
       rintro e w2 ⟨C, n1, c1, D, m1, d1, ts, rs, q, rfl, hpg, hrd, hq, ht, hC, hD⟩
       have HF := Lib.hid (show Pg w2 C n1 D m1 ts rs ∧ Touch w1.drew w2 (some ⟨w.heap.size + 1, 0, none⟩) 1 ∧ (∀ a, C = some a → w1.drew.heap.size < a.block) ∧ (∀ a, D = some a → w1.drew.heap.size < a.block) from ⟨hpg, ht, hC, hD⟩)
       clear hpg ht hC hD))
  all_goals first
    | (have HZ := HA
       go_wp2
       refine bodyPost_ret (v := .tuple #[.agg #[.slice C n1 c1, .slice D m1 d1], .int .i64 x, .int .i64 (k - 1), .int .i64 r]) (by simp [results, Try.results45, go_sem, p0, p1]) rfl ⟨C, n1, c1, D, m1, d1, ts, rs, x, k - 1, r, rfl, HG.out.1, HG.out.2⟩)
    | (have HZ := HB
       go_wp2
       refine bodyPost_ret (v := .tuple #[.agg #[.slice C n1 c1, .slice D m1 d1], .int .i64 x, .int .i64 (k - 1), .int .i64 r]) (by simp [results, Try.results45, go_sem, p0, p1, p4]) rfl ⟨C, n1, c1, D, m1, d1, ts, rs, x, k - 1, r, rfl, HG.out.1.below ((Below.refl _ _).alloc (Nat.le_refl _) _), HG.out.2.alloc HG.out.2.size _⟩)
end
end Go.Proofs.Ytemmcjjfjcjbeaa

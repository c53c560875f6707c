/-
  The draw of what PagesTake is asked: pages and a text.
-/
import Derived.Test.YtemmcjjfjcjbeaaDraws
import Derived.Deep.RegionHeld3
import Derived.Deep.RegionWith
namespace Go.Proofs.Ytemmcjjfjcjbeaa
open Go.RowKit

/-- pages and a text were drawn -/
def DrawnPgText (w : World) (e : Ending) (w' : World) : Prop :=
  ∃ (C : Option Addr) (n1 c1 : Nat) (D : Option Addr) (m1 d1 : Nat) (ts : List ByteArray) (rs : List Int) (s : ByteArray),
    e = .returned (.tuple #[.agg #[.slice C n1 c1, .slice D m1 d1], .string s]) ∧ Pg w' C n1 D m1 ts rs ∧ s.size ≤ maxLen ∧ Below w.heap.size w w'

theorem text_at {w w' : World} {W g : Nat} {x : Int} {s : ByteArray} {t : TypeId} (h : Box w W #[.string s, .string ⟨#[112, 97, 103, 101]⟩, .string ⟨#[116, 111, 111, 108, 111, 110, 103]⟩, .string ⟨#[]⟩] t) (ht : Touch w w' (some ⟨g, 0, none⟩) 1) (hne : g ≠ W) (hs : s.size ≤ maxLen) (x0 : 0 ≤ x) (x1 : x < 4) :
    ∃ r : ByteArray, w'.cell? ⟨W, x.toNat, none⟩ = some (.string r) ∧ r.size ≤ maxLen := by
  have hb := ht.box h fun a e => by injection e with e; subst e; exact fun e => hne e.symm
  rw [hb.cell]
  obtain h | h | h | h : x = 0 ∨ x = 1 ∨ x = 2 ∨ x = 3 := by omega
  · subst h; exact ⟨_, rfl, hs⟩
  all_goals subst h; exact ⟨_, rfl, by decide⟩

theorem text_at' {x : Int} {s : ByteArray} (hs : s.size ≤ maxLen) (x0 : 0 ≤ x) (x1 : x < 4) :
    ∃ r : ByteArray, (∀ h : x.toNat < ([Value.string s, .string ⟨#[112, 97, 103, 101]⟩, .string ⟨#[116, 111, 111, 108, 111, 110, 103]⟩, .string ⟨#[]⟩] : List Value).length, ([Value.string s, .string ⟨#[112, 97, 103, 101]⟩, .string ⟨#[116, 111, 111, 108, 111, 110, 103]⟩, .string ⟨#[]⟩] : List Value)[x.toNat]'h = .string r) ∧ r.size ≤ maxLen := by
  obtain h | h | h | h : x = 0 ∨ x = 1 ∨ x = 2 ∨ x = 3 := by omega
  · subst h; exact ⟨_, fun _ => rfl, hs⟩
  all_goals subst h; exact ⟨_, fun _ => rfl, by decide⟩

section
variable {A : Option Addr} {n c : Nat} {w : World}

set_option maxHeartbeats 1000000 in
theorem drawTake_any (hc : Code w A n) (hcap : n ≤ c) (hcap2 : c ≤ maxLen) :
    Calls Try.prog 32 #[.slice A n c] w (DrawnPgText w) := by
  have HW := Lib.hid (show Below w.heap.size w (w.alloc (.cells #[.slice none 0 0, .slice none 0 0] 27)) from (Below.refl _ _).alloc (Nat.le_refl _) _)
  have R0 := Lib.hid (Box.new w #[.slice none 0 0, .slice none 0 0] 27)
  have HC := Lib.hid hc
  clear hc
  go_enter Try.func32, Try.ntmps32
  go_wp2_with fail
  refine (open_any (HC.out.below HW.out) hcap hcap2).mono ?_
  rintro e w1 ⟨A', n', c', rfl, hr, hb1⟩
  rw [World.size_alloc] at hb1 hr ⊢
  have R1 := Lib.hid (R0.out.below hb1 (by omega))
  have HW1 := Lib.hid (HW.out.trans (hb1.mono (by omega)))
  have l1 : w.heap.size < w1.drew.heap.size := R1.out.lt
  have HRD := Lib.hid hr.drew
  have RD := Lib.hid R1.out.drew
  have HWD := Lib.hid HW1.out.drew
  clear hb1 hr
  go_wp2_with fail
  go_region_with (first
    | (go_at_call 69
       refine (draw_any HRD.out (by omega)).mono ?_
       rintro e w2 ⟨C, n1, c1, D, m1, d1, ts, rs, q, rfl, hpg, hrd, hq, ht, hC, hD⟩
       have HF := Lib.hid (show Pg w2 C n1 D m1 ts rs ∧ Touch w1.drew w2 (some ⟨w.heap.size + 1, 0, none⟩) 1 ∧ (∀ a, C = some a → w1.drew.heap.size < a.block) ∧ (∀ a, D = some a → w1.drew.heap.size < a.block) from ⟨hpg, ht, hC, hD⟩)
       clear hpg ht hC hD)
    | (go_at_call 72
       refine (page_any hrd hq).mono ?_
       rintro e w3 ⟨s, rfl, hs, hrd3, ht3⟩
       have hp3 := hrd3.p0
       have hg3 := hrd3.box.lt)
    | (go_at_call 62
       refine (pick2_any 4 (by omega) (by omega) (hrd3.alloc (.cells #[.string s, .string ⟨#[112, 97, 103, 101]⟩, .string ⟨#[116, 111, 111, 108, 111, 110, 103]⟩, .string ⟨#[]⟩] 9)) (by omega)).mono ?_
       rintro e w4 ⟨x, rfl, x0, x1, hrd4, ht4⟩
       have ht5 := (ht3.then_ ((Below.refl _ _).alloc (Nat.le_refl _) (.cells #[.string s, .string ⟨#[112, 97, 103, 101]⟩, .string ⟨#[116, 111, 111, 108, 111, 110, 103]⟩, .string ⟨#[]⟩] 9))).trans ht4; obtain ⟨r, r4, r5⟩ := text_at (Box.new w3 #[.string s, .string ⟨#[112, 97, 103, 101]⟩, .string ⟨#[116, 111, 111, 108, 111, 110, 103]⟩, .string ⟨#[]⟩] 9) ht4 (by omega) hs x0 x1; have HA := Lib.hid r5
       obtain ⟨hpg, ht, hC, hD⟩ := HF.out
       have ht6 := ht.trans ht5
       have R2 := Lib.hid (ht6.box RD.out fun a e => by injection e with e; subst e; show w.heap.size ≠ w.heap.size + 1; omega)
       have HG := Lib.hid (drawn_box HWD.out l1 ht6 (Nat.le_succ _) (hpg.touch ht5 (fun a e => by have := hC a e; omega) (fun a e => by have := hD a e; omega)) hC hD (.slice C n1 c1) (.slice D m1 d1))
       clear hpg ht hC hD hrd4 ht4 ht5 ht6
       have p0 := R2.out.cell 0
       have p1 := R2.out.cell 1
       have p2 := R2.out.frz 0
       have p3 := R2.out.frz 1
       have p4 := R2.out.lt
       simp at p0 p1)
    | (go_at_call 62
       refine (pick2_any 4 (by omega) (by omega) hrd3 (by omega)).mono ?_
       rintro e w4 ⟨x, rfl, x0, x1, hrd4, ht4⟩
       have ht5 := ht3.trans ht4; obtain ⟨r, r4, r5⟩ := text_at' hs x0 x1; have HB := Lib.hid r5
       obtain ⟨hpg, ht, hC, hD⟩ := HF.out
       have ht6 := ht.trans ht5
       have R2 := Lib.hid (ht6.box RD.out fun a e => by injection e with e; subst e; show w.heap.size ≠ w.heap.size + 1; omega)
       have HG := Lib.hid (drawn_box HWD.out l1 ht6 (Nat.le_succ _) (hpg.touch ht5 (fun a e => by have := hC a e; omega) (fun a e => by have := hD a e; omega)) hC hD (.slice C n1 c1) (.slice D m1 d1))
       clear hpg ht hC hD hrd4 ht4 ht5 ht6
       have p0 := R2.out.cell 0
       have p1 := R2.out.cell 1
       have p2 := R2.out.frz 0
       have p3 := R2.out.frz 1
       have p4 := R2.out.lt
       simp at p0 p1))
  all_goals first
    | (have HZ := HA
       go_wp2
       refine bodyPost_ret (v := .tuple #[.agg #[.slice C n1 c1, .slice D m1 d1], .string r]) (by simp [results, Try.results32, go_sem, p0, p1]) rfl ⟨C, n1, c1, D, m1, d1, ts, rs, r, rfl, HG.out.1, HZ.out, HG.out.2⟩)
    | (have HZ := HB
       go_wp2
       refine bodyPost_ret (v := .tuple #[.agg #[.slice C n1 c1, .slice D m1 d1], .string r]) (by simp [results, Try.results32, go_sem, p0, p1, p4]) rfl ⟨C, n1, c1, D, m1, d1, ts, rs, r, rfl, HG.out.1.below ((Below.refl _ _).alloc (Nat.le_refl _) _), HZ.out, HG.out.2.alloc HG.out.2.size _⟩)
end
end Go.Proofs.Ytemmcjjfjcjbeaa

/-
  The model's l1Used and PagesGet.
-/
import Derived.Test.YtemmcjjfjcjbeaaTaken
namespace Go.Proofs.Ytemmcjjfjcjbeaa
open Go.RowKit

/-- the model's test: there is such a place, and somebody refers to it -/
def posB (rs : List Int) (x : Int) : Bool := decide ((0 ≤ x ∧ x < rs.length) ∧ 0 < rs.getD x.toNat 0)
theorem posB_out {rs : List Int} {x : Int} (h : ¬ (0 ≤ x ∧ x < rs.length)) : posB rs x = false := decide_eq_false fun g => h g.1
theorem okP_range {s : ByteArray} {r : Int} (h : okP s r = true) : 0 ≤ r ∧ r ≤ 99 := by
  by_cases hr : r = 0
  · omega
  · rw [okP_some hr, decide_eq_true_eq] at h
    exact h.1
theorem okP_size {s : ByteArray} {r : Int} (h : okP s r = true) (hr : ¬ r = 0) : (s.size : Int) = 4 := by
  rw [okP_some hr, decide_eq_true_eq] at h
  exact h.2
theorem posB_used {ts : List ByteArray} {rs : List Int} (x : Int) (h : okPg ts rs = true) : posB rs x = usedB ts rs x := by
  obtain ⟨k1, k2, k3⟩ := okPg_parts h
  by_cases hx : 0 ≤ x ∧ x < rs.length
  · have hk := k3 x.toNat (by omega)
    have hr := okP_range hk
    by_cases hz : rs.getD x.toNat 0 = 0
    · rw [usedB_free hz]
      exact decide_eq_false fun g => by omega
    · rw [usedB_yes h hx hz]
      exact decide_eq_true ⟨hx, by omega⟩
  · rw [posB_out hx, usedB_out hx]

section
variable {A : Option Addr} {n c : Nat} {B : Option Addr} {m d : Nat} {ts : List ByteArray} {rs : List Int} {w : World}

theorem l1Used_any (x : Int) (hr : Row w B m fun k => .int .i64 (rs.getD k 0)) (hm : m ≤ 1048576) (hl : rs.length = m) :
    Calls Try.prog 77 #[.agg #[.slice A n c, .slice B m d], .int .i64 x] w fun e w' => e = .returned (.bool (posB rs x)) ∧ Below w.heap.size w w' := by
  by_cases hx : 0 ≤ x ∧ x < m
  · obtain ⟨b, o, rfl, hb, hc⟩ := hr (by omega)
    obtain ⟨k, rfl⟩ : ∃ k : Nat, x = k := ⟨x.toNat, by omega⟩
    have c1 : w.cell? ⟨b, o + k, none⟩ = some (.int .i64 (rs.getD k 0)) := hc k (by omega)
    have hin : inB (k : Int) 0 ((m : Int) - 1) = true := inB_of (by omega)
    have HP : Hid (posB rs (k : Int) = decide (0 < rs.getD k 0)) := by
      show posB rs (k : Int) = _
      unfold posB
      rw [Bool.eq_iff_iff]; simp; omega
    have hk : (k : Int) < m := by omega
    have h0 : (0 : Int) ≤ k := by omega
    clear hc hr hl hx
    generalize rs.getD k 0 = r at c1 HP
    go_enter Try.func77, Try.ntmps77
    go_wp2_with (go_at_call 64; refine (l6In_any _ _ _ _).mono ?_; rintro e w1 ⟨rfl, rfl⟩)
    go_ret
    refine ⟨?_, (Below.refl _ _).alloc (Nat.le_refl _) _⟩
    rw [HP.out]
    rfl
  · have hin : inB x 0 ((m : Int) - 1) = false := inB_not (by omega)
    have HP : Hid (posB rs x = false) := posB_out (by rw [hl]; exact hx)
    clear hr hl hx
    go_enter Try.func77, Try.ntmps77
    go_wp2_with (go_at_call 64; refine (l6In_any _ _ _ _).mono ?_; rintro e w1 ⟨rfl, rfl⟩)
    go_ret
    refine ⟨?_, (Below.refl _ _).alloc (Nat.le_refl _) _⟩
    rw [HP.out]
    rfl

theorem gets_any (x : Int) (hp : Pg w A n B m ts rs) :
    Calls Try.prog 44 #[.agg #[.slice A n c, .slice B m d], .int .i64 x] w fun e w' => e = .returned (.tuple #[.string (takenS ts rs x), .bool (usedB ts rs x)]) ∧ Below w.heap.size w w' := by
  have H1 := Lib.hid hp
  have HW := Lib.hid (show Below w.heap.size w (w.alloc (.cells #[.slice A n c, .slice B m d] 27)) from (Below.refl _ _).alloc (Nat.le_refl _) _)
  have B1 := Lib.hid (Box.new w #[.slice A n c, .slice B m d] 27)
  clear hp
  by_cases hok : okPg ts rs = true
  · have HK := Lib.hid (okPg_parts hok)
    have hm : m ≤ 12 := by have := HK.out.2.1.2; have := H1.out.rl; omega
    have HPU := Lib.hid (posB_used x hok)
    by_cases hu : usedB ts rs x = true
    · have HU := Lib.hid hu
      obtain ⟨_, hx, hz⟩ := usedB_parts hu
      have h1 := H1.out.tl
      have h2 := H1.out.rl
      have h3 := HK.out.1
      obtain rfl : n = m := by omega
      obtain ⟨b, o, rfl, hb, hc⟩ := H1.out.tc (by omega)
      obtain ⟨k, rfl⟩ : ∃ k : Nat, x = k := ⟨x.toNat, by omega⟩
      have hk : k < n := by omega
      have HC := Lib.hid (show w.cell? ⟨b, o + k, none⟩ = some (.string (ts.getD k .empty)) from hc k hk)
      have HS : Hid (takenS ts rs (k : Int) = ts.getD k .empty) := takenS_yes hu
      have hk2 : (k : Int) < n := by omega
      have hk0 : (0 : Int) ≤ k := by omega
      clear hx hz h1 h2 h3 hc
      generalize ts.getD k .empty = s at HC HS
      go_enter Try.func44, Try.ntmps44
      go_wp2_with fail
      refine (oks_any (H1.out.below HW.out)).mono ?_
      rintro e w1 ⟨rfl, hb1⟩
      have HW1 := Lib.hid (HW.out.trans (hb1.mono (by simp)))
      have B2 := Lib.hid (B1.out.below hb1 (by simp))
      clear hb1
      have p0 := B2.out.cell 0
      have p1 := B2.out.cell 1
      simp at p0 p1
      go_wp2_with fail
      refine (l1Used_any (k : Int) (H1.out.below HW1.out).rc (by omega) H1.out.rl).mono ?_
      rw [HPU.out]
      rintro e w2 ⟨rfl, hb2⟩
      have HW2 := Lib.hid (HW1.out.trans (hb2.mono HW1.out.size))
      have B3 := Lib.hid (B2.out.below hb2 B2.out.lt)
      clear hb2 p0 p1
      have p0 := B3.out.cell 0
      have p1 := B3.out.cell 1
      simp at p0 p1
      have c1 : w2.cell? ⟨b, o + k, none⟩ = some (.string s) := (kc HW2.out _ _ hb).trans HC.out
      go_wp2_with fail
      go_ret2
      exact ⟨by rw [HS.out, HU.out]; rfl, HW2.out⟩
    · have hu' : usedB ts rs x = false := by simpa using hu
      have HS := Lib.hid (takenS_no hu')
      have HU := Lib.hid hu'
      clear hu
      go_enter Try.func44, Try.ntmps44
      go_wp2_with fail
      refine (oks_any (H1.out.below HW.out)).mono ?_
      rintro e w1 ⟨rfl, hb1⟩
      have HW1 := Lib.hid (HW.out.trans (hb1.mono (by simp)))
      have B2 := Lib.hid (B1.out.below hb1 (by simp))
      clear hb1
      have p0 := B2.out.cell 0
      have p1 := B2.out.cell 1
      simp at p0 p1
      go_wp2_with fail
      refine (l1Used_any x (H1.out.below HW1.out).rc (by omega) H1.out.rl).mono ?_
      rw [HPU.out]
      rintro e w2 ⟨rfl, hb2⟩
      have HW2 := Lib.hid (HW1.out.trans (hb2.mono HW1.out.size))
      clear hb2 p0 p1
      go_wp2_with fail
      go_ret2
      exact ⟨by rw [HS.out, HU.out]; rfl, HW2.out⟩
  · have hok' : okPg ts rs = false := by simpa using hok
    have hu : usedB ts rs x = false := usedB_bad hok'
    have HS := Lib.hid (takenS_no hu)
    have HU := Lib.hid hu
    clear hok
    go_enter Try.func44, Try.ntmps44
    go_wp2_with fail
    refine (oks_any (H1.out.below HW.out)).mono ?_
    rintro e w1 ⟨rfl, hb1⟩
    go_wp2_with fail
    go_ret2
    exact ⟨by rw [HS.out, HU.out]; rfl, HW.out.trans (hb1.mono (by simp))⟩
end
end Go.Proofs.Ytemmcjjfjcjbeaa

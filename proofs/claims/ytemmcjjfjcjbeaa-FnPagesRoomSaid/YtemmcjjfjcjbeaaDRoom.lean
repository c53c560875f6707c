/-
  FnPagesRoom answers true for every code: the walk.
-/
import Derived.Test.YtemmcjjfjcjbeaaDraws
import Derived.Test.YtemmcjjfjcjbeaaRoom
import Derived.Test.YtemmcjjfjcjbeaaTake
namespace Go.Proofs.Ytemmcjjfjcjbeaa
open Go.RowKit

theorem firstZ_le : ∀ rs : List Int, firstZ rs ≤ rs.length
  | [] => Nat.le_refl _
  | r :: rs => by
    simp only [firstZ, List.length_cons]
    split
    · omega
    · have := firstZ_le rs; omega
theorem firstZ_at : ∀ rs : List Int, firstZ rs < rs.length → rs.getD (firstZ rs) 0 = 0
  | [], h => absurd h (Nat.not_lt_zero _)
  | r :: rs, h => by
    simp only [firstZ, List.length_cons] at h ⊢
    split
    · rename_i hr
      simpa using hr
    · rename_i hr
      rw [if_neg hr] at h
      simpa using firstZ_at rs (by omega)
/-- a place is free just where one is found -/
theorem free_pos (rs : List Int) : ∀ k, k ≤ rs.length → (0 < freeTo rs k ↔ ∃ j, j < k ∧ rs.getD j 0 = 0)
  | 0, _ => by simp [freeTo]
  | k + 1, hk => by
    have ih := free_pos rs k (by omega)
    have h0 := freeTo_le rs k
    by_cases h : rs.getD k 0 = 0
    · rw [freeTo_yes h]
      exact ⟨fun _ => ⟨k, by omega, h⟩, fun _ => by omega⟩
    · rw [freeTo_no h, ih]
      exact ⟨fun ⟨j, hj, e⟩ => ⟨j, by omega, e⟩, fun ⟨j, hj, e⟩ => ⟨j, by
        rcases Nat.lt_or_ge j k with h1 | h1
        · exact h1
        · have : j = k := by omega
          subst this; exact absurd e h, e⟩⟩
theorem firstZ_none' (rs : List Int) (h : ¬ firstZ rs < rs.length) : ∀ j, j < rs.length → ¬ rs.getD j 0 = 0 := by
  induction rs with
  | nil => intro j hj; exact absurd hj (Nat.not_lt_zero _)
  | cons r rs ih =>
    intro j hj
    simp only [firstZ, List.length_cons] at h hj
    by_cases hr : r = 0
    · rw [if_pos hr] at h; omega
    · rw [if_neg hr] at h
      cases j with
      | zero => simpa using hr
      | succ j => simpa using ih (by omega) j (by omega)
theorem take_room {ts : List ByteArray} {rs : List Int} {s : ByteArray} (hs : (s.size : Int) = 4) (hr : 0 ≤ roomOf ts rs) : takeB ts rs s = decide (0 < roomOf ts rs) := by
  have hok : okPg ts rs = true := by
    cases h : okPg ts rs
    · rw [roomOf_no h] at hr; omega
    · rfl
  unfold takeB
  rw [hok, Bool.true_and, roomOf_yes hok]
  refine decide_eq_decide.2 ?_
  rw [free_pos rs rs.length (Nat.le_refl _)]
  refine ⟨fun ⟨_, h⟩ => ⟨firstZ rs, h, firstZ_at rs h⟩, fun ⟨j, hj, e⟩ => ⟨hs, ?_⟩⟩
  by_cases h : firstZ rs < rs.length
  · exact h
  · exact absurd e (firstZ_none' rs h j hj)

section
variable {A : Option Addr} {n c : Nat} {w : World}
set_option maxHeartbeats 1000000 in
theorem dRoom_walk (hc : Code w A n) (hcap : n ≤ c) (hcap2 : c ≤ maxLen) :
    Calls Try.prog 5 #[.slice A n c] w fun e w' => e = .returned (.bool true) ∧ Below w.heap.size w w' := by
  have hn := hc.1
  unfold maxLen at hn
  by_cases hbig : (1048576 : Int) < n
  · go_enter Try.func5, Try.ntmps5
    go_wp2_with fail
    go_ret
    exact ⟨rfl, Below.refl _ _⟩
  · have HCODE := Lib.hid hc
    clear hc
    go_enter Try.func5, Try.ntmps5
    go_wp2_with fail
    refine (drawRoom_any HCODE.out hcap hcap2).mono ?_
    rintro e w1 ⟨C, n1, c1, D, m1, d1, ts, rs, rfl, hpg, hb1⟩
    have HW1 := Lib.hid hb1
    have HP1 := Lib.hid hpg
    clear hb1 hpg
    have HA1 := Lib.hid (show Below w1.heap.size w1 (w1.alloc (.cells #[.slice C n1 c1, .slice D m1 d1] 27)) from (Below.refl _ _).alloc (Nat.le_refl _) _)
    have B1 := Lib.hid (Box.new w1 #[.slice C n1 c1, .slice D m1 d1] 27)
    go_wp2_with fail
    refine (room_any (HP1.out.below HA1.out)).mono ?_
    rintro e w2 ⟨rfl, hb2⟩
    have HB2 := Lib.hid (HA1.out.trans (hb2.mono (by simp)))
    have HW2 := Lib.hid (HW1.out.trans (HB2.out.mono HW1.out.size))
    have HP2 := Lib.hid (HP1.out.below HB2.out)
    have B2 := Lib.hid (B1.out.below hb2 (by simp))
    clear hb2
    have p0 := B2.out.cell 0
    have p1 := B2.out.cell 1
    have l1 := B2.out.lt
    simp at p0 p1
    go_wp2_with fail
    refine (rooms_any HP2.out).mono ?_
    rintro e w3 ⟨rfl, hb3⟩
    have HW3 := Lib.hid (HW2.out.trans (hb3.mono HW2.out.size))
    have HP3 := Lib.hid (HP2.out.below hb3)
    have B3 := Lib.hid (B2.out.below hb3 B2.out.lt)
    clear hb3 p0 p1 l1
    have p0 := B3.out.cell 0
    have p1 := B3.out.cell 1
    have l1 := B3.out.lt
    simp at p0 p1
    have HTR := Lib.hid (fun h => take_room (ts := ts) (rs := rs) (s := ⟨#[112, 97, 103, 101]⟩) rfl h)
    generalize hre : roomOf ts rs = R at HTR ⊢
    clear hre
    by_cases hr : 0 ≤ R
    · have hr' : (0 : Int) ≤ R := hr
      go_wp2_with fail
      refine (take_any ⟨#[112, 97, 103, 101]⟩ (by decide) HP3.out).mono ?_
      rw [HTR.out hr]
      rintro e w4 ⟨v, rfl, C2, c2, D2, d2, rfl, hg, hb4⟩
      have HW4 := Lib.hid (HW3.out.trans (hb4.mono HW3.out.size))
      clear hg hb4
      go_wp2_with fail
      go_ret
      exact ⟨by simp, HW4.out.alloc HW4.out.size _⟩
    · have hr' : decide (0 ≤ R) = false := decide_eq_false hr
      clear hr
      go_wp2_with fail
      go_ret
      exact ⟨rfl, HW3.out⟩
end
end Go.Proofs.Ytemmcjjfjcjbeaa

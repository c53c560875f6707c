/-
  FnExactPagesGet answers true for every argument: the walk.
-/
import Derived.Test.YtemmcjjfjcjbeaaSget
import Derived.Deep.RegionWith
import Derived.Deep.RegionHeld3
namespace Go.Proofs.Ytemmcjjfjcjbeaa
open Go.RowKit

section
variable {A : Option Addr} {n c : Nat} {B : Option Addr} {m d : Nat} {w : World} {ts : List ByteArray} {rs : List Int}

set_option maxHeartbeats 400000 in
theorem exGet_walk (x : Int) (hp : Pg w A n B m ts rs) :
    Calls Try.prog 17 #[.agg #[.slice A n c, .slice B m d], .int .i64 x] w fun e w' => e = .returned (.bool true) ∧ Below w.heap.size w w' := by
  have H1 := Lib.hid hp
  clear hp
  go_enter Try.func17, Try.ntmps17
  have B1 := Lib.hid (Box.new w #[.slice A n c, .slice B m d] 51)
  have HW := Lib.hid (show Below w.heap.size w (w.alloc (.cells #[.slice A n c, .slice B m d] 51)) from (Below.refl _ _).alloc (Nat.le_refl _) _)
  go_wp2_with fail
  refine (szPages_any 1048576 (by omega) (by omega) (H1.out.below HW.out)).mono ?_
  rintro e w1 ⟨z, rfl, hz, hb1⟩
  have HW1 := Lib.hid (HW.out.trans (hb1.mono (by simp only [World.size_alloc]; omega)))
  have B2 := Lib.hid (B1.out.below hb1 (by simp only [World.size_alloc]; omega))
  clear hb1
  by_cases hz0 : 0 ≤ z
  · obtain ⟨hn, hm⟩ := hz hz0
    clear hz
    have hn' : n ≤ 1048576 := by omega
    have hm' : m ≤ 1048576 := by omega
    have p0 := B2.out.cell 0
    have p1 := B2.out.cell 1
    simp at p0 p1
    go_wp2_with fail
    refine (toPages_any (H1.out.below HW1.out) hn' hm').mono ?_
    rintro e w2 ⟨b, b2, rfl, hlb, hlb2, ho, hb2⟩
    go_wp2_with fail
    refine (gets_any x ho.pg).mono ?_
    rintro e w3 ⟨rfl, hb3⟩
    have HW3 := Lib.hid (HW1.out.trans ((hb2.trans (hb3.mono hb2.size)).mono HW1.out.size))
    have B3 := Lib.hid (B2.out.below (hb2.trans (hb3.mono hb2.size)) B2.out.lt)
    clear p0 p1 ho hb2 hb3 hlb hlb2
    have p0 := B3.out.cell 0
    have p1 := B3.out.cell 1
    simp at p0 p1
    go_wp2_with fail
    refine (toPages_any (H1.out.below HW3.out) hn' hm').mono ?_
    rintro e w4 ⟨b3, b4, rfl, hlb, hlb2, ho, hb4⟩
    have HW4 := Lib.hid (HW3.out.trans (hb4.mono HW3.out.size))
    have B4 := Lib.hid (B3.out.below hb4 B3.out.lt)
    have HO := Lib.hid ho
    clear p0 p1 ho hb4
    have p0 := B4.out.cell 0
    have p1 := B4.out.cell 1
    simp at p0 p1
    go_wp2_with fail
    refine (get_any x (HO.out.pg.below ((Below.refl _ _).alloc (Nat.le_refl _) _))).mono ?_
    rintro e w5 ⟨rfl, hb5⟩
    have B5 := Lib.hid ((B4.out.alloc (.cells #[.slice (some ⟨b3, 0, none⟩) n n, .slice (some ⟨b4, 0, none⟩) m m] 27)).below hb5 (by simp only [World.size_alloc]; have := B4.out.lt; omega))
    have B6 := Lib.hid ((Box.new w4 #[.slice (some ⟨b3, 0, none⟩) n n, .slice (some ⟨b4, 0, none⟩) m m] 27).below hb5 (by simp))
    have HO5 := Lib.hid ((HO.out.kept ((Below.refl _ _).alloc (Nat.le_refl _) _)).kept hb5)
    have HW5 := Lib.hid (HW4.out.trans (((Below.refl _ _).alloc (Nat.le_refl _) _).trans (hb5.mono (by simp)) |>.mono HW4.out.size))
    clear p0 p1 hb5
    have p0 := B5.out.cell 0
    have p1 := B5.out.cell 1
    have p2 := B6.out.cell 0
    have p3 := B6.out.cell 1
    simp at p0 p1 p2 p3
    go_wp2_with fail
    have HD := Lib.hid HW5.out.drew
    have HOD := Lib.hid (HO5.out.kept (Below.refl _ _).drew)
    have l1 := B5.out.lt
    have l2 := B6.out.lt
    go_region_held3 (fun w' => w'.cell? ⟨w.heap.size, 0, none⟩ = some (.slice A n c) ∧ w'.cell? ⟨w.heap.size, 1, none⟩ = some (.slice B m d) ∧
        w'.cell? ⟨w4.heap.size, 0, none⟩ = some (.slice (some ⟨b3, 0, none⟩) n n) ∧ w'.cell? ⟨w4.heap.size, 1, none⟩ = some (.slice (some ⟨b4, 0, none⟩) m m))
      (first | exact ⟨r0, r1, r2, r3⟩ | go_keep)
      (first
        | (go_at_call 52; refine (toPages_any (H1.out.below HD.out) hn' hm').mono ?_; rintro e w6 ⟨b5, b6, rfl, hlb5, hlb6, ho6, hb6⟩; have r0 := (hb6.cell (p := ⟨w.heap.size, 0, none⟩) l1).trans p0; have r1 := (hb6.cell (p := ⟨w.heap.size, 1, none⟩) l1).trans p1; have r2 := (hb6.cell (p := ⟨w4.heap.size, 0, none⟩) l2).trans p2; have r3 := (hb6.cell (p := ⟨w4.heap.size, 1, none⟩) l2).trans p3)
        | (go_at_call 48; refine (eqPages_any (HOD.out.pg.below hb6) ho6.pg).mono ?_; rintro e w7 ⟨rfl, hb7⟩; clear r0 r1 r2 r3; have r0 := ((hb7.cell (p := ⟨w.heap.size, 0, none⟩) (Nat.lt_of_lt_of_le l1 hb6.size)).trans (hb6.cell (p := ⟨w.heap.size, 0, none⟩) l1)).trans p0; have r1 := ((hb7.cell (p := ⟨w.heap.size, 1, none⟩) (Nat.lt_of_lt_of_le l1 hb6.size)).trans (hb6.cell (p := ⟨w.heap.size, 1, none⟩) l1)).trans p1; have r2 := ((hb7.cell (p := ⟨w4.heap.size, 0, none⟩) (Nat.lt_of_lt_of_le l2 hb6.size)).trans (hb6.cell (p := ⟨w4.heap.size, 0, none⟩) l2)).trans p2; have r3 := ((hb7.cell (p := ⟨w4.heap.size, 1, none⟩) (Nat.lt_of_lt_of_le l2 hb6.size)).trans (hb6.cell (p := ⟨w4.heap.size, 1, none⟩) l2)).trans p3))
    go_wp2
    go_ret
    exact ⟨rfl, HD.out.trans ((hb6.mono HD.out.size).trans (hb7.mono (Nat.le_trans HD.out.size hb6.size)))⟩
  · clear hz
    go_wp2
    go_ret
    exact ⟨rfl, HW1.out⟩
end
end Go.Proofs.Ytemmcjjfjcjbeaa

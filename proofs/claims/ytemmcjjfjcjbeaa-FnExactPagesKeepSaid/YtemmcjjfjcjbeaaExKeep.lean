/-
  FnExactPagesKeep answers true for all arguments: the walk.
-/
import Derived.Test.YtemmcjjfjcjbeaaSkeep
import Derived.Test.YtemmcjjfjcjbeaaMark2
import Derived.Deep.RegionHeld3
namespace Go.Proofs.Ytemmcjjfjcjbeaa
open Go.RowKit

section
variable {A : Option Addr} {n c : Nat} {B : Option Addr} {m d : Nat} {w : World} {ts : List ByteArray} {rs : List Int}

set_option maxHeartbeats 2000000 in
set_option maxRecDepth 100000 in
theorem exKeep_walk (x : Int) (hp : Pg w A n B m ts rs) :
    Calls Try.prog 15 #[.agg #[.slice A n c, .slice B m d], .int .i64 x] w fun e w' => e = .returned (.bool true) ∧ Below w.heap.size w w' := by
  have H1 := Lib.hid hp
  clear hp
  go_enter Try.func15, Try.ntmps15
  have B1 := Lib.hid (Box.new w #[.slice A n c, .slice B m d] 51)
  have HW := Lib.hid (show Below w.heap.size w (w.alloc (.cells #[.slice A n c, .slice B m d] 51)) from (Below.refl _ _).alloc (Nat.le_refl _) _)
  go_wp2_with fail
  refine (szPages_any 1048576 (by omega) (by omega) (H1.out.below HW.out)).mono ?_
  rintro e w1 ⟨z, rfl, hz, hb1⟩
  have HW1 := Lib.hid (HW.out.trans (hb1.mono (by simp only [World.size_alloc]; omega)))
  have BA1 := Lib.hid (B1.out.below hb1 (by simp only [World.size_alloc]; omega))
  clear hb1
  by_cases hz0 : z < 0
  · clear hz
    go_wp2
    go_ret
    exact ⟨rfl, HW1.out⟩
  obtain ⟨hn, hm⟩ := hz (by omega)
  clear hz
  have hz1 : 0 ≤ z := by omega
  have hn' : n ≤ 1048576 := by omega
  have hm' : m ≤ 1048576 := by omega
  clear hz0
  have p0 := BA1.out.cell 0
  have p1 := BA1.out.cell 1
  simp at p0 p1
  go_wp2_with fail
  refine (toPages_any (H1.out.below HW1.out) hn' hm').mono ?_
  rintro e w2 ⟨b, b2, rfl, hlb, hlb2, ho, hb2⟩
  have HW2 := Lib.hid (HW1.out.trans (hb2.mono HW1.out.size))
  have BA2 := Lib.hid (BA1.out.below hb2 BA1.out.lt)
  clear p0 p1 hb2
  go_wp2_with fail
  refine (skeep_any x ho.pg).mono ?_
  rintro e w3 ⟨v0, rfl, C, cc, D, dd, rfl, hsp, hb3⟩
  have HW3 := Lib.hid (HW2.out.trans (hb3.mono HW2.out.size))
  have BA3 := Lib.hid (BA2.out.below hb3 BA2.out.lt)
  have HSP := Lib.hid hsp
  clear hb3 hsp ho hlb hlb2
  generalize hTe : keepT ts rs x = TS at HSP
  generalize hRe : keepR ts rs x = RS at HSP
  have HTE := Lib.hid hTe
  have HRE := Lib.hid hRe
  clear hTe hRe
  generalize hNe : TS.length = N at HSP
  generalize hMe : RS.length = M at HSP
  have HNE := Lib.hid hNe
  have HME := Lib.hid hMe
  clear hNe hMe
  have BA4 := Lib.hid (BA3.out.alloc (.cells #[.slice C N cc, .slice D M dd] 27))
  have BB4 := Lib.hid (Box.new w3 #[.slice C N cc, .slice D M dd] 27)
  have HW4 := Lib.hid (HW3.out.alloc HW3.out.size (.cells #[.slice C N cc, .slice D M dd] 27))
  have HL4 := Lib.hid (show Below w3.heap.size w3 (w3.alloc (.cells #[.slice C N cc, .slice D M dd] 27)) from (Below.refl _ _).alloc (Nat.le_refl _) _)
  have p0 := BA3.out.cell 0
  have p1 := BA3.out.cell 1
  have la := BA3.out.lt
  simp at p0 p1
  go_wp2_with fail
  refine (toPages_any (H1.out.below HW4.out) hn' hm').mono ?_
  rintro e w5 ⟨b3, b4, rfl, hlb, hlb2, ho, hb5⟩
  rw [World.size_alloc] at hlb hlb2
  have HO5 := Lib.hid ho
  have BA5 := Lib.hid (BA4.out.below hb5 BA4.out.lt)
  have BB5 := Lib.hid (BB4.out.below hb5 BB4.out.lt)
  have HW5 := Lib.hid (HW4.out.trans (hb5.mono HW4.out.size))
  have HL5 := Lib.hid (HL4.out.trans (hb5.mono HL4.out.size))
  clear ho hb5 p0 p1
  have HA5 := Lib.hid (show Below w5.heap.size w5 (w5.alloc (.cells #[.slice (some ⟨b3, 0, none⟩) n n, .slice (some ⟨b4, 0, none⟩) m m] 27)) from (Below.refl _ _).alloc (Nat.le_refl _) _)
  have BC6 := Lib.hid (Box.new w5 #[.slice (some ⟨b3, 0, none⟩) n n, .slice (some ⟨b4, 0, none⟩) m m] 27)
  have lb3 := HO5.out.tr.lt
  have lb4 := HO5.out.rr.lt
  have HO6 := Lib.hid (HO5.out.kept HA5.out)
  go_wp2_with fail
  refine (keep_any x HO6.out.pg).mono ?_
  rw [HTE.out, HRE.out]
  rintro e w7 ⟨v1, rfl, C1, c1, D1, d1, rfl, hg, hb7⟩
  rw [HNE.out, HME.out] at hg ⊢
  have HB7 := Lib.hid (HA5.out.trans (hb7.mono (by simp)))
  have HG7 := Lib.hid hg
  have HO7 := Lib.hid (HO6.out.kept hb7)
  have BA7 := Lib.hid (BA5.out.below HB7.out BA5.out.lt)
  have BB7 := Lib.hid (BB5.out.below HB7.out BB5.out.lt)
  have BC7 := Lib.hid (BC6.out.below hb7 (by simp))
  have HW7 := Lib.hid (HW5.out.trans (HB7.out.mono HW5.out.size))
  have HL7 := Lib.hid (HL5.out.trans (HB7.out.mono HL5.out.size))
  clear hg hb7
  have HA7 := Lib.hid (show Below w7.heap.size w7 (w7.alloc (.cells #[.slice C1 N c1, .slice D1 M d1] 27)) from (Below.refl _ _).alloc (Nat.le_refl _) _)
  have BD8 := Lib.hid (Box.new w7 #[.slice C1 N c1, .slice D1 M d1] 27)
  have BB8 := Lib.hid (BB7.out.below HA7.out BB7.out.lt)
  have lb := BB7.out.lt
  have lc := BC7.out.lt
  have lay := BA7.out.lt
  have p2 := BB7.out.cell 0
  have p3 := BB7.out.cell 1
  simp at p2 p3
  go_wp2_with fail
  refine (eqPages_any (HG7.out.pg.below HA7.out) ((HSP.out.below HL7.out).below HA7.out)).mono ?_
  rintro e w9 ⟨rfl, hb9⟩
  have HB9 := Lib.hid (HA7.out.trans (hb9.mono (by simp)))
  have BA9 := Lib.hid (BA7.out.below HB9.out BA7.out.lt)
  have BB9 := Lib.hid (BB7.out.below HB9.out BB7.out.lt)
  have BC9 := Lib.hid (BC7.out.below HB9.out BC7.out.lt)
  have BD9 := Lib.hid (BD8.out.below hb9 (by simp))
  have HG9 := Lib.hid (HG7.out.below HB9.out)
  have HO9 := Lib.hid (HO7.out.kept HB9.out)
  have HW9 := Lib.hid (HW7.out.trans (HB9.out.mono HW7.out.size))
  have HL9 := Lib.hid (HL7.out.trans (HB9.out.mono HL7.out.size))
  clear hb9 p2 p3 la lb lc lay
  have p0 := BA9.out.cell 0
  have p1 := BA9.out.cell 1
  have p2 := BC9.out.cell 0
  have p3 := BC9.out.cell 1
  simp at p0 p1 p2 p3
  have l1 := BA9.out.lt
  have l2 := BC9.out.lt
  have HD := Lib.hid HW9.out.drew
  have HOD := Lib.hid (HO9.out.kept (Below.refl _ _).drew)
  go_wp2_with fail
  go_region_held3 (fun w' => w'.cell? ⟨w.heap.size, 0, none⟩ = some (.slice A n c) ∧ w'.cell? ⟨w.heap.size, 1, none⟩ = some (.slice B m d) ∧
      w'.cell? ⟨w5.heap.size, 0, none⟩ = some (.slice (some ⟨b3, 0, none⟩) n n) ∧ w'.cell? ⟨w5.heap.size, 1, none⟩ = some (.slice (some ⟨b4, 0, none⟩) m m))
    (first | exact ⟨r0, r1, r2, r3⟩ | go_keep)
    (first
      | (go_at_call 52; refine (toPages_any (H1.out.below HD.out) hn' hm').mono ?_; rintro e w10 ⟨b5, b6, rfl, hlb5, hlb6, ho6, hb10⟩; have r0 := (hb10.cell (p := ⟨w.heap.size, 0, none⟩) l1).trans p0; have r1 := (hb10.cell (p := ⟨w.heap.size, 1, none⟩) l1).trans p1; have r2 := (hb10.cell (p := ⟨w5.heap.size, 0, none⟩) l2).trans p2; have r3 := (hb10.cell (p := ⟨w5.heap.size, 1, none⟩) l2).trans p3)
      | (go_at_call 48; refine (eqPages_any (HOD.out.pg.below hb10) ho6.pg).mono ?_; rintro e w11 ⟨rfl, hb11⟩; clear r0 r1 r2 r3; have r0 := ((hb11.cell (p := ⟨w.heap.size, 0, none⟩) (Nat.lt_of_lt_of_le l1 hb10.size)).trans (hb10.cell (p := ⟨w.heap.size, 0, none⟩) l1)).trans p0; have r1 := ((hb11.cell (p := ⟨w.heap.size, 1, none⟩) (Nat.lt_of_lt_of_le l1 hb10.size)).trans (hb10.cell (p := ⟨w.heap.size, 1, none⟩) l1)).trans p1; have r2 := ((hb11.cell (p := ⟨w5.heap.size, 0, none⟩) (Nat.lt_of_lt_of_le l2 hb10.size)).trans (hb10.cell (p := ⟨w5.heap.size, 0, none⟩) l2)).trans p2; have r3 := ((hb11.cell (p := ⟨w5.heap.size, 1, none⟩) (Nat.lt_of_lt_of_le l2 hb10.size)).trans (hb10.cell (p := ⟨w5.heap.size, 1, none⟩) l2)).trans p3))
  have HB11 := Lib.hid (show Below w9.heap.size w9 w11 from (Below.refl _ _).drew.trans (hb10.trans (hb11.mono hb10.size)))
  clear hb10 hb11 ho6 hlb5 hlb6 p0 p1 p2 p3 l1 l2
  have BA11 := Lib.hid (BA9.out.below HB11.out BA9.out.lt)
  have BB11 := Lib.hid (BB9.out.below HB11.out BB9.out.lt)
  have BC11 := Lib.hid (BC9.out.below HB11.out BC9.out.lt)
  have BD11 := Lib.hid (BD9.out.below HB11.out BD9.out.lt)
  have HG11 := Lib.hid (HG9.out.below HB11.out)
  have HO11 := Lib.hid (HO9.out.kept HB11.out)
  have HW11 := Lib.hid (HW9.out.trans (HB11.out.mono HW9.out.size))
  have HL11 := Lib.hid (HL9.out.trans (HB11.out.mono HL9.out.size))
  have s7 := HB7.out.size
  have s5 := HL5.out.size
  have p2 := BC11.out.cell 0
  have p3 := BC11.out.cell 1
  simp at p2 p3
  go_wp2_with fail
  refine (markPages_any 1 (by omega) (by omega) (HO11.out.gp (lo := w3.heap.size + 1) hlb hlb2)).mono ?_
  rintro e w12 ⟨rfl, _, _, ht⟩
  have BA12 := Lib.hid (ht.box BA11.out (fun a e => by injection e with e; subst e; show w.heap.size ≠ b3; have := BA3.out.lt; omega) (fun a e => by injection e with e; subst e; show w.heap.size ≠ b4; have := BA3.out.lt; omega))
  have BB12 := Lib.hid (ht.box BB11.out (fun a e => by injection e with e; subst e; show w3.heap.size ≠ b3; omega) (fun a e => by injection e with e; subst e; show w3.heap.size ≠ b4; omega))
  have BD12 := Lib.hid (ht.box BD11.out (fun a e => by injection e with e; subst e; show w7.heap.size ≠ b3; omega) (fun a e => by injection e with e; subst e; show w7.heap.size ≠ b4; omega))
  have HG12 := Lib.hid (ht.newer (lo' := w5.heap.size + 1) (fun a _ e => by injection e with e; subst e; show b3 < _; omega) (fun a _ e => by injection e with e; subst e; show b4 < _; omega) (by have h := HG11.out; rw [World.size_alloc] at h; exact h))
  have hbl := ht.below (HO11.out.gp (lo := w3.heap.size + 1) hlb hlb2) (by have := HL11.out.size; have := BB11.out.lt; omega)
  have HW12 := Lib.hid (HW11.out.trans (hbl.mono (by have := BA3.out.lt; omega)))
  have HL12 := Lib.hid (HL11.out.trans (hbl.mono (by omega)))
  clear ht hbl p2 p3
  have q0 := BD12.out.cell 0
  have q1 := BD12.out.cell 1
  have q2 := BB12.out.cell 0
  have q3 := BB12.out.cell 1
  simp at q0 q1 q2 q3
  have hk12 : ¬ (1 + (n : Int) + (m : Int) < 0) := by omega
  go_wp2_with fail
  refine (eqPages_any HG12.out.pg (HSP.out.below HL12.out)).mono ?_
  rintro e w13 ⟨rfl, hb13⟩
  have BA13 := Lib.hid (BA12.out.below hb13 BA12.out.lt)
  have BB13 := Lib.hid (BB12.out.below hb13 BB12.out.lt)
  have BD13 := Lib.hid (BD12.out.below hb13 BD12.out.lt)
  have HG13 := Lib.hid (HG12.out.below hb13)
  have HW13 := Lib.hid (HW12.out.trans (hb13.mono HW12.out.size))
  have HL13 := Lib.hid (HL12.out.trans (hb13.mono HL12.out.size))
  have hNb := HG13.out.nb
  have hMb := HG13.out.mb
  have s13 := hb13.size
  have ld := BD12.out.lt
  clear hb13 q0 q1 q2 q3
  have q0 := BD13.out.cell 0
  have q1 := BD13.out.cell 1
  simp at q0 q1
  go_wp2_with fail
  refine (markPages_any 1 (by omega) (by omega) HG13.out).mono ?_
  rintro e w14 ⟨rfl, ho1, ho2, ht⟩
  have HM1 := Lib.hid ho1.row
  have HM2 := Lib.hid ho2.row
  have hlt1 := HG7.out.lt1
  have hlt2 := HG7.out.lt2
  have hbl := ht.below HG13.out (by omega)
  have BA14 := Lib.hid (BA13.out.below hbl (by have := BA3.out.lt; omega))
  have BB14 := Lib.hid (BB13.out.below hbl (by omega))
  have BD14 : Hid (Box w14 w7.heap.size #[.slice C1 N c1, .slice D1 M d1] 27) := Lib.hid ((ht.block w7.heap.size BD13.out.lt (fun h0 a e => by have := hlt1 a h0 e; omega) (fun h0 a e => by have := hlt2 a h0 e; omega)).trans BD13.out)
  have HW14 := Lib.hid (HW13.out.trans (hbl.mono (by have := BA3.out.lt; omega)))
  have HL14 := Lib.hid (HL13.out.trans (hbl.mono (by omega)))
  clear ht hbl ho1 ho2 q0 q1 hlt1 hlt2
  have q0 := BD14.out.cell 0
  have q1 := BD14.out.cell 1
  simp at q0 q1
  go_wp2_with fail
  refine (heldPages_any 1 (by omega) (by omega) hNb hMb HM1.out HM2.out).mono ?_
  rintro e w15 ⟨rfl, hb15⟩
  have H15 := Lib.hid hb15
  have BA15 := Lib.hid (BA14.out.below hb15 BA14.out.lt)
  have BB15 := Lib.hid (BB14.out.below hb15 BB14.out.lt)
  have BD15 := Lib.hid (BD14.out.below hb15 BD14.out.lt)
  have HW15 := Lib.hid (HW14.out.trans (hb15.mono HW14.out.size))
  have HL15 := Lib.hid (HL14.out.trans (hb15.mono HL14.out.size))
  clear hb15 q0 q1
  have p0 := BA15.out.cell 0
  have p1 := BA15.out.cell 1
  simp at p0 p1
  have hk15 : ¬ (1 + (N : Int) + (M : Int) < 0) := by omega
  go_wp2_with fail
  refine (toPages_any (H1.out.below HW15.out) hn' hm').mono ?_
  rintro e w16 ⟨b7, b8, rfl, hlb7, hlb8, ho, hb16⟩
  have HO16 := Lib.hid ho
  have H16 := Lib.hid (H15.out.trans (hb16.mono H15.out.size))
  have BB16 := Lib.hid (BB15.out.below hb16 BB15.out.lt)
  have BD16 := Lib.hid (BD15.out.below hb16 BD15.out.lt)
  have HW16 := Lib.hid (HW15.out.trans (hb16.mono HW15.out.size))
  have HL16 := Lib.hid (HL15.out.trans (hb16.mono HL15.out.size))
  clear ho hb16 p0 p1 hlb7 hlb8
  go_wp2_with fail
  refine (keep_any x HO16.out.pg).mono ?_
  rw [HTE.out, HRE.out]
  rintro e w17 ⟨v2, rfl, C2, c2, D2, d2, rfl, hg, hb17⟩
  rw [HNE.out, HME.out] at hg ⊢
  have HG17 := Lib.hid hg
  have H17 := Lib.hid (H16.out.trans (hb17.mono H16.out.size))
  have BB17 := Lib.hid (BB16.out.below hb17 BB16.out.lt)
  have BD17 := Lib.hid (BD16.out.below hb17 BD16.out.lt)
  have HW17 := Lib.hid (HW16.out.trans (hb17.mono HW16.out.size))
  have HL17 := Lib.hid (HL16.out.trans (hb17.mono HL16.out.size))
  clear hg hb17
  have HA17 := Lib.hid (show Below w17.heap.size w17 (w17.alloc (.cells #[.slice C2 N c2, .slice D2 M d2] 27)) from (Below.refl _ _).alloc (Nat.le_refl _) _)
  have lb17 := BB17.out.lt
  have p0 := BB17.out.cell 0
  have p1 := BB17.out.cell 1
  simp at p0 p1
  go_wp2_with fail
  refine (eqPages_any (HG17.out.pg.below HA17.out) ((HSP.out.below HL17.out).below HA17.out)).mono ?_
  rintro e w19 ⟨rfl, hb19⟩
  have HB19 := Lib.hid (HA17.out.trans (hb19.mono (by simp)))
  have BD19 := Lib.hid (BD17.out.below HB19.out BD17.out.lt)
  have H19 := Lib.hid (H17.out.trans (HB19.out.mono H17.out.size))
  have HW19 := Lib.hid (HW17.out.trans (HB19.out.mono HW17.out.size))
  clear hb19 p0 p1
  have q0 := BD19.out.cell 0
  have q1 := BD19.out.cell 1
  simp at q0 q1
  go_wp2_with fail
  refine (heldPages_any 1 (by omega) (by omega) hNb hMb (HM1.out.below H19.out) (HM2.out.below H19.out)).mono ?_
  rintro e w20 ⟨rfl, hb20⟩
  clear q0 q1
  go_wp2
  go_ret
  exact ⟨rfl, HW19.out.trans (hb20.mono HW19.out.size)⟩
end
end Go.Proofs.Ytemmcjjfjcjbeaa

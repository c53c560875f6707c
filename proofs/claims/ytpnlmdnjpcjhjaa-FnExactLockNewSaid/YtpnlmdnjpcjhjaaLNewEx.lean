/-
  The walk of the exact law of LockNew.
-/
import Derived.Test.YtpnlmdnjpcjhjaaLS6s
import Derived.Test.YtpnlmdnjpcjhjaaLS2
namespace Go.Proofs.Ytpnlmdnjpcjhjaa
open Go.RowKit

set_option maxHeartbeats 4000000 in
set_option maxRecDepth 100000 in
theorem exLockNew_walk (hnew : KNew 20) {w : World} (n t : Int) : Calls Try.prog 13 #[.int .i64 n, .int .i64 t] w fun e w' => e = .returned (.bool true) ∧ Below w.heap.size w w' := by
  have HN := Lib.hid hnew
  clear hnew
  go_enter Try.func13, Try.ntmps13
  go_wp2_with fail
  refine (lockNew_any n t).mono ?_
  rintro e w1 ⟨x0, x1, x2, fs, rfl, hm, hf, _, hb⟩
  have HDE := Lib.hid (show newL n t = newL n t from rfl)
  generalize hDD : newL n t = DD at hm HDE
  generalize hBB : newB n t = BB
  have HDD := Lib.hid hDD
  have HBB := Lib.hid hBB
  clear hDD hBB HDE
  obtain ⟨sA1, sn1, sc1, sA2, sn2, sc2, hsh⟩ := tyLock_shM hm
  simp only [List.cons.injEq, and_true] at hsh
  obtain ⟨rfl, rfl, rfl⟩ := hsh
  have HSP := Lib.hid (tyLock.mr hm fun b hb => (hf b hb).2)
  have HB1 := Lib.hid hb
  clear hm hf hb
  have HA1 := Lib.hid (show Below w1.heap.size w1 (w1.alloc (.cells #[.int .i64 DD.1, .slice sA1 sn1 sc1, .slice sA2 sn2 sc2] 28)) from (Below.refl _ _).alloc (Nat.le_refl _) _)
  have S1 := Lib.hid (Box.new w1 #[.int .i64 DD.1, .slice sA1 sn1 sc1, .slice sA2 sn2 sc2] 28)
  go_wp2_with fail
  refine (HN.out n t).mono ?_
  rw [HDD.out, HBB.out]
  rintro e w3 ⟨x0, x1, x2, fg, rfl, hm, hf, hsg, hb⟩
  obtain ⟨gA1, gn1, gc1, gA2, gn2, gc2, hsh⟩ := tyLock_shM hm
  simp only [List.cons.injEq, and_true] at hsh
  obtain ⟨rfl, rfl, rfl⟩ := hsh
  have HK3 := Lib.hid (HA1.out.trans (hb.mono HA1.out.size))
  have S3 := Lib.hid (S1.out.below hb (by simp))
  have HG3 := Lib.hid hm
  have HSG := Lib.hid hsg
  clear hsg
  have HF := Lib.hid (fun x hx => show w1.heap.size < x ∧ x < w3.heap.size from by have h := hf x hx; simp only [World.size_alloc] at h; omega)
  clear hm hf hb
  have HA3 := Lib.hid (show Below w3.heap.size w3 (w3.alloc (.cells #[.int .i64 DD.1, .slice gA1 gn1 gc1, .slice gA2 gn2 gc2] 28)) from (Below.refl _ _).alloc (Nat.le_refl _) _)
  have G4 := Lib.hid (Box.new w3 #[.int .i64 DD.1, .slice gA1 gn1 gc1, .slice gA2 gn2 gc2] 28)
  have HG4 := Lib.hid (Ty.mb HG3.out HA3.out fun x hx => (HF.out x hx).2)
  have HK4 := Lib.hid (HK3.out.trans (HA3.out.mono HK3.out.size))
  have s0 := S3.out.cell 0
  have s1 := S3.out.cell 1
  have s2 := S3.out.cell 2
  have sl := S3.out.lt
  simp at s0 s1 s2
  go_wp2_with fail
  refine (eqLock_t (tyLock.mr HG4.out fun x hx => (HF.out x hx).2) (Ty.rb HSP.out HK4.out)).mono ?_
  rintro e w5 ⟨rfl, hb5⟩
  have HK5 := Lib.hid (HK4.out.trans (hb5.mono HK4.out.size))
  have HC5 := Lib.hid (HA3.out.trans (hb5.mono HA3.out.size))
  have S5 := Lib.hid (S3.out.below HC5.out S3.out.lt)
  have G5 := Lib.hid (G4.out.below hb5 (by simp))
  have HG5 := Lib.hid (Ty.mb HG3.out HC5.out fun x hx => (HF.out x hx).2)
  clear hb5
  clear s0 s1 s2 sl
  have g0 := G5.out.cell 0
  have g1 := G5.out.cell 1
  have g2 := G5.out.cell 2
  have gl := G5.out.lt
  simp at g0 g1 g2
  go_wp2_with fail
  refine (markLock_t (D := DD) 1 (by omega) (by omega) HG5.out (fun x hx => Nat.lt_of_lt_of_le (HF.out x hx).2 HC5.out.size)).mono ?_
  rintro e w6 ⟨rfl, hm6, ht6⟩
  have hcp := cntLock_pos (D := DD)
  generalize hcn : cntLock DD = cn at *
  have HCN := Lib.hid hcn
  have hpos : ¬ (1 + cn < 0) := by omega
  have hs3 := HK3.out.size
  have S6 := Lib.hid (ht6.box S5.out fun hx => by have := HF.out _ hx; omega)
  have G6 := Lib.hid (ht6.box G5.out fun hx => by have := HF.out _ hx; omega)
  have HK6 := Lib.hid (HK5.out.trans (ht6.below (lo := w1.heap.size) HK5.out.size (fun x hx => by have := HF.out x hx; omega)))
  have HM6 := Lib.hid (tyLock.mr hm6 (fun x hx => (HF.out x hx).2))
  have hs6 : w3.heap.size ≤ w6.heap.size := Nat.le_trans HC5.out.size ht6.size
  clear hm6 ht6 hcn
  clear g0 g1 g2 gl
  have g0 := G6.out.cell 0
  have g1 := G6.out.cell 1
  have g2 := G6.out.cell 2
  have gl := G6.out.lt
  simp at g0 g1 g2
  go_wp2_with fail
  refine (heldLock_t (D := DD) 1 (by omega) (by omega) HM6.out HSG.out).mono ?_
  rintro e w7 ⟨rfl, hb7⟩
  rw [HCN.out]
  have S7 := Lib.hid (S6.out.below hb7 S6.out.lt)
  have G7 := Lib.hid (G6.out.below hb7 G6.out.lt)
  have HK7 := Lib.hid (HK6.out.trans (hb7.mono HK6.out.size))
  have H67 := Lib.hid hb7
  clear hb7
  clear g0 g1 g2 gl
  go_wp2_with fail
  refine (HN.out n t).mono ?_
  rw [HDD.out, HBB.out]
  rintro e w8 ⟨x0, x1, x2, fh, rfl, hm, hf, _, hb⟩
  obtain ⟨hA1, hn1, hc1, hA2, hn2, hc2, hsh⟩ := tyLock_shM hm
  simp only [List.cons.injEq, and_true] at hsh
  obtain ⟨rfl, rfl, rfl⟩ := hsh
  have HHR := Lib.hid (tyLock.mr hm fun b hb => (hf b hb).2)
  have S8 := Lib.hid (S7.out.below hb S7.out.lt)
  have G8 := Lib.hid (G7.out.below hb G7.out.lt)
  have HK8 := Lib.hid (HK7.out.trans (hb.mono HK7.out.size))
  have H68 := Lib.hid (H67.out.trans (hb.mono H67.out.size))
  clear hm hf hb
  have HA8 := Lib.hid (show Below w8.heap.size w8 (w8.alloc (.cells #[.int .i64 DD.1, .slice hA1 hn1 hc1, .slice hA2 hn2 hc2] 28)) from (Below.refl _ _).alloc (Nat.le_refl _) _)
  have HK9 := Lib.hid (HK8.out.trans (HA8.out.mono HK8.out.size))
  have s0 := S8.out.cell 0
  have s1 := S8.out.cell 1
  have s2 := S8.out.cell 2
  have sl := S8.out.lt
  simp at s0 s1 s2
  go_wp2_with fail
  refine (eqLock_t (Ty.rb HHR.out HA8.out) (Ty.rb HSP.out HK9.out)).mono ?_
  rintro e w10 ⟨rfl, hb10⟩
  have HC10 := Lib.hid (HA8.out.trans (hb10.mono HA8.out.size))
  have G10 := Lib.hid (G8.out.below HC10.out G8.out.lt)
  have HK10 := Lib.hid (HK9.out.trans (hb10.mono HK9.out.size))
  have H610 := Lib.hid (H68.out.trans (HC10.out.mono H68.out.size))
  clear hb10
  clear s0 s1 s2 sl
  have g0 := G10.out.cell 0
  have g1 := G10.out.cell 1
  have g2 := G10.out.cell 2
  have gl := G10.out.lt
  simp at g0 g1 g2
  go_wp2_with fail
  refine (heldLock_t (D := DD) 1 (by omega) (by omega) (Ty.rb HM6.out (H610.out.mono hs6)) HSG.out).mono ?_
  rintro e w11 ⟨rfl, hb11⟩
  rw [HCN.out]
  have HK11 := Lib.hid (HK10.out.trans (hb11.mono HK10.out.size))
  clear hb11
  clear g0 g1 g2 gl
  go_wp2_with fail
  go_ret
  exact ⟨rfl, HB1.out.trans (HK11.out.mono HB1.out.size)⟩
end Go.Proofs.Ytpnlmdnjpcjhjaa

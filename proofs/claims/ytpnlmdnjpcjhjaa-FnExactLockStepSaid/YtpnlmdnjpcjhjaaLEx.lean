/-
  The walks of the exact laws of chapter 12 (LockOk, LockIn, LockStep), over the program's contracts.
-/
import Derived.Test.YtpnlmdnjpcjhjaaLS6s
import Derived.Deep.RegionHeld3
namespace Go.Proofs.Ytpnlmdnjpcjhjaa
open Go.RowKit

set_option maxHeartbeats 4000000 in
set_option maxRecDepth 100000 in
theorem exLockOk_walk (hm : KOk 23) {w : World} {x0 x1 x2 : Value} {D : Int × List EThread × List Int}   (hp : tyLock.R w w.heap.size [x0, x1, x2] D) :
    Calls Try.prog 14 #[.agg #[x0, x1, x2]] w fun e w' => e = .returned (.bool true) ∧ Below w.heap.size w w' := by
  obtain ⟨xA1, xn1, xc1, xA2, xn2, xc2, hcs⟩ := tyLock_sh hp
  simp only [List.cons.injEq, and_true] at hcs
  obtain ⟨rfl, rfl, rfl⟩ := hcs
  have HP := Lib.hid hp
  clear hp
  have HM := Lib.hid hm
  clear hm
  have BP0 := Lib.hid (Box.new w #[.int .i64 D.1, .slice xA1 xn1 xc1, .slice xA2 xn2 xc2] 51)
  have HB0 := Lib.hid (show Below w.heap.size w (w.alloc (.cells #[.int .i64 D.1, .slice xA1 xn1 xc1, .slice xA2 xn2 xc2] 51)) from (Below.refl _ _).alloc (Nat.le_refl _) _)
  go_enter Try.func14, Try.ntmps14
  go_wp2_with fail
  refine (szLock_t 1048576 (by omega) (by omega) (Ty.rb HP.out HB0.out)).mono ?_
  rintro e w1 ⟨z, rfl, hz, hy, hb1⟩
  have HB1 := Lib.hid (HB0.out.trans (hb1.mono (by simp only [World.size_alloc]; omega)))
  have BP1 := Lib.hid (BP0.out.below hb1 (by simp only [World.size_alloc]; omega))
  clear hb1
  by_cases hz0 : 0 ≤ z
  case neg =>
    clear hz
    go_wp2
    go_ret
    exact ⟨rfl, HB1.out⟩
  obtain ⟨hsm, hzl⟩ := hz hz0
  have HSM := Lib.hid hsm
  clear hz hsm
  have bpc0 := BP1.out.cell 0
  have bpc1 := BP1.out.cell 1
  have bpc2 := BP1.out.cell 2
  simp at bpc0 bpc1 bpc2
  have bpl := BP1.out.lt
  go_wp2_with fail
  refine (toLock_t (Ty.rb HP.out HB1.out) HSM.out).mono ?_
  rintro e w2 ⟨y0, y1, y2, f0, rfl, ho, hr, hb2⟩
  
  obtain ⟨yA1, yn1, yc1, yA2, yn2, yc2, hcs⟩ := tyLock_shM ho
  simp only [List.cons.injEq, and_true] at hcs
  obtain ⟨rfl, rfl, rfl⟩ := hcs
  have HB2 := Lib.hid (HB1.out.trans (hb2.mono HB1.out.size))
  have BP2 := Lib.hid (BP1.out.below hb2 BP1.out.lt)
  have HO := Lib.hid ((tyLock.mr ho fun b hb => (hr b hb).2))
  clear ho hr hb2
  clear bpc0 bpc1 bpc2 bpl
  go_wp2_with fail
  refine (lockOk_any  HO.out).mono ?_
  rintro e w3 ⟨rfl, hb3⟩
  have HB3 := Lib.hid (HB2.out.trans (hb3.mono HB2.out.size))
  have BP3 := Lib.hid (BP2.out.below hb3 BP2.out.lt)
  clear hb3 HO
  have bpc0 := BP3.out.cell 0
  have bpc1 := BP3.out.cell 1
  have bpc2 := BP3.out.cell 2
  simp at bpc0 bpc1 bpc2
  have bpl := BP3.out.lt
  go_wp2_with fail
  refine (toLock_t (Ty.rb HP.out HB3.out) HSM.out).mono ?_
  rintro e w4 ⟨z0, z1, z2, fx, rfl, ho, hr, hb4⟩
  
  obtain ⟨zA1, zn1, zc1, zA2, zn2, zc2, hcs⟩ := tyLock_shM ho
  simp only [List.cons.injEq, and_true] at hcs
  obtain ⟨rfl, rfl, rfl⟩ := hcs
  have HB4 := Lib.hid (HB3.out.trans (hb4.mono HB3.out.size))
  have BP4 := Lib.hid (BP3.out.below hb4 BP3.out.lt)
  have HO := Lib.hid ((tyLock.mr ho fun b hb => (hr b hb).2))
  clear ho hr hb4
  have HA4 := Lib.hid (show Below w4.heap.size w4 (w4.alloc (.cells #[.int .i64 D.1, .slice zA1 zn1 zc1, .slice zA2 zn2 zc2] 28)) from (Below.refl _ _).alloc (Nat.le_refl _) _)
  have BX4 := Lib.hid (Box.new w4 #[.int .i64 D.1, .slice zA1 zn1 zc1, .slice zA2 zn2 zc2] 28)
  clear bpc0 bpc1 bpc2 bpl
  go_wp2_with fail
  refine (HM.out  (Ty.rb HO.out HA4.out)).mono ?_
  rintro e w5 ⟨rfl, hb5⟩
  have HC5 := Lib.hid (HA4.out.trans (hb5.mono HA4.out.size))
  have HB5 := Lib.hid (HB4.out.trans (HC5.out.mono HB4.out.size))
  have BP5 := Lib.hid (BP4.out.below HC5.out BP4.out.lt)
  have BX5 := Lib.hid (BX4.out.below hb5 (by simp))
  have HO5 := Lib.hid (Ty.rb HO.out HC5.out)
  clear hb5
  have bpc0 := BP5.out.cell 0
  have bpc1 := BP5.out.cell 1
  have bpc2 := BP5.out.cell 2
  have bxc0 := BX5.out.cell 0
  have bxc1 := BX5.out.cell 1
  have bxc2 := BX5.out.cell 2
  simp at bpc0 bpc1 bpc2 bxc0 bxc1 bxc2
  have bpl := BP5.out.lt
  have bxl := BX5.out.lt
  have HD := Lib.hid HB5.out.drew
  have HXD := Lib.hid (Ty.rb HO5.out (Below.refl _ _).drew)
  have HXDS := Lib.hid (show w4.heap.size ≤ w5.heap.size from HC5.out.size)
  go_wp2_with fail
  go_region_held3 (fun w' => w'.cell? ⟨w.heap.size, 0, none⟩ = some (.int .i64 D.1) ∧ w'.cell? ⟨w.heap.size, 1, none⟩ = some (.slice xA1 xn1 xc1) ∧ w'.cell? ⟨w.heap.size, 2, none⟩ = some (.slice xA2 xn2 xc2) ∧ w'.cell? ⟨w4.heap.size, 0, none⟩ = some (.int .i64 D.1) ∧ w'.cell? ⟨w4.heap.size, 1, none⟩ = some (.slice zA1 zn1 zc1) ∧ w'.cell? ⟨w4.heap.size, 2, none⟩ = some (.slice zA2 zn2 zc2))
    (first | exact ⟨r0, r1, r2, r3, r4, r5⟩ | go_keep)
    (first
      | (go_at_call 39; refine (eqLock_t (Ty.rb HXD.out (hb10.mono HXDS.out)) (tyLock.mr ho6 fun b hb => (hr6 b hb).2)).mono ?_; rintro e w11 ⟨rfl, hb11⟩; clear r0 r1 r2 r3 r4 r5; have r0 := ((hb11.cell (p := ⟨w.heap.size, 0, none⟩) (Nat.lt_of_lt_of_le bpl hb10.size)).trans (hb10.cell (p := ⟨w.heap.size, 0, none⟩) bpl)).trans bpc0; have r1 := ((hb11.cell (p := ⟨w.heap.size, 1, none⟩) (Nat.lt_of_lt_of_le bpl hb10.size)).trans (hb10.cell (p := ⟨w.heap.size, 1, none⟩) bpl)).trans bpc1; have r2 := ((hb11.cell (p := ⟨w.heap.size, 2, none⟩) (Nat.lt_of_lt_of_le bpl hb10.size)).trans (hb10.cell (p := ⟨w.heap.size, 2, none⟩) bpl)).trans bpc2; have r3 := ((hb11.cell (p := ⟨w4.heap.size, 0, none⟩) (Nat.lt_of_lt_of_le bxl hb10.size)).trans (hb10.cell (p := ⟨w4.heap.size, 0, none⟩) bxl)).trans bxc0; have r4 := ((hb11.cell (p := ⟨w4.heap.size, 1, none⟩) (Nat.lt_of_lt_of_le bxl hb10.size)).trans (hb10.cell (p := ⟨w4.heap.size, 1, none⟩) bxl)).trans bxc1; have r5 := ((hb11.cell (p := ⟨w4.heap.size, 2, none⟩) (Nat.lt_of_lt_of_le bxl hb10.size)).trans (hb10.cell (p := ⟨w4.heap.size, 2, none⟩) bxl)).trans bxc2)
      | (go_at_call 43; refine (toLock_t (Ty.rb HP.out HD.out) HSM.out).mono ?_; rintro e w10 ⟨q0, q1, q2, f6, rfl, ho6, hr6, hb10⟩; have r0 := (hb10.cell (p := ⟨w.heap.size, 0, none⟩) bpl).trans bpc0; have r1 := (hb10.cell (p := ⟨w.heap.size, 1, none⟩) bpl).trans bpc1; have r2 := (hb10.cell (p := ⟨w.heap.size, 2, none⟩) bpl).trans bpc2; have r3 := (hb10.cell (p := ⟨w4.heap.size, 0, none⟩) bxl).trans bxc0; have r4 := (hb10.cell (p := ⟨w4.heap.size, 1, none⟩) bxl).trans bxc1; have r5 := (hb10.cell (p := ⟨w4.heap.size, 2, none⟩) bxl).trans bxc2))
  have HB11 := Lib.hid (show Below w5.heap.size w5 w11 from (Below.refl _ _).drew.trans (hb10.trans (hb11.mono hb10.size)))
  clear hb10 hb11 ho6 hr6
  clear bpc0 bpc1 bpc2 bxc0 bxc1 bxc2 bpl bxl
  go_wp2_with fail
  go_ret
  exact ⟨rfl, HB5.out.trans (HB11.out.mono HB5.out.size)⟩

set_option maxHeartbeats 4000000 in
set_option maxRecDepth 100000 in
theorem exLockIn_walk (hm : KIn 24) {w : World} {x0 x1 x2 : Value} {D : Int × List EThread × List Int}   (hp : tyLock.R w w.heap.size [x0, x1, x2] D) :
    Calls Try.prog 17 #[.agg #[x0, x1, x2]] w fun e w' => e = .returned (.bool true) ∧ Below w.heap.size w w' := by
  obtain ⟨xA1, xn1, xc1, xA2, xn2, xc2, hcs⟩ := tyLock_sh hp
  simp only [List.cons.injEq, and_true] at hcs
  obtain ⟨rfl, rfl, rfl⟩ := hcs
  have HP := Lib.hid hp
  clear hp
  have HM := Lib.hid hm
  clear hm
  have BP0 := Lib.hid (Box.new w #[.int .i64 D.1, .slice xA1 xn1 xc1, .slice xA2 xn2 xc2] 51)
  have HB0 := Lib.hid (show Below w.heap.size w (w.alloc (.cells #[.int .i64 D.1, .slice xA1 xn1 xc1, .slice xA2 xn2 xc2] 51)) from (Below.refl _ _).alloc (Nat.le_refl _) _)
  go_enter Try.func17, Try.ntmps17
  go_wp2_with fail
  refine (szLock_t 1048576 (by omega) (by omega) (Ty.rb HP.out HB0.out)).mono ?_
  rintro e w1 ⟨z, rfl, hz, hy, hb1⟩
  have HB1 := Lib.hid (HB0.out.trans (hb1.mono (by simp only [World.size_alloc]; omega)))
  have BP1 := Lib.hid (BP0.out.below hb1 (by simp only [World.size_alloc]; omega))
  clear hb1
  by_cases hz0 : 0 ≤ z
  case neg =>
    clear hz
    go_wp2
    go_ret
    exact ⟨rfl, HB1.out⟩
  obtain ⟨hsm, hzl⟩ := hz hz0
  have HSM := Lib.hid hsm
  clear hz hsm
  have bpc0 := BP1.out.cell 0
  have bpc1 := BP1.out.cell 1
  have bpc2 := BP1.out.cell 2
  simp at bpc0 bpc1 bpc2
  have bpl := BP1.out.lt
  go_wp2_with fail
  refine (toLock_t (Ty.rb HP.out HB1.out) HSM.out).mono ?_
  rintro e w2 ⟨y0, y1, y2, f0, rfl, ho, hr, hb2⟩
  
  obtain ⟨yA1, yn1, yc1, yA2, yn2, yc2, hcs⟩ := tyLock_shM ho
  simp only [List.cons.injEq, and_true] at hcs
  obtain ⟨rfl, rfl, rfl⟩ := hcs
  have HB2 := Lib.hid (HB1.out.trans (hb2.mono HB1.out.size))
  have BP2 := Lib.hid (BP1.out.below hb2 BP1.out.lt)
  have HO := Lib.hid ((tyLock.mr ho fun b hb => (hr b hb).2))
  clear ho hr hb2
  clear bpc0 bpc1 bpc2 bpl
  go_wp2_with fail
  refine (lockIn_any  HO.out).mono ?_
  rintro e w3 ⟨rfl, hb3⟩
  have HB3 := Lib.hid (HB2.out.trans (hb3.mono HB2.out.size))
  have BP3 := Lib.hid (BP2.out.below hb3 BP2.out.lt)
  clear hb3 HO
  have bpc0 := BP3.out.cell 0
  have bpc1 := BP3.out.cell 1
  have bpc2 := BP3.out.cell 2
  simp at bpc0 bpc1 bpc2
  have bpl := BP3.out.lt
  go_wp2_with fail
  refine (toLock_t (Ty.rb HP.out HB3.out) HSM.out).mono ?_
  rintro e w4 ⟨z0, z1, z2, fx, rfl, ho, hr, hb4⟩
  
  obtain ⟨zA1, zn1, zc1, zA2, zn2, zc2, hcs⟩ := tyLock_shM ho
  simp only [List.cons.injEq, and_true] at hcs
  obtain ⟨rfl, rfl, rfl⟩ := hcs
  have HB4 := Lib.hid (HB3.out.trans (hb4.mono HB3.out.size))
  have BP4 := Lib.hid (BP3.out.below hb4 BP3.out.lt)
  have HO := Lib.hid ((tyLock.mr ho fun b hb => (hr b hb).2))
  clear ho hr hb4
  have HA4 := Lib.hid (show Below w4.heap.size w4 (w4.alloc (.cells #[.int .i64 D.1, .slice zA1 zn1 zc1, .slice zA2 zn2 zc2] 28)) from (Below.refl _ _).alloc (Nat.le_refl _) _)
  have BX4 := Lib.hid (Box.new w4 #[.int .i64 D.1, .slice zA1 zn1 zc1, .slice zA2 zn2 zc2] 28)
  clear bpc0 bpc1 bpc2 bpl
  go_wp2_with fail
  refine (HM.out  (Ty.rb HO.out HA4.out)).mono ?_
  rintro e w5 ⟨rfl, hb5⟩
  have HC5 := Lib.hid (HA4.out.trans (hb5.mono HA4.out.size))
  have HB5 := Lib.hid (HB4.out.trans (HC5.out.mono HB4.out.size))
  have BP5 := Lib.hid (BP4.out.below HC5.out BP4.out.lt)
  have BX5 := Lib.hid (BX4.out.below hb5 (by simp))
  have HO5 := Lib.hid (Ty.rb HO.out HC5.out)
  clear hb5
  have bpc0 := BP5.out.cell 0
  have bpc1 := BP5.out.cell 1
  have bpc2 := BP5.out.cell 2
  have bxc0 := BX5.out.cell 0
  have bxc1 := BX5.out.cell 1
  have bxc2 := BX5.out.cell 2
  simp at bpc0 bpc1 bpc2 bxc0 bxc1 bxc2
  have bpl := BP5.out.lt
  have bxl := BX5.out.lt
  have HD := Lib.hid HB5.out.drew
  have HXD := Lib.hid (Ty.rb HO5.out (Below.refl _ _).drew)
  have HXDS := Lib.hid (show w4.heap.size ≤ w5.heap.size from HC5.out.size)
  go_wp2_with fail
  go_region_held3 (fun w' => w'.cell? ⟨w.heap.size, 0, none⟩ = some (.int .i64 D.1) ∧ w'.cell? ⟨w.heap.size, 1, none⟩ = some (.slice xA1 xn1 xc1) ∧ w'.cell? ⟨w.heap.size, 2, none⟩ = some (.slice xA2 xn2 xc2) ∧ w'.cell? ⟨w4.heap.size, 0, none⟩ = some (.int .i64 D.1) ∧ w'.cell? ⟨w4.heap.size, 1, none⟩ = some (.slice zA1 zn1 zc1) ∧ w'.cell? ⟨w4.heap.size, 2, none⟩ = some (.slice zA2 zn2 zc2))
    (first | exact ⟨r0, r1, r2, r3, r4, r5⟩ | go_keep)
    (first
      | (go_at_call 39; refine (eqLock_t (Ty.rb HXD.out (hb10.mono HXDS.out)) (tyLock.mr ho6 fun b hb => (hr6 b hb).2)).mono ?_; rintro e w11 ⟨rfl, hb11⟩; clear r0 r1 r2 r3 r4 r5; have r0 := ((hb11.cell (p := ⟨w.heap.size, 0, none⟩) (Nat.lt_of_lt_of_le bpl hb10.size)).trans (hb10.cell (p := ⟨w.heap.size, 0, none⟩) bpl)).trans bpc0; have r1 := ((hb11.cell (p := ⟨w.heap.size, 1, none⟩) (Nat.lt_of_lt_of_le bpl hb10.size)).trans (hb10.cell (p := ⟨w.heap.size, 1, none⟩) bpl)).trans bpc1; have r2 := ((hb11.cell (p := ⟨w.heap.size, 2, none⟩) (Nat.lt_of_lt_of_le bpl hb10.size)).trans (hb10.cell (p := ⟨w.heap.size, 2, none⟩) bpl)).trans bpc2; have r3 := ((hb11.cell (p := ⟨w4.heap.size, 0, none⟩) (Nat.lt_of_lt_of_le bxl hb10.size)).trans (hb10.cell (p := ⟨w4.heap.size, 0, none⟩) bxl)).trans bxc0; have r4 := ((hb11.cell (p := ⟨w4.heap.size, 1, none⟩) (Nat.lt_of_lt_of_le bxl hb10.size)).trans (hb10.cell (p := ⟨w4.heap.size, 1, none⟩) bxl)).trans bxc1; have r5 := ((hb11.cell (p := ⟨w4.heap.size, 2, none⟩) (Nat.lt_of_lt_of_le bxl hb10.size)).trans (hb10.cell (p := ⟨w4.heap.size, 2, none⟩) bxl)).trans bxc2)
      | (go_at_call 43; refine (toLock_t (Ty.rb HP.out HD.out) HSM.out).mono ?_; rintro e w10 ⟨q0, q1, q2, f6, rfl, ho6, hr6, hb10⟩; have r0 := (hb10.cell (p := ⟨w.heap.size, 0, none⟩) bpl).trans bpc0; have r1 := (hb10.cell (p := ⟨w.heap.size, 1, none⟩) bpl).trans bpc1; have r2 := (hb10.cell (p := ⟨w.heap.size, 2, none⟩) bpl).trans bpc2; have r3 := (hb10.cell (p := ⟨w4.heap.size, 0, none⟩) bxl).trans bxc0; have r4 := (hb10.cell (p := ⟨w4.heap.size, 1, none⟩) bxl).trans bxc1; have r5 := (hb10.cell (p := ⟨w4.heap.size, 2, none⟩) bxl).trans bxc2))
  have HB11 := Lib.hid (show Below w5.heap.size w5 w11 from (Below.refl _ _).drew.trans (hb10.trans (hb11.mono hb10.size)))
  clear hb10 hb11 ho6 hr6
  clear bpc0 bpc1 bpc2 bxc0 bxc1 bxc2 bpl bxl
  go_wp2_with fail
  go_ret
  exact ⟨rfl, HB5.out.trans (HB11.out.mono HB5.out.size)⟩

set_option maxHeartbeats 4000000 in
set_option maxRecDepth 100000 in
theorem exLockStep_walk (hm : KStp 30) {w : World} {x0 x1 x2 : Value} {D : Int × List EThread × List Int} (v0 : Int)  (hp : tyLock.R w w.heap.size [x0, x1, x2] D) :
    Calls Try.prog 15 #[.agg #[x0, x1, x2], .int .i64 v0] w fun e w' => e = .returned (.bool true) ∧ Below w.heap.size w w' := by
  obtain ⟨xA1, xn1, xc1, xA2, xn2, xc2, hcs⟩ := tyLock_sh hp
  simp only [List.cons.injEq, and_true] at hcs
  obtain ⟨rfl, rfl, rfl⟩ := hcs
  have HP := Lib.hid hp
  clear hp
  have HM := Lib.hid hm
  clear hm
  have BP0 := Lib.hid (Box.new w #[.int .i64 D.1, .slice xA1 xn1 xc1, .slice xA2 xn2 xc2] 51)
  have HB0 := Lib.hid (show Below w.heap.size w (w.alloc (.cells #[.int .i64 D.1, .slice xA1 xn1 xc1, .slice xA2 xn2 xc2] 51)) from (Below.refl _ _).alloc (Nat.le_refl _) _)
  go_enter Try.func15, Try.ntmps15
  go_wp2_with fail
  refine (szLock_t 1048576 (by omega) (by omega) (Ty.rb HP.out HB0.out)).mono ?_
  rintro e w1 ⟨z, rfl, hz, hy, hb1⟩
  have HB1 := Lib.hid (HB0.out.trans (hb1.mono (by simp only [World.size_alloc]; omega)))
  have BP1 := Lib.hid (BP0.out.below hb1 (by simp only [World.size_alloc]; omega))
  clear hb1
  by_cases hz0 : 0 ≤ z
  case neg =>
    clear hz
    go_wp2
    go_ret
    exact ⟨rfl, HB1.out⟩
  obtain ⟨hsm, hzl⟩ := hz hz0
  have HSM := Lib.hid hsm
  clear hz hsm
  have bpc0 := BP1.out.cell 0
  have bpc1 := BP1.out.cell 1
  have bpc2 := BP1.out.cell 2
  simp at bpc0 bpc1 bpc2
  have bpl := BP1.out.lt
  go_wp2_with fail
  refine (toLock_t (Ty.rb HP.out HB1.out) HSM.out).mono ?_
  rintro e w2 ⟨y0, y1, y2, f0, rfl, ho, hr, hb2⟩
  
  obtain ⟨yA1, yn1, yc1, yA2, yn2, yc2, hcs⟩ := tyLock_shM ho
  simp only [List.cons.injEq, and_true] at hcs
  obtain ⟨rfl, rfl, rfl⟩ := hcs
  have HB2 := Lib.hid (HB1.out.trans (hb2.mono HB1.out.size))
  have BP2 := Lib.hid (BP1.out.below hb2 BP1.out.lt)
  have HO := Lib.hid ((tyLock.mr ho fun b hb => (hr b hb).2))
  clear ho hr hb2
  clear bpc0 bpc1 bpc2 bpl
  go_wp2_with fail
  refine (lockStep_s v0 HO.out HSM.out).mono ?_
  rintro e w3 ⟨t0, t1, t2, rfl, hsp, hb3⟩
  have HB3 := Lib.hid (HB2.out.trans (hb3.mono HB2.out.size))
  have BP3 := Lib.hid (BP2.out.below hb3 BP2.out.lt)
  generalize hDe : stpL D v0 = DN at hsp
  
  obtain ⟨tA1, tn1, tc1, tA2, tn2, tc2, hcs⟩ := tyLock_sh hsp
  simp only [List.cons.injEq, and_true] at hcs
  obtain ⟨rfl, rfl, rfl⟩ := hcs
  have HDE := Lib.hid hDe
  have HSP := Lib.hid hsp
  clear hb3 hsp HO hDe
  have BP4 := Lib.hid (BP3.out.alloc (.cells #[.int .i64 DN.1, .slice tA1 tn1 tc1, .slice tA2 tn2 tc2] 28))
  have BW4 := Lib.hid (Box.new w3 #[.int .i64 DN.1, .slice tA1 tn1 tc1, .slice tA2 tn2 tc2] 28)
  have HL4 := Lib.hid (show Below w3.heap.size w3 (w3.alloc (.cells #[.int .i64 DN.1, .slice tA1 tn1 tc1, .slice tA2 tn2 tc2] 28)) from (Below.refl _ _).alloc (Nat.le_refl _) _)
  have HB4 := Lib.hid (HB3.out.trans (HL4.out.mono HB3.out.size))
  have bpc0 := BP3.out.cell 0
  have bpc1 := BP3.out.cell 1
  have bpc2 := BP3.out.cell 2
  simp at bpc0 bpc1 bpc2
  have bpl := BP3.out.lt
  go_wp2_with fail
  refine (toLock_t (Ty.rb HP.out HB4.out) HSM.out).mono ?_
  rintro e w5 ⟨z0, z1, z2, fx, rfl, ho, hr, hb5⟩
  
  obtain ⟨zA1, zn1, zc1, zA2, zn2, zc2, hcs⟩ := tyLock_shM ho
  simp only [List.cons.injEq, and_true] at hcs
  obtain ⟨rfl, rfl, rfl⟩ := hcs
  have HX5 := Lib.hid ho
  have HXR := Lib.hid hr
  have BP5 := Lib.hid (BP4.out.below hb5 BP4.out.lt)
  have BW5 := Lib.hid (BW4.out.below hb5 BW4.out.lt)
  have HB5 := Lib.hid (HB4.out.trans (hb5.mono HB4.out.size))
  have HL5 := Lib.hid (HL4.out.trans (hb5.mono HL4.out.size))
  clear ho hr hb5
  have HA5 := Lib.hid (show Below w5.heap.size w5 (w5.alloc (.cells #[.int .i64 D.1, .slice zA1 zn1 zc1, .slice zA2 zn2 zc2] 28)) from (Below.refl _ _).alloc (Nat.le_refl _) _)
  have BX6 := Lib.hid (Box.new w5 #[.int .i64 D.1, .slice zA1 zn1 zc1, .slice zA2 zn2 zc2] 28)
  have HX6 := Lib.hid (Ty.mb HX5.out HA5.out fun b hb => (HXR.out b hb).2)
  have HXS : Hid (tyLock.R (w5.alloc (.cells #[.int .i64 D.1, .slice zA1 zn1 zc1, .slice zA2 zn2 zc2] 28)) w5.heap.size [.int .i64 D.1, .slice zA1 zn1 zc1, .slice zA2 zn2 zc2] D) := Lib.hid (tyLock.mr HX6.out fun b hb => (HXR.out b hb).2)
  clear bpc0 bpc1 bpc2 bpl
  go_wp2_with fail
  refine (HM.out v0 HXS.out HSM.out).mono ?_
  rw [HDE.out]
  rintro e w7 ⟨u0, u1, u2, fg, rfl, hg, hr, hsn, hb7⟩
  
  obtain ⟨uA1, un1, uc1, uA2, un2, uc2, hcs⟩ := tyLock_shM hg
  simp only [List.cons.injEq, and_true] at hcs
  obtain ⟨rfl, rfl, rfl⟩ := hcs
  have HB7 := Lib.hid (HA5.out.trans (hb7.mono (by simp)))
  have HG7 := Lib.hid hg
  have HGR := Lib.hid hr
  have HSN := Lib.hid hsn
  have HX7 := Lib.hid (Ty.mb HX5.out HB7.out fun b hb => (HXR.out b hb).2)
  have BP7 := Lib.hid (BP5.out.below HB7.out BP5.out.lt)
  have BW7 := Lib.hid (BW5.out.below HB7.out BW5.out.lt)
  have BX7 := Lib.hid (BX6.out.below hb7 (by simp))
  have HW7 := Lib.hid (HB5.out.trans (HB7.out.mono HB5.out.size))
  have HL7 := Lib.hid (HL5.out.trans (HB7.out.mono HL5.out.size))
  clear hg hr hsn hb7
  have HA7 := Lib.hid (show Below w7.heap.size w7 (w7.alloc (.cells #[.int .i64 DN.1, .slice uA1 un1 uc1, .slice uA2 un2 uc2] 28)) from (Below.refl _ _).alloc (Nat.le_refl _) _)
  have BG8 := Lib.hid (Box.new w7 #[.int .i64 DN.1, .slice uA1 un1 uc1, .slice uA2 un2 uc2] 28)
  have HG8 := Lib.hid (Ty.mb HG7.out HA7.out fun b hb => (HGR.out b hb).2)
  have bwc0 := BW7.out.cell 0
  have bwc1 := BW7.out.cell 1
  have bwc2 := BW7.out.cell 2
  simp at bwc0 bwc1 bwc2
  have bwl := BW7.out.lt
  have bxl := BX7.out.lt
  have bpl := BP7.out.lt
  go_wp2_with fail
  refine (eqLock_t (tyLock.mr HG8.out fun b hb => (HGR.out b hb).2) (Ty.rb HSP.out (HL7.out.trans (HA7.out.mono HL7.out.size)))).mono ?_
  rintro e w9 ⟨rfl, hb9⟩
  have HB9 := Lib.hid (HA7.out.trans (hb9.mono (by simp)))
  have BP9 := Lib.hid (BP7.out.below HB9.out BP7.out.lt)
  have BW9 := Lib.hid (BW7.out.below HB9.out BW7.out.lt)
  have BX9 := Lib.hid (BX7.out.below HB9.out BX7.out.lt)
  have BG9 := Lib.hid (BG8.out.below hb9 (by simp))
  have HW9 := Lib.hid (HW7.out.trans (HB9.out.mono HW7.out.size))
  have HL9 := Lib.hid (HL7.out.trans (HB9.out.mono HL7.out.size))
  have HK9 := Lib.hid (HB7.out.trans (HB9.out.mono HB7.out.size))
  clear hb9 bxl bpl
  clear bwc0 bwc1 bwc2 bwl
  have bpc0 := BP9.out.cell 0
  have bpc1 := BP9.out.cell 1
  have bpc2 := BP9.out.cell 2
  have bxc0 := BX9.out.cell 0
  have bxc1 := BX9.out.cell 1
  have bxc2 := BX9.out.cell 2
  simp at bpc0 bpc1 bpc2 bxc0 bxc1 bxc2
  have bpl := BP9.out.lt
  have bxl := BX9.out.lt
  have HD := Lib.hid HW9.out.drew
  have HXD := Lib.hid (tyLock.mr (Ty.mb HX5.out (HK9.out.trans ((Below.refl _ _).drew)) fun b hb => (HXR.out b hb).2) fun b hb => (HXR.out b hb).2)
  have HXDS := Lib.hid (show w5.heap.size ≤ w9.heap.size from HK9.out.size)
  go_wp2_with fail
  go_region_held3 (fun w' => w'.cell? ⟨w.heap.size, 0, none⟩ = some (.int .i64 D.1) ∧ w'.cell? ⟨w.heap.size, 1, none⟩ = some (.slice xA1 xn1 xc1) ∧ w'.cell? ⟨w.heap.size, 2, none⟩ = some (.slice xA2 xn2 xc2) ∧ w'.cell? ⟨w5.heap.size, 0, none⟩ = some (.int .i64 D.1) ∧ w'.cell? ⟨w5.heap.size, 1, none⟩ = some (.slice zA1 zn1 zc1) ∧ w'.cell? ⟨w5.heap.size, 2, none⟩ = some (.slice zA2 zn2 zc2))
    (first | exact ⟨r0, r1, r2, r3, r4, r5⟩ | go_keep)
    (first
      | (go_at_call 39; refine (eqLock_t (Ty.rb HXD.out (hb10.mono HXDS.out)) (tyLock.mr ho6 fun b hb => (hr6 b hb).2)).mono ?_; rintro e w11 ⟨rfl, hb11⟩; clear r0 r1 r2 r3 r4 r5; have r0 := ((hb11.cell (p := ⟨w.heap.size, 0, none⟩) (Nat.lt_of_lt_of_le bpl hb10.size)).trans (hb10.cell (p := ⟨w.heap.size, 0, none⟩) bpl)).trans bpc0; have r1 := ((hb11.cell (p := ⟨w.heap.size, 1, none⟩) (Nat.lt_of_lt_of_le bpl hb10.size)).trans (hb10.cell (p := ⟨w.heap.size, 1, none⟩) bpl)).trans bpc1; have r2 := ((hb11.cell (p := ⟨w.heap.size, 2, none⟩) (Nat.lt_of_lt_of_le bpl hb10.size)).trans (hb10.cell (p := ⟨w.heap.size, 2, none⟩) bpl)).trans bpc2; have r3 := ((hb11.cell (p := ⟨w5.heap.size, 0, none⟩) (Nat.lt_of_lt_of_le bxl hb10.size)).trans (hb10.cell (p := ⟨w5.heap.size, 0, none⟩) bxl)).trans bxc0; have r4 := ((hb11.cell (p := ⟨w5.heap.size, 1, none⟩) (Nat.lt_of_lt_of_le bxl hb10.size)).trans (hb10.cell (p := ⟨w5.heap.size, 1, none⟩) bxl)).trans bxc1; have r5 := ((hb11.cell (p := ⟨w5.heap.size, 2, none⟩) (Nat.lt_of_lt_of_le bxl hb10.size)).trans (hb10.cell (p := ⟨w5.heap.size, 2, none⟩) bxl)).trans bxc2)
      | (go_at_call 43; refine (toLock_t (Ty.rb HP.out HD.out) HSM.out).mono ?_; rintro e w10 ⟨q0, q1, q2, f6, rfl, ho6, hr6, hb10⟩; have r0 := (hb10.cell (p := ⟨w.heap.size, 0, none⟩) bpl).trans bpc0; have r1 := (hb10.cell (p := ⟨w.heap.size, 1, none⟩) bpl).trans bpc1; have r2 := (hb10.cell (p := ⟨w.heap.size, 2, none⟩) bpl).trans bpc2; have r3 := (hb10.cell (p := ⟨w5.heap.size, 0, none⟩) bxl).trans bxc0; have r4 := (hb10.cell (p := ⟨w5.heap.size, 1, none⟩) bxl).trans bxc1; have r5 := (hb10.cell (p := ⟨w5.heap.size, 2, none⟩) bxl).trans bxc2))
  have HB11 := Lib.hid (show Below w9.heap.size w9 w11 from (Below.refl _ _).drew.trans (hb10.trans (hb11.mono hb10.size)))
  clear hb10 hb11 ho6 hr6
  clear bpc0 bpc1 bpc2 bxc0 bxc1 bxc2 bpl bxl
  have BP11 := Lib.hid (BP9.out.below HB11.out BP9.out.lt)
  have BW11 := Lib.hid (BW9.out.below HB11.out BW9.out.lt)
  have BX11 := Lib.hid (BX9.out.below HB11.out BX9.out.lt)
  have BG11 := Lib.hid (BG9.out.below HB11.out BG9.out.lt)
  have HW11 := Lib.hid (HW9.out.trans (HB11.out.mono HW9.out.size))
  have HL11 := Lib.hid (HL9.out.trans (HB11.out.mono HL9.out.size))
  have HK11 := Lib.hid (HK9.out.trans (HB11.out.mono HK9.out.size))
  have HX11 := Lib.hid (Ty.mb HX5.out HK11.out fun b hb => (HXR.out b hb).2)
  have HG11 := Lib.hid (Ty.mb HG7.out (HB9.out.trans (HB11.out.mono HB9.out.size)) fun b hb => (HGR.out b hb).2)
  have HGL := Lib.hid (Nat.le_trans HB9.out.size HB11.out.size)
  have bxc0 := BX11.out.cell 0
  have bxc1 := BX11.out.cell 1
  have bxc2 := BX11.out.cell 2
  simp at bxc0 bxc1 bxc2
  have bxl := BX11.out.lt
  go_wp2_with fail
  refine (markLock_t 1 (by omega) (by omega) HX11.out (fun b hb => Nat.lt_of_lt_of_le (HXR.out b hb).2 HK11.out.size)).mono ?_
  rintro e w12 ⟨rfl, _, ht⟩
  have s3 : w.heap.size ≤ w3.heap.size := HB3.out.size
  have s5 := HL5.out.size
  have s4 : w3.heap.size + 1 ≤ w5.heap.size := by have h := BW5.out.lt; omega
  have s7 : w5.heap.size + 1 ≤ w7.heap.size := by have h := BX7.out.lt; omega
  have s11 : w7.heap.size ≤ w11.heap.size := HGL.out
  have s2 : w.heap.size < w3.heap.size := BP3.out.lt
  have hxr := HXR.out
  simp only [World.size_alloc] at hxr
  have hgr := HGR.out
  simp only [World.size_alloc] at hgr
  have BP12 := Lib.hid (ht.box BP11.out fun hb => by have := hxr _ hb; omega)
  have BW12 := Lib.hid (ht.box BW11.out fun hb => by have := hxr _ hb; omega)
  have BG12 := Lib.hid (ht.box BG11.out fun hb => by have := hxr _ hb; omega)
  have HG12 := Lib.hid (Ty.mf HG11.out ht fun b hb => ⟨by have := hgr b hb; omega, fun hb2 => by have := hgr b hb; have := hxr b hb2; omega⟩)
  have HW12 := Lib.hid (HW11.out.trans (ht.below (lo := w.heap.size) (by omega) fun b hb => by have := hxr b hb; omega))
  have HL12 := Lib.hid (HL11.out.trans (ht.below (lo := w3.heap.size) (by omega) fun b hb => by have := hxr b hb; omega))
  have HM12 := Lib.hid ht.size
  have hk12 : ¬ (1 + cntLock D < 0) := by have := cntLock_pos (D := D); omega
  clear ht hxr hgr s3 s4 s5 s7 s11 s2
  clear bxc0 bxc1 bxc2 bxl
  generalize cntLock D = CX at hk12 ⊢
  have bgc0 := BG12.out.cell 0
  have bgc1 := BG12.out.cell 1
  have bgc2 := BG12.out.cell 2
  have bwc0 := BW12.out.cell 0
  have bwc1 := BW12.out.cell 1
  have bwc2 := BW12.out.cell 2
  simp at bgc0 bgc1 bgc2 bwc0 bwc1 bwc2
  have bgl := BG12.out.lt
  have bwl := BW12.out.lt
  go_wp2_with fail
  refine (eqLock_t (tyLock.mr HG12.out fun b hb => (HGR.out b hb).2) (Ty.rb HSP.out HL12.out)).mono ?_
  rintro e w13 ⟨rfl, hb13⟩
  have BP13 := Lib.hid (BP12.out.below hb13 BP12.out.lt)
  have BW13 := Lib.hid (BW12.out.below hb13 BW12.out.lt)
  have BG13 := Lib.hid (BG12.out.below hb13 BG12.out.lt)
  have HGL13 := Lib.hid (fun b (hb : b ∈ fg) => Nat.lt_of_lt_of_le (HGR.out b hb).2 (Nat.le_trans HGL.out HM12.out))
  have HG13 := Lib.hid (Ty.mb HG12.out hb13 HGL13.out)
  have HGL14 := Lib.hid (fun b (hb : b ∈ fg) => Nat.lt_of_lt_of_le (HGL13.out b hb) hb13.size)
  have HW13 := Lib.hid (HW12.out.trans (hb13.mono HW12.out.size))
  have HL13 := Lib.hid (HL12.out.trans (hb13.mono HL12.out.size))
  clear hb13
  clear bgc0 bgc1 bgc2 bwc0 bwc1 bwc2 bgl bwl
  have bgc0 := BG13.out.cell 0
  have bgc1 := BG13.out.cell 1
  have bgc2 := BG13.out.cell 2
  simp at bgc0 bgc1 bgc2
  have bgl := BG13.out.lt
  go_wp2_with fail
  refine (markLock_t 1 (by omega) (by omega) HG13.out HGL14.out).mono ?_
  rintro e w14 ⟨rfl, hm, ht⟩
  have HM14 := Lib.hid (tyLock.mr hm HGL14.out)
  have s3 : w.heap.size ≤ w3.heap.size := HB3.out.size
  have s4 : w3.heap.size + 1 ≤ w5.heap.size := by have h := BW5.out.lt; omega
  have s7 : w5.heap.size + 1 ≤ w7.heap.size := by have h := BX7.out.lt; omega
  have s2 : w.heap.size < w3.heap.size := BP3.out.lt
  have s12 : w7.heap.size ≤ w13.heap.size := Nat.le_of_lt BG13.out.lt
  have hgr := HGR.out
  simp only [World.size_alloc] at hgr
  have BP14 := Lib.hid (ht.box BP13.out fun hb => by have := hgr _ hb; omega)
  have BW14 := Lib.hid (ht.box BW13.out fun hb => by have := hgr _ hb; omega)
  have BG14 := Lib.hid (ht.box BG13.out fun hb => by have := hgr _ hb; omega)
  have HW14 := Lib.hid (HW13.out.trans (ht.below (lo := w.heap.size) (by omega) fun b hb => by have := hgr b hb; omega))
  have HL14 := Lib.hid (HL13.out.trans (ht.below (lo := w3.heap.size) (by omega) fun b hb => by have := hgr b hb; omega))
  have HMS : Hid (w13.heap.size ≤ w14.heap.size) := Lib.hid ht.size
  have HZ14 := Lib.hid (Below.refl w13.heap.size w14)
  have hk15 : ¬ (1 + cntLock DN < 0) := by have := cntLock_pos (D := DN); omega
  clear hm ht hgr s3 s4 s7 s2 s12
  clear bgc0 bgc1 bgc2 bgl
  generalize hce : cntLock DN = CN at hk15 ⊢
  have HCE := Lib.hid hce
  clear hce
  have bgc0 := BG14.out.cell 0
  have bgc1 := BG14.out.cell 1
  have bgc2 := BG14.out.cell 2
  simp at bgc0 bgc1 bgc2
  have bgl := BG14.out.lt
  go_wp2_with fail
  refine (heldLock_t 1 (by omega) (by omega) HM14.out HSN.out).mono ?_
  rw [HCE.out]
  rintro e w15 ⟨rfl, hb15⟩
  have H15 := Lib.hid hb15
  have BP15 := Lib.hid (BP14.out.below hb15 BP14.out.lt)
  have BW15 := Lib.hid (BW14.out.below hb15 BW14.out.lt)
  have BG15 := Lib.hid (BG14.out.below hb15 BG14.out.lt)
  have HW15 := Lib.hid (HW14.out.trans (hb15.mono HW14.out.size))
  have HL15 := Lib.hid (HL14.out.trans (hb15.mono HL14.out.size))
  clear hb15
  clear bgc0 bgc1 bgc2 bgl
  have bpc0 := BP15.out.cell 0
  have bpc1 := BP15.out.cell 1
  have bpc2 := BP15.out.cell 2
  simp at bpc0 bpc1 bpc2
  have bpl := BP15.out.lt
  go_wp2_with fail
  refine (toLock_t (Ty.rb HP.out HW15.out) HSM.out).mono ?_
  rintro e w16 ⟨q0, q1, q2, f7, rfl, ho, hr, hb16⟩
  
  obtain ⟨qA1, qn1, qc1, qA2, qn2, qc2, hcs⟩ := tyLock_shM ho
  simp only [List.cons.injEq, and_true] at hcs
  obtain ⟨rfl, rfl, rfl⟩ := hcs
  have HO16 := Lib.hid (tyLock.mr ho fun b hb => (hr b hb).2)
  have H16 := Lib.hid (H15.out.trans (hb16.mono H15.out.size))
  have BW16 := Lib.hid (BW15.out.below hb16 BW15.out.lt)
  have BG16 := Lib.hid (BG15.out.below hb16 BG15.out.lt)
  have HW16 := Lib.hid (HW15.out.trans (hb16.mono HW15.out.size))
  have HL16 := Lib.hid (HL15.out.trans (hb16.mono HL15.out.size))
  clear ho hr hb16
  clear bpc0 bpc1 bpc2 bpl
  go_wp2_with fail
  refine (HM.out v0 HO16.out HSM.out).mono ?_
  rw [HDE.out]
  rintro e w17 ⟨h0, h1, h2, fh, rfl, hg, hr, _, hb17⟩
  
  obtain ⟨hA1, hn1, hc1, hA2, hn2, hc2, hcs⟩ := tyLock_shM hg
  simp only [List.cons.injEq, and_true] at hcs
  obtain ⟨rfl, rfl, rfl⟩ := hcs
  have HG17 := Lib.hid (tyLock.mr hg fun b hb => (hr b hb).2)
  have H17 := Lib.hid (H16.out.trans (hb17.mono H16.out.size))
  have BW17 := Lib.hid (BW16.out.below hb17 BW16.out.lt)
  have BG17 := Lib.hid (BG16.out.below hb17 BG16.out.lt)
  have HW17 := Lib.hid (HW16.out.trans (hb17.mono HW16.out.size))
  have HL17 := Lib.hid (HL16.out.trans (hb17.mono HL16.out.size))
  clear hg hr hb17
  have HA17 := Lib.hid (show Below w17.heap.size w17 (w17.alloc (.cells #[.int .i64 DN.1, .slice hA1 hn1 hc1, .slice hA2 hn2 hc2] 28)) from (Below.refl _ _).alloc (Nat.le_refl _) _)
  have bwc0 := BW17.out.cell 0
  have bwc1 := BW17.out.cell 1
  have bwc2 := BW17.out.cell 2
  simp at bwc0 bwc1 bwc2
  have bwl := BW17.out.lt
  have bgl := BG17.out.lt
  go_wp2_with fail
  refine (eqLock_t (Ty.rb HG17.out HA17.out) (Ty.rb HSP.out (HL17.out.trans (HA17.out.mono HL17.out.size)))).mono ?_
  rintro e w19 ⟨rfl, hb19⟩
  have HB19 := Lib.hid (HA17.out.trans (hb19.mono (by simp)))
  have BG19 := Lib.hid (BG17.out.below HB19.out BG17.out.lt)
  have H19 := Lib.hid (H17.out.trans (HB19.out.mono H17.out.size))
  have HW19 := Lib.hid (HW17.out.trans (HB19.out.mono HW17.out.size))
  clear hb19 bgl
  clear bwc0 bwc1 bwc2 bwl
  have bgc0 := BG19.out.cell 0
  have bgc1 := BG19.out.cell 1
  have bgc2 := BG19.out.cell 2
  simp at bgc0 bgc1 bgc2
  have bgl := BG19.out.lt
  go_wp2_with fail
  refine (heldLock_t 1 (by omega) (by omega) (Ty.rb HM14.out (H19.out.mono HMS.out)) HSN.out).mono ?_
  rw [HCE.out]
  rintro e w20 ⟨rfl, hb20⟩
  clear bgc0 bgc1 bgc2 bgl
  go_wp2
  go_ret
  exact ⟨rfl, HW19.out.trans (hb20.mono HW19.out.size)⟩
end Go.Proofs.Ytpnlmdnjpcjhjaa

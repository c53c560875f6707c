/-
  The walk of the exact law of MemPeek.
-/
import Derived.Test.YtfmbadhiflaldaaMSpace
import Derived.Test.YtfmbadhiflaldaaMPk
import Derived.Deep.RegionHeld3
namespace Go.Proofs.Ytfmbadhiflaldaa
open Go.RowKit

theorem memPeekSP {w : World} {hi : Nat} {x0 x1 x2 x3 x4 x5 : Value} {D : EMem} (who ad : Int) (h : tyMemP.R w hi [x0, x1, x2, x3, x4, x5] D) :
    Calls Try.prog 39 #[.agg #[x0, x1, x2, x3, x4, x5], .int .i64 who, .int .i64 ad] w fun e w' => e = .returned (.tuple #[.int .i64 (pkV D who ad), .bool (pkB D who ad)]) ∧ Below w.heap.size w w' := memPeekS who ad h.1 h.2.1
theorem memPeekIP {w : World} {hi : Nat} {x0 x1 x2 x3 x4 x5 : Value} {D : EMem} (who ad : Int) (h : tyMemP.R w hi [x0, x1, x2, x3, x4, x5] D) :
    Calls Try.prog 29 #[.agg #[x0, x1, x2, x3, x4, x5], .int .i64 who, .int .i64 ad] w fun e w' => e = .returned (.tuple #[.int .i64 (pkV D who ad), .bool (pkB D who ad)]) ∧ Below w.heap.size w w' := memPeekI who ad h.1 h.2.1 h.2.2

set_option maxHeartbeats 4000000 in
set_option maxRecDepth 100000 in
theorem exMemPeek_walk {w : World} {x0 x1 x2 x3 x4 x5 : Value} {D : EMem} (v0 : Int) (v1 : Int)  (hp : tyMemP.R w w.heap.size [x0, x1, x2, x3, x4, x5] D) :
    Calls Try.prog 10 #[.agg #[x0, x1, x2, x3, x4, x5], .int .i64 v0, .int .i64 v1] w fun e w' => e = .returned (.bool true) ∧ Below w.heap.size w w' := by
  obtain ⟨xA0, xn0, xc0, xA1, xn1, xc1, xA2, xn2, xc2, xA3, xn3, xc3, xA4, xn4, xc4, hcs⟩ := tyMemP_sh hp
  simp only [List.cons.injEq, and_true] at hcs
  obtain ⟨rfl, rfl, rfl, rfl, rfl, rfl⟩ := hcs
  have HP := Lib.hid hp
  clear hp
  have BP0 := Lib.hid (Box.new w #[.slice xA0 xn0 xc0, .slice xA1 xn1 xc1, .slice xA2 xn2 xc2, .slice xA3 xn3 xc3, .slice xA4 xn4 xc4, .int .i64 D.2.2.2] 67)
  have HB0 := Lib.hid (show Below w.heap.size w (w.alloc (.cells #[.slice xA0 xn0 xc0, .slice xA1 xn1 xc1, .slice xA2 xn2 xc2, .slice xA3 xn3 xc3, .slice xA4 xn4 xc4, .int .i64 D.2.2.2] 67)) from (Below.refl _ _).alloc (Nat.le_refl _) _)
  go_enter Try.func10, Try.ntmps10
  go_wp2_with fail
  refine (szMem_t 1048576 (by omega) (by omega) (Ty.rb HP.out HB0.out)).mono ?_
  rintro e w1 ⟨z, rfl, hz, hy, hb1⟩
  have HB1 := Lib.hid (HB0.out.trans (hb1.mono (by simp only [World.size_alloc]; omega)))
  have BP1 := Lib.hid (BP0.out.below hb1 (by simp only [World.size_alloc]; omega))
  clear hb1
  by_cases hz0 : 0 ≤ z
  case neg =>
    clear hz
    go_wp2
    go_ret
    exact ⟨rfl, HB1.out⟩
  obtain ⟨hsm, hzl⟩ := hz hz0
  have HSM := Lib.hid hsm
  clear hz hsm
  have bpc0 := BP1.out.cell 0
  have bpc1 := BP1.out.cell 1
  have bpc2 := BP1.out.cell 2
  have bpc3 := BP1.out.cell 3
  have bpc4 := BP1.out.cell 4
  have bpc5 := BP1.out.cell 5
  simp at bpc0 bpc1 bpc2 bpc3 bpc4 bpc5
  have bpl := BP1.out.lt
  go_wp2_with fail
  refine (toMem_t (Ty.rb HP.out HB1.out) HSM.out).mono ?_
  rintro e w2 ⟨y0, y1, y2, y3, y4, y5, f0, rfl, ho, hr, hb2⟩
  
  obtain ⟨yA0, yn0, yc0, yA1, yn1, yc1, yA2, yn2, yc2, yA3, yn3, yc3, yA4, yn4, yc4, hcs⟩ := tyMemP_shM ho
  simp only [List.cons.injEq, and_true] at hcs
  obtain ⟨rfl, rfl, rfl, rfl, rfl, rfl⟩ := hcs
  have HB2 := Lib.hid (HB1.out.trans (hb2.mono HB1.out.size))
  have BP2 := Lib.hid (BP1.out.below hb2 BP1.out.lt)
  have HO := Lib.hid ((tyMemP.mr ho fun b hb => (hr b hb).2))
  clear ho hr hb2
  clear bpc0 bpc1 bpc2 bpc3 bpc4 bpc5 bpl
  go_wp2_with fail
  refine (memPeekSP v0 v1 HO.out).mono ?_
  rintro e w3 ⟨rfl, hb3⟩
  have HB3 := Lib.hid (HB2.out.trans (hb3.mono HB2.out.size))
  have BP3 := Lib.hid (BP2.out.below hb3 BP2.out.lt)
  clear hb3 HO
  have bpc0 := BP3.out.cell 0
  have bpc1 := BP3.out.cell 1
  have bpc2 := BP3.out.cell 2
  have bpc3 := BP3.out.cell 3
  have bpc4 := BP3.out.cell 4
  have bpc5 := BP3.out.cell 5
  simp at bpc0 bpc1 bpc2 bpc3 bpc4 bpc5
  have bpl := BP3.out.lt
  go_wp2_with fail
  refine (toMem_t (Ty.rb HP.out HB3.out) HSM.out).mono ?_
  rintro e w4 ⟨z0, z1, z2, z3, z4, z5, fx, rfl, ho, hr, hb4⟩
  
  obtain ⟨zA0, zn0, zc0, zA1, zn1, zc1, zA2, zn2, zc2, zA3, zn3, zc3, zA4, zn4, zc4, hcs⟩ := tyMemP_shM ho
  simp only [List.cons.injEq, and_true] at hcs
  obtain ⟨rfl, rfl, rfl, rfl, rfl, rfl⟩ := hcs
  have HB4 := Lib.hid (HB3.out.trans (hb4.mono HB3.out.size))
  have BP4 := Lib.hid (BP3.out.below hb4 BP3.out.lt)
  have HO := Lib.hid ((tyMemP.mr ho fun b hb => (hr b hb).2))
  clear ho hr hb4
  have HA4 := Lib.hid (show Below w4.heap.size w4 (w4.alloc (.cells #[.slice zA0 zn0 zc0, .slice zA1 zn1 zc1, .slice zA2 zn2 zc2, .slice zA3 zn3 zc3, .slice zA4 zn4 zc4, .int .i64 D.2.2.2] 29)) from (Below.refl _ _).alloc (Nat.le_refl _) _)
  have BX4 := Lib.hid (Box.new w4 #[.slice zA0 zn0 zc0, .slice zA1 zn1 zc1, .slice zA2 zn2 zc2, .slice zA3 zn3 zc3, .slice zA4 zn4 zc4, .int .i64 D.2.2.2] 29)
  clear bpc0 bpc1 bpc2 bpc3 bpc4 bpc5 bpl
  go_wp2_with fail
  refine (memPeekIP v0 v1 (Ty.rb HO.out HA4.out)).mono ?_
  rintro e w5 ⟨rfl, hb5⟩
  have HC5 := Lib.hid (HA4.out.trans (hb5.mono HA4.out.size))
  have HB5 := Lib.hid (HB4.out.trans (HC5.out.mono HB4.out.size))
  have BP5 := Lib.hid (BP4.out.below HC5.out BP4.out.lt)
  have BX5 := Lib.hid (BX4.out.below hb5 (by simp))
  have HO5 := Lib.hid (Ty.rb HO.out HC5.out)
  clear hb5
  have bpc0 := BP5.out.cell 0
  have bpc1 := BP5.out.cell 1
  have bpc2 := BP5.out.cell 2
  have bpc3 := BP5.out.cell 3
  have bpc4 := BP5.out.cell 4
  have bpc5 := BP5.out.cell 5
  have bxc0 := BX5.out.cell 0
  have bxc1 := BX5.out.cell 1
  have bxc2 := BX5.out.cell 2
  have bxc3 := BX5.out.cell 3
  have bxc4 := BX5.out.cell 4
  have bxc5 := BX5.out.cell 5
  simp at bpc0 bpc1 bpc2 bpc3 bpc4 bpc5 bxc0 bxc1 bxc2 bxc3 bxc4 bxc5
  have bpl := BP5.out.lt
  have bxl := BX5.out.lt
  have HD := Lib.hid HB5.out.drew
  have HXD := Lib.hid (Ty.rb HO5.out (Below.refl _ _).drew)
  have HXDS := Lib.hid (show w4.heap.size ≤ w5.heap.size from HC5.out.size)
  go_wp2_with fail
  go_region_held3 (fun w' => w'.cell? ⟨w.heap.size, 0, none⟩ = some (.slice xA0 xn0 xc0) ∧ w'.cell? ⟨w.heap.size, 1, none⟩ = some (.slice xA1 xn1 xc1) ∧ w'.cell? ⟨w.heap.size, 2, none⟩ = some (.slice xA2 xn2 xc2) ∧ w'.cell? ⟨w.heap.size, 3, none⟩ = some (.slice xA3 xn3 xc3) ∧ w'.cell? ⟨w.heap.size, 4, none⟩ = some (.slice xA4 xn4 xc4) ∧ w'.cell? ⟨w.heap.size, 5, none⟩ = some (.int .i64 D.2.2.2) ∧ w'.cell? ⟨w4.heap.size, 0, none⟩ = some (.slice zA0 zn0 zc0) ∧ w'.cell? ⟨w4.heap.size, 1, none⟩ = some (.slice zA1 zn1 zc1) ∧ w'.cell? ⟨w4.heap.size, 2, none⟩ = some (.slice zA2 zn2 zc2) ∧ w'.cell? ⟨w4.heap.size, 3, none⟩ = some (.slice zA3 zn3 zc3) ∧ w'.cell? ⟨w4.heap.size, 4, none⟩ = some (.slice zA4 zn4 zc4) ∧ w'.cell? ⟨w4.heap.size, 5, none⟩ = some (.int .i64 D.2.2.2))
    (first | exact ⟨r0, r1, r2, r3, r4, r5, r6, r7, r8, r9, r10, r11⟩ | go_keep)
    (first
      | (go_at_call 38; refine (eqMem_t (Ty.rb HXD.out (hb10.mono HXDS.out)) (tyMemP.mr ho6 fun b hb => (hr6 b hb).2)).mono ?_; rintro e w11 ⟨rfl, hb11⟩; clear r0 r1 r2 r3 r4 r5 r6 r7 r8 r9 r10 r11; have r0 := ((hb11.cell (p := ⟨w.heap.size, 0, none⟩) (Nat.lt_of_lt_of_le bpl hb10.size)).trans (hb10.cell (p := ⟨w.heap.size, 0, none⟩) bpl)).trans bpc0; have r1 := ((hb11.cell (p := ⟨w.heap.size, 1, none⟩) (Nat.lt_of_lt_of_le bpl hb10.size)).trans (hb10.cell (p := ⟨w.heap.size, 1, none⟩) bpl)).trans bpc1; have r2 := ((hb11.cell (p := ⟨w.heap.size, 2, none⟩) (Nat.lt_of_lt_of_le bpl hb10.size)).trans (hb10.cell (p := ⟨w.heap.size, 2, none⟩) bpl)).trans bpc2; have r3 := ((hb11.cell (p := ⟨w.heap.size, 3, none⟩) (Nat.lt_of_lt_of_le bpl hb10.size)).trans (hb10.cell (p := ⟨w.heap.size, 3, none⟩) bpl)).trans bpc3; have r4 := ((hb11.cell (p := ⟨w.heap.size, 4, none⟩) (Nat.lt_of_lt_of_le bpl hb10.size)).trans (hb10.cell (p := ⟨w.heap.size, 4, none⟩) bpl)).trans bpc4; have r5 := ((hb11.cell (p := ⟨w.heap.size, 5, none⟩) (Nat.lt_of_lt_of_le bpl hb10.size)).trans (hb10.cell (p := ⟨w.heap.size, 5, none⟩) bpl)).trans bpc5; have r6 := ((hb11.cell (p := ⟨w4.heap.size, 0, none⟩) (Nat.lt_of_lt_of_le bxl hb10.size)).trans (hb10.cell (p := ⟨w4.heap.size, 0, none⟩) bxl)).trans bxc0; have r7 := ((hb11.cell (p := ⟨w4.heap.size, 1, none⟩) (Nat.lt_of_lt_of_le bxl hb10.size)).trans (hb10.cell (p := ⟨w4.heap.size, 1, none⟩) bxl)).trans bxc1; have r8 := ((hb11.cell (p := ⟨w4.heap.size, 2, none⟩) (Nat.lt_of_lt_of_le bxl hb10.size)).trans (hb10.cell (p := ⟨w4.heap.size, 2, none⟩) bxl)).trans bxc2; have r9 := ((hb11.cell (p := ⟨w4.heap.size, 3, none⟩) (Nat.lt_of_lt_of_le bxl hb10.size)).trans (hb10.cell (p := ⟨w4.heap.size, 3, none⟩) bxl)).trans bxc3; have r10 := ((hb11.cell (p := ⟨w4.heap.size, 4, none⟩) (Nat.lt_of_lt_of_le bxl hb10.size)).trans (hb10.cell (p := ⟨w4.heap.size, 4, none⟩) bxl)).trans bxc4; have r11 := ((hb11.cell (p := ⟨w4.heap.size, 5, none⟩) (Nat.lt_of_lt_of_le bxl hb10.size)).trans (hb10.cell (p := ⟨w4.heap.size, 5, none⟩) bxl)).trans bxc5)
      | (go_at_call 37; refine (toMem_t (Ty.rb HP.out HD.out) HSM.out).mono ?_; rintro e w10 ⟨q0, q1, q2, q3, q4, q5, f6, rfl, ho6, hr6, hb10⟩; have r0 := (hb10.cell (p := ⟨w.heap.size, 0, none⟩) bpl).trans bpc0; have r1 := (hb10.cell (p := ⟨w.heap.size, 1, none⟩) bpl).trans bpc1; have r2 := (hb10.cell (p := ⟨w.heap.size, 2, none⟩) bpl).trans bpc2; have r3 := (hb10.cell (p := ⟨w.heap.size, 3, none⟩) bpl).trans bpc3; have r4 := (hb10.cell (p := ⟨w.heap.size, 4, none⟩) bpl).trans bpc4; have r5 := (hb10.cell (p := ⟨w.heap.size, 5, none⟩) bpl).trans bpc5; have r6 := (hb10.cell (p := ⟨w4.heap.size, 0, none⟩) bxl).trans bxc0; have r7 := (hb10.cell (p := ⟨w4.heap.size, 1, none⟩) bxl).trans bxc1; have r8 := (hb10.cell (p := ⟨w4.heap.size, 2, none⟩) bxl).trans bxc2; have r9 := (hb10.cell (p := ⟨w4.heap.size, 3, none⟩) bxl).trans bxc3; have r10 := (hb10.cell (p := ⟨w4.heap.size, 4, none⟩) bxl).trans bxc4; have r11 := (hb10.cell (p := ⟨w4.heap.size, 5, none⟩) bxl).trans bxc5))
  have HB11 := Lib.hid (show Below w5.heap.size w5 w11 from (Below.refl _ _).drew.trans (hb10.trans (hb11.mono hb10.size)))
  clear hb10 hb11 ho6 hr6
  clear bpc0 bpc1 bpc2 bpc3 bpc4 bpc5 bxc0 bxc1 bxc2 bxc3 bxc4 bxc5 bpl bxl
  go_wp2_with fail
  go_ret
  exact ⟨rfl, HB5.out.trans (HB11.out.mono HB5.out.size)⟩
end Go.Proofs.Ytfmbadhiflaldaa

/-
  The walk of the exact law of BytesGet.
-/
import Derived.Test.YtegeilkpefancaaVI3
import Derived.Deep.RegionHeld3
namespace Go.Proofs.Ytegeilkpefancaa
open Go.RowKit

theorem bytesGetP {w : World} {hi : Nat} {x0 : Value} {D : DV} (who addr : Int) (h : tyViewsP.R w hi [x0] D) :
    Calls Try.prog 21 #[.agg #[x0], .int .i64 who, .int .i64 addr] w fun e w' => e = .returned (.tuple #[.int .i64 (getN D who addr), .int .i64 (getC D who addr)]) ∧ Below w.heap.size w w' := bytesGet_any who addr h.1 h.2.1 h.2.2
theorem bytesGetIP {w : World} {hi : Nat} {x0 : Value} {D : DV} (who addr : Int) (h : tyViewsP.R w hi [x0] D) :
    Calls Try.prog 23 #[.agg #[x0], .int .i64 who, .int .i64 addr] w fun e w' => e = .returned (.tuple #[.int .i64 (getN D who addr), .int .i64 (getC D who addr)]) ∧ Below w.heap.size w w' := bytesGetI who addr h.1 h.2.1 h.2.2

set_option maxHeartbeats 4000000 in
set_option maxRecDepth 100000 in
theorem exBytesGet_walk {w : World} {x0 : Value} {D : DV} (v0 : Int) (v1 : Int)  (hp : tyViewsP.R w w.heap.size [x0] D) :
    Calls Try.prog 6 #[.agg #[x0], .int .i64 v0, .int .i64 v1] w fun e w' => e = .returned (.bool true) ∧ Below w.heap.size w w' := by
  obtain ⟨xA0, xn0, xc0, hcs⟩ := tyViewsP_sh hp
  simp only [List.cons.injEq, and_true] at hcs
  subst hcs
  have HP := Lib.hid hp
  clear hp
  have BP0 := Lib.hid (Box.new w #[.slice xA0 xn0 xc0] 46)
  have HB0 := Lib.hid (show Below w.heap.size w (w.alloc (.cells #[.slice xA0 xn0 xc0] 46)) from (Below.refl _ _).alloc (Nat.le_refl _) _)
  go_enter Try.func6, Try.ntmps6
  go_wp2_with fail
  refine (szViews_t 1048576 (by omega) (by omega) (Ty.rb HP.out HB0.out)).mono ?_
  rintro e w1 ⟨z, rfl, hz, hy, hb1⟩
  have HB1 := Lib.hid (HB0.out.trans (hb1.mono (by simp only [World.size_alloc]; omega)))
  have BP1 := Lib.hid (BP0.out.below hb1 (by simp only [World.size_alloc]; omega))
  clear hb1
  by_cases hz0 : 0 ≤ z
  case neg =>
    clear hz
    go_wp2
    go_ret
    exact ⟨rfl, HB1.out⟩
  obtain ⟨hsm, hzl⟩ := hz hz0
  have HSM := Lib.hid hsm
  clear hz hsm
  have bpc0 := BP1.out.cell 0
  simp at bpc0
  have bpl := BP1.out.lt
  go_wp2_with fail
  refine (toViews_t (Ty.rb HP.out HB1.out) HSM.out).mono ?_
  rintro e w2 ⟨y0, f0, rfl, ho, hr, hb2⟩
  
  obtain ⟨yA0, yn0, yc0, hcs⟩ := tyViewsP_shM ho
  simp only [List.cons.injEq, and_true] at hcs
  subst hcs
  have HB2 := Lib.hid (HB1.out.trans (hb2.mono HB1.out.size))
  have BP2 := Lib.hid (BP1.out.below hb2 BP1.out.lt)
  have HO := Lib.hid ((tyViewsP.mr ho fun b hb => (hr b hb).2))
  clear ho hr hb2
  clear bpc0 bpl
  go_wp2_with fail
  refine (bytesGetP v0 v1 HO.out).mono ?_
  rintro e w3 ⟨rfl, hb3⟩
  have HB3 := Lib.hid (HB2.out.trans (hb3.mono HB2.out.size))
  have BP3 := Lib.hid (BP2.out.below hb3 BP2.out.lt)
  clear hb3 HO
  have bpc0 := BP3.out.cell 0
  simp at bpc0
  have bpl := BP3.out.lt
  go_wp2_with fail
  refine (toViews_t (Ty.rb HP.out HB3.out) HSM.out).mono ?_
  rintro e w4 ⟨z0, fx, rfl, ho, hr, hb4⟩
  
  obtain ⟨zA0, zn0, zc0, hcs⟩ := tyViewsP_shM ho
  simp only [List.cons.injEq, and_true] at hcs
  subst hcs
  have HB4 := Lib.hid (HB3.out.trans (hb4.mono HB3.out.size))
  have BP4 := Lib.hid (BP3.out.below hb4 BP3.out.lt)
  have HO := Lib.hid ((tyViewsP.mr ho fun b hb => (hr b hb).2))
  clear ho hr hb4
  have HA4 := Lib.hid (show Below w4.heap.size w4 (w4.alloc (.cells #[.slice zA0 zn0 zc0] 52)) from (Below.refl _ _).alloc (Nat.le_refl _) _)
  have BX4 := Lib.hid (Box.new w4 #[.slice zA0 zn0 zc0] 52)
  clear bpc0 bpl
  go_wp2_with fail
  refine (bytesGetIP v0 v1 (Ty.rb HO.out HA4.out)).mono ?_
  rintro e w5 ⟨rfl, hb5⟩
  have HC5 := Lib.hid (HA4.out.trans (hb5.mono HA4.out.size))
  have HB5 := Lib.hid (HB4.out.trans (HC5.out.mono HB4.out.size))
  have BP5 := Lib.hid (BP4.out.below HC5.out BP4.out.lt)
  have BX5 := Lib.hid (BX4.out.below hb5 (by simp))
  have HO5 := Lib.hid (Ty.rb HO.out HC5.out)
  clear hb5
  have bpc0 := BP5.out.cell 0
  have bxc0 := BX5.out.cell 0
  simp at bpc0 bxc0
  have bpl := BP5.out.lt
  have bxl := BX5.out.lt
  have HD := Lib.hid HB5.out.drew
  have HXD := Lib.hid (Ty.rb HO5.out (Below.refl _ _).drew)
  have HXDS := Lib.hid (show w4.heap.size ≤ w5.heap.size from HC5.out.size)
  go_wp2_with fail
  go_region_held3 (fun w' => w'.cell? ⟨w.heap.size, 0, none⟩ = some (.slice xA0 xn0 xc0) ∧ w'.cell? ⟨w4.heap.size, 0, none⟩ = some (.slice zA0 zn0 zc0))
    (first | exact ⟨r0, r1⟩ | go_keep)
    (first
      | (go_at_call 24; refine (eqViews_t (Ty.rb HXD.out (hb10.mono HXDS.out)) (tyViewsP.mr ho6 fun b hb => (hr6 b hb).2)).mono ?_; rintro e w11 ⟨rfl, hb11⟩; clear r0 r1; have r0 := ((hb11.cell (p := ⟨w.heap.size, 0, none⟩) (Nat.lt_of_lt_of_le bpl hb10.size)).trans (hb10.cell (p := ⟨w.heap.size, 0, none⟩) bpl)).trans bpc0; have r1 := ((hb11.cell (p := ⟨w4.heap.size, 0, none⟩) (Nat.lt_of_lt_of_le bxl hb10.size)).trans (hb10.cell (p := ⟨w4.heap.size, 0, none⟩) bxl)).trans bxc0)
      | (go_at_call 22; refine (toViews_t (Ty.rb HP.out HD.out) HSM.out).mono ?_; rintro e w10 ⟨q0, f6, rfl, ho6, hr6, hb10⟩; have r0 := (hb10.cell (p := ⟨w.heap.size, 0, none⟩) bpl).trans bpc0; have r1 := (hb10.cell (p := ⟨w4.heap.size, 0, none⟩) bxl).trans bxc0))
  have HB11 := Lib.hid (show Below w5.heap.size w5 w11 from (Below.refl _ _).drew.trans (hb10.trans (hb11.mono hb10.size)))
  clear hb10 hb11 ho6 hr6
  clear bpc0 bxc0 bpl bxl
  go_wp2_with fail
  go_ret
  exact ⟨rfl, HB5.out.trans (HB11.out.mono HB5.out.size)⟩
end Go.Proofs.Ytegeilkpefancaa

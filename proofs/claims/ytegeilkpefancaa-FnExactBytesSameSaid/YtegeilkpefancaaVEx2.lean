/-
  The walk of the exact law of BytesSame.
-/
import Derived.Test.YtegeilkpefancaaVSameI
import Derived.Deep.RegionHeld3
namespace Go.Proofs.Ytegeilkpefancaa
open Go.RowKit

theorem bytesSameP {w : World} {hi hi2 : Nat} {x0 y0 : Value} {D E : DV} (h : tyViewsP.R w hi [x0] D) (h2 : tyViewsP.R w hi2 [y0] E) :
    Calls Try.prog 29 #[.agg #[x0], .agg #[y0]] w fun e w' => e = .returned (.bool (eqL D E)) ∧ Below w.heap.size w w' := bytesSame_any h.1 h2.1
theorem bytesSameIP {w : World} {hi hi2 : Nat} {x0 y0 : Value} {D E : DV} (h : tyViewsP.R w hi [x0] D) (h2 : tyViewsP.R w hi2 [y0] E) :
    Calls Try.prog 30 #[.agg #[x0], .agg #[y0]] w fun e w' => e = .returned (.bool (eqL D E)) ∧ Below w.heap.size w w' := bytesSameI h.1 h2.1

set_option maxHeartbeats 4000000 in
set_option maxRecDepth 100000 in
theorem exBytesSame_walk {w : World} {x0 v0 : Value} {DA : DV} {DB : DV} (hp : tyViewsP.R w w.heap.size [x0] DA) (hq : tyViewsP.R w w.heap.size [v0] DB) :
    Calls Try.prog 8 #[.agg #[x0], .agg #[v0]] w fun e w' => e = .returned (.bool true) ∧ Below w.heap.size w w' := by
  obtain ⟨xA0, xn0, xc0, hcs⟩ := tyViewsP_sh hp
  simp only [List.cons.injEq, and_true] at hcs
  subst hcs
  obtain ⟨vA0, vn0, vc0, hcs⟩ := tyViewsP_sh hq
  simp only [List.cons.injEq, and_true] at hcs
  subst hcs
  have HP := Lib.hid hp
  have HQ := Lib.hid hq
  clear hp hq
  have BP0 := Lib.hid ((Box.new w #[.slice xA0 xn0 xc0] 46).alloc (.cells #[.slice vA0 vn0 vc0] 46))
  have BQ0 := Lib.hid (Box.new (w.alloc (.cells #[.slice xA0 xn0 xc0] 46)) #[.slice vA0 vn0 vc0] 46)
  simp only [World.size_alloc] at BQ0
  have HB0 := Lib.hid (show Below w.heap.size w ((w.alloc (.cells #[.slice xA0 xn0 xc0] 46)).alloc (.cells #[.slice vA0 vn0 vc0] 46)) from ((Below.refl _ _).alloc (Nat.le_refl _) _).alloc (by simp only [World.size_alloc]; omega) _)
  go_enter Try.func8, Try.ntmps8
  go_wp2_with fail
  refine (szViews_t 1048576 (by omega) (by omega) (Ty.rb HP.out HB0.out)).mono ?_
  rintro e w1 ⟨z, rfl, hz, hy, hb1⟩
  have HB1 := Lib.hid (HB0.out.trans (hb1.mono (by simp only [World.size_alloc]; omega)))
  have BP1 := Lib.hid (BP0.out.below hb1 (by simp only [World.size_alloc]; omega))
  have BQ1 := Lib.hid (BQ0.out.below hb1 (by simp only [World.size_alloc]; omega))
  clear hb1
  by_cases hz0 : 0 ≤ z
  case neg =>
    clear hz
    go_wp2
    go_ret
    exact ⟨rfl, HB1.out⟩
  obtain ⟨hsm, hzl⟩ := hz hz0
  have HSMA := Lib.hid hsm
  have hzk : z ≤ 1048576 := hzl
  clear hz hsm hzl
  have bqc0 := BQ1.out.cell 0
  simp at bqc0
  have bql := BQ1.out.lt
  go_wp2_with fail
  refine (szViews_t z hz0 hzk (Ty.rb HQ.out HB1.out)).mono ?_
  rintro e w2 ⟨z2, rfl, hz, hy2, hb2⟩
  have HB2 := Lib.hid (HB1.out.trans (hb2.mono HB1.out.size))
  have BP2 := Lib.hid (BP1.out.below hb2 BP1.out.lt)
  have BQ2 := Lib.hid (BQ1.out.below hb2 BQ1.out.lt)
  clear hb2
  by_cases hz20 : 0 ≤ z2
  case neg =>
    clear hz
    go_wp2
    go_ret
    exact ⟨rfl, HB2.out⟩
  obtain ⟨hsm, hzl⟩ := hz hz20
  have HSMB := Lib.hid hsm
  clear hz hsm hzl
  clear bqc0 bql
  have bpc0 := BP2.out.cell 0
  have bqc0 := BQ2.out.cell 0
  simp at bpc0 bqc0
  have bpl := BP2.out.lt
  have bql := BQ2.out.lt
  have HD := Lib.hid HB2.out.drew
  go_wp2_with fail
  go_region_held3 (fun w' => w'.cell? ⟨w.heap.size, 0, none⟩ = some (.slice xA0 xn0 xc0) ∧ w'.cell? ⟨w.heap.size + 1, 0, none⟩ = some (.slice vA0 vn0 vc0))
    (first | exact ⟨r0, r1⟩ | go_keep)
    (first
      | (go_at_call 29; refine (bytesSameP (Ty.rb (tyViewsP.mr ho3 fun b hb => (hr3 b hb).2) hb4) (tyViewsP.mr ho4 fun b hb => (hr4 b hb).2)).mono ?_; rintro e w5 ⟨rfl, hb5⟩; clear r0 r1; have r0 := (hb5.cell (p := ⟨w.heap.size, 0, none⟩) (Nat.lt_of_lt_of_le bpl (Nat.le_trans hb3.size hb4.size))).trans ((hb4.cell (p := ⟨w.heap.size, 0, none⟩) (Nat.lt_of_lt_of_le bpl hb3.size)).trans ((hb3.cell (p := ⟨w.heap.size, 0, none⟩) bpl).trans bpc0)); have r1 := (hb5.cell (p := ⟨w.heap.size + 1, 0, none⟩) (Nat.lt_of_lt_of_le bql (Nat.le_trans hb3.size hb4.size))).trans ((hb4.cell (p := ⟨w.heap.size + 1, 0, none⟩) (Nat.lt_of_lt_of_le bql hb3.size)).trans ((hb3.cell (p := ⟨w.heap.size + 1, 0, none⟩) bql).trans bqc0)))
      | (go_at_call 22; refine (toViews_t (Ty.rb HQ.out (HD.out.trans (hb3.mono HD.out.size))) HSMB.out).mono ?_; rintro e w4 ⟨q0, f4, rfl, ho4, hr4, hb4⟩; clear r0 r1; have r0 := (hb4.cell (p := ⟨w.heap.size, 0, none⟩) (Nat.lt_of_lt_of_le bpl hb3.size)).trans ((hb3.cell (p := ⟨w.heap.size, 0, none⟩) bpl).trans bpc0); have r1 := (hb4.cell (p := ⟨w.heap.size + 1, 0, none⟩) (Nat.lt_of_lt_of_le bql hb3.size)).trans ((hb3.cell (p := ⟨w.heap.size + 1, 0, none⟩) bql).trans bqc0))
      | (go_at_call 22; refine (toViews_t (Ty.rb HP.out HD.out) HSMA.out).mono ?_; rintro e w3 ⟨y0, f3, rfl, ho3, hr3, hb3⟩; have r0 := (hb3.cell (p := ⟨w.heap.size, 0, none⟩) bpl).trans bpc0; have r1 := (hb3.cell (p := ⟨w.heap.size + 1, 0, none⟩) bql).trans bqc0))
  have HB5 := Lib.hid (HD.out.trans ((hb3.trans ((hb4.mono hb3.size).trans (hb5.mono (Nat.le_trans hb3.size hb4.size)))).mono HD.out.size))
  have HC5 := Lib.hid (show Below w2.heap.size w2 w5 from (Below.refl _ _).drew.trans (hb3.trans ((hb4.mono hb3.size).trans (hb5.mono (Nat.le_trans hb3.size hb4.size)))))
  have BP5 := Lib.hid (BP2.out.below HC5.out BP2.out.lt)
  have BQ5 := Lib.hid (BQ2.out.below HC5.out BQ2.out.lt)
  clear hb3 hb4 hb5 ho3 ho4 hr3 hr4 r0 r1
  clear bpc0 bqc0 bpl bql
  have bpc0 := BP5.out.cell 0
  simp at bpc0
  have bpl := BP5.out.lt
  go_wp2_with fail
  refine (toViews_t (Ty.rb HP.out HB5.out) HSMA.out).mono ?_
  rintro e w6 ⟨z0, fz, rfl, ho, hr, hb6⟩
  obtain ⟨zA0, zn0, zc0, hcs⟩ := tyViewsP_shM ho
  simp only [List.cons.injEq, and_true] at hcs
  subst hcs
  have HZ6 := Lib.hid (tyViewsP.mr ho fun b hb => (hr b hb).2)
  have HB6 := Lib.hid (HB5.out.trans (hb6.mono HB5.out.size))
  have BP6 := Lib.hid (BP5.out.below hb6 BP5.out.lt)
  have BQ6 := Lib.hid (BQ5.out.below hb6 BQ5.out.lt)
  clear ho hr hb6
  have HA6 := Lib.hid (show Below w6.heap.size w6 (w6.alloc (.cells #[.slice zA0 zn0 zc0] 52)) from (Below.refl _ _).alloc (Nat.le_refl _) _)
  have BX6 := Lib.hid (Box.new w6 #[.slice zA0 zn0 zc0] 52)
  clear bpc0 bpl
  have bqc0 := BQ6.out.cell 0
  simp at bqc0
  have bql := BQ6.out.lt
  go_wp2_with fail
  refine (toViews_t (Ty.rb HQ.out (HB6.out.trans (HA6.out.mono HB6.out.size))) HSMB.out).mono ?_
  rintro e w7 ⟨u0, fu, rfl, ho, hr, hb7⟩
  obtain ⟨uA0, un0, uc0, hcs⟩ := tyViewsP_shM ho
  simp only [List.cons.injEq, and_true] at hcs
  subst hcs
  have HU7 := Lib.hid (tyViewsP.mr ho fun b hb => (hr b hb).2)
  have HC7 := Lib.hid (HA6.out.trans (hb7.mono HA6.out.size))
  have HB7 := Lib.hid (HB6.out.trans (HC7.out.mono HB6.out.size))
  have BP7 := Lib.hid (BP6.out.below HC7.out BP6.out.lt)
  have BQ7 := Lib.hid (BQ6.out.below HC7.out BQ6.out.lt)
  have BX7 := Lib.hid (BX6.out.below hb7 (by simp))
  have HZ7 := Lib.hid (Ty.rb HZ6.out HC7.out)
  clear ho hr hb7
  have HA7 := Lib.hid (show Below w7.heap.size w7 (w7.alloc (.cells #[.slice uA0 un0 uc0] 52)) from (Below.refl _ _).alloc (Nat.le_refl _) _)
  have BY7 := Lib.hid (Box.new w7 #[.slice uA0 un0 uc0] 52)
  have HS67 := Lib.hid HC7.out.size
  clear bqc0 bql
  have bxc0 := BX7.out.cell 0
  simp at bxc0
  have bxl := BX7.out.lt
  go_wp2_with fail
  refine (bytesSameIP (Ty.rb HZ7.out (HA7.out.mono HS67.out)) (Ty.rb HU7.out HA7.out)).mono ?_
  rintro e w8 ⟨rfl, hb8⟩
  have HC8 := Lib.hid (HA7.out.trans (hb8.mono HA7.out.size))
  have HB8 := Lib.hid (HB7.out.trans (HC8.out.mono HB7.out.size))
  have BP8 := Lib.hid (BP7.out.below HC8.out BP7.out.lt)
  have BQ8 := Lib.hid (BQ7.out.below HC8.out BQ7.out.lt)
  have BX8 := Lib.hid (BX7.out.below HC8.out BX7.out.lt)
  have BY8 := Lib.hid (BY7.out.below hb8 (by simp))
  have HZ8 := Lib.hid (Ty.rb HZ7.out (HC8.out.mono HS67.out))
  have HU8 := Lib.hid (Ty.rb HU7.out HC8.out)
  have HS68 := Lib.hid (Nat.le_trans HS67.out HC8.out.size)
  have HS78 := Lib.hid HC8.out.size
  clear hb8
  clear bxc0 bxl
  have bpc0 := BP8.out.cell 0
  have bxc0 := BX8.out.cell 0
  simp at bpc0 bxc0
  have bpl := BP8.out.lt
  have bxl := BX8.out.lt
  have HD8 := Lib.hid HB8.out.drew
  have HXD8 := Lib.hid (Ty.rb HZ8.out (Below.refl _ _).drew)
  go_wp2_with fail
  go_region_held3 (fun w' => w'.cell? ⟨w.heap.size, 0, none⟩ = some (.slice xA0 xn0 xc0) ∧ w'.cell? ⟨w6.heap.size, 0, none⟩ = some (.slice zA0 zn0 zc0))
    (first | exact ⟨r0, r1⟩ | go_keep)
    (first
      | (go_at_call 24; refine (eqViews_t (Ty.rb HXD8.out (hb10.mono HS68.out)) (tyViewsP.mr ho6 fun b hb => (hr6 b hb).2)).mono ?_; rintro e w9 ⟨rfl, hb11⟩; clear r0 r1; have r0 := ((hb11.cell (p := ⟨w.heap.size, 0, none⟩) (Nat.lt_of_lt_of_le bpl hb10.size)).trans (hb10.cell (p := ⟨w.heap.size, 0, none⟩) bpl)).trans bpc0; have r1 := ((hb11.cell (p := ⟨w6.heap.size, 0, none⟩) (Nat.lt_of_lt_of_le bxl hb10.size)).trans (hb10.cell (p := ⟨w6.heap.size, 0, none⟩) bxl)).trans bxc0)
      | (go_at_call 22; refine (toViews_t (Ty.rb HP.out HD8.out) HSMA.out).mono ?_; rintro e wq8 ⟨q0, f6, rfl, ho6, hr6, hb10⟩; have r0 := (hb10.cell (p := ⟨w.heap.size, 0, none⟩) bpl).trans bpc0; have r1 := (hb10.cell (p := ⟨w6.heap.size, 0, none⟩) bxl).trans bxc0))
  have HC9 := Lib.hid (show Below w8.heap.size w8 w9 from (Below.refl _ _).drew.trans (hb10.trans (hb11.mono hb10.size)))
  have HB9 := Lib.hid (HB8.out.trans (HC9.out.mono HB8.out.size))
  clear hb10 hb11 ho6 hr6 r0 r1
  clear bpc0 bxc0 bpl bxl
  have BQ9 := Lib.hid (BQ8.out.below HC9.out BQ8.out.lt)
  have BY9 := Lib.hid (BY8.out.below HC9.out BY8.out.lt)
  have HU9 := Lib.hid (Ty.rb HU8.out (HC9.out.mono HS78.out))
  have HS79 := Lib.hid (Nat.le_trans HS78.out HC9.out.size)
  have bqc0 := BQ9.out.cell 0
  have byc0 := BY9.out.cell 0
  simp at bqc0 byc0
  have bql := BQ9.out.lt
  have byl := BY9.out.lt
  have HD9 := Lib.hid HB9.out.drew
  have HXD9 := Lib.hid (Ty.rb HU9.out (Below.refl _ _).drew)
  go_wp2_with fail
  go_region_held3 (fun w' => w'.cell? ⟨w.heap.size + 1, 0, none⟩ = some (.slice vA0 vn0 vc0) ∧ w'.cell? ⟨w7.heap.size, 0, none⟩ = some (.slice uA0 un0 uc0))
    (first | exact ⟨r0, r1⟩ | go_keep)
    (first
      | (go_at_call 24; refine (eqViews_t (Ty.rb HXD9.out (hb10.mono HS79.out)) (tyViewsP.mr ho6 fun b hb => (hr6 b hb).2)).mono ?_; rintro e w10 ⟨rfl, hb11⟩; clear r0 r1; have r0 := ((hb11.cell (p := ⟨w.heap.size + 1, 0, none⟩) (Nat.lt_of_lt_of_le bql hb10.size)).trans (hb10.cell (p := ⟨w.heap.size + 1, 0, none⟩) bql)).trans bqc0; have r1 := ((hb11.cell (p := ⟨w7.heap.size, 0, none⟩) (Nat.lt_of_lt_of_le byl hb10.size)).trans (hb10.cell (p := ⟨w7.heap.size, 0, none⟩) byl)).trans byc0)
      | (go_at_call 22; refine (toViews_t (Ty.rb HQ.out HD9.out) HSMB.out).mono ?_; rintro e wq9 ⟨q0, f6, rfl, ho6, hr6, hb10⟩; have r0 := (hb10.cell (p := ⟨w.heap.size + 1, 0, none⟩) bql).trans bqc0; have r1 := (hb10.cell (p := ⟨w7.heap.size, 0, none⟩) byl).trans byc0))
  have HC10 := Lib.hid (show Below w9.heap.size w9 w10 from (Below.refl _ _).drew.trans (hb10.trans (hb11.mono hb10.size)))
  have HB10 := Lib.hid (HB9.out.trans (HC10.out.mono HB9.out.size))
  clear hb10 hb11 ho6 hr6 r0 r1
  clear bqc0 byc0 bql byl
  go_wp2_with fail
  go_ret
  exact ⟨rfl, HB10.out⟩
end Go.Proofs.Ytegeilkpefancaa

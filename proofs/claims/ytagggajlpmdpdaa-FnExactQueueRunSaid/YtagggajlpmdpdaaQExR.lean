/-
  The walk of QueueRun's exact law, over the program's contract.
-/
import Derived.Test.YtagggajlpmdpdaaQSB
import Derived.Test.YtagggajlpmdpdaaQTo
import Derived.Test.YtagggajlpmdpdaaTfInt
import Derived.Deep.RegionHeld3
namespace Go.Proofs.Ytagggajlpmdpdaa
open Go.RowKit

set_option maxHeartbeats 4000000 in
set_option maxRecDepth 100000 in
theorem exQueueRun_walk (hm : QRunM 26) {w : World} {x0 x1 : Value} {D : List ETask × Int} (v0 : Int)  (hp : tyQueue.R w w.heap.size [x0, x1] D) :
    Calls Try.prog 22 #[.agg #[x0, x1], .int .i64 v0] w fun e w' => e = .returned (.bool true) ∧ Below w.heap.size w w' := by
  obtain ⟨xA0, xn0, xc0, hcs⟩ := tyQueue_sh hp
  simp only [List.cons.injEq, and_true] at hcs
  obtain ⟨rfl, rfl⟩ := hcs
  have HP := Lib.hid hp
  clear hp
  have HM := Lib.hid hm
  clear hm
  have BP0 := Lib.hid (Box.new w #[.slice xA0 xn0 xc0, .int .i64 D.2] 49)
  have HB0 := Lib.hid (show Below w.heap.size w (w.alloc (.cells #[.slice xA0 xn0 xc0, .int .i64 D.2] 49)) from (Below.refl _ _).alloc (Nat.le_refl _) _)
  go_enter Try.func22, Try.ntmps22
  go_wp2_with fail
  refine (szQueue_t 1048576 (by omega) (by omega) (Ty.rb HP.out HB0.out)).mono ?_
  rintro e w1 ⟨z, rfl, hz, hy, hb1⟩
  have HB1 := Lib.hid (HB0.out.trans (hb1.mono (by simp only [World.size_alloc]; omega)))
  have BP1 := Lib.hid (BP0.out.below hb1 (by simp only [World.size_alloc]; omega))
  clear hb1
  by_cases hz0 : 0 ≤ z
  case neg =>
    clear hz
    go_wp2
    go_ret
    exact ⟨rfl, HB1.out⟩
  obtain ⟨hsm, hzl⟩ := hz hz0
  have HSM := Lib.hid hsm
  clear hz hsm
  have bpc0 := BP1.out.cell 0
  have bpc1 := BP1.out.cell 1
  simp at bpc0 bpc1
  have bpl := BP1.out.lt
  go_wp2_with fail
  refine (toQueue_c (Ty.rb HP.out HB1.out) HSM.out).mono ?_
  rintro e w2 ⟨y0, y1, f0, rfl, ho, hcp, hr, hb2⟩
  have HCPw2 := Lib.hid hcp
  clear hcp
  
  obtain ⟨yA0, yn0, yc0, hcs⟩ := tyQueue_shM ho
  simp only [List.cons.injEq, and_true] at hcs
  obtain ⟨rfl, rfl⟩ := hcs
  have HB2 := Lib.hid (HB1.out.trans (hb2.mono HB1.out.size))
  have BP2 := Lib.hid (BP1.out.below hb2 BP1.out.lt)
  have HO := Lib.hid ((tyQueue.mr ho fun b hb => (hr b hb).2))
  clear ho hr hb2
  clear bpc0 bpc1 bpl
  go_wp2_with fail
  refine (queueRun_s v0 HO.out HSM.out HCPw2.out).mono ?_
  rintro e w3 ⟨t0, t1, IA, IN, IC, rfl, hsp, hi3, hil, hb3⟩
  generalize hIe : runI D v0 = LI at hi3 hil
  generalize hBe : (runQ D v0).isSome = BB
  have HIE := Lib.hid hIe
  have HBE := Lib.hid hBe
  have HI3 := Lib.hid hi3
  have HIL := Lib.hid hil
  clear hIe hBe hi3 hil
  have HB3 := Lib.hid (HB2.out.trans (hb3.mono HB2.out.size))
  have BP3 := Lib.hid (BP2.out.below hb3 BP2.out.lt)
  generalize hDe : runD D v0 = DN at hsp
  
  obtain ⟨tA0, tn0, tc0, hcs⟩ := tyQueue_sh hsp
  simp only [List.cons.injEq, and_true] at hcs
  obtain ⟨rfl, rfl⟩ := hcs
  have HDE := Lib.hid hDe
  have HSP := Lib.hid hsp
  clear hb3 hsp HO hDe
  have BP4 := Lib.hid (BP3.out.alloc (.cells #[.slice tA0 tn0 tc0, .int .i64 DN.2] 25))
  have BW4 := Lib.hid (Box.new w3 #[.slice tA0 tn0 tc0, .int .i64 DN.2] 25)
  have HL4 := Lib.hid (show Below w3.heap.size w3 (w3.alloc (.cells #[.slice tA0 tn0 tc0, .int .i64 DN.2] 25)) from (Below.refl _ _).alloc (Nat.le_refl _) _)
  have HB4 := Lib.hid (HB3.out.trans (HL4.out.mono HB3.out.size))
  have bpc0 := BP3.out.cell 0
  have bpc1 := BP3.out.cell 1
  simp at bpc0 bpc1
  have bpl := BP3.out.lt
  go_wp2_with fail
  refine (toQueue_c (Ty.rb HP.out HB4.out) HSM.out).mono ?_
  rintro e w5 ⟨z0, z1, fx, rfl, ho, hcp, hr, hb5⟩
  have HCPw5 := Lib.hid hcp
  clear hcp
  
  obtain ⟨zA0, zn0, zc0, hcs⟩ := tyQueue_shM ho
  simp only [List.cons.injEq, and_true] at hcs
  obtain ⟨rfl, rfl⟩ := hcs
  have HX5 := Lib.hid ho
  have HXR := Lib.hid hr
  have BP5 := Lib.hid (BP4.out.below hb5 BP4.out.lt)
  have BW5 := Lib.hid (BW4.out.below hb5 BW4.out.lt)
  have HB5 := Lib.hid (HB4.out.trans (hb5.mono HB4.out.size))
  have HL5 := Lib.hid (HL4.out.trans (hb5.mono HL4.out.size))
  clear ho hr hb5
  have HA5 := Lib.hid (show Below w5.heap.size w5 (w5.alloc (.cells #[.slice zA0 zn0 zc0, .int .i64 D.2] 25)) from (Below.refl _ _).alloc (Nat.le_refl _) _)
  have BX6 := Lib.hid (Box.new w5 #[.slice zA0 zn0 zc0, .int .i64 D.2] 25)
  have HX6 := Lib.hid (Ty.mb HX5.out HA5.out fun b hb => (HXR.out b hb).2)
  have HXS : Hid (tyQueue.R (w5.alloc (.cells #[.slice zA0 zn0 zc0, .int .i64 D.2] 25)) w5.heap.size [.slice zA0 zn0 zc0, .int .i64 D.2] D) := Lib.hid (tyQueue.mr HX6.out fun b hb => (HXR.out b hb).2)
  clear bpc0 bpc1 bpl
  go_wp2_with fail
  refine (HM.out v0 HXS.out HSM.out HCPw5.out).mono ?_
  rw [HDE.out, HIE.out, HBE.out]
  rintro e w7 ⟨u0, u1, fg, GA, GN, GC, fi, rfl, hg, hr, hsn, _, hgi, hfi, hgl, hgm, hb7⟩
  obtain rfl : GN = IN := by rw [← hgl]; exact HIL.out
  have HGI7 := Lib.hid hgi
  have HFI := Lib.hid (fun b (hb : b ∈ fi) => (hfi b hb).2.1)
  have HFG := Lib.hid (fun b (hb : b ∈ fi) => (hfi b hb).2.2)
  have HFL := Lib.hid (fun b (hb : b ∈ fi) => (hfi b hb).1)
  have HGM := Lib.hid hgm
  have HGN := Lib.hid (show GN ≤ 9223372036854775807 from by omega)
  have HGN2 := Lib.hid (show GN ≤ 1048576 from by omega)
  clear hgi hfi hgl hgm
  
  obtain ⟨uA0, un0, uc0, hcs⟩ := tyQueue_shM hg
  simp only [List.cons.injEq, and_true] at hcs
  obtain ⟨rfl, rfl⟩ := hcs
  have HB7 := Lib.hid (HA5.out.trans (hb7.mono (by simp)))
  have HG7 := Lib.hid hg
  have HGR := Lib.hid hr
  have HSN := Lib.hid hsn
  have HX7 := Lib.hid (Ty.mb HX5.out HB7.out fun b hb => (HXR.out b hb).2)
  have BP7 := Lib.hid (BP5.out.below HB7.out BP5.out.lt)
  have BW7 := Lib.hid (BW5.out.below HB7.out BW5.out.lt)
  have BX7 := Lib.hid (BX6.out.below hb7 (by simp))
  have HW7 := Lib.hid (HB5.out.trans (HB7.out.mono HB5.out.size))
  have HL7 := Lib.hid (HL5.out.trans (HB7.out.mono HL5.out.size))
  clear hg hr hsn hb7
  have HA7 := Lib.hid (show Below w7.heap.size w7 (w7.alloc (.cells #[.slice uA0 un0 uc0, .int .i64 DN.2] 25)) from (Below.refl _ _).alloc (Nat.le_refl _) _)
  have BG8 := Lib.hid (Box.new w7 #[.slice uA0 un0 uc0, .int .i64 DN.2] 25)
  have HG8 := Lib.hid (Ty.mb HG7.out HA7.out fun b hb => (HGR.out b hb).2)
  have bwc0 := BW7.out.cell 0
  have bwc1 := BW7.out.cell 1
  simp at bwc0 bwc1
  have bwl := BW7.out.lt
  have bxl := BX7.out.lt
  have bpl := BP7.out.lt
  go_wp2_with fail
  refine (eqQueue_t (tyQueue.mr HG8.out fun b hb => (HGR.out b hb).2) (Ty.rb HSP.out (HL7.out.trans (HA7.out.mono HL7.out.size)))).mono ?_
  rintro e w8 ⟨rfl, hb8⟩
  have HB8 := Lib.hid (HA7.out.trans (hb8.mono (by simp)))
  have HB8L := Lib.hid hb8
  have HI8 := Lib.hid (HI3.out.wb ((HL7.out.trans (HB8.out.mono HL7.out.size))))
  have HGI8 := Lib.hid (HGI7.out.frame fun b hb => HB8.out.block b (HFI.out b hb))
  clear hb8
  have bxl8 := (BX7.out.below HB8.out BX7.out.lt).lt
  go_wp2_with fail
  refine (eqInt_S (HGI8.out.row HFI.out) HI8.out HGN.out).mono ?_
  rintro e w9 ⟨rfl, hb9b⟩
  have hb9 := HB8L.out.trans (hb9b.mono HB8L.out.size)
  clear hb9b bxl8 HB8 HB8L HI8 HGI8
  have HB9 := Lib.hid (HA7.out.trans (hb9.mono (by simp)))
  have BP9 := Lib.hid (BP7.out.below HB9.out BP7.out.lt)
  have BW9 := Lib.hid (BW7.out.below HB9.out BW7.out.lt)
  have BX9 := Lib.hid (BX7.out.below HB9.out BX7.out.lt)
  have BG9 := Lib.hid (BG8.out.below hb9 (by simp))
  have HW9 := Lib.hid (HW7.out.trans (HB9.out.mono HW7.out.size))
  have HL9 := Lib.hid (HL7.out.trans (HB9.out.mono HL7.out.size))
  have HK9 := Lib.hid (HB7.out.trans (HB9.out.mono HB7.out.size))
  clear hb9 bxl bpl
  clear bwc0 bwc1 bwl
  have bpc0 := BP9.out.cell 0
  have bpc1 := BP9.out.cell 1
  have bxc0 := BX9.out.cell 0
  have bxc1 := BX9.out.cell 1
  simp at bpc0 bpc1 bxc0 bxc1
  have bpl := BP9.out.lt
  have bxl := BX9.out.lt
  have HD := Lib.hid HW9.out.drew
  have HXD := Lib.hid (tyQueue.mr (Ty.mb HX5.out (HK9.out.trans ((Below.refl _ _).drew)) fun b hb => (HXR.out b hb).2) fun b hb => (HXR.out b hb).2)
  have HXDS := Lib.hid (show w5.heap.size ≤ w9.heap.size from HK9.out.size)
  go_wp2_with fail
  go_region_held3 (fun w' => w'.cell? ⟨w.heap.size, 0, none⟩ = some (.slice xA0 xn0 xc0) ∧ w'.cell? ⟨w.heap.size, 1, none⟩ = some (.int .i64 D.2) ∧ w'.cell? ⟨w5.heap.size, 0, none⟩ = some (.slice zA0 zn0 zc0) ∧ w'.cell? ⟨w5.heap.size, 1, none⟩ = some (.int .i64 D.2))
    (first | exact ⟨r0, r1, r2, r3⟩ | go_keep)
    (first
      | (go_at_call 51; refine (eqQueue_t (Ty.rb HXD.out (hb10.mono HXDS.out)) (tyQueue.mr ho6 fun b hb => (hr6 b hb).2)).mono ?_; rintro e w11 ⟨rfl, hb11⟩; clear r0 r1 r2 r3; have r0 := ((hb11.cell (p := ⟨w.heap.size, 0, none⟩) (Nat.lt_of_lt_of_le bpl hb10.size)).trans (hb10.cell (p := ⟨w.heap.size, 0, none⟩) bpl)).trans bpc0; have r1 := ((hb11.cell (p := ⟨w.heap.size, 1, none⟩) (Nat.lt_of_lt_of_le bpl hb10.size)).trans (hb10.cell (p := ⟨w.heap.size, 1, none⟩) bpl)).trans bpc1; have r2 := ((hb11.cell (p := ⟨w5.heap.size, 0, none⟩) (Nat.lt_of_lt_of_le bxl hb10.size)).trans (hb10.cell (p := ⟨w5.heap.size, 0, none⟩) bxl)).trans bxc0; have r3 := ((hb11.cell (p := ⟨w5.heap.size, 1, none⟩) (Nat.lt_of_lt_of_le bxl hb10.size)).trans (hb10.cell (p := ⟨w5.heap.size, 1, none⟩) bxl)).trans bxc1)
      | (go_at_call 50; refine (toQueue_t (Ty.rb HP.out HD.out) HSM.out).mono ?_; rintro e w10 ⟨q0, q1, f6, rfl, ho6, hr6, hb10⟩; have r0 := (hb10.cell (p := ⟨w.heap.size, 0, none⟩) bpl).trans bpc0; have r1 := (hb10.cell (p := ⟨w.heap.size, 1, none⟩) bpl).trans bpc1; have r2 := (hb10.cell (p := ⟨w5.heap.size, 0, none⟩) bxl).trans bxc0; have r3 := (hb10.cell (p := ⟨w5.heap.size, 1, none⟩) bxl).trans bxc1))
  have HB11 := Lib.hid (show Below w9.heap.size w9 w11 from (Below.refl _ _).drew.trans (hb10.trans (hb11.mono hb10.size)))
  clear hb10 hb11 ho6 hr6
  clear bpc0 bpc1 bxc0 bxc1 bpl bxl
  have BP11 := Lib.hid (BP9.out.below HB11.out BP9.out.lt)
  have BW11 := Lib.hid (BW9.out.below HB11.out BW9.out.lt)
  have BX11 := Lib.hid (BX9.out.below HB11.out BX9.out.lt)
  have BG11 := Lib.hid (BG9.out.below HB11.out BG9.out.lt)
  have HW11 := Lib.hid (HW9.out.trans (HB11.out.mono HW9.out.size))
  have HL11 := Lib.hid (HL9.out.trans (HB11.out.mono HL9.out.size))
  have HK11 := Lib.hid (HK9.out.trans (HB11.out.mono HK9.out.size))
  have HX11 := Lib.hid (Ty.mb HX5.out HK11.out fun b hb => (HXR.out b hb).2)
  have HG11 := Lib.hid (Ty.mb HG7.out (HB9.out.trans (HB11.out.mono HB9.out.size)) fun b hb => (HGR.out b hb).2)
  have HGL := Lib.hid (Nat.le_trans HB9.out.size HB11.out.size)
  have HGI11 := Lib.hid (HGI7.out.frame fun b hb => (HB9.out.trans (HB11.out.mono HB9.out.size)).block b (HFI.out b hb))
  have HFI11 := Lib.hid (fun b (hb : b ∈ fi) => Nat.lt_of_lt_of_le (HFI.out b hb) HGL.out)
  have bxc0 := BX11.out.cell 0
  have bxc1 := BX11.out.cell 1
  simp at bxc0 bxc1
  have bxl := BX11.out.lt
  go_wp2_with fail
  refine (markQueue_t 1 (by omega) (by omega) HX11.out (fun b hb => Nat.lt_of_lt_of_le (HXR.out b hb).2 HK11.out.size)).mono ?_
  rintro e w12 ⟨rfl, _, ht⟩
  have s3 : w.heap.size ≤ w3.heap.size := HB3.out.size
  have s5 := HL5.out.size
  have s4 : w3.heap.size + 1 ≤ w5.heap.size := by have h := BW5.out.lt; omega
  have s7 : w5.heap.size + 1 ≤ w7.heap.size := by have h := BX7.out.lt; omega
  have s11 : w7.heap.size ≤ w11.heap.size := HGL.out
  have s2 : w.heap.size < w3.heap.size := BP3.out.lt
  have hxr := HXR.out
  simp only [World.size_alloc] at hxr
  have hgr := HGR.out
  simp only [World.size_alloc] at hgr
  have BP12 := Lib.hid (ht.box BP11.out fun hb => by have := hxr _ hb; omega)
  have BW12 := Lib.hid (ht.box BW11.out fun hb => by have := hxr _ hb; omega)
  have BG12 := Lib.hid (ht.box BG11.out fun hb => by have := hxr _ hb; omega)
  have HG12 := Lib.hid (Ty.mf HG11.out ht fun b hb => ⟨by have := hgr b hb; omega, fun hb2 => by have := hgr b hb; have := hxr b hb2; omega⟩)
  have HW12 := Lib.hid (HW11.out.trans (ht.below (lo := w.heap.size) (by omega) fun b hb => by have := hxr b hb; omega))
  have HL12 := Lib.hid (HL11.out.trans (ht.below (lo := w3.heap.size) (by omega) fun b hb => by have := hxr b hb; omega))
  have HM12 := Lib.hid ht.size
  have HGI12 := Lib.hid (HGI11.out.frame fun b hb => ht.block b (HFI11.out b hb) fun hb2 => by have h5 := HFL.out b hb; simp only [World.size_alloc] at h5; have := hxr b hb2; omega)
  have HFI12 := Lib.hid (fun b (hb : b ∈ fi) => Nat.lt_of_lt_of_le (HFI11.out b hb) ht.size)
  have hk12 : ¬ (1 + cntQueue D < 0) := by have := cntQueue_pos (D := D); omega
  clear ht hxr hgr s3 s4 s5 s7 s11 s2
  clear bxc0 bxc1 bxl
  generalize cntQueue D = CX at hk12 ⊢
  have bgc0 := BG12.out.cell 0
  have bgc1 := BG12.out.cell 1
  have bwc0 := BW12.out.cell 0
  have bwc1 := BW12.out.cell 1
  simp at bgc0 bgc1 bwc0 bwc1
  have bgl := BG12.out.lt
  have bwl := BW12.out.lt
  go_wp2_with fail
  refine (eqQueue_t (tyQueue.mr HG12.out fun b hb => (HGR.out b hb).2) (Ty.rb HSP.out HL12.out)).mono ?_
  rintro e wa ⟨rfl, hb13a⟩
  have HBA := Lib.hid hb13a
  have HIA := Lib.hid (HI3.out.wb (HL12.out.trans (hb13a.mono HL12.out.size)))
  have HGIA := Lib.hid (HGI12.out.frame fun b hb => hb13a.block b (HFI12.out b hb))
  clear hb13a
  go_wp2_with fail
  refine (eqInt_S (HGIA.out.row HFI12.out) HIA.out HGN.out).mono ?_
  rintro e w13 ⟨rfl, hb13b⟩
  have hb13 := HBA.out.trans (hb13b.mono HBA.out.size)
  clear hb13b HBA HIA HGIA
  have HGI13 := Lib.hid (HGI12.out.frame fun b hb => hb13.block b (HFI12.out b hb))
  have HFI13 := Lib.hid (fun b (hb : b ∈ fi) => Nat.lt_of_lt_of_le (HFI12.out b hb) hb13.size)
  have BP13 := Lib.hid (BP12.out.below hb13 BP12.out.lt)
  have BW13 := Lib.hid (BW12.out.below hb13 BW12.out.lt)
  have BG13 := Lib.hid (BG12.out.below hb13 BG12.out.lt)
  have HGL13 := Lib.hid (fun b (hb : b ∈ fg) => Nat.lt_of_lt_of_le (HGR.out b hb).2 (Nat.le_trans HGL.out HM12.out))
  have HG13 := Lib.hid (Ty.mb HG12.out hb13 HGL13.out)
  have HGL14 := Lib.hid (fun b (hb : b ∈ fg) => Nat.lt_of_lt_of_le (HGL13.out b hb) hb13.size)
  have HW13 := Lib.hid (HW12.out.trans (hb13.mono HW12.out.size))
  have HL13 := Lib.hid (HL12.out.trans (hb13.mono HL12.out.size))
  clear hb13
  clear bgc0 bgc1 bwc0 bwc1 bgl bwl
  have bgc0 := BG13.out.cell 0
  have bgc1 := BG13.out.cell 1
  simp at bgc0 bgc1
  have bgl := BG13.out.lt
  go_wp2_with fail
  refine (markQueue_t 1 (by omega) (by omega) HG13.out HGL14.out).mono ?_
  rintro e wm ⟨rfl, hm, ht⟩
  have HMM := Lib.hid hm
  have HGT := Lib.hid ht
  have HGIM := Lib.hid (HGI13.out.frame fun b hb => ht.block b (HFI13.out b hb) (HFG.out b hb))
  have HFIM := Lib.hid (fun b (hb : b ∈ fi) => Nat.lt_of_lt_of_le (HFI13.out b hb) ht.size)
  have hcn : 0 ≤ cntQueue DN ∧ cntQueue DN ≤ 4194304 := by
    have h := HSN.out
    unfold smallQueue at h
    unfold cntQueue
    omega
  have hgn : GN ≤ 1000 := HGM.out
  clear hm ht
  clear bgc0 bgc1 bgl
  generalize hce : cntQueue DN = CN at hcn ⊢
  have HCE := Lib.hid hce
  clear hce
  go_wp2_with fail
  refine (markInt_S (1 + CN) (by omega) (by omega) HIL.out HGN2.out HGIM.out).mono ?_
  rintro e w14 ⟨rfl, hmi, ht⟩
  have HMI14 := Lib.hid hmi
  have HFI14 := Lib.hid (fun b (hb : b ∈ fi) => Nat.lt_of_lt_of_le (HFIM.out b hb) ht.size)
  have HM14 := Lib.hid (tyQueue.mr (Ty.mf HMM.out ht fun b hb => ⟨Nat.lt_of_lt_of_le (HGL14.out b hb) HGT.out.size, fun hb2 => HFG.out b hb2 hb⟩) fun b hb => Nat.lt_of_lt_of_le (Nat.lt_of_lt_of_le (HGL14.out b hb) HGT.out.size) ht.size)
  have s3 : w.heap.size ≤ w3.heap.size := HB3.out.size
  have s4 : w3.heap.size + 1 ≤ w5.heap.size := by have h := BW5.out.lt; omega
  have s7 : w5.heap.size + 1 ≤ w7.heap.size := by have h := BX7.out.lt; omega
  have s2 : w.heap.size < w3.heap.size := BP3.out.lt
  have s12 : w7.heap.size ≤ w13.heap.size := Nat.le_of_lt BG13.out.lt
  have sm : w13.heap.size ≤ wm.heap.size := HGT.out.size
  have hgr := HGR.out
  simp only [World.size_alloc] at hgr
  have hfl : ∀ b ∈ fi, w5.heap.size + 1 ≤ b ∧ b < w7.heap.size := fun b hb => by have h1 := HFL.out b hb; have h2 := HFI.out b hb; simp only [World.size_alloc] at h1; omega
  have BP14 := Lib.hid (ht.box (HGT.out.box BP13.out fun hb => by have := hgr _ hb; omega) fun hb => by have := hfl _ hb; omega)
  have BW14 := Lib.hid (ht.box (HGT.out.box BW13.out fun hb => by have := hgr _ hb; omega) fun hb => by have := hfl _ hb; omega)
  have BG14 := Lib.hid (ht.box (HGT.out.box BG13.out fun hb => by have := hgr _ hb; omega) fun hb => by have := hfl _ hb; omega)
  have HWM := Lib.hid (HW13.out.trans (HGT.out.below (lo := w.heap.size) (by omega) fun b hb => by have := hgr b hb; omega))
  have HLM := Lib.hid (HL13.out.trans (HGT.out.below (lo := w3.heap.size) (by omega) fun b hb => by have := hgr b hb; omega))
  have HW14 := Lib.hid (HWM.out.trans (ht.below (lo := w.heap.size) (by omega) fun b hb => by have := hfl b hb; omega))
  have HL14 := Lib.hid (HLM.out.trans (ht.below (lo := w3.heap.size) (by omega) fun b hb => by have := hfl b hb; omega))
  have HMS : Hid (w13.heap.size ≤ w14.heap.size) := Lib.hid (Nat.le_trans sm ht.size)
  clear ht hgr hfl s3 s4 s7 s2 s12 sm hmi
  have hk15 : ¬ (1 + CN < 0) := by omega
  have hk16 : ¬ (1 + CN + (GN : Int) < 0) := by omega
  have bgc0 := BG14.out.cell 0
  have bgc1 := BG14.out.cell 1
  simp at bgc0 bgc1
  have bgl := BG14.out.lt
  go_wp2_with fail
  refine (heldQueue_t 1 (by omega) (by omega) HM14.out HSN.out).mono ?_
  rw [HCE.out]
  rintro e wb ⟨rfl, hb15a⟩
  have HBB := Lib.hid hb15a
  have HMIB := Lib.hid (HMI14.out.frame fun b hb => hb15a.block b (HFI14.out b hb))
  clear hb15a
  go_wp2_with fail
  refine (heldInt_S (1 + CN) (by omega) (by omega) HGN2.out (HMIB.out.row HFI14.out)).mono ?_
  rintro e w15 ⟨rfl, hb15b⟩
  have hb15 := HBB.out.trans (hb15b.mono HBB.out.size)
  clear hb15b HBB HMIB
  have H15 := Lib.hid hb15
  have BP15 := Lib.hid (BP14.out.below hb15 BP14.out.lt)
  have BW15 := Lib.hid (BW14.out.below hb15 BW14.out.lt)
  have BG15 := Lib.hid (BG14.out.below hb15 BG14.out.lt)
  have HW15 := Lib.hid (HW14.out.trans (hb15.mono HW14.out.size))
  have HL15 := Lib.hid (HL14.out.trans (hb15.mono HL14.out.size))
  clear hb15
  clear bgc0 bgc1 bgl
  have bpc0 := BP15.out.cell 0
  have bpc1 := BP15.out.cell 1
  simp at bpc0 bpc1
  have bpl := BP15.out.lt
  go_wp2_with fail
  refine (toQueue_c (Ty.rb HP.out HW15.out) HSM.out).mono ?_
  rintro e w16 ⟨q0, q1, f7, rfl, ho, hcp, hr, hb16⟩
  have HCPw16 := Lib.hid hcp
  clear hcp
  
  obtain ⟨qA0, qn0, qc0, hcs⟩ := tyQueue_shM ho
  simp only [List.cons.injEq, and_true] at hcs
  obtain ⟨rfl, rfl⟩ := hcs
  have HO16 := Lib.hid (tyQueue.mr ho fun b hb => (hr b hb).2)
  have H16 := Lib.hid (H15.out.trans (hb16.mono H15.out.size))
  have BW16 := Lib.hid (BW15.out.below hb16 BW15.out.lt)
  have BG16 := Lib.hid (BG15.out.below hb16 BG15.out.lt)
  have HW16 := Lib.hid (HW15.out.trans (hb16.mono HW15.out.size))
  have HL16 := Lib.hid (HL15.out.trans (hb16.mono HL15.out.size))
  clear ho hr hb16
  clear bpc0 bpc1 bpl
  go_wp2_with fail
  refine (HM.out v0 HO16.out HSM.out HCPw16.out).mono ?_
  rw [HDE.out, HIE.out, HBE.out]
  rintro e w17 ⟨h0, h1, fh, KA, KN, KC, fk, rfl, hg, hr, _, _, hki, hfk, hkl, _, hb17⟩
  obtain rfl : KN = GN := by rw [← hkl]; exact HIL.out
  have HFK := Lib.hid (fun b (hb : b ∈ fk) => (hfk b hb).2.1)
  have HKI := Lib.hid (hki.row HFK.out)
  clear hki hfk hkl
  
  obtain ⟨hA0, hn0, hc0, hcs⟩ := tyQueue_shM hg
  simp only [List.cons.injEq, and_true] at hcs
  obtain ⟨rfl, rfl⟩ := hcs
  have HG17 := Lib.hid (tyQueue.mr hg fun b hb => (hr b hb).2)
  have H17 := Lib.hid (H16.out.trans (hb17.mono H16.out.size))
  have BW17 := Lib.hid (BW16.out.below hb17 BW16.out.lt)
  have BG17 := Lib.hid (BG16.out.below hb17 BG16.out.lt)
  have HW17 := Lib.hid (HW16.out.trans (hb17.mono HW16.out.size))
  have HL17 := Lib.hid (HL16.out.trans (hb17.mono HL16.out.size))
  clear hg hr hb17
  have HA17 := Lib.hid (show Below w17.heap.size w17 (w17.alloc (.cells #[.slice hA0 hn0 hc0, .int .i64 DN.2] 25)) from (Below.refl _ _).alloc (Nat.le_refl _) _)
  have bwc0 := BW17.out.cell 0
  have bwc1 := BW17.out.cell 1
  simp at bwc0 bwc1
  have bwl := BW17.out.lt
  have bgl := BG17.out.lt
  go_wp2_with fail
  refine (eqQueue_t (Ty.rb HG17.out HA17.out) (Ty.rb HSP.out (HL17.out.trans (HA17.out.mono HL17.out.size)))).mono ?_
  rintro e wc ⟨rfl, hb19a⟩
  have HBC := Lib.hid hb19a
  have HIC := Lib.hid (HI3.out.wb ((HL17.out.trans (HA17.out.mono HL17.out.size)).trans (hb19a.mono (by have := HL17.out.size; have := HA17.out.size; omega))))
  have HKIC := Lib.hid (HKI.out.wb (HA17.out.trans (hb19a.mono HA17.out.size)))
  clear hb19a
  go_wp2_with fail
  refine (eqInt_S HKIC.out HIC.out HGN.out).mono ?_
  rintro e w19 ⟨rfl, hb19b⟩
  have hb19 := HBC.out.trans (hb19b.mono HBC.out.size)
  clear hb19b HBC HIC HKIC
  have HB19 := Lib.hid (HA17.out.trans (hb19.mono (by simp)))
  have BG19 := Lib.hid (BG17.out.below HB19.out BG17.out.lt)
  have H19 := Lib.hid (H17.out.trans (HB19.out.mono H17.out.size))
  have HW19 := Lib.hid (HW17.out.trans (HB19.out.mono HW17.out.size))
  clear hb19 bgl
  clear bwc0 bwc1 bwl
  have bgc0 := BG19.out.cell 0
  have bgc1 := BG19.out.cell 1
  simp at bgc0 bgc1
  have bgl := BG19.out.lt
  go_wp2_with fail
  refine (heldQueue_t 1 (by omega) (by omega) (Ty.rb HM14.out H19.out) HSN.out).mono ?_
  rw [HCE.out]
  rintro e wd ⟨rfl, hb20a⟩
  have HBD := Lib.hid hb20a
  have HMID := Lib.hid (HMI14.out.frame fun b hb => (H19.out.trans (hb20a.mono H19.out.size)).block b (Nat.lt_of_lt_of_le (HFI14.out b hb) (Nat.le_refl _)))
  clear hb20a
  go_wp2_with fail
  refine (heldInt_S (1 + CN) (by omega) (by omega) HGN2.out (HMID.out.row fun b hb => HFI14.out b hb)).mono ?_
  rintro e w20 ⟨rfl, hb20b⟩
  have hb20 := HBD.out.trans (hb20b.mono HBD.out.size)
  clear hb20b HBD HMID
  clear bgc0 bgc1 bgl
  go_wp2
  go_ret
  exact ⟨rfl, HW19.out.trans (hb20.mono HW19.out.size)⟩
end Go.Proofs.Ytagggajlpmdpdaa

/-
  FnPagesSet answers true for every code: the walk.
-/
import Derived.Test.YtemmcjjfjcjbeaaDrawst
import Derived.Test.YtemmcjjfjcjbeaaPure2
import Derived.Test.YtemmcjjfjcjbeaaSset
import Derived.Deep.RegionHeld3
namespace Go.Proofs.Ytemmcjjfjcjbeaa
open Go.RowKit

section
variable {A : Option Addr} {n c : Nat} {w : World}
set_option maxHeartbeats 4000000 in
set_option maxRecDepth 100000 in
theorem dSet_walk (hc : Code w A n) (hcap : n ≤ c) (hcap2 : c ≤ maxLen) :
    Calls Try.prog 10 #[.slice A n c] w fun e w' => e = .returned (.bool true) ∧ Below w.heap.size w w' := by
  have hn := hc.1
  unfold maxLen at hn
  by_cases hbig : (1048576 : Int) < n
  · go_enter Try.func10, Try.ntmps10
    go_wp2_with fail
    go_ret
    exact ⟨rfl, Below.refl _ _⟩
  · have HCODE := Lib.hid hc
    clear hc
    go_enter Try.func10, Try.ntmps10
    go_wp2_with fail
    refine (drawSet_any HCODE.out hcap hcap2).mono ?_
    rintro e w1 ⟨C, n1, c1, D, m1, d1, ts, rs, x, k, b', rfl, hpg, hb1⟩
    have HW1 := Lib.hid hb1
    have HP1 := Lib.hid hpg
    clear hb1 hpg
    have HA1 := Lib.hid (show Below w1.heap.size w1 (w1.alloc (.cells #[.slice C n1 c1, .slice D m1 d1] 27)) from (Below.refl _ _).alloc (Nat.le_refl _) _)
    have BP1 := Lib.hid (Box.new w1 #[.slice C n1 c1, .slice D m1 d1] 27)
    go_wp2_with fail
    refine (pset_any x k b' (HP1.out.below HA1.out)).mono ?_
    rintro e w2 ⟨v2, rfl, C2, c2, D2, d2, rfl, hg2, hb2⟩
    have HB2 := Lib.hid (HA1.out.trans (hb2.mono (by simp)))
    have HW2 := Lib.hid (HW1.out.trans (HB2.out.mono HW1.out.size))
    have BP2 := Lib.hid (BP1.out.below hb2 (by simp))
    have HP2 := Lib.hid (HP1.out.below HB2.out)
    clear hb2
    have HX2 := Lib.hid hg2
    clear hg2
    generalize hTe : setT ts rs x k b' = TS at HX2
    generalize hRe : setR ts rs x k b' = RS at HX2
    have HTE := Lib.hid hTe
    have HRE := Lib.hid hRe
    clear hTe hRe
    generalize hNe : TS.length = N at HX2
    generalize hMe : RS.length = M at HX2
    have HNE := Lib.hid hNe
    have HME := Lib.hid hMe
    clear hNe hMe
    have p0BP := BP2.out.cell 0
    have p1BP := BP2.out.cell 1
    have ltBP := BP2.out.lt
    simp at p0BP p1BP
    have HA2 := Lib.hid (show Below w2.heap.size w2 (w2.alloc (.cells #[.slice C2 N c2, .slice D2 M d2] 27)) from (Below.refl _ _).alloc (Nat.le_refl _) _)
    have BX2 := Lib.hid (Box.new w2 #[.slice C2 N c2, .slice D2 M d2] 27)
    go_wp2_with fail
    refine (sset_any x k b' (HP2.out.below HA2.out)).mono ?_
    rw [HTE.out, HRE.out]
    rintro e w3 ⟨v3, rfl, C3, c3, D3, d3, rfl, hg3, hb3⟩
    have HB3 := Lib.hid (HA2.out.trans (hb3.mono (by simp)))
    have HW3 := Lib.hid (HW2.out.trans (HB3.out.mono HW2.out.size))
    have BP3 := Lib.hid (BP2.out.below HB3.out BP2.out.lt)
    have BX3 := Lib.hid (BX2.out.below hb3 (by simp))
    have HP3 := Lib.hid (HP2.out.below HB3.out)
    have HX3 := Lib.hid (HX2.out.below HB3.out)
    clear hb3 p0BP p1BP ltBP
    rw [HNE.out, HME.out] at hg3 ⊢
    have HY3 := Lib.hid hg3
    clear hg3
    have p0BP := BP3.out.cell 0
    have p1BP := BP3.out.cell 1
    have ltBP := BP3.out.lt
    have p0BX := BX3.out.cell 0
    have p1BX := BX3.out.cell 1
    have ltBX := BX3.out.lt
    simp at p0BP p1BP p0BX p1BX
    have HA3 := Lib.hid (show Below w3.heap.size w3 (w3.alloc (.cells #[.slice C3 N c3, .slice D3 M d3] 27)) from (Below.refl _ _).alloc (Nat.le_refl _) _)
    have BY3 := Lib.hid (Box.new w3 #[.slice C3 N c3, .slice D3 M d3] 27)
    go_wp2_with fail
    refine (qdPages_any ((HX3.out.below HA3.out).pg) (HY3.out.below HA3.out)).mono ?_
    rintro e w4 ⟨rfl, hb4⟩
    have HB4 := Lib.hid (HA3.out.trans (hb4.mono (by simp)))
    have HW4 := Lib.hid (HW3.out.trans (HB4.out.mono HW3.out.size))
    have BP4 := Lib.hid (BP3.out.below HB4.out BP3.out.lt)
    have BX4 := Lib.hid (BX3.out.below HB4.out BX3.out.lt)
    have BY4 := Lib.hid (BY3.out.below hb4 (by simp))
    have HP4 := Lib.hid (HP3.out.below HB4.out)
    have HX4 := Lib.hid (HX3.out.below HB4.out)
    have HY4 := Lib.hid (HY3.out.below HB4.out)
    clear hb4 p0BP p1BP ltBP p0BX p1BX ltBX
    have p0BP := BP4.out.cell 0
    have p1BP := BP4.out.cell 1
    have ltBP := BP4.out.lt
    have p0BX := BX4.out.cell 0
    have p1BX := BX4.out.cell 1
    have ltBX := BX4.out.lt
    have p0BY := BY4.out.cell 0
    have p1BY := BY4.out.cell 1
    have ltBY := BY4.out.lt
    simp at p0BP p1BP p0BX p1BX p0BY p1BY
    by_cases hB : setB ts rs x k b' = true
    · obtain ⟨hu, ⟨k0, k1⟩, v0, v1⟩ := setB_parts hB
      obtain ⟨K, rfl⟩ : ∃ K : Nat, k = K := ⟨k.toNat, by omega⟩
      have HU := Lib.hid hu
      have HXU := Lib.hid (set_used hB)
      have HXT := Lib.hid (set_text hB)
      have hs4 := set_size4 hB
      have HBT := Lib.hid (fun hk => set_backT hB hk)
      have HBA := Lib.hid (fun b2 h0 h1 => set_again (b2 := b2) hB h0 h1)
      have HBR := Lib.hid (fun b2 h0 h1 => set_backR (b2 := b2) hB h0 h1)
      rw [HTE.out, HRE.out] at HXU HXT HBT HBA HBR
      generalize hOe : takenS ts rs x = old at HXT hs4 HBT
      have HOE := Lib.hid hOe
      obtain ⟨ob, hk1, hk2, hob, ob0, ob1, hnb, hn4, hpre, hpost, hk3, hobd⟩ := set_facts old K b' hs4 (by omega) v0 v1
      have HYT := Lib.hid (HBT.out hk1)
      have HYB := Lib.hid (HBA.out ob ob0 ob1)
      have HYR := Lib.hid (HBR.out ob ob0 ob1)
      have HYT2 : Hid (setT TS RS x (K : Int) ob = ts) := Lib.hid (by rw [hobd]; exact HYT.out)
      clear hu hOe HBT HBA HBR HYT hobd
      generalize setS old K b' = new at HXT hk2 hnb hn4 hpre hpost
      have hwo : IntKind.i64.wrap ob = ob := IntWalk.i64_in _ (by omega)
      have hwb : IntKind.i64.wrap b' = b' := IntWalk.i64_in _ (by omega)
      have hwk : IntKind.i64.wrap ((K : Int) + 1) = (K : Int) + 1 := IntWalk.i64_in _ (by omega)
      have hk4 : (K : Int) < 4 := by omega
      have hk5 : K < 4 := by omega
      have hk6 : (0 : Int) ≤ K := by omega
      have hk7 : (K : Int) + 1 ≤ 4 := by omega
      have hk9 : (K : Int) ≤ 4 := by omega
      have hk8 : (0 : Int) ≤ (K : Int) + 1 := by omega
      go_wp2_with fail
      refine (get_any x ((HX4.out).pg)).mono ?_
      rw [HXU.out, HXT.out]
      rintro e w5 ⟨rfl, hb5⟩
      have HB5 := Lib.hid hb5
      have HW5 := Lib.hid (HW4.out.trans (HB5.out.mono HW4.out.size))
      have BP5 := Lib.hid (BP4.out.below HB5.out BP4.out.lt)
      have BX5 := Lib.hid (BX4.out.below HB5.out BX4.out.lt)
      have BY5 := Lib.hid (BY4.out.below HB5.out BY4.out.lt)
      have HP5 := Lib.hid (HP4.out.below HB5.out)
      have HX5 := Lib.hid (HX4.out.below HB5.out)
      have HY5 := Lib.hid (HY4.out.below HB5.out)
      clear hb5 p0BP p1BP ltBP p0BX p1BX ltBX p0BY p1BY ltBY
      have p0BP := BP5.out.cell 0
      have p1BP := BP5.out.cell 1
      have ltBP := BP5.out.lt
      have p0BX := BX5.out.cell 0
      have p1BX := BX5.out.cell 1
      have ltBX := BX5.out.lt
      have p0BY := BY5.out.cell 0
      have p1BY := BY5.out.cell 1
      have ltBY := BY5.out.lt
      simp at p0BP p1BP p0BX p1BX p0BY p1BY
      go_wp2_with fail
      refine (get_any x (HP5.out)).mono ?_
      rw [HU.out, HOE.out]
      rintro e w6 ⟨rfl, hb6⟩
      have HB6 := Lib.hid hb6
      have HW6 := Lib.hid (HW5.out.trans (HB6.out.mono HW5.out.size))
      have BP6 := Lib.hid (BP5.out.below HB6.out BP5.out.lt)
      have BX6 := Lib.hid (BX5.out.below HB6.out BX5.out.lt)
      have BY6 := Lib.hid (BY5.out.below HB6.out BY5.out.lt)
      have HP6 := Lib.hid (HP5.out.below HB6.out)
      have HX6 := Lib.hid (HX5.out.below HB6.out)
      have HY6 := Lib.hid (HY5.out.below HB6.out)
      clear hb6 p0BP p1BP ltBP p0BX p1BX ltBX p0BY p1BY ltBY
      have p0BP := BP6.out.cell 0
      have p1BP := BP6.out.cell 1
      have ltBP := BP6.out.lt
      have p0BX := BX6.out.cell 0
      have p1BX := BX6.out.cell 1
      have ltBX := BX6.out.lt
      have p0BY := BY6.out.cell 0
      have p1BY := BY6.out.cell 1
      have ltBY := BY6.out.lt
      simp at p0BP p1BP p0BX p1BX p0BY p1BY
      have htl := HP6.out.tl
      have hrl := HP6.out.rl
      have HDB := Lib.hid (show Below w6.heap.size w6 w6.drew from (Below.refl _ _).drew)
      have HDA := Lib.hid (show Below w6.heap.size w6 (w6.drew.alloc (.cells #[.slice none 0 0, .slice none 0 0] 27)) from (Below.refl _ _).drew.alloc (Nat.le_refl _) _)
      have HXA := Lib.hid (HX6.out.below HDA.out).pg
      have HXB := Lib.hid (HX6.out.below HDB.out).pg
      go_wp2_with fail
      have hn1 : w6.heap.size ≠ w2.heap.size := by have := BX6.out.lt; omega
      have hn2 : w2.heap.size ≠ w6.heap.size := by omega
      go_region_held3 (fun w' => w'.cell? ⟨w2.heap.size, 0, none⟩ = some (.slice C2 N c2) ∧ w'.cell? ⟨w2.heap.size, 1, none⟩ = some (.slice D2 M d2))
        (first | exact ⟨r0, r1⟩ | go_keep)
        (first
        | (go_at_call 46
           refine (pset_any x (K : Int) ob HXA.out).mono ?_
           rw [HYB.out, HYT2.out, HYR.out]
           rintro e w7 ⟨v7, rfl, C7, c7, D7, d7, rfl, hg7, hb7⟩
           rw [htl, hrl] at hg7 ⊢
           have YA := Lib.hid (show Box w7 w6.heap.size #[.slice none 0 0, .slice none 0 0] 27 from (Box.new w6.drew #[.slice none 0 0, .slice none 0 0] 27).below hb7 (by show w6.heap.size < (w6.drew.alloc _).heap.size; rw [World.size_alloc]; exact Nat.lt_succ_self _))
           have HB7 := Lib.hid (HDA.out.trans (hb7.mono HDA.out.size))
           have HG7 := Lib.hid hg7
           have y0 := YA.out.cell 0
           have y1 := YA.out.cell 1
           have y2 := YA.out.frz 0
           have y3 := YA.out.frz 1
           have y4 := YA.out.lt
           have bx := BX6.out.below HB7.out BX6.out.lt
           have r0 : w7.cell? ⟨w2.heap.size, 0, none⟩ = some (.slice C2 N c2) := bx.cell 0
           have r1 : w7.cell? ⟨w2.heap.size, 1, none⟩ = some (.slice D2 M d2) := bx.cell 1
           clear hg7 hb7 bx
           simp at y0 y1)
        | (go_at_call 46
           refine (pset_any x (K : Int) ob HXB.out).mono ?_
           rw [HYB.out, HYT2.out, HYR.out]
           rintro e w7 ⟨v7, rfl, C7, c7, D7, d7, rfl, hg7, hb7⟩
           rw [htl, hrl] at hg7 ⊢
           have HBB7 := Lib.hid (HDB.out.trans (hb7.mono HDB.out.size))
           have HG7 := Lib.hid hg7
           have y0 := (Box.new w7 #[.slice none 0 0, .slice none 0 0] 27).cell 0
           have y1 := (Box.new w7 #[.slice none 0 0, .slice none 0 0] 27).cell 1
           have y2 := (Box.new w7 #[.slice none 0 0, .slice none 0 0] 27).frz 0
           have y3 := (Box.new w7 #[.slice none 0 0, .slice none 0 0] 27).frz 1
           have bx := BX6.out.below HBB7.out BX6.out.lt
           have r0 : w7.cell? ⟨w2.heap.size, 0, none⟩ = some (.slice C2 N c2) := bx.cell 0
           have r1 : w7.cell? ⟨w2.heap.size, 1, none⟩ = some (.slice D2 M d2) := bx.cell 1
           have hn3 : w7.heap.size ≠ w2.heap.size := by have := bx.lt; omega
           have hn4 : w2.heap.size ≠ w7.heap.size := by omega
           simp at y0 y1
           clear hg7 hb7 bx))

      all_goals first
      | (have BZ9 := Lib.hid (show Box ((w7.setCell ⟨w6.heap.size, 0, none⟩ (.slice C7 n1 c7)).setCell ⟨w6.heap.size, 1, none⟩ (.slice D7 m1 d7)) w6.heap.size #[.slice C7 n1 c7, .slice D7 m1 d7] 27 from (YA.out.set 0 (.slice C7 n1 c7)).set 1 (.slice D7 m1 d7))
         have HB9 := Lib.hid (show Below w6.heap.size w6 ((w7.setCell ⟨w6.heap.size, 0, none⟩ (.slice C7 n1 c7)).setCell ⟨w6.heap.size, 1, none⟩ (.slice D7 m1 d7)) from (HB7.out.setCell (Nat.le_refl _) _).setCell (Nat.le_refl _) _)
         have hlo : w6.heap.size < (w6.drew.alloc (.cells #[.slice none 0 0, .slice none 0 0] 27)).heap.size := by rw [World.size_alloc]; exact Nat.lt_succ_self _
         have HZ9 := Lib.hid (show Pg ((w7.setCell ⟨w6.heap.size, 0, none⟩ (.slice C7 n1 c7)).setCell ⟨w6.heap.size, 1, none⟩ (.slice D7 m1 d7)) C7 n1 D7 m1 ts rs from ((HG7.out.off (a := ⟨w6.heap.size, 0, none⟩) hlo _).off (a := ⟨w6.heap.size, 1, none⟩) hlo _).pg)
         clear y0 y1 y2 y3 y4 hlo
         generalize ((w7.setCell ⟨w6.heap.size, 0, none⟩ (.slice C7 n1 c7)).setCell ⟨w6.heap.size, 1, none⟩ (.slice D7 m1 d7)) = w9 at BZ9 HB9 HZ9 ⊢
         have BP9 := Lib.hid (BP6.out.below HB9.out BP6.out.lt)
         have HP9 := Lib.hid (HP6.out.below HB9.out)
         have HW9 := Lib.hid (HW6.out.trans (HB9.out.mono HW6.out.size))
         clear r0 r1
         go_wp2
         clear p0BP p1BP ltBP p0BX p1BX ltBX p0BY p1BY ltBY
         have HBd := Lib.hid (Below.refl w9.heap.size w9).drew
         have BPd := Lib.hid BP9.out.drew
         have BZd := Lib.hid BZ9.out.drew
         have HPd := Lib.hid (HP9.out.below HBd.out)
         have HZd := Lib.hid (HZ9.out.below HBd.out)
         have HWd := Lib.hid (HW9.out.trans (HBd.out.mono HW9.out.size))
         have p0BZ := BZd.out.cell 0
         have p1BZ := BZd.out.cell 1
         have ltBZ := BZd.out.lt
         have p0BP := BPd.out.cell 0
         have p1BP := BPd.out.cell 1
         have ltBP := BPd.out.lt
         simp at p0BZ p1BZ p0BP p1BP
         go_wp2_with fail
         go_region_held3 (fun w' => w'.cell? ⟨w6.heap.size, 0, none⟩ = some (.slice C7 n1 c7) ∧
             w'.cell? ⟨w6.heap.size, 1, none⟩ = some (.slice D7 m1 d7) ∧
             w'.cell? ⟨w1.heap.size, 0, none⟩ = some (.slice C n1 c1) ∧
             w'.cell? ⟨w1.heap.size, 1, none⟩ = some (.slice D m1 d1))
           (first | exact ⟨r0, r1, r2, r3⟩ | go_keep)
           (first
             | (go_at_call 24
                refine (qdPages_any HZd.out HPd.out).mono ?_
                rintro e w10 ⟨rfl, hb10⟩
                have BP10 := Lib.hid (BPd.out.below hb10 BPd.out.lt)
                have BZ10 := Lib.hid (BZd.out.below hb10 BZd.out.lt)
                have HP10 := Lib.hid (HPd.out.below hb10)
                have HZ10 := Lib.hid (HZd.out.below hb10)
                have HW10 := Lib.hid (HWd.out.trans (hb10.mono HWd.out.size))
                have r0 : w10.cell? ⟨w6.heap.size, 0, none⟩ = some (.slice C7 n1 c7) := BZ10.out.cell 0
                have r1 : w10.cell? ⟨w6.heap.size, 1, none⟩ = some (.slice D7 m1 d7) := BZ10.out.cell 1
                have r2 : w10.cell? ⟨w1.heap.size, 0, none⟩ = some (.slice C n1 c1) := BP10.out.cell 0
                have r3 : w10.cell? ⟨w1.heap.size, 1, none⟩ = some (.slice D m1 d1) := BP10.out.cell 1))
         go_wp2
         go_ret
         exact ⟨rfl, HW10.out⟩)
      | (have BZ9 := Lib.hid (Box.new w7 #[.slice C7 n1 c7, .slice D7 m1 d7] 27)
         have HB9 := Lib.hid (HBB7.out.alloc HBB7.out.size (.cells #[.slice C7 n1 c7, .slice D7 m1 d7] 27))
         have HZ9 := Lib.hid (HG7.out.pg.below ((Below.refl _ _).alloc (Nat.le_refl _) (.cells #[.slice C7 n1 c7, .slice D7 m1 d7] 27)))
         clear y2 y3
         generalize (w7.alloc (.cells #[.slice C7 n1 c7, .slice D7 m1 d7] 27)) = w9 at BZ9 HB9 HZ9 ⊢
         have BP9 := Lib.hid (BP6.out.below HB9.out BP6.out.lt)
         have HP9 := Lib.hid (HP6.out.below HB9.out)
         have HW9 := Lib.hid (HW6.out.trans (HB9.out.mono HW6.out.size))
         clear r0 r1
         go_wp2
         clear p0BP p1BP ltBP p0BX p1BX ltBX p0BY p1BY ltBY
         have HBd := Lib.hid (Below.refl w9.heap.size w9).drew
         have BPd := Lib.hid BP9.out.drew
         have BZd := Lib.hid BZ9.out.drew
         have HPd := Lib.hid (HP9.out.below HBd.out)
         have HZd := Lib.hid (HZ9.out.below HBd.out)
         have HWd := Lib.hid (HW9.out.trans (HBd.out.mono HW9.out.size))
         have p0BZ := BZd.out.cell 0
         have p1BZ := BZd.out.cell 1
         have ltBZ := BZd.out.lt
         have p0BP := BPd.out.cell 0
         have p1BP := BPd.out.cell 1
         have ltBP := BPd.out.lt
         simp at p0BZ p1BZ p0BP p1BP
         go_wp2_with fail
         go_region_held3 (fun w' => w'.cell? ⟨w7.heap.size, 0, none⟩ = some (.slice C7 n1 c7) ∧
             w'.cell? ⟨w7.heap.size, 1, none⟩ = some (.slice D7 m1 d7) ∧
             w'.cell? ⟨w1.heap.size, 0, none⟩ = some (.slice C n1 c1) ∧
             w'.cell? ⟨w1.heap.size, 1, none⟩ = some (.slice D m1 d1))
           (first | exact ⟨r0, r1, r2, r3⟩ | go_keep)
           (first
             | (go_at_call 24
                refine (qdPages_any HZd.out HPd.out).mono ?_
                rintro e w10 ⟨rfl, hb10⟩
                have BP10 := Lib.hid (BPd.out.below hb10 BPd.out.lt)
                have BZ10 := Lib.hid (BZd.out.below hb10 BZd.out.lt)
                have HP10 := Lib.hid (HPd.out.below hb10)
                have HZ10 := Lib.hid (HZd.out.below hb10)
                have HW10 := Lib.hid (HWd.out.trans (hb10.mono HWd.out.size))
                have r0 : w10.cell? ⟨w7.heap.size, 0, none⟩ = some (.slice C7 n1 c7) := BZ10.out.cell 0
                have r1 : w10.cell? ⟨w7.heap.size, 1, none⟩ = some (.slice D7 m1 d7) := BZ10.out.cell 1
                have r2 : w10.cell? ⟨w1.heap.size, 0, none⟩ = some (.slice C n1 c1) := BP10.out.cell 0
                have r3 : w10.cell? ⟨w1.heap.size, 1, none⟩ = some (.slice D m1 d1) := BP10.out.cell 1))
         go_wp2
         go_ret
         exact ⟨rfl, HW10.out⟩)
    · have hB' : setB ts rs x k b' = false := by simpa using hB
      go_wp2_with fail
      go_ret
      exact ⟨rfl, HW4.out⟩
end
end Go.Proofs.Ytemmcjjfjcjbeaa

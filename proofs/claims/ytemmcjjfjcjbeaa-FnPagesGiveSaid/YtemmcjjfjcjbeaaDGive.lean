/-
  FnPagesGive answers true for every code: the walk.
-/
import Derived.Test.YtemmcjjfjcjbeaaDraws
import Derived.Test.YtemmcjjfjcjbeaaPure
import Derived.Test.YtemmcjjfjcjbeaaSum
import Derived.Test.YtemmcjjfjcjbeaaSgive
import Derived.Test.YtemmcjjfjcjbeaaGive
import Derived.Deep.RegionHeld3
namespace Go.Proofs.Ytemmcjjfjcjbeaa
open Go.RowKit

section
variable {A : Option Addr} {n c : Nat} {w : World}
set_option maxHeartbeats 4000000 in
set_option maxRecDepth 100000 in
theorem dGive_walk (hc : Code w A n) (hcap : n ≤ c) (hcap2 : c ≤ maxLen) :
    Calls Try.prog 8 #[.slice A n c] w fun e w' => e = .returned (.bool true) ∧ Below w.heap.size w w' := by
  have hn := hc.1
  unfold maxLen at hn
  by_cases hbig : (1048576 : Int) < n
  · go_enter Try.func8, Try.ntmps8
    go_wp2_with fail
    go_ret
    exact ⟨rfl, Below.refl _ _⟩
  · have HCODE := Lib.hid hc
    clear hc
    go_enter Try.func8, Try.ntmps8
    go_wp2_with fail
    refine (drawGive_any HCODE.out hcap hcap2).mono ?_
    rintro e w1 ⟨C, n1, c1, D, m1, d1, ts, rs, x, rfl, hpg, x0, x1, hb1⟩
    have HW1 := Lib.hid hb1
    have HP1 := Lib.hid hpg
    clear hb1 hpg x0 x1
    have HA1 := Lib.hid (show Below w1.heap.size w1 (w1.alloc (.cells #[.slice C n1 c1, .slice D m1 d1] 27)) from (Below.refl _ _).alloc (Nat.le_refl _) _)
    have BP1 := Lib.hid (Box.new w1 #[.slice C n1 c1, .slice D m1 d1] 27)
    go_wp2_with fail
    refine (give_any x (HP1.out.below HA1.out)).mono ?_
    rintro e w2 ⟨v2, rfl, C2, c2, D2, d2, rfl, hg2, hb2⟩
    have HB2 := Lib.hid (HA1.out.trans (hb2.mono (by simp)))
    have HW2 := Lib.hid (HW1.out.trans (HB2.out.mono HW1.out.size))
    have BP2 := Lib.hid (BP1.out.below hb2 (by simp))
    have HP2 := Lib.hid (HP1.out.below HB2.out)
    clear hb2
    have HX2 := Lib.hid hg2
    clear hg2
    have HTP := Lib.hid (fun h => usedB_parts (ts := ts) (rs := rs) (x := x) h)
    have HKR := Lib.hid (fun h : usedB ts rs x = true => show giveR ts rs x = rs.set x.toNat (rs.getD x.toNat 0 - 1) from if_pos h)
    have HKO := Lib.hid (fun h => give_ok (ts := ts) (rs := rs) (x := x) h)
    have HTM := Lib.hid (fun h => give_room (ts := ts) (rs := rs) (x := x) h)
    generalize hTe : giveT ts rs x = TS at HX2 HTM HKO
    generalize hRe : giveR ts rs x = RS at HX2 HTM HKR HKO
    have HTE := Lib.hid hTe
    have HRE := Lib.hid hRe
    clear hTe hRe
    generalize hNe : TS.length = N at HX2
    generalize hMe : RS.length = M at HX2
    have HNE := Lib.hid hNe
    have HME := Lib.hid hMe
    clear hNe hMe
    have p0BP := BP2.out.cell 0
    have p1BP := BP2.out.cell 1
    have ltBP := BP2.out.lt
    simp at p0BP p1BP
    have HA2 := Lib.hid (show Below w2.heap.size w2 (w2.alloc (.cells #[.slice C2 N c2, .slice D2 M d2] 27)) from (Below.refl _ _).alloc (Nat.le_refl _) _)
    have BX2 := Lib.hid (Box.new w2 #[.slice C2 N c2, .slice D2 M d2] 27)
    go_wp2_with fail
    refine (sgive_any x (HP2.out.below HA2.out)).mono ?_
    rw [HTE.out, HRE.out]
    rintro e w3 ⟨v3, rfl, C3, c3, D3, d3, rfl, hg3, hb3⟩
    have HB3 := Lib.hid (HA2.out.trans (hb3.mono (by simp)))
    have HW3 := Lib.hid (HW2.out.trans (HB3.out.mono HW2.out.size))
    have BP3 := Lib.hid (BP2.out.below HB3.out BP2.out.lt)
    have BX3 := Lib.hid (BX2.out.below hb3 (by simp))
    have HP3 := Lib.hid (HP2.out.below HB3.out)
    have HX3 := Lib.hid (HX2.out.below HB3.out)
    clear hb3 p0BP p1BP ltBP
    rw [HNE.out, HME.out] at hg3 ⊢
    have HY3 := Lib.hid hg3
    clear hg3
    have p0BP := BP3.out.cell 0
    have p1BP := BP3.out.cell 1
    have ltBP := BP3.out.lt
    have p0BX := BX3.out.cell 0
    have p1BX := BX3.out.cell 1
    have ltBX := BX3.out.lt
    simp at p0BP p1BP p0BX p1BX
    have HA3 := Lib.hid (show Below w3.heap.size w3 (w3.alloc (.cells #[.slice C3 N c3, .slice D3 M d3] 27)) from (Below.refl _ _).alloc (Nat.le_refl _) _)
    have BY3 := Lib.hid (Box.new w3 #[.slice C3 N c3, .slice D3 M d3] 27)
    go_wp2_with fail
    refine (qdPages_any ((HX3.out.below HA3.out).pg) (HY3.out.below HA3.out)).mono ?_
    rintro e w4 ⟨rfl, hb4⟩
    have HB4 := Lib.hid (HA3.out.trans (hb4.mono (by simp)))
    have HW4 := Lib.hid (HW3.out.trans (HB4.out.mono HW3.out.size))
    have BP4 := Lib.hid (BP3.out.below HB4.out BP3.out.lt)
    have BX4 := Lib.hid (BX3.out.below HB4.out BX3.out.lt)
    have BY4 := Lib.hid (BY3.out.below hb4 (by simp))
    have HP4 := Lib.hid (HP3.out.below HB4.out)
    have HX4 := Lib.hid (HX3.out.below HB4.out)
    have HY4 := Lib.hid (HY3.out.below HB4.out)
    clear hb4 p0BP p1BP ltBP p0BX p1BX ltBX
    have p0BP := BP4.out.cell 0
    have p1BP := BP4.out.cell 1
    have ltBP := BP4.out.lt
    have p0BX := BX4.out.cell 0
    have p1BX := BX4.out.cell 1
    have ltBX := BX4.out.lt
    have p0BY := BY4.out.cell 0
    have p1BY := BY4.out.cell 1
    have ltBY := BY4.out.lt
    simp at p0BP p1BP p0BX p1BX p0BY p1BY
    by_cases hB : usedB ts rs x = true
    · replace HKR := Lib.hid (HKR.out hB)
      replace HKO := Lib.hid (HKO.out hB)
      replace HTM := Lib.hid (HTM.out hB)
      obtain ⟨u1, u2, u3⟩ := HTP.out hB
      have o12 := (okPg_parts u1).2.1
      have o0 := (okPg_parts u1).1
      have htl := HP4.out.tl
      have hrl := HP4.out.rl
      clear HTP
      obtain ⟨k, rfl⟩ : ∃ k : Nat, x = k := ⟨x.toNat, by omega⟩
      have hkm : k < m1 := by omega
      obtain ⟨b, o, rfl, hb, hc⟩ := HP4.out.rc (by omega)
      have hck : w4.cell? ⟨b, o + k, none⟩ = some (.int .i64 (rs.getD k 0)) := hc k hkm
      have hkm' : (k : Int) < m1 := by omega
      have hk0 : (0 : Int) ≤ k := by omega
      clear hc
      have hRL := HME.out
      rw [HKR.out, List.length_set, hrl] at hRL
      subst hRL
      have hm12 : m1 ≤ 12 := by omega
      rw [Int.toNat_natCast] at HKR HTM
      have HSM := Lib.hid (show sumTo RS m1 = sumTo rs m1 - 1 by rw [HKR.out, sumTo_set (by omega), if_pos hkm]; omega)
      have HR0 := Lib.hid (ok_range u1)
      have HR1 := Lib.hid (ok_range HKO.out)
      have hSb := sumTo_le HR0.out m1
      generalize hSe : sumTo rs m1 = S at HSM hSb
      have HSE := Lib.hid hSe
      have hws : IntKind.i64.wrap (S - 1) = S - 1 := IntWalk.i64_in _ (by omega)
      have hRl := roomOf_le ts rs
      generalize hRo : roomOf ts rs = R at HTM hRl
      have HRO := Lib.hid hRo
      clear hRo hSe o12 o0 u1 u2 u3
      generalize rs.getD k 0 = r at hck HTM
      have hbl : b < w4.heap.size := hb
      by_cases hr1 : r = 1
      · subst hr1
        have HTM := Lib.hid (show roomOf TS RS = R + 1 by rw [HTM.out, if_pos rfl])
        have hwr : IntKind.i64.wrap (R + 1) = R + 1 := IntWalk.i64_in _ (by omega)
        go_wp2_with fail
        clear p0BP p1BP ltBP p0BX p1BX ltBX p0BY p1BY ltBY
        have HBd := Lib.hid (Below.refl w4.heap.size w4).drew
        have BPd := Lib.hid BP4.out.drew
        have BXd := Lib.hid BX4.out.drew
        have BYd := Lib.hid BY4.out.drew
        have HPd := Lib.hid (HP4.out.below HBd.out)
        have HXd := Lib.hid (HX4.out.below HBd.out)
        have HYd := Lib.hid (HY4.out.below HBd.out)
        have HWd := Lib.hid (HW4.out.trans (HBd.out.mono HW4.out.size))
        have p0BX := BXd.out.cell 0
        have p1BX := BXd.out.cell 1
        have ltBX := BXd.out.lt
        have p0BP := BPd.out.cell 0
        have p1BP := BPd.out.cell 1
        have ltBP := BPd.out.lt
        simp at p0BX p1BX p0BP p1BP
        go_region_held3 (fun w' => w'.cell? ⟨w2.heap.size, 0, none⟩ = some (.slice C2 N c2) ∧
            w'.cell? ⟨w2.heap.size, 1, none⟩ = some (.slice D2 m1 d2) ∧
            w'.cell? ⟨w1.heap.size, 0, none⟩ = some (.slice C n1 c1) ∧
            w'.cell? ⟨w1.heap.size, 1, none⟩ = some (.slice (some ⟨b, o, none⟩) m1 d1))
          (first | exact ⟨r0, r1, r2, r3⟩ | go_keep)
          (first
            | (go_at_call 26
               refine (room_any HP8.out).mono ?_
               rw [HRO.out]
               rintro e w9 ⟨rfl, hb9⟩
               clear r0 r1 r2 r3
               have BP9 := Lib.hid (BP8.out.below hb9 BP8.out.lt)
               have BX9 := Lib.hid (BX8.out.below hb9 BX8.out.lt)
               have BY9 := Lib.hid (BY8.out.below hb9 BY8.out.lt)
               have HP9 := Lib.hid (HP8.out.below hb9)
               have HX9 := Lib.hid (HX8.out.below hb9)
               have HY9 := Lib.hid (HY8.out.below hb9)
               have HW9 := Lib.hid (HW8.out.trans (hb9.mono HW8.out.size))
               have r0 : w9.cell? ⟨w2.heap.size, 0, none⟩ = some (.slice C2 N c2) := BX9.out.cell 0
               have r1 : w9.cell? ⟨w2.heap.size, 1, none⟩ = some (.slice D2 m1 d2) := BX9.out.cell 1
               have r2 : w9.cell? ⟨w1.heap.size, 0, none⟩ = some (.slice C n1 c1) := BP9.out.cell 0
               have r3 : w9.cell? ⟨w1.heap.size, 1, none⟩ = some (.slice (some ⟨b, o, none⟩) m1 d1) := BP9.out.cell 1)
            | (go_at_call 26
               refine (room_any HX7.out.pg).mono ?_
               rw [HTM.out]
               rintro e w8 ⟨rfl, hb8⟩
               clear r0 r1 r2 r3
               have BP8 := Lib.hid (BP7.out.below hb8 BP7.out.lt)
               have BX8 := Lib.hid (BX7.out.below hb8 BX7.out.lt)
               have BY8 := Lib.hid (BY7.out.below hb8 BY7.out.lt)
               have HP8 := Lib.hid (HP7.out.below hb8)
               have HX8 := Lib.hid (HX7.out.below hb8)
               have HY8 := Lib.hid (HY7.out.below hb8)
               have HW8 := Lib.hid (HW7.out.trans (hb8.mono HW7.out.size))
               have r0 : w8.cell? ⟨w2.heap.size, 0, none⟩ = some (.slice C2 N c2) := BX8.out.cell 0
               have r1 : w8.cell? ⟨w2.heap.size, 1, none⟩ = some (.slice D2 m1 d2) := BX8.out.cell 1
               have r2 : w8.cell? ⟨w1.heap.size, 0, none⟩ = some (.slice C n1 c1) := BP8.out.cell 0
               have r3 : w8.cell? ⟨w1.heap.size, 1, none⟩ = some (.slice (some ⟨b, o, none⟩) m1 d1) := BP8.out.cell 1)
            | (go_at_call 40
               refine (sum_any HP6.out.rc hm12 HR0.out).mono ?_
               rw [HSE.out]
               rintro e w7 ⟨rfl, hb7⟩
               clear r0 r1 r2 r3
               have BP7 := Lib.hid (BP6.out.below hb7 BP6.out.lt)
               have BX7 := Lib.hid (BX6.out.below hb7 BX6.out.lt)
               have BY7 := Lib.hid (BY6.out.below hb7 BY6.out.lt)
               have HP7 := Lib.hid (HP6.out.below hb7)
               have HX7 := Lib.hid (HX6.out.below hb7)
               have HY7 := Lib.hid (HY6.out.below hb7)
               have HW7 := Lib.hid (HW6.out.trans (hb7.mono HW6.out.size))
               have r0 : w7.cell? ⟨w2.heap.size, 0, none⟩ = some (.slice C2 N c2) := BX7.out.cell 0
               have r1 : w7.cell? ⟨w2.heap.size, 1, none⟩ = some (.slice D2 m1 d2) := BX7.out.cell 1
               have r2 : w7.cell? ⟨w1.heap.size, 0, none⟩ = some (.slice C n1 c1) := BP7.out.cell 0
               have r3 : w7.cell? ⟨w1.heap.size, 1, none⟩ = some (.slice (some ⟨b, o, none⟩) m1 d1) := BP7.out.cell 1)
            | (go_at_call 40
               refine (sum_any HX5.out.pg.rc hm12 HR1.out).mono ?_
               rw [HSM.out]
               rintro e w6 ⟨rfl, hb6⟩
               clear r0 r1 r2 r3
               have BP6 := Lib.hid (BP5.out.below hb6 BP5.out.lt)
               have BX6 := Lib.hid (BX5.out.below hb6 BX5.out.lt)
               have BY6 := Lib.hid (BY5.out.below hb6 BY5.out.lt)
               have HP6 := Lib.hid (HP5.out.below hb6)
               have HX6 := Lib.hid (HX5.out.below hb6)
               have HY6 := Lib.hid (HY5.out.below hb6)
               have HW6 := Lib.hid (HW5.out.trans (hb6.mono HW5.out.size))
               have r0 : w6.cell? ⟨w2.heap.size, 0, none⟩ = some (.slice C2 N c2) := BX6.out.cell 0
               have r1 : w6.cell? ⟨w2.heap.size, 1, none⟩ = some (.slice D2 m1 d2) := BX6.out.cell 1
               have r2 : w6.cell? ⟨w1.heap.size, 0, none⟩ = some (.slice C n1 c1) := BP6.out.cell 0
               have r3 : w6.cell? ⟨w1.heap.size, 1, none⟩ = some (.slice (some ⟨b, o, none⟩) m1 d1) := BP6.out.cell 1)
            | (go_at_call 25
               refine (ok_any HXd.out.pg).mono ?_
               rw [HKO.out]
               rintro e w5 ⟨rfl, hb5⟩
               have BP5 := Lib.hid (BPd.out.below hb5 BPd.out.lt)
               have BX5 := Lib.hid (BXd.out.below hb5 BXd.out.lt)
               have BY5 := Lib.hid (BYd.out.below hb5 BYd.out.lt)
               have HP5 := Lib.hid (HPd.out.below hb5)
               have HX5 := Lib.hid (HXd.out.below hb5)
               have HY5 := Lib.hid (HYd.out.below hb5)
               have HW5 := Lib.hid (HWd.out.trans (hb5.mono HWd.out.size))
               have r0 : w5.cell? ⟨w2.heap.size, 0, none⟩ = some (.slice C2 N c2) := BX5.out.cell 0
               have r1 : w5.cell? ⟨w2.heap.size, 1, none⟩ = some (.slice D2 m1 d2) := BX5.out.cell 1
               have r2 : w5.cell? ⟨w1.heap.size, 0, none⟩ = some (.slice C n1 c1) := BP5.out.cell 0
               have r3 : w5.cell? ⟨w1.heap.size, 1, none⟩ = some (.slice (some ⟨b, o, none⟩) m1 d1) := BP5.out.cell 1))
        go_wp2
        go_ret
        exact ⟨by simp, HW9.out⟩
      · have hr1b : (r == 1) = false := by rw [beq_eq_false_iff_ne]; exact hr1
        have HTM := Lib.hid (show roomOf TS RS = R by rw [HTM.out, if_neg hr1]; omega)
        have hwr : IntKind.i64.wrap R = R := IntWalk.i64_in _ (by omega)
        clear hr1
        go_wp2_with fail
        clear p0BP p1BP ltBP p0BX p1BX ltBX p0BY p1BY ltBY
        have HBd := Lib.hid (Below.refl w4.heap.size w4).drew
        have BPd := Lib.hid BP4.out.drew
        have BXd := Lib.hid BX4.out.drew
        have BYd := Lib.hid BY4.out.drew
        have HPd := Lib.hid (HP4.out.below HBd.out)
        have HXd := Lib.hid (HX4.out.below HBd.out)
        have HYd := Lib.hid (HY4.out.below HBd.out)
        have HWd := Lib.hid (HW4.out.trans (HBd.out.mono HW4.out.size))
        have p0BX := BXd.out.cell 0
        have p1BX := BXd.out.cell 1
        have ltBX := BXd.out.lt
        have p0BP := BPd.out.cell 0
        have p1BP := BPd.out.cell 1
        have ltBP := BPd.out.lt
        simp at p0BX p1BX p0BP p1BP
        go_region_held3 (fun w' => w'.cell? ⟨w2.heap.size, 0, none⟩ = some (.slice C2 N c2) ∧
            w'.cell? ⟨w2.heap.size, 1, none⟩ = some (.slice D2 m1 d2) ∧
            w'.cell? ⟨w1.heap.size, 0, none⟩ = some (.slice C n1 c1) ∧
            w'.cell? ⟨w1.heap.size, 1, none⟩ = some (.slice (some ⟨b, o, none⟩) m1 d1))
          (first | exact ⟨r0, r1, r2, r3⟩ | go_keep)
          (first
            | (go_at_call 26
               refine (room_any HP8.out).mono ?_
               rw [HRO.out]
               rintro e w9 ⟨rfl, hb9⟩
               clear r0 r1 r2 r3
               have BP9 := Lib.hid (BP8.out.below hb9 BP8.out.lt)
               have BX9 := Lib.hid (BX8.out.below hb9 BX8.out.lt)
               have BY9 := Lib.hid (BY8.out.below hb9 BY8.out.lt)
               have HP9 := Lib.hid (HP8.out.below hb9)
               have HX9 := Lib.hid (HX8.out.below hb9)
               have HY9 := Lib.hid (HY8.out.below hb9)
               have HW9 := Lib.hid (HW8.out.trans (hb9.mono HW8.out.size))
               have r0 : w9.cell? ⟨w2.heap.size, 0, none⟩ = some (.slice C2 N c2) := BX9.out.cell 0
               have r1 : w9.cell? ⟨w2.heap.size, 1, none⟩ = some (.slice D2 m1 d2) := BX9.out.cell 1
               have r2 : w9.cell? ⟨w1.heap.size, 0, none⟩ = some (.slice C n1 c1) := BP9.out.cell 0
               have r3 : w9.cell? ⟨w1.heap.size, 1, none⟩ = some (.slice (some ⟨b, o, none⟩) m1 d1) := BP9.out.cell 1)
            | (go_at_call 26
               refine (room_any HX7.out.pg).mono ?_
               rw [HTM.out]
               rintro e w8 ⟨rfl, hb8⟩
               clear r0 r1 r2 r3
               have BP8 := Lib.hid (BP7.out.below hb8 BP7.out.lt)
               have BX8 := Lib.hid (BX7.out.below hb8 BX7.out.lt)
               have BY8 := Lib.hid (BY7.out.below hb8 BY7.out.lt)
               have HP8 := Lib.hid (HP7.out.below hb8)
               have HX8 := Lib.hid (HX7.out.below hb8)
               have HY8 := Lib.hid (HY7.out.below hb8)
               have HW8 := Lib.hid (HW7.out.trans (hb8.mono HW7.out.size))
               have r0 : w8.cell? ⟨w2.heap.size, 0, none⟩ = some (.slice C2 N c2) := BX8.out.cell 0
               have r1 : w8.cell? ⟨w2.heap.size, 1, none⟩ = some (.slice D2 m1 d2) := BX8.out.cell 1
               have r2 : w8.cell? ⟨w1.heap.size, 0, none⟩ = some (.slice C n1 c1) := BP8.out.cell 0
               have r3 : w8.cell? ⟨w1.heap.size, 1, none⟩ = some (.slice (some ⟨b, o, none⟩) m1 d1) := BP8.out.cell 1)
            | (go_at_call 40
               refine (sum_any HP6.out.rc hm12 HR0.out).mono ?_
               rw [HSE.out]
               rintro e w7 ⟨rfl, hb7⟩
               clear r0 r1 r2 r3
               have BP7 := Lib.hid (BP6.out.below hb7 BP6.out.lt)
               have BX7 := Lib.hid (BX6.out.below hb7 BX6.out.lt)
               have BY7 := Lib.hid (BY6.out.below hb7 BY6.out.lt)
               have HP7 := Lib.hid (HP6.out.below hb7)
               have HX7 := Lib.hid (HX6.out.below hb7)
               have HY7 := Lib.hid (HY6.out.below hb7)
               have HW7 := Lib.hid (HW6.out.trans (hb7.mono HW6.out.size))
               have r0 : w7.cell? ⟨w2.heap.size, 0, none⟩ = some (.slice C2 N c2) := BX7.out.cell 0
               have r1 : w7.cell? ⟨w2.heap.size, 1, none⟩ = some (.slice D2 m1 d2) := BX7.out.cell 1
               have r2 : w7.cell? ⟨w1.heap.size, 0, none⟩ = some (.slice C n1 c1) := BP7.out.cell 0
               have r3 : w7.cell? ⟨w1.heap.size, 1, none⟩ = some (.slice (some ⟨b, o, none⟩) m1 d1) := BP7.out.cell 1)
            | (go_at_call 40
               refine (sum_any HX5.out.pg.rc hm12 HR1.out).mono ?_
               rw [HSM.out]
               rintro e w6 ⟨rfl, hb6⟩
               clear r0 r1 r2 r3
               have BP6 := Lib.hid (BP5.out.below hb6 BP5.out.lt)
               have BX6 := Lib.hid (BX5.out.below hb6 BX5.out.lt)
               have BY6 := Lib.hid (BY5.out.below hb6 BY5.out.lt)
               have HP6 := Lib.hid (HP5.out.below hb6)
               have HX6 := Lib.hid (HX5.out.below hb6)
               have HY6 := Lib.hid (HY5.out.below hb6)
               have HW6 := Lib.hid (HW5.out.trans (hb6.mono HW5.out.size))
               have r0 : w6.cell? ⟨w2.heap.size, 0, none⟩ = some (.slice C2 N c2) := BX6.out.cell 0
               have r1 : w6.cell? ⟨w2.heap.size, 1, none⟩ = some (.slice D2 m1 d2) := BX6.out.cell 1
               have r2 : w6.cell? ⟨w1.heap.size, 0, none⟩ = some (.slice C n1 c1) := BP6.out.cell 0
               have r3 : w6.cell? ⟨w1.heap.size, 1, none⟩ = some (.slice (some ⟨b, o, none⟩) m1 d1) := BP6.out.cell 1)
            | (go_at_call 25
               refine (ok_any HXd.out.pg).mono ?_
               rw [HKO.out]
               rintro e w5 ⟨rfl, hb5⟩
               have BP5 := Lib.hid (BPd.out.below hb5 BPd.out.lt)
               have BX5 := Lib.hid (BXd.out.below hb5 BXd.out.lt)
               have BY5 := Lib.hid (BYd.out.below hb5 BYd.out.lt)
               have HP5 := Lib.hid (HPd.out.below hb5)
               have HX5 := Lib.hid (HXd.out.below hb5)
               have HY5 := Lib.hid (HYd.out.below hb5)
               have HW5 := Lib.hid (HWd.out.trans (hb5.mono HWd.out.size))
               have r0 : w5.cell? ⟨w2.heap.size, 0, none⟩ = some (.slice C2 N c2) := BX5.out.cell 0
               have r1 : w5.cell? ⟨w2.heap.size, 1, none⟩ = some (.slice D2 m1 d2) := BX5.out.cell 1
               have r2 : w5.cell? ⟨w1.heap.size, 0, none⟩ = some (.slice C n1 c1) := BP5.out.cell 0
               have r3 : w5.cell? ⟨w1.heap.size, 1, none⟩ = some (.slice (some ⟨b, o, none⟩) m1 d1) := BP5.out.cell 1))
        go_wp2
        go_ret
        exact ⟨by simp, HW9.out⟩
    · have hB' : usedB ts rs x = false := by simpa using hB
      go_wp2_with fail
      go_ret
      exact ⟨rfl, HW4.out⟩
end
end Go.Proofs.Ytemmcjjfjcjbeaa

/-
  FnPagesKeep answers true for every code: the walk.
-/
import Derived.Test.YtemmcjjfjcjbeaaDraws
import Derived.Test.YtemmcjjfjcjbeaaPure
import Derived.Test.YtemmcjjfjcjbeaaSum
import Derived.Test.YtemmcjjfjcjbeaaSkeep
import Derived.Test.YtemmcjjfjcjbeaaGive
import Derived.Deep.RegionHeld3
namespace Go.Proofs.Ytemmcjjfjcjbeaa
open Go.RowKit

section
variable {A : Option Addr} {n c : Nat} {w : World}
set_option maxHeartbeats 4000000 in
set_option maxRecDepth 100000 in
theorem dKeep_walk (hc : Code w A n) (hcap : n ≤ c) (hcap2 : c ≤ maxLen) :
    Calls Try.prog 7 #[.slice A n c] w fun e w' => e = .returned (.bool true) ∧ Below w.heap.size w w' := by
  have hn := hc.1
  unfold maxLen at hn
  by_cases hbig : (1048576 : Int) < n
  · go_enter Try.func7, Try.ntmps7
    go_wp2_with fail
    go_ret
    exact ⟨rfl, Below.refl _ _⟩
  · have HCODE := Lib.hid hc
    clear hc
    go_enter Try.func7, Try.ntmps7
    go_wp2_with fail
    refine (drawKeep_any HCODE.out hcap hcap2).mono ?_
    rintro e w1 ⟨C, n1, c1, D, m1, d1, ts, rs, x, rfl, hpg, x0, x1, hb1⟩
    have HW1 := Lib.hid hb1
    have HP1 := Lib.hid hpg
    clear hb1 hpg x0 x1
    have HA1 := Lib.hid (show Below w1.heap.size w1 (w1.alloc (.cells #[.slice C n1 c1, .slice D m1 d1] 27)) from (Below.refl _ _).alloc (Nat.le_refl _) _)
    have BP1 := Lib.hid (Box.new w1 #[.slice C n1 c1, .slice D m1 d1] 27)
    go_wp2_with fail
    refine (keep_any x (HP1.out.below HA1.out)).mono ?_
    rintro e w2 ⟨v2, rfl, C2, c2, D2, d2, rfl, hg2, hb2⟩
    have HB2 := Lib.hid (HA1.out.trans (hb2.mono (by simp)))
    have HW2 := Lib.hid (HW1.out.trans (HB2.out.mono HW1.out.size))
    have BP2 := Lib.hid (BP1.out.below hb2 (by simp))
    have HP2 := Lib.hid (HP1.out.below HB2.out)
    clear hb2
    have HX2 := Lib.hid hg2
    clear hg2
    have HTP := Lib.hid (fun h => keepB_parts (ts := ts) (rs := rs) (x := x) h)
    have HKT := Lib.hid (fun h : keepB ts rs x = true => show keepT ts rs x = ts from if_pos h)
    have HKR := Lib.hid (fun h : keepB ts rs x = true => show keepR ts rs x = rs.set x.toNat (rs.getD x.toNat 0 + 1) from if_pos h)
    have HKO := Lib.hid (fun h => keep_ok (ts := ts) (rs := rs) (x := x) h)
    have HTB := Lib.hid (fun h => keep_used (ts := ts) (rs := rs) (x := x) h)
    have HTT := Lib.hid (fun h => keep_giveT (ts := ts) (rs := rs) (x := x) h)
    have HTR := Lib.hid (fun h => keep_giveR (ts := ts) (rs := rs) (x := x) h)
    generalize hTe : keepT ts rs x = TS at HX2 HTB HTT HTR HKT HKO
    generalize hRe : keepR ts rs x = RS at HX2 HTB HTT HTR HKR HKO
    have HTE := Lib.hid hTe
    have HRE := Lib.hid hRe
    clear hTe hRe
    generalize hNe : TS.length = N at HX2
    generalize hMe : RS.length = M at HX2
    have HNE := Lib.hid hNe
    have HME := Lib.hid hMe
    clear hNe hMe
    have p0BP := BP2.out.cell 0
    have p1BP := BP2.out.cell 1
    have ltBP := BP2.out.lt
    simp at p0BP p1BP
    have HA2 := Lib.hid (show Below w2.heap.size w2 (w2.alloc (.cells #[.slice C2 N c2, .slice D2 M d2] 27)) from (Below.refl _ _).alloc (Nat.le_refl _) _)
    have BX2 := Lib.hid (Box.new w2 #[.slice C2 N c2, .slice D2 M d2] 27)
    go_wp2_with fail
    refine (skeep_any x (HP2.out.below HA2.out)).mono ?_
    rw [HTE.out, HRE.out]
    rintro e w3 ⟨v3, rfl, C3, c3, D3, d3, rfl, hg3, hb3⟩
    have HB3 := Lib.hid (HA2.out.trans (hb3.mono (by simp)))
    have HW3 := Lib.hid (HW2.out.trans (HB3.out.mono HW2.out.size))
    have BP3 := Lib.hid (BP2.out.below HB3.out BP2.out.lt)
    have BX3 := Lib.hid (BX2.out.below hb3 (by simp))
    have HP3 := Lib.hid (HP2.out.below HB3.out)
    have HX3 := Lib.hid (HX2.out.below HB3.out)
    clear hb3 p0BP p1BP ltBP
    rw [HNE.out, HME.out] at hg3 ⊢
    have HY3 := Lib.hid hg3
    clear hg3
    have p0BP := BP3.out.cell 0
    have p1BP := BP3.out.cell 1
    have ltBP := BP3.out.lt
    have p0BX := BX3.out.cell 0
    have p1BX := BX3.out.cell 1
    have ltBX := BX3.out.lt
    simp at p0BP p1BP p0BX p1BX
    have HA3 := Lib.hid (show Below w3.heap.size w3 (w3.alloc (.cells #[.slice C3 N c3, .slice D3 M d3] 27)) from (Below.refl _ _).alloc (Nat.le_refl _) _)
    have BY3 := Lib.hid (Box.new w3 #[.slice C3 N c3, .slice D3 M d3] 27)
    go_wp2_with fail
    refine (qdPages_any ((HX3.out.below HA3.out).pg) (HY3.out.below HA3.out)).mono ?_
    rintro e w4 ⟨rfl, hb4⟩
    have HB4 := Lib.hid (HA3.out.trans (hb4.mono (by simp)))
    have HW4 := Lib.hid (HW3.out.trans (HB4.out.mono HW3.out.size))
    have BP4 := Lib.hid (BP3.out.below HB4.out BP3.out.lt)
    have BX4 := Lib.hid (BX3.out.below HB4.out BX3.out.lt)
    have BY4 := Lib.hid (BY3.out.below hb4 (by simp))
    have HP4 := Lib.hid (HP3.out.below HB4.out)
    have HX4 := Lib.hid (HX3.out.below HB4.out)
    have HY4 := Lib.hid (HY3.out.below HB4.out)
    clear hb4 p0BP p1BP ltBP p0BX p1BX ltBX
    have p0BP := BP4.out.cell 0
    have p1BP := BP4.out.cell 1
    have ltBP := BP4.out.lt
    have p0BX := BX4.out.cell 0
    have p1BX := BX4.out.cell 1
    have ltBX := BX4.out.lt
    have p0BY := BY4.out.cell 0
    have p1BY := BY4.out.cell 1
    have ltBY := BY4.out.lt
    simp at p0BP p1BP p0BX p1BX p0BY p1BY
    by_cases hB : keepB ts rs x = true
    · have HU := Lib.hid (HTB.out hB)
      have HTT := Lib.hid (HTT.out hB)
      have HTR := Lib.hid (HTR.out hB)
      have HKT := Lib.hid (HKT.out hB)
      have HKR := Lib.hid (HKR.out hB)
      have HKO := Lib.hid (HKO.out hB)
      have HTP := Lib.hid (HTP.out hB)
      clear HTB
      go_wp2_with fail
      refine (give_any x ((HX4.out).pg)).mono ?_
      rw [HU.out, HTT.out, HTR.out]
      rintro e w5 ⟨v5, rfl, C5, c5, D5, d5, rfl, hg5, hb5⟩
      have HB5 := Lib.hid hb5
      have HW5 := Lib.hid (HW4.out.trans (HB5.out.mono HW4.out.size))
      have BP5 := Lib.hid (BP4.out.below HB5.out BP4.out.lt)
      have BX5 := Lib.hid (BX4.out.below HB5.out BX4.out.lt)
      have BY5 := Lib.hid (BY4.out.below HB5.out BY4.out.lt)
      have HP5 := Lib.hid (HP4.out.below HB5.out)
      have HX5 := Lib.hid (HX4.out.below HB5.out)
      have HY5 := Lib.hid (HY4.out.below HB5.out)
      clear hb5 p0BP p1BP ltBP p0BX p1BX ltBX p0BY p1BY ltBY
      have HZ5 := Lib.hid hg5
      clear hg5
      have htl := HP5.out.tl
      have hrl := HP5.out.rl
      rw [htl, hrl] at HZ5 ⊢
      have p0BP := BP5.out.cell 0
      have p1BP := BP5.out.cell 1
      have ltBP := BP5.out.lt
      have p0BX := BX5.out.cell 0
      have p1BX := BX5.out.cell 1
      have ltBX := BX5.out.lt
      have p0BY := BY5.out.cell 0
      have p1BY := BY5.out.cell 1
      have ltBY := BY5.out.lt
      simp at p0BP p1BP p0BX p1BX p0BY p1BY
      have HA5 := Lib.hid (show Below w5.heap.size w5 (w5.alloc (.cells #[.slice C5 n1 c5, .slice D5 m1 d5] 27)) from (Below.refl _ _).alloc (Nat.le_refl _) _)
      have BZ5 := Lib.hid (Box.new w5 #[.slice C5 n1 c5, .slice D5 m1 d5] 27)
      obtain ⟨u1, u2, u3⟩ := usedB_parts HTP.out.1
      have o12 := (okPg_parts u1).2.1
      have o0 := (okPg_parts u1).1
      have hTL := HNE.out
      have hRL := HME.out
      rw [HKT.out, htl] at hTL
      rw [HKR.out, List.length_set, hrl] at hRL
      subst hTL
      subst hRL
      have hm12 : m1 ≤ 12 := by omega
      have HSM := Lib.hid (show sumTo RS m1 = sumTo rs m1 + 1 by rw [HKR.out, sumTo_set (by omega), if_pos (by omega)]; omega)
      have HR0 := Lib.hid (ok_range u1)
      have HR1 := Lib.hid (ok_range HKO.out)
      have hSb := sumTo_le HR0.out m1
      have HSL := Lib.hid (fun k => (⟨_, rfl⟩ : ∃ i : ByteArray, Value.string (ts.getD k .empty) = .string i))
      generalize hSe : sumTo rs m1 = S at HSM hSb
      have HSE := Lib.hid hSe
      have hws : IntKind.i64.wrap (S + 1) = S + 1 := IntWalk.i64_in _ (by omega)
      have hle1 : n1 ≤ 9223372036854775807 := by have := HP5.out.nb; unfold maxLen at this; omega
      clear hSe o12 o0 u1 u2 u3
      clear p0BP p1BP ltBP p0BX p1BX ltBX p0BY p1BY ltBY
      have HBd := Lib.hid HA5.out.drew
      have BPd := Lib.hid (BP5.out.below HBd.out BP5.out.lt)
      have BXd := Lib.hid (BX5.out.below HBd.out BX5.out.lt)
      have BYd := Lib.hid (BY5.out.below HBd.out BY5.out.lt)
      have BZd := Lib.hid BZ5.out.drew
      have HPd := Lib.hid (HP5.out.below HBd.out)
      have HXd := Lib.hid (HX5.out.below HBd.out)
      have HYd := Lib.hid (HY5.out.below HBd.out)
      have HZd := Lib.hid (HZ5.out.below HBd.out)
      have HWd := Lib.hid (HW5.out.trans (HBd.out.mono HW5.out.size))
      have p0BZ := BZd.out.cell 0
      have p1BZ := BZd.out.cell 1
      have ltBZ := BZd.out.lt
      have p0BP := BPd.out.cell 0
      have p1BP := BPd.out.cell 1
      have ltBP := BPd.out.lt
      have p0BX := BXd.out.cell 0
      have p1BX := BXd.out.cell 1
      have ltBX := BXd.out.lt
      simp at p0BZ p1BZ p0BP p1BP p0BX p1BX
      go_wp2_with fail
      go_region_held3 (fun w' => w'.cell? ⟨w5.heap.size, 0, none⟩ = some (.slice C5 n1 c5) ∧
          w'.cell? ⟨w5.heap.size, 1, none⟩ = some (.slice D5 m1 d5) ∧
          w'.cell? ⟨w1.heap.size, 0, none⟩ = some (.slice C n1 c1) ∧
          w'.cell? ⟨w1.heap.size, 1, none⟩ = some (.slice D m1 d1) ∧
          w'.cell? ⟨w2.heap.size, 0, none⟩ = some (.slice C2 n1 c2) ∧
          w'.cell? ⟨w2.heap.size, 1, none⟩ = some (.slice D2 m1 d2))
        (first | exact ⟨r0, r1, r2, r3, r4, r5⟩ | go_keep)
        (first
          | (go_at_call 40
             refine (sum_any HP8.out.rc hm12 HR0.out).mono ?_
             rw [HSE.out]
             rintro e w9 ⟨rfl, hb9⟩
             clear r0 r1 r2 r3 r4 r5
             have BP9 := Lib.hid (BP8.out.below hb9 BP8.out.lt)
             have BX9 := Lib.hid (BX8.out.below hb9 BX8.out.lt)
             have BY9 := Lib.hid (BY8.out.below hb9 BY8.out.lt)
             have BZ9 := Lib.hid (BZ8.out.below hb9 BZ8.out.lt)
             have HP9 := Lib.hid (HP8.out.below hb9)
             have HX9 := Lib.hid (HX8.out.below hb9)
             have HY9 := Lib.hid (HY8.out.below hb9)
             have HZ9 := Lib.hid (HZ8.out.below hb9)
             have HW9 := Lib.hid (HW8.out.trans (hb9.mono HW8.out.size))
             have r0 : w9.cell? ⟨w5.heap.size, 0, none⟩ = some (.slice C5 n1 c5) := BZ9.out.cell 0
             have r1 : w9.cell? ⟨w5.heap.size, 1, none⟩ = some (.slice D5 m1 d5) := BZ9.out.cell 1
             have r2 : w9.cell? ⟨w1.heap.size, 0, none⟩ = some (.slice C n1 c1) := BP9.out.cell 0
             have r3 : w9.cell? ⟨w1.heap.size, 1, none⟩ = some (.slice D m1 d1) := BP9.out.cell 1
             have r4 : w9.cell? ⟨w2.heap.size, 0, none⟩ = some (.slice C2 n1 c2) := BX9.out.cell 0
             have r5 : w9.cell? ⟨w2.heap.size, 1, none⟩ = some (.slice D2 m1 d2) := BX9.out.cell 1)
          | (go_at_call 40
             refine (sum_any HX7.out.pg.rc hm12 HR1.out).mono ?_
             rw [HSM.out]
             rintro e w8 ⟨rfl, hb8⟩
             clear r0 r1 r2 r3 r4 r5
             have BP8 := Lib.hid (BP7.out.below hb8 BP7.out.lt)
             have BX8 := Lib.hid (BX7.out.below hb8 BX7.out.lt)
             have BY8 := Lib.hid (BY7.out.below hb8 BY7.out.lt)
             have BZ8 := Lib.hid (BZ7.out.below hb8 BZ7.out.lt)
             have HP8 := Lib.hid (HP7.out.below hb8)
             have HX8 := Lib.hid (HX7.out.below hb8)
             have HY8 := Lib.hid (HY7.out.below hb8)
             have HZ8 := Lib.hid (HZ7.out.below hb8)
             have HW8 := Lib.hid (HW7.out.trans (hb8.mono HW7.out.size))
             have r0 : w8.cell? ⟨w5.heap.size, 0, none⟩ = some (.slice C5 n1 c5) := BZ8.out.cell 0
             have r1 : w8.cell? ⟨w5.heap.size, 1, none⟩ = some (.slice D5 m1 d5) := BZ8.out.cell 1
             have r2 : w8.cell? ⟨w1.heap.size, 0, none⟩ = some (.slice C n1 c1) := BP8.out.cell 0
             have r3 : w8.cell? ⟨w1.heap.size, 1, none⟩ = some (.slice D m1 d1) := BP8.out.cell 1
             have r4 : w8.cell? ⟨w2.heap.size, 0, none⟩ = some (.slice C2 n1 c2) := BX8.out.cell 0
             have r5 : w8.cell? ⟨w2.heap.size, 1, none⟩ = some (.slice D2 m1 d2) := BX8.out.cell 1)
          | (go_at_call 39
             refine (qdStrs_any HXT HP6.out.tc hle1 HSL.out).mono ?_
             rintro e w7 ⟨rfl, hb7⟩
             clear r0 r1 r2 r3 r4 r5
             have BP7 := Lib.hid (BP6.out.below hb7 BP6.out.lt)
             have BX7 := Lib.hid (BX6.out.below hb7 BX6.out.lt)
             have BY7 := Lib.hid (BY6.out.below hb7 BY6.out.lt)
             have BZ7 := Lib.hid (BZ6.out.below hb7 BZ6.out.lt)
             have HP7 := Lib.hid (HP6.out.below hb7)
             have HX7 := Lib.hid (HX6.out.below hb7)
             have HY7 := Lib.hid (HY6.out.below hb7)
             have HZ7 := Lib.hid (HZ6.out.below hb7)
             have HW7 := Lib.hid (HW6.out.trans (hb7.mono HW6.out.size))
             have r0 : w7.cell? ⟨w5.heap.size, 0, none⟩ = some (.slice C5 n1 c5) := BZ7.out.cell 0
             have r1 : w7.cell? ⟨w5.heap.size, 1, none⟩ = some (.slice D5 m1 d5) := BZ7.out.cell 1
             have r2 : w7.cell? ⟨w1.heap.size, 0, none⟩ = some (.slice C n1 c1) := BP7.out.cell 0
             have r3 : w7.cell? ⟨w1.heap.size, 1, none⟩ = some (.slice D m1 d1) := BP7.out.cell 1
             have r4 : w7.cell? ⟨w2.heap.size, 0, none⟩ = some (.slice C2 n1 c2) := BX7.out.cell 0
             have r5 : w7.cell? ⟨w2.heap.size, 1, none⟩ = some (.slice D2 m1 d2) := BX7.out.cell 1)
          | (go_at_call 24
             refine (qdPages_any HZd.out.pg HPd.out).mono ?_
             rintro e w6 ⟨rfl, hb6⟩
             have BP6 := Lib.hid (BPd.out.below hb6 BPd.out.lt)
             have BX6 := Lib.hid (BXd.out.below hb6 BXd.out.lt)
             have BY6 := Lib.hid (BYd.out.below hb6 BYd.out.lt)
             have BZ6 := Lib.hid (BZd.out.below hb6 BZd.out.lt)
             have HP6 := Lib.hid (HPd.out.below hb6)
             have HX6 := Lib.hid (HXd.out.below hb6)
             have HY6 := Lib.hid (HYd.out.below hb6)
             have HZ6 := Lib.hid (HZd.out.below hb6)
             have HW6 := Lib.hid (HWd.out.trans (hb6.mono HWd.out.size))
             have r0 : w6.cell? ⟨w5.heap.size, 0, none⟩ = some (.slice C5 n1 c5) := BZ6.out.cell 0
             have r1 : w6.cell? ⟨w5.heap.size, 1, none⟩ = some (.slice D5 m1 d5) := BZ6.out.cell 1
             have r2 : w6.cell? ⟨w1.heap.size, 0, none⟩ = some (.slice C n1 c1) := BP6.out.cell 0
             have r3 : w6.cell? ⟨w1.heap.size, 1, none⟩ = some (.slice D m1 d1) := BP6.out.cell 1
             have r4 : w6.cell? ⟨w2.heap.size, 0, none⟩ = some (.slice C2 n1 c2) := BX6.out.cell 0
             have r5 : w6.cell? ⟨w2.heap.size, 1, none⟩ = some (.slice D2 m1 d2) := BX6.out.cell 1
             have HXT := HX6.out.pg.tc
             rw [HKT.out] at HXT))
      go_wp2
      go_ret
      exact ⟨by simp, HW9.out⟩
    · have hB' : keepB ts rs x = false := by simpa using hB
      go_wp2_with fail
      go_ret
      exact ⟨rfl, HW4.out⟩
end
end Go.Proofs.Ytemmcjjfjcjbeaa

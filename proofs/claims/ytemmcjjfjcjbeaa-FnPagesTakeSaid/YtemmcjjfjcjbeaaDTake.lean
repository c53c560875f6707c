/-
  FnPagesTake answers true for every code: the walk.
-/
import Derived.Test.YtemmcjjfjcjbeaaDrawt
import Derived.Test.YtemmcjjfjcjbeaaPure
import Derived.Test.YtemmcjjfjcjbeaaStake
import Derived.Test.YtemmcjjfjcjbeaaGive
import Derived.Deep.RegionHeld3
namespace Go.Proofs.Ytemmcjjfjcjbeaa
open Go.RowKit

section
variable {A : Option Addr} {n c : Nat} {w : World}
set_option maxHeartbeats 4000000 in
set_option maxRecDepth 100000 in
theorem dTake_walk (hc : Code w A n) (hcap : n ≤ c) (hcap2 : c ≤ maxLen) :
    Calls Try.prog 6 #[.slice A n c] w fun e w' => e = .returned (.bool true) ∧ Below w.heap.size w w' := by
  have hn := hc.1
  unfold maxLen at hn
  by_cases hbig : (1048576 : Int) < n
  · go_enter Try.func6, Try.ntmps6
    go_wp2_with fail
    go_ret
    exact ⟨rfl, Below.refl _ _⟩
  · have HCODE := Lib.hid hc
    clear hc
    go_enter Try.func6, Try.ntmps6
    go_wp2_with fail
    refine (drawTake_any HCODE.out hcap hcap2).mono ?_
    rintro e w1 ⟨C, n1, c1, D, m1, d1, ts, rs, s, rfl, hpg, hs, hb1⟩
    have HW1 := Lib.hid hb1
    have HP1 := Lib.hid hpg
    have HS := Lib.hid hs
    have hs' : s.size ≤ 9223372036854775807 := hs
    clear hb1 hpg hs
    have HA1 := Lib.hid (show Below w1.heap.size w1 (w1.alloc (.cells #[.slice C n1 c1, .slice D m1 d1] 27)) from (Below.refl _ _).alloc (Nat.le_refl _) _)
    have BP1 := Lib.hid (Box.new w1 #[.slice C n1 c1, .slice D m1 d1] 27)
    go_wp2_with fail
    refine (take_any s HS.out (HP1.out.below HA1.out)).mono ?_
    rintro e w2 ⟨v2, rfl, C2, c2, D2, d2, rfl, hg2, hb2⟩
    have HB2 := Lib.hid (HA1.out.trans (hb2.mono (by simp)))
    have HW2 := Lib.hid (HW1.out.trans (HB2.out.mono HW1.out.size))
    have BP2 := Lib.hid (BP1.out.below hb2 (by simp))
    have HP2 := Lib.hid (HP1.out.below HB2.out)
    clear hb2
    have HX2 := Lib.hid hg2
    clear hg2
    have HTB := Lib.hid (fun h => take_used (ts := ts) (rs := rs) (s := s) h)
    have HTX := Lib.hid (fun h => take_text (ts := ts) (rs := rs) (s := s) h)
    have HTT := Lib.hid (fun h => take_giveT (ts := ts) (rs := rs) (s := s) h)
    have HTR := Lib.hid (fun h => take_giveR (ts := ts) (rs := rs) (s := s) h)
    have HTM := Lib.hid (fun h => take_room1 (ts := ts) (rs := rs) (s := s) h)
    generalize hTe : takeT ts rs s = TS at HX2 HTB HTX HTT HTR HTM
    generalize hRe : takeR ts rs s = RS at HX2 HTB HTX HTT HTR HTM
    have HTE := Lib.hid hTe
    have HRE := Lib.hid hRe
    clear hTe hRe
    generalize hNe : TS.length = N at HX2
    generalize hMe : RS.length = M at HX2
    have HNE := Lib.hid hNe
    have HME := Lib.hid hMe
    clear hNe hMe
    have p0BP := BP2.out.cell 0
    have p1BP := BP2.out.cell 1
    have ltBP := BP2.out.lt
    simp at p0BP p1BP
    have HA2 := Lib.hid (show Below w2.heap.size w2 (w2.alloc (.cells #[.slice C2 N c2, .slice D2 M d2] 27)) from (Below.refl _ _).alloc (Nat.le_refl _) _)
    have BX2 := Lib.hid (Box.new w2 #[.slice C2 N c2, .slice D2 M d2] 27)
    go_wp2_with fail
    refine (stake_any s HS.out (HP2.out.below HA2.out)).mono ?_
    rw [HTE.out, HRE.out]
    rintro e w3 ⟨v3, rfl, C3, c3, D3, d3, rfl, hg3, hb3⟩
    have HB3 := Lib.hid (HA2.out.trans (hb3.mono (by simp)))
    have HW3 := Lib.hid (HW2.out.trans (HB3.out.mono HW2.out.size))
    have BP3 := Lib.hid (BP2.out.below HB3.out BP2.out.lt)
    have BX3 := Lib.hid (BX2.out.below hb3 (by simp))
    have HP3 := Lib.hid (HP2.out.below HB3.out)
    have HX3 := Lib.hid (HX2.out.below HB3.out)
    clear hb3 p0BP p1BP ltBP
    rw [HNE.out, HME.out] at hg3 ⊢
    have HY3 := Lib.hid hg3
    clear hg3
    have p0BP := BP3.out.cell 0
    have p1BP := BP3.out.cell 1
    have ltBP := BP3.out.lt
    have p0BX := BX3.out.cell 0
    have p1BX := BX3.out.cell 1
    have ltBX := BX3.out.lt
    simp at p0BP p1BP p0BX p1BX
    have HA3 := Lib.hid (show Below w3.heap.size w3 (w3.alloc (.cells #[.slice C3 N c3, .slice D3 M d3] 27)) from (Below.refl _ _).alloc (Nat.le_refl _) _)
    have BY3 := Lib.hid (Box.new w3 #[.slice C3 N c3, .slice D3 M d3] 27)
    go_wp2_with fail
    refine (qdPages_any ((HX3.out.below HA3.out).pg) (HY3.out.below HA3.out)).mono ?_
    rintro e w4 ⟨rfl, hb4⟩
    have HB4 := Lib.hid (HA3.out.trans (hb4.mono (by simp)))
    have HW4 := Lib.hid (HW3.out.trans (HB4.out.mono HW3.out.size))
    have BP4 := Lib.hid (BP3.out.below HB4.out BP3.out.lt)
    have BX4 := Lib.hid (BX3.out.below HB4.out BX3.out.lt)
    have BY4 := Lib.hid (BY3.out.below hb4 (by simp))
    have HP4 := Lib.hid (HP3.out.below HB4.out)
    have HX4 := Lib.hid (HX3.out.below HB4.out)
    have HY4 := Lib.hid (HY3.out.below HB4.out)
    clear hb4 p0BP p1BP ltBP p0BX p1BX ltBX
    have p0BP := BP4.out.cell 0
    have p1BP := BP4.out.cell 1
    have ltBP := BP4.out.lt
    have p0BX := BX4.out.cell 0
    have p1BX := BX4.out.cell 1
    have ltBX := BX4.out.lt
    have p0BY := BY4.out.cell 0
    have p1BY := BY4.out.cell 1
    have ltBY := BY4.out.lt
    simp at p0BP p1BP p0BX p1BX p0BY p1BY
    by_cases hB : takeB ts rs s = true
    · have HU := Lib.hid (HTB.out hB)
      have HTX := Lib.hid (HTX.out hB)
      have HTT := Lib.hid (HTT.out hB)
      have HTR := Lib.hid (HTR.out hB)
      have HTM := Lib.hid (HTM.out hB)
      clear HTB
      generalize takeI ts rs s = I at HU HTX HTT HTR HTM ⊢
      go_wp2_with fail
      refine (get_any I ((HX4.out).pg)).mono ?_
      rw [HU.out, HTX.out]
      rintro e w5 ⟨rfl, hb5⟩
      have HB5 := Lib.hid hb5
      have HW5 := Lib.hid (HW4.out.trans (HB5.out.mono HW4.out.size))
      have BP5 := Lib.hid (BP4.out.below HB5.out BP4.out.lt)
      have BX5 := Lib.hid (BX4.out.below HB5.out BX4.out.lt)
      have BY5 := Lib.hid (BY4.out.below HB5.out BY4.out.lt)
      have HP5 := Lib.hid (HP4.out.below HB5.out)
      have HX5 := Lib.hid (HX4.out.below HB5.out)
      have HY5 := Lib.hid (HY4.out.below HB5.out)
      clear hb5 p0BP p1BP ltBP p0BX p1BX ltBX p0BY p1BY ltBY
      have p0BP := BP5.out.cell 0
      have p1BP := BP5.out.cell 1
      have ltBP := BP5.out.lt
      have p0BX := BX5.out.cell 0
      have p1BX := BX5.out.cell 1
      have ltBX := BX5.out.lt
      have p0BY := BY5.out.cell 0
      have p1BY := BY5.out.cell 1
      have ltBY := BY5.out.lt
      simp at p0BP p1BP p0BX p1BX p0BY p1BY
      go_wp2_with fail
      refine (give_any I ((HX5.out).pg)).mono ?_
      rw [HU.out, HTT.out, HTR.out]
      rintro e w6 ⟨v6, rfl, C6, c6, D6, d6, rfl, hg6, hb6⟩
      have HB6 := Lib.hid hb6
      have HW6 := Lib.hid (HW5.out.trans (HB6.out.mono HW5.out.size))
      have BP6 := Lib.hid (BP5.out.below HB6.out BP5.out.lt)
      have BX6 := Lib.hid (BX5.out.below HB6.out BX5.out.lt)
      have BY6 := Lib.hid (BY5.out.below HB6.out BY5.out.lt)
      have HP6 := Lib.hid (HP5.out.below HB6.out)
      have HX6 := Lib.hid (HX5.out.below HB6.out)
      have HY6 := Lib.hid (HY5.out.below HB6.out)
      clear hb6 p0BP p1BP ltBP p0BX p1BX ltBX p0BY p1BY ltBY
      have HZ6 := Lib.hid hg6
      clear hg6
      have htl := HP6.out.tl
      have hrl := HP6.out.rl
      rw [htl, hrl] at HZ6 ⊢
      have p0BP := BP6.out.cell 0
      have p1BP := BP6.out.cell 1
      have ltBP := BP6.out.lt
      have p0BX := BX6.out.cell 0
      have p1BX := BX6.out.cell 1
      have ltBX := BX6.out.lt
      have p0BY := BY6.out.cell 0
      have p1BY := BY6.out.cell 1
      have ltBY := BY6.out.lt
      simp at p0BP p1BP p0BX p1BX p0BY p1BY
      have HA6 := Lib.hid (show Below w6.heap.size w6 (w6.alloc (.cells #[.slice C6 n1 c6, .slice D6 m1 d6] 27)) from (Below.refl _ _).alloc (Nat.le_refl _) _)
      have BZ6 := Lib.hid (Box.new w6 #[.slice C6 n1 c6, .slice D6 m1 d6] 27)
      have hRl := roomOf_le ts rs
      generalize hRo : roomOf ts rs = R at HTM hRl
      have HRO := Lib.hid hRo
      clear hRo
      have hwr : IntKind.i64.wrap (R - 1) = R - 1 := IntWalk.i64_in _ (by omega)
      clear p0BP p1BP ltBP p0BX p1BX ltBX p0BY p1BY ltBY
      have HBd := Lib.hid HA6.out.drew
      have BPd := Lib.hid (BP6.out.below HBd.out BP6.out.lt)
      have BXd := Lib.hid (BX6.out.below HBd.out BX6.out.lt)
      have BYd := Lib.hid (BY6.out.below HBd.out BY6.out.lt)
      have BZd := Lib.hid BZ6.out.drew
      have HPd := Lib.hid (HP6.out.below HBd.out)
      have HXd := Lib.hid (HX6.out.below HBd.out)
      have HYd := Lib.hid (HY6.out.below HBd.out)
      have HZd := Lib.hid (HZ6.out.below HBd.out)
      have HWd := Lib.hid (HW6.out.trans (HBd.out.mono HW6.out.size))
      have p0BZ := BZd.out.cell 0
      have p1BZ := BZd.out.cell 1
      have ltBZ := BZd.out.lt
      have p0BP := BPd.out.cell 0
      have p1BP := BPd.out.cell 1
      have ltBP := BPd.out.lt
      have p0BX := BXd.out.cell 0
      have p1BX := BXd.out.cell 1
      have ltBX := BXd.out.lt
      simp at p0BZ p1BZ p0BP p1BP p0BX p1BX
      go_wp2_with fail
      go_region_held3 (fun w' => w'.cell? ⟨w6.heap.size, 0, none⟩ = some (.slice C6 n1 c6) ∧
          w'.cell? ⟨w6.heap.size, 1, none⟩ = some (.slice D6 m1 d6) ∧
          w'.cell? ⟨w1.heap.size, 0, none⟩ = some (.slice C n1 c1) ∧
          w'.cell? ⟨w1.heap.size, 1, none⟩ = some (.slice D m1 d1) ∧
          w'.cell? ⟨w2.heap.size, 0, none⟩ = some (.slice C2 N c2) ∧
          w'.cell? ⟨w2.heap.size, 1, none⟩ = some (.slice D2 M d2))
        (first | exact ⟨r0, r1, r2, r3, r4, r5⟩ | go_keep)
        (first
          | (go_at_call 26
             refine (room_any HP8.out).mono ?_
             rw [HRO.out]
             rintro e w9 ⟨rfl, hb9⟩
             clear r0 r1 r2 r3 r4 r5
             have BP9 := Lib.hid (BP8.out.below hb9 BP8.out.lt)
             have BX9 := Lib.hid (BX8.out.below hb9 BX8.out.lt)
             have BY9 := Lib.hid (BY8.out.below hb9 BY8.out.lt)
             have BZ9 := Lib.hid (BZ8.out.below hb9 BZ8.out.lt)
             have HP9 := Lib.hid (HP8.out.below hb9)
             have HX9 := Lib.hid (HX8.out.below hb9)
             have HY9 := Lib.hid (HY8.out.below hb9)
             have HZ9 := Lib.hid (HZ8.out.below hb9)
             have HW9 := Lib.hid (HW8.out.trans (hb9.mono HW8.out.size))
             have r0 : w9.cell? ⟨w6.heap.size, 0, none⟩ = some (.slice C6 n1 c6) := BZ9.out.cell 0
             have r1 : w9.cell? ⟨w6.heap.size, 1, none⟩ = some (.slice D6 m1 d6) := BZ9.out.cell 1
             have r2 : w9.cell? ⟨w1.heap.size, 0, none⟩ = some (.slice C n1 c1) := BP9.out.cell 0
             have r3 : w9.cell? ⟨w1.heap.size, 1, none⟩ = some (.slice D m1 d1) := BP9.out.cell 1
             have r4 : w9.cell? ⟨w2.heap.size, 0, none⟩ = some (.slice C2 N c2) := BX9.out.cell 0
             have r5 : w9.cell? ⟨w2.heap.size, 1, none⟩ = some (.slice D2 M d2) := BX9.out.cell 1)
          | (go_at_call 26
             refine (room_any HX7.out.pg).mono ?_
             rw [HTM.out]
             rintro e w8 ⟨rfl, hb8⟩
             clear r0 r1 r2 r3 r4 r5
             have BP8 := Lib.hid (BP7.out.below hb8 BP7.out.lt)
             have BX8 := Lib.hid (BX7.out.below hb8 BX7.out.lt)
             have BY8 := Lib.hid (BY7.out.below hb8 BY7.out.lt)
             have BZ8 := Lib.hid (BZ7.out.below hb8 BZ7.out.lt)
             have HP8 := Lib.hid (HP7.out.below hb8)
             have HX8 := Lib.hid (HX7.out.below hb8)
             have HY8 := Lib.hid (HY7.out.below hb8)
             have HZ8 := Lib.hid (HZ7.out.below hb8)
             have HW8 := Lib.hid (HW7.out.trans (hb8.mono HW7.out.size))
             have r0 : w8.cell? ⟨w6.heap.size, 0, none⟩ = some (.slice C6 n1 c6) := BZ8.out.cell 0
             have r1 : w8.cell? ⟨w6.heap.size, 1, none⟩ = some (.slice D6 m1 d6) := BZ8.out.cell 1
             have r2 : w8.cell? ⟨w1.heap.size, 0, none⟩ = some (.slice C n1 c1) := BP8.out.cell 0
             have r3 : w8.cell? ⟨w1.heap.size, 1, none⟩ = some (.slice D m1 d1) := BP8.out.cell 1
             have r4 : w8.cell? ⟨w2.heap.size, 0, none⟩ = some (.slice C2 N c2) := BX8.out.cell 0
             have r5 : w8.cell? ⟨w2.heap.size, 1, none⟩ = some (.slice D2 M d2) := BX8.out.cell 1)
          | (go_at_call 24
             refine (qdPages_any HZd.out.pg HPd.out).mono ?_
             rintro e w7 ⟨rfl, hb7⟩
             have BP7 := Lib.hid (BPd.out.below hb7 BPd.out.lt)
             have BX7 := Lib.hid (BXd.out.below hb7 BXd.out.lt)
             have BY7 := Lib.hid (BYd.out.below hb7 BYd.out.lt)
             have BZ7 := Lib.hid (BZd.out.below hb7 BZd.out.lt)
             have HP7 := Lib.hid (HPd.out.below hb7)
             have HX7 := Lib.hid (HXd.out.below hb7)
             have HY7 := Lib.hid (HYd.out.below hb7)
             have HZ7 := Lib.hid (HZd.out.below hb7)
             have HW7 := Lib.hid (HWd.out.trans (hb7.mono HWd.out.size))
             have r0 : w7.cell? ⟨w6.heap.size, 0, none⟩ = some (.slice C6 n1 c6) := BZ7.out.cell 0
             have r1 : w7.cell? ⟨w6.heap.size, 1, none⟩ = some (.slice D6 m1 d6) := BZ7.out.cell 1
             have r2 : w7.cell? ⟨w1.heap.size, 0, none⟩ = some (.slice C n1 c1) := BP7.out.cell 0
             have r3 : w7.cell? ⟨w1.heap.size, 1, none⟩ = some (.slice D m1 d1) := BP7.out.cell 1
             have r4 : w7.cell? ⟨w2.heap.size, 0, none⟩ = some (.slice C2 N c2) := BX7.out.cell 0
             have r5 : w7.cell? ⟨w2.heap.size, 1, none⟩ = some (.slice D2 M d2) := BX7.out.cell 1))
      go_wp2
      go_ret
      exact ⟨by simp, HW9.out⟩
    · have hB' : takeB ts rs s = false := by simpa using hB
      go_wp2_with fail
      go_ret
      exact ⟨rfl, HW4.out⟩
end
end Go.Proofs.Ytemmcjjfjcjbeaa

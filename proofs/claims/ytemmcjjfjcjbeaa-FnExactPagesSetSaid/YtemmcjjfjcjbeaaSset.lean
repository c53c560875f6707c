/-
  The model's PagesSet.
-/
import Derived.Test.YtemmcjjfjcjbeaaStake
import Derived.Test.YtemmcjjfjcjbeaaPset
import Derived.Deep.RegionWith
namespace Go.Proofs.Ytemmcjjfjcjbeaa
open Go.RowKit

section
variable {A : Option Addr} {n c : Nat} {B : Option Addr} {m d : Nat} {ts : List ByteArray} {rs : List Int} {w : World}

theorem sset_bad (x kk b' : Int) (hp : Pg w A n B m ts rs) (hok : okPg ts rs = false) :
    Calls Try.prog 47 #[.agg #[.slice A n c, .slice B m d], .int .i64 x, .int .i64 kk, .int .i64 b'] w fun e w' => e = .returned (.tuple #[.agg #[.slice none 0 0, .slice none 0 0], .bool false]) ∧ Below w.heap.size w w' := by
  have H1 := Lib.hid hp
  clear hp
  have HW := Lib.hid (show Below w.heap.size w ((w.alloc (.cells #[.slice A n c, .slice B m d] 27)).alloc (.cells #[.slice none 0 0, .slice none 0 0] 27)) from ((Below.refl _ _).alloc (Nat.le_refl _) _).alloc (by simp) _)
  have B2 := Lib.hid (Box.new (w.alloc (.cells #[.slice A n c, .slice B m d] 27)) #[.slice none 0 0, .slice none 0 0] 27)
  simp only [World.size_alloc] at B2
  go_enter Try.func47, Try.ntmps47
  go_wp2_with fail
  refine (oks_any (H1.out.below HW.out)).mono ?_
  rw [hok]
  rintro e w1 ⟨rfl, hb1⟩
  have HW1 := Lib.hid (HW.out.trans (hb1.mono (by simp; omega)))
  have C2 := Lib.hid (B2.out.below hb1 (by simp))
  have l1 := C2.out.lt
  clear hb1
  have p0 := C2.out.cell 0
  have p1 := C2.out.cell 1
  have p2 := C2.out.frz 0
  have p3 := C2.out.frz 1
  simp at p0 p1
  go_wp2_with fail
  refine bodyPost_ret (v := .tuple #[.agg #[.slice none 0 0, .slice none 0 0], .bool false]) (by simp [results, Try.results47, go_sem, p0, p1]) rfl ⟨rfl, ?_⟩
  exact (HW1.out.setCell (Nat.le_add_right _ _) _).setCell (Nat.le_add_right _ _) _

theorem sset_free (x kk b' : Int) (hp : Pg w A n B m ts rs) (hok : okPg ts rs = true) (hu : usedB ts rs x = false) :
    Calls Try.prog 47 #[.agg #[.slice A n c, .slice B m d], .int .i64 x, .int .i64 kk, .int .i64 b'] w fun e w' => e = .returned (.tuple #[.agg #[.slice none 0 0, .slice none 0 0], .bool false]) ∧ Below w.heap.size w w' := by
  have H1 := Lib.hid hp
  have HPU : Hid (posB rs x = false) := Lib.hid ((posB_used x hok).trans hu)
  have hm : m ≤ 12 := by have := (okPg_parts hok).2.1.2; have := hp.rl; omega
  clear hp hu
  have HW := Lib.hid (show Below w.heap.size w ((w.alloc (.cells #[.slice A n c, .slice B m d] 27)).alloc (.cells #[.slice none 0 0, .slice none 0 0] 27)) from ((Below.refl _ _).alloc (Nat.le_refl _) _).alloc (by simp) _)
  have B1 := Lib.hid ((Box.new w #[.slice A n c, .slice B m d] 27).alloc (.cells #[.slice none 0 0, .slice none 0 0] 27))
  have B2 := Lib.hid (Box.new (w.alloc (.cells #[.slice A n c, .slice B m d] 27)) #[.slice none 0 0, .slice none 0 0] 27)
  simp only [World.size_alloc] at B2
  go_enter Try.func47, Try.ntmps47
  go_wp2_with fail
  refine (oks_any (H1.out.below HW.out)).mono ?_
  rw [hok]
  rintro e w1 ⟨rfl, hb1⟩
  have HW1 := Lib.hid (HW.out.trans (hb1.mono (by simp; omega)))
  have C1 := Lib.hid (B1.out.below hb1 (by simp; omega))
  have C2 := Lib.hid (B2.out.below hb1 (by simp))
  clear hb1
  have p0 := C1.out.cell 0
  have p1 := C1.out.cell 1
  simp at p0 p1
  go_wp2_with fail
  refine (l1Used_any x (H1.out.below HW1.out).rc (by omega) H1.out.rl).mono ?_
  rw [HPU.out]
  rintro e w2 ⟨rfl, hb2⟩
  have HW2 := Lib.hid (HW1.out.trans (hb2.mono HW1.out.size))
  have D2 := Lib.hid (C2.out.below hb2 C2.out.lt)
  have l1 := D2.out.lt
  clear hb2 p0 p1
  have p0 := D2.out.cell 0
  have p1 := D2.out.cell 1
  have p2 := D2.out.frz 0
  have p3 := D2.out.frz 1
  simp at p0 p1
  go_wp2_with fail
  refine bodyPost_ret (v := .tuple #[.agg #[.slice none 0 0, .slice none 0 0], .bool false]) (by simp [results, Try.results47, go_sem, p0, p1]) rfl ⟨rfl, ?_⟩
  exact (HW2.out.setCell (Nat.le_add_right _ _) _).setCell (Nat.le_add_right _ _) _

theorem inB3 {kk : Int} (h : 0 ≤ kk ∧ kk < 4) : inB kk 0 3 = true := inB_of (by omega)
theorem inB3_not {kk : Int} (h : ¬ (0 ≤ kk ∧ kk < 4)) : inB kk 0 3 = false := inB_not (by omega)
theorem sset_out (x kk b' : Int) (hp : Pg w A n B m ts rs) (hok : okPg ts rs = true) (hu : usedB ts rs x = true) (h : ¬ (0 ≤ kk ∧ kk < 4) ∨ ((0 ≤ kk ∧ kk < 4) ∧ ¬ (0 ≤ b' ∧ b' ≤ 255))) :
    Calls Try.prog 47 #[.agg #[.slice A n c, .slice B m d], .int .i64 x, .int .i64 kk, .int .i64 b'] w fun e w' => e = .returned (.tuple #[.agg #[.slice none 0 0, .slice none 0 0], .bool false]) ∧ Below w.heap.size w w' := by
  have H1 := Lib.hid hp
  have HPU : Hid (posB rs x = true) := Lib.hid ((posB_used x hok).trans hu)
  have hm : m ≤ 12 := by have := (okPg_parts hok).2.1.2; have := hp.rl; omega
  clear hp hu
  have HW := Lib.hid (show Below w.heap.size w ((w.alloc (.cells #[.slice A n c, .slice B m d] 27)).alloc (.cells #[.slice none 0 0, .slice none 0 0] 27)) from ((Below.refl _ _).alloc (Nat.le_refl _) _).alloc (by simp) _)
  have B1 := Lib.hid ((Box.new w #[.slice A n c, .slice B m d] 27).alloc (.cells #[.slice none 0 0, .slice none 0 0] 27))
  have B2 := Lib.hid (Box.new (w.alloc (.cells #[.slice A n c, .slice B m d] 27)) #[.slice none 0 0, .slice none 0 0] 27)
  simp only [World.size_alloc] at B2
  have h' : inB kk 0 3 = false ∨ (inB kk 0 3 = true ∧ inB b' 0 255 = false) := by
    rcases h with h | ⟨h, h2⟩
    · exact .inl (inB3_not h)
    · exact .inr ⟨inB3 h, inB_not h2⟩
  clear h
  rcases h' with h | ⟨h, h2⟩
  all_goals
    have HI := Lib.hid h
    try have HJ := Lib.hid h2
    clear h
    try clear h2
    go_enter Try.func47, Try.ntmps47
    go_wp2_with fail
    refine (oks_any (H1.out.below HW.out)).mono ?_
    rw [hok]
    rintro e w1 ⟨rfl, hb1⟩
    have HW1 := Lib.hid (HW.out.trans (hb1.mono (by simp; omega)))
    have C1 := Lib.hid (B1.out.below hb1 (by simp; omega))
    have C2 := Lib.hid (B2.out.below hb1 (by simp))
    clear hb1
    have p0 := C1.out.cell 0
    have p1 := C1.out.cell 1
    simp at p0 p1
    go_wp2_with fail
    refine (l1Used_any x (H1.out.below HW1.out).rc (by omega) H1.out.rl).mono ?_
    rw [HPU.out]
    rintro e w2 ⟨rfl, hb2⟩
    have HW2 := Lib.hid (HW1.out.trans (hb2.mono HW1.out.size))
    have D2 := Lib.hid (C2.out.below hb2 C2.out.lt)
    have l1 := D2.out.lt
    clear hb2 p0 p1
    have p0 := D2.out.cell 0
    have p1 := D2.out.cell 1
    have p2 := D2.out.frz 0
    have p3 := D2.out.frz 1
    simp at p0 p1
    go_wp2_with fail
    refine (l6In_any _ _ _ _).mono ?_
    rw [HI.out]
    rintro e w3 ⟨rfl, rfl⟩
    go_wp2_with fail
    first
      | (refine (l6In_any _ _ _ _).mono ?_
         rw [HJ.out]
         rintro e w3 ⟨rfl, rfl⟩
         go_wp2_with fail)
      | skip
    refine bodyPost_ret (v := .tuple #[.agg #[.slice none 0 0, .slice none 0 0], .bool false]) (by simp [results, Try.results47, go_sem, p0, p1]) rfl ⟨rfl, ?_⟩
    exact (HW2.out.setCell (Nat.le_add_right _ _) _).setCell (Nat.le_add_right _ _) _

set_option maxHeartbeats 1000000 in
theorem sset_used (x : Int) (i k b o b2 o2 : Nat) (b' : Int) (hp : Pg w A n B m ts rs) (ha : At w A n B m ts rs x i b o b2 o2) (hu : usedB ts rs x = true) (hk : k < 4) (v0 : 0 ≤ b') (v1 : b' ≤ 255) :
    Calls Try.prog 47 #[.agg #[.slice A n c, .slice B m d], .int .i64 x, .int .i64 k, .int .i64 b'] w fun e w' => ∃ v, e = .returned (.tuple #[v, .bool true]) ∧ Shown w w' v (ts.set i (setS (ts.getD i .empty) k b')) rs := by
  obtain ⟨rfl, hlt, rfl, n12, rfl, rfl, hb, hb2, hc, hc2, r1, r99, hsz⟩ := ha
  obtain ⟨hok, _, _⟩ := usedB_parts hu
  have H1 := Lib.hid hp
  have HC := Lib.hid hc
  have HC2 := Lib.hid hc2
  have HPU : Hid (posB rs (i : Int) = true) := Lib.hid ((posB_used (i : Int) hok).trans hu)
  have HI := Lib.hid (inB3 (kk := (k : Int)) (by omega))
  have HJ := Lib.hid (inB_of (n := b') (lo := 0) (hi := 255) ⟨v0, v1⟩)
  have hlt' : (i : Int) < n := by omega
  have hk0 : (0 : Int) ≤ i := by omega
  have hn0 : 0 < n := by omega
  clear hp hc hc2 hu r1 r99
  have HW := Lib.hid (show Below w.heap.size w ((w.alloc (.cells #[.slice (some ⟨b, o, none⟩) n c, .slice (some ⟨b2, o2, none⟩) n d] 27)).alloc (.cells #[.slice none 0 0, .slice none 0 0] 27)) from ((Below.refl _ _).alloc (Nat.le_refl _) _).alloc (by simp) _)
  have B1 := Lib.hid ((Box.new w #[.slice (some ⟨b, o, none⟩) n c, .slice (some ⟨b2, o2, none⟩) n d] 27).alloc (.cells #[.slice none 0 0, .slice none 0 0] 27))
  have B2 := Lib.hid (Box.new (w.alloc (.cells #[.slice (some ⟨b, o, none⟩) n c, .slice (some ⟨b2, o2, none⟩) n d] 27)) #[.slice none 0 0, .slice none 0 0] 27)
  simp only [World.size_alloc] at B2
  go_enter Try.func47, Try.ntmps47
  go_wp2_with fail
  refine (oks_any (H1.out.below HW.out)).mono ?_
  rw [hok]
  rintro e w1 ⟨rfl, hb1⟩
  have HW1 := Lib.hid (HW.out.trans (hb1.mono (by simp; omega)))
  have C1 := Lib.hid (B1.out.below hb1 (by simp; omega))
  have C2 := Lib.hid (B2.out.below hb1 (by simp))
  clear hb1 B1 B2 HW
  have p0 := C1.out.cell 0
  have p1 := C1.out.cell 1
  simp at p0 p1
  go_wp2_with fail
  refine (l1Used_any (i : Int) (H1.out.below HW1.out).rc (by omega) H1.out.rl).mono ?_
  rw [HPU.out]
  rintro e w2 ⟨rfl, hbb⟩
  have HW2 := Lib.hid (HW1.out.trans (hbb.mono HW1.out.size))
  have D1 := Lib.hid (C1.out.below hbb C1.out.lt)
  have D2 := Lib.hid (C2.out.below hbb C2.out.lt)
  clear hbb p0 p1
  have p0 := D1.out.cell 0
  have p1 := D1.out.cell 1
  have l0 := D1.out.lt
  have l1 := D2.out.lt
  simp at p0 p1
  go_wp2_with fail
  refine (l6In_any _ _ _ _).mono ?_
  rw [HI.out]
  rintro e w3 ⟨rfl, rfl⟩
  go_wp2_with fail
  refine (l6In_any _ _ _ _).mono ?_
  rw [HJ.out]
  rintro e w3 ⟨rfl, rfl⟩
  go_wp2_with fail
  refine (copy_any (H1.out.below HW2.out) (by omega) hn0 (Nat.lt_of_lt_of_le hb HW2.out.size) (Nat.lt_of_lt_of_le hb2 HW2.out.size) (fun j hj => (kc HW2.out _ _ hb).trans (HC.out j hj)) (fun j hj => (kc HW2.out _ _ hb2).trans (HC2.out j hj))).mono ?_
  rintro e w3 ⟨g, cg, g2, cg2, rfl, hq, hb3⟩
  have HQ := Lib.hid hq
  have E2 := Lib.hid (D2.out.below hb3 D2.out.lt)
  have HW3 := Lib.hid (HW2.out.trans (hb3.mono HW2.out.size))
  have lq := hq.rr.lt
  have lq1 := hq.tr.lt
  have ll1 := hq.l1
  have ll2 := hq.l2
  generalize hse : ts.getD i .empty = s at hsz
  have HSE := Lib.hid hse
  have c2 : w3.cell? ⟨g, i, none⟩ = some (.string s) := (hq.tr.cell hlt).trans (by rw [hse])
  have c3 : w3.frozen? ⟨g, i, none⟩ = false := hq.tr.frozen i
  have l3 := E2.out.lt
  clear hq hb3 p0 p1 hse
  have hs4 : s.size = 4 := by omega
  have hgn : g ≠ w3.heap.size := by omega
  have HD := Lib.hid (show Below w3.heap.size w3 (w3.alloc (.cells #[.slice (some ⟨g, 0, none⟩) n cg, .slice (some ⟨g2, 0, none⟩) n cg2] 27)).drew from ((Below.refl _ _).alloc (Nat.le_refl _) _).drew)
  have q0 := (Box.new w3 #[.slice (some ⟨g, 0, none⟩) n cg, .slice (some ⟨g2, 0, none⟩) n cg2] 27).cell 0
  have q1 := (Box.new w3 #[.slice (some ⟨g, 0, none⟩) n cg, .slice (some ⟨g2, 0, none⟩) n cg2] 27).cell 1
  simp at q0 q1
  go_wp2_with fail
  go_region_with (first
    | (go_at_call 80
       refine (l1Set_any s k b' hs4 hk v0 v1 _).mono ?_
       rintro e w5 ⟨rfl, hb5⟩
       have HB5 := Lib.hid (HD.out.trans (hb5.mono HD.out.size))
       have HQ5 := Lib.hid (HQ.out.below HB5.out)
       have E5 := Lib.hid (E2.out.below HB5.out E2.out.lt)
       have OB := Lib.hid (((Box.new w3 #[.slice (some ⟨g, 0, none⟩) n cg, .slice (some ⟨g2, 0, none⟩) n cg2] 27).drew).below hb5 (by show w3.heap.size < (w3.alloc _).heap.size; rw [World.size_alloc]; omega))
       have r0 : w5.cell? ⟨w3.heap.size, 0, none⟩ = some (.slice (some ⟨g, 0, none⟩) n cg) := OB.out.cell 0
       have r1 : w5.cell? ⟨w3.heap.size, 1, none⟩ = some (.slice (some ⟨g2, 0, none⟩) n cg2) := OB.out.cell 1
       have r2 : ∃ s0, w5.cell? ⟨g, i, none⟩ = some (.string s0) := ⟨_, HQ5.out.tr.cell hlt⟩
       obtain ⟨s0, r2⟩ := r2
       have r3 : w5.frozen? ⟨g, i, none⟩ = false := HQ5.out.tr.frozen i
       clear hb5))
  all_goals
    have OZ := Lib.hid (OB.out.other (a := ⟨g, i, none⟩) hgn.symm (.string (setS s k b')))
    have EZ := Lib.hid (E5.out.other (a := ⟨g, i, none⟩) (by show w.heap.size + 1 ≠ g; omega) (.string (setS s k b')))
    have HZ := Lib.hid (((HQ5.out.setT i hlt (setS s k b') (by rw [setS_size, hs4]; simp [maxLen])).off (a := ⟨w.heap.size + 1, 0, none⟩) (by show g ≠ w.heap.size + 1; omega) (by show g2 ≠ w.heap.size + 1; omega) (.slice (some ⟨g, 0, none⟩) n cg)).off (a := ⟨w.heap.size + 1, 1, none⟩) (by show g ≠ w.heap.size + 1; omega) (by show g2 ≠ w.heap.size + 1; omega) (.slice (some ⟨g2, 0, none⟩) n cg2))
    have HWZ := Lib.hid (show Below w.heap.size w (((w5.setCell ⟨g, i, none⟩ (.string (setS s k b'))).setCell ⟨w.heap.size + 1, 0, none⟩ (.slice (some ⟨g, 0, none⟩) n cg)).setCell ⟨w.heap.size + 1, 1, none⟩ (.slice (some ⟨g2, 0, none⟩) n cg2)) from
      (((HW3.out.trans (HB5.out.mono HW3.out.size)).setCell (by show w.heap.size ≤ g; omega) _).setCell (Nat.le_add_right _ _) _).setCell (Nat.le_add_right _ _) _)
    clear r0 r1 r2 r3 q0 q1 c2 c3
    generalize w5.setCell ⟨g, i, none⟩ (.string (setS s k b')) = wz at OZ EZ HZ HWZ ⊢
    have z0 := OZ.out.cell 0
    have z1 := OZ.out.cell 1
    have z2 := EZ.out.cell 0
    have z3 := EZ.out.cell 1
    have z4 := EZ.out.frz 0
    have z5 := EZ.out.frz 1
    simp at z0 z1 z2 z3
    go_wp2
    refine bodyPost_ret (v := .tuple #[.agg #[.slice (some ⟨g, 0, none⟩) n cg, .slice (some ⟨g2, 0, none⟩) n cg2], .bool true]) (by simp [results, Try.results47, go_sem, z2, z3]) rfl ⟨_, rfl, some ⟨g, 0, none⟩, cg, some ⟨g2, 0, none⟩, cg2, ?_, ?_, HWZ.out⟩
    · rw [HSE.out, List.length_set, H1.out.tl, H1.out.rl]
    · rw [HSE.out, List.length_set, H1.out.tl, H1.out.rl]
      exact HZ.out.pg

theorem sset_any (x k b' : Int) (hp : Pg w A n B m ts rs) :
    Calls Try.prog 47 #[.agg #[.slice A n c, .slice B m d], .int .i64 x, .int .i64 k, .int .i64 b'] w fun e w' => ∃ v, e = .returned (.tuple #[v, .bool (setB ts rs x k b')]) ∧ Shown w w' v (setT ts rs x k b') (setR ts rs x k b') := by
  by_cases hB : setB ts rs x k b' = true
  · obtain ⟨hu, ⟨k0, k1⟩, v0, v1⟩ := setB_parts hB
    obtain ⟨i, b, o, b2, o2, ha⟩ := at_of x hp hu
    obtain ⟨K, rfl⟩ : ∃ K : Nat, k = K := ⟨k.toNat, by omega⟩
    have hi : x.toNat = i := by have := ha.xk; omega
    have hT : setT ts rs x K b' = ts.set i (setS (ts.getD i .empty) K b') := by unfold setT; rw [if_pos hB, hi, Int.toNat_natCast]
    have hR : setR ts rs x K b' = rs := if_pos hB
    rw [hB, hT, hR]
    exact sset_used x i K b o b2 o2 b' hp ha hu (by omega) v0 v1
  · have hB' : setB ts rs x k b' = false := by simpa using hB
    rw [hB', setT_no hB', setR_no hB']
    by_cases hok : okPg ts rs = true
    · by_cases hu : usedB ts rs x = true
      · have h := setB_not hB'
        rw [hu] at h
        refine (sset_out x k b' hp hok hu (by
          rcases h with h | h
          · cases h
          · omega)).mono ?_
        rintro e w' ⟨he, hb⟩
        exact ⟨_, he, shown_nil hb⟩
      · refine (sset_free x k b' hp hok (by simpa using hu)).mono ?_
        rintro e w' ⟨he, hb⟩
        exact ⟨_, he, shown_nil hb⟩
    · refine (sset_bad x k b' hp (by simpa using hok)).mono ?_
      rintro e w' ⟨he, hb⟩
      exact ⟨_, he, shown_nil hb⟩
end
end Go.Proofs.Ytemmcjjfjcjbeaa

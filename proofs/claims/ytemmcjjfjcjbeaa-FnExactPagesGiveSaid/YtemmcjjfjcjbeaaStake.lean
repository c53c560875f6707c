/-
  The model's PagesTake, PagesKeep and PagesGive.
-/
import Derived.Test.YtemmcjjfjcjbeaaCpy
import Derived.Test.YtemmcjjfjcjbeaaGive
namespace Go.Proofs.Ytemmcjjfjcjbeaa
open Go.RowKit

/-- pages that read so, in memory that was not there before or nothing -/
def Shown (w w' : World) (v : Value) (ts : List ByteArray) (rs : List Int) : Prop :=
  ∃ (C : Option Addr) (c : Nat) (D : Option Addr) (d : Nat), v = .agg #[.slice C ts.length c, .slice D rs.length d] ∧ Pg w' C ts.length D rs.length ts rs ∧ Below w.heap.size w w'
theorem pg_nil (w : World) : Pg w none 0 none 0 [] [] := (gp_nil w 0).pg
theorem shown_nil {w w' : World} (hb : Below w.heap.size w w') : Shown w w' (.agg #[.slice none 0 0, .slice none 0 0]) [] [] := ⟨none, 0, none, 0, rfl, pg_nil _, hb⟩

section
variable {A : Option Addr} {n c : Nat} {B : Option Addr} {m d : Nat} {ts : List ByteArray} {rs : List Int} {w : World}

theorem stake_no (s : ByteArray) (hs : s.size ≤ maxLen) (hp : Pg w A n B m ts rs) (h : okPg ts rs = false ∨ (okPg ts rs = true ∧ ¬ (s.size : Int) = 4)) :
    Calls Try.prog 33 #[.agg #[.slice A n c, .slice B m d], .string s] w fun e w' => e = .returned (.tuple #[.agg #[.slice none 0 0, .slice none 0 0], .int .i64 (-1), .bool false]) ∧ Below w.heap.size w w' := by
  have H1 := Lib.hid hp
  have hs' : s.size ≤ 9223372036854775807 := hs
  clear hp
  have HW := Lib.hid (show Below w.heap.size w ((w.alloc (.cells #[.slice A n c, .slice B m d] 27)).alloc (.cells #[.slice none 0 0, .slice none 0 0] 27)) from ((Below.refl _ _).alloc (Nat.le_refl _) _).alloc (by simp) _)
  have B2 := Lib.hid (Box.new (w.alloc (.cells #[.slice A n c, .slice B m d] 27)) #[.slice none 0 0, .slice none 0 0] 27)
  simp only [World.size_alloc] at B2
  rcases h with hok | ⟨hok, hsz⟩
  all_goals
    first | have hsb : ((s.size : Int) != 4) = true := by (rw [bne_iff_ne]; exact hsz) | skip
    try clear hsz
    go_enter Try.func33, Try.ntmps33
    go_wp2_with fail
    refine (oks_any (H1.out.below HW.out)).mono ?_
    rw [hok]
    rintro e w1 ⟨rfl, hb1⟩
    have HW1 := Lib.hid (HW.out.trans (hb1.mono (by simp; omega)))
    have C2 := Lib.hid (B2.out.below hb1 (by simp))
    have l1 := C2.out.lt
    clear hb1
    have p0 := C2.out.cell 0
    have p1 := C2.out.cell 1
    have p2 := C2.out.frz 0
    have p3 := C2.out.frz 1
    simp at p0 p1
    go_wp2_with fail
    refine bodyPost_ret (v := .tuple #[.agg #[.slice none 0 0, .slice none 0 0], .int .i64 (-1), .bool false]) (by simp [results, Try.results33, go_sem, p0, p1]) rfl ⟨rfl, ?_⟩
    exact (HW1.out.setCell (Nat.le_add_right _ _) _).setCell (Nat.le_add_right _ _) _

theorem stake_main (s : ByteArray) (hsz : (s.size : Int) = 4) (b o b2 o2 : Nat) (hok : okPg ts rs = true) (hp : Pg w (some ⟨b, o, none⟩) n (some ⟨b2, o2, none⟩) n ts rs) (hb : b < w.heap.size) (hb2 : b2 < w.heap.size)
    (hc : ∀ k, k < n → w.cell? ⟨b, o + k, none⟩ = some (.string (ts.getD k .empty))) (hc2 : ∀ k, k < n → w.cell? ⟨b2, o2 + k, none⟩ = some (.int .i64 (rs.getD k 0))) :
    Calls Try.prog 33 #[.agg #[.slice (some ⟨b, o, none⟩) n c, .slice (some ⟨b2, o2, none⟩) n d], .string s] w fun e w' => ∃ v, e = .returned (.tuple #[v, .int .i64 (takeI ts rs s), .bool (takeB ts rs s)]) ∧ Shown w w' v (takeT ts rs s) (takeR ts rs s) := by
  have H1 := Lib.hid hp
  have HC := Lib.hid hc
  have HC2 := Lib.hid hc2
  have HK := Lib.hid (okPg_parts hok)
  have HOK := Lib.hid hok
  have HM := Lib.hid hp.rl
  have HSZ := Lib.hid hsz
  have HSM := Lib.hid (show s.size ≤ maxLen by simp only [maxLen]; omega)
  have hs0 : s.size ≤ 4 := by omega
  have hsb : ((s.size : Int) != 4) = false := by rw [bne_eq_false_iff_eq]; exact hsz
  have hn0 : 0 < n := by have := HK.out.2.1.1; have := HM.out; omega
  have h12 : n ≤ 12 := by have := HK.out.2.1.2; have := HM.out; omega
  clear hp hc hc2 hsz
  have HW := Lib.hid (show Below w.heap.size w ((w.alloc (.cells #[.slice (some ⟨b, o, none⟩) n c, .slice (some ⟨b2, o2, none⟩) n d] 27)).alloc (.cells #[.slice none 0 0, .slice none 0 0] 27)) from ((Below.refl _ _).alloc (Nat.le_refl _) _).alloc (by simp) _)
  have B1 := Lib.hid ((Box.new w #[.slice (some ⟨b, o, none⟩) n c, .slice (some ⟨b2, o2, none⟩) n d] 27).alloc (.cells #[.slice none 0 0, .slice none 0 0] 27))
  have B2 := Lib.hid (Box.new (w.alloc (.cells #[.slice (some ⟨b, o, none⟩) n c, .slice (some ⟨b2, o2, none⟩) n d] 27)) #[.slice none 0 0, .slice none 0 0] 27)
  simp only [World.size_alloc] at B2
  go_enter Try.func33, Try.ntmps33
  go_wp2_with fail
  refine (oks_any (H1.out.below HW.out)).mono ?_
  rw [hok]
  rintro e w1 ⟨rfl, hb1⟩
  have HW1 := Lib.hid (HW.out.trans (hb1.mono (by simp; omega)))
  have C1 := Lib.hid (B1.out.below hb1 (by simp; omega))
  have C2 := Lib.hid (B2.out.below hb1 (by simp))
  clear hb1 B1 B2 HW
  have p0 := C1.out.cell 0
  have p1 := C1.out.cell 1
  simp at p0 p1
  go_wp2_with fail
  refine (copy_any (H1.out.below HW1.out) (by omega) hn0 (Nat.lt_of_lt_of_le hb HW1.out.size) (Nat.lt_of_lt_of_le hb2 HW1.out.size) (fun j hj => (kc HW1.out _ _ hb).trans (HC.out j hj)) (fun j hj => (kc HW1.out _ _ hb2).trans (HC2.out j hj))).mono ?_
  rintro e w2 ⟨g, cg, g2, cg2, rfl, hq, hb3⟩
  have HB3 := Lib.hid hb3
  have HQ := Lib.hid hq
  clear hq hb3 p0 p1
  go_wp2_with fail
  refine (l1Take_any s HSM.out HQ.out HB3.out.size).mono ?_
  rintro e w3 ⟨rfl, hq3, hb4⟩
  have HB4 := Lib.hid (HB3.out.trans hb4)
  have HQ3 := Lib.hid hq3
  have D2 := Lib.hid (C2.out.below HB4.out C2.out.lt)
  have HW3 := Lib.hid (HW1.out.trans (HB4.out.mono HW1.out.size))
  have l1 := D2.out.lt
  clear hq3 hb4
  have q0 := D2.out.cell 0
  have q1 := D2.out.cell 1
  have q2 := D2.out.frz 0
  have q3 := D2.out.frz 1
  simp at q0 q1
  have hl1 := HQ.out.l1
  have hl2 := HQ.out.l2
  have hC2 := C2.out.lt
  by_cases hF : firstZ rs < rs.length
  · have hT1 : l1T ts rs s = ts.set (firstZ rs) s := if_pos hF
    have hR1 : l1R rs = rs.set (firstZ rs) 1 := if_pos hF
    have hI1 : l1I rs = firstZ rs := if_pos hF
    have HT1 := Lib.hid hT1
    have HR1 := Lib.hid hR1
    have HI1 := Lib.hid hI1
    have hB : takeB ts rs s = true := by unfold takeB; rw [HOK.out, decide_eq_true ⟨HSZ.out, hF⟩]; rfl
    have HTT := Lib.hid (show takeT ts rs s = ts.set (firstZ rs) s from if_pos hB)
    have HRR := Lib.hid (show takeR ts rs s = rs.set (firstZ rs) 1 from if_pos hB)
    have HII := Lib.hid (show takeI ts rs s = firstZ rs from if_pos hB)
    have HBB := Lib.hid hB
    clear hT1 hR1 hI1 hB
    rw [HI1.out]
    have hnn : (0 : Int) ≤ (firstZ rs : Int) := by omega
    go_wp2_with fail
    rw [HTT.out, HRR.out, HII.out, HBB.out]
    refine bodyPost_ret (v := .tuple #[.agg #[.slice (some ⟨g, 0, none⟩) n cg, .slice (some ⟨g2, 0, none⟩) n cg2], .int .i64 (firstZ rs), .bool true]) (by simp [results, Try.results33, go_sem, q0, q1, l1]) rfl ⟨_, rfl, some ⟨g, 0, none⟩, cg, some ⟨g2, 0, none⟩, cg2, ?_, ?_, ?_⟩
    · rw [List.length_set, H1.out.tl, List.length_set, H1.out.rl]
    · rw [List.length_set, H1.out.tl, List.length_set, H1.out.rl]
      have hqq := HQ3.out
      rw [HT1.out, HR1.out] at hqq
      exact (((hqq.off (a := ⟨w.heap.size + 1, 0, none⟩) (by show g ≠ w.heap.size + 1; omega) (by show g2 ≠ w.heap.size + 1; omega) _).off (a := ⟨w.heap.size + 1, 1, none⟩) (by show g ≠ w.heap.size + 1; omega) (by show g2 ≠ w.heap.size + 1; omega) _).below ((Below.refl _ _).alloc (Nat.le_refl _) _)).pg
    · exact ((HW3.out.setCell (Nat.le_add_right _ _) _).setCell (Nat.le_add_right _ _) _).alloc (by simp only [World.size_setCell]; exact HW3.out.size) _
  · have hI1 : l1I rs = -1 := if_neg hF
    have hB : takeB ts rs s = false := by unfold takeB; rw [decide_eq_false (fun g => hF g.2), Bool.and_false]
    have HTT := Lib.hid (show takeT ts rs s = [] by unfold takeT; rw [hB]; rfl)
    have HRR := Lib.hid (show takeR ts rs s = [] by unfold takeR; rw [hB]; rfl)
    have HII := Lib.hid (show takeI ts rs s = -1 by unfold takeI; rw [hB]; rfl)
    have HBB := Lib.hid hB
    have HI1 := Lib.hid hI1
    clear hI1 hB hF
    rw [HI1.out]
    go_wp2_with fail
    rw [HTT.out, HRR.out, HII.out, HBB.out]
    refine bodyPost_ret (v := .tuple #[.agg #[.slice none 0 0, .slice none 0 0], .int .i64 (-1), .bool false]) (by simp [results, Try.results33, go_sem, q0, q1, l1]) rfl ⟨_, rfl, shown_nil ?_⟩
    exact ((HW3.out.setCell (Nat.le_add_right _ _) _).setCell (Nat.le_add_right _ _) _).alloc (by simp only [World.size_setCell]; exact HW3.out.size) _

theorem stake_any (s : ByteArray) (hs : s.size ≤ maxLen) (hp : Pg w A n B m ts rs) :
    Calls Try.prog 33 #[.agg #[.slice A n c, .slice B m d], .string s] w fun e w' => ∃ v, e = .returned (.tuple #[v, .int .i64 (takeI ts rs s), .bool (takeB ts rs s)]) ∧ Shown w w' v (takeT ts rs s) (takeR ts rs s) := by
  by_cases hgo : okPg ts rs = true ∧ (s.size : Int) = 4
  · obtain ⟨hok, hsz⟩ := hgo
    obtain ⟨k1, k2, k3⟩ := okPg_parts hok
    have h1 := hp.tl
    have h2 := hp.rl
    obtain rfl : n = m := by omega
    obtain ⟨b, o, rfl, hb, hc⟩ := hp.tc (by omega)
    obtain ⟨b2, o2, rfl, hb2, hc2⟩ := hp.rc (by omega)
    exact stake_main s hsz b o b2 o2 hok hp hb hb2 hc hc2
  · have hB : takeB ts rs s = false := by
      unfold takeB
      by_cases hok : okPg ts rs = true
      · rw [decide_eq_false (fun g => hgo ⟨hok, g.1⟩), Bool.and_false]
      · have : okPg ts rs = false := by simpa using hok
        rw [this]; rfl
    have hT : takeT ts rs s = [] := by unfold takeT; rw [hB]; rfl
    have hR : takeR ts rs s = [] := by unfold takeR; rw [hB]; rfl
    have hI : takeI ts rs s = -1 := by unfold takeI; rw [hB]; rfl
    rw [hB, hT, hR, hI]
    refine (stake_no s hs hp ?_).mono ?_
    · by_cases hok : okPg ts rs = true
      · exact .inr ⟨hok, fun g => hgo ⟨hok, g⟩⟩
      · exact .inl (by simpa using hok)
    · rintro e w' ⟨he, hb⟩
      exact ⟨_, he, shown_nil hb⟩
end
end Go.Proofs.Ytemmcjjfjcjbeaa

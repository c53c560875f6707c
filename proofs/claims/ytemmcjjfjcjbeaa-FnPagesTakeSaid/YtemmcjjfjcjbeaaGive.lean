/-
  The program's PagesGive.
-/
import Derived.Test.YtemmcjjfjcjbeaaKeep
namespace Go.Proofs.Ytemmcjjfjcjbeaa
open Go.RowKit

section
variable {A : Option Addr} {n c : Nat} {B : Option Addr} {m d : Nat} {ts : List ByteArray} {rs : List Int} {w : World}
theorem give_no (x : Int) (hp : Pg w A n B m ts rs) (h : usedB ts rs x = false) :
    Calls Try.prog 35 #[.agg #[.slice A n c, .slice B m d], .int .i64 x] w fun e w' => e = .returned (.tuple #[.agg #[.slice none 0 0, .slice none 0 0], .bool false]) ∧ Below w.heap.size w w' := by
  have H1 := Lib.hid hp
  clear hp
  have HW := Lib.hid (show Below w.heap.size w ((w.alloc (.cells #[.slice A n c, .slice B m d] 27)).alloc (.cells #[.slice none 0 0, .slice none 0 0] 27)) from ((Below.refl _ _).alloc (Nat.le_refl _) _).alloc (by simp) _)
  have B2 := Lib.hid (Box.new (w.alloc (.cells #[.slice A n c, .slice B m d] 27)) #[.slice none 0 0, .slice none 0 0] 27)
  simp only [World.size_alloc] at B2
  generalize hS : takenS ts rs x = s
  generalize hR : takenR ts rs x = r
  generalize hU : usedB ts rs x = u at h
  have HS := Lib.hid hS
  have HR := Lib.hid hR
  have HU := Lib.hid hU
  clear hS hR hU
  obtain rfl := h
  all_goals
    go_enter Try.func35, Try.ntmps35
    go_wp2_with fail
    refine (taken_any x (H1.out.below HW.out)).mono ?_
    rw [HS.out, HR.out, HU.out]
    rintro e w1 ⟨rfl, hb1⟩
    have HW1 := Lib.hid (HW.out.trans (hb1.mono (by simp; omega)))
    have C2 := Lib.hid (B2.out.below hb1 (by simp))
    have l1 := C2.out.lt
    clear hb1
    have p0 := C2.out.cell 0
    have p1 := C2.out.cell 1
    have p2 := C2.out.frz 0
    have p3 := C2.out.frz 1
    simp at p0 p1
    go_wp2_with fail
    refine bodyPost_ret (v := .tuple #[.agg #[.slice none 0 0, .slice none 0 0], .bool false]) (by simp [results, Try.results35, go_sem, p0, p1, l1]) rfl ⟨rfl, ?_⟩
    exact ((HW1.out.setCell (Nat.le_add_right _ _) _).setCell (Nat.le_add_right _ _) _).alloc (by simp only [World.size_setCell]; exact HW1.out.size) _

theorem give_some (x : Int) (k b o b2 o2 : Nat) (hp : Pg w A n B m ts rs) (ha : At w A n B m ts rs x k b o b2 o2) (hu : usedB ts rs x = true) (h99 : rs.getD k 0 ≠ 1) :
    Calls Try.prog 35 #[.agg #[.slice A n c, .slice B m d], .int .i64 x] w fun e w' => ∃ v, e = .returned (.tuple #[v, .bool true]) ∧ Made w w' v ts (rs.set k (rs.getD k 0 - 1)) := by
  obtain ⟨rfl, hlt, rfl, n12, rfl, rfl, hb, hb2, hc, hc2, r1, r99, hsz⟩ := ha
  have H1 := Lib.hid hp
  have HC := Lib.hid hc
  have HC2 := Lib.hid hc2
  have HS : Hid (takenS ts rs (k : Int) = ts.getD k .empty) := takenS_yes hu
  have HR : Hid (takenR ts rs (k : Int) = rs.getD k 0) := takenR_yes hu
  have HU := Lib.hid hu
  have HSE := Lib.hid (set_self ts k .empty)
  clear hp hc hc2 hu
  generalize ts.getD k .empty = s at HS HSE hsz
  generalize rs.getD k 0 = r at HR r1 r99 h99
  have hsm : s.size ≤ maxLen := by simp only [maxLen]; omega
  have HSM := Lib.hid hsm
  have HW := Lib.hid (show Below w.heap.size w ((w.alloc (.cells #[.slice (some ⟨b, o, none⟩) n c, .slice (some ⟨b2, o2, none⟩) n d] 27)).alloc (.cells #[.slice none 0 0, .slice none 0 0] 27)) from ((Below.refl _ _).alloc (Nat.le_refl _) _).alloc (by simp) _)
  have B1 := Lib.hid ((Box.new w #[.slice (some ⟨b, o, none⟩) n c, .slice (some ⟨b2, o2, none⟩) n d] 27).alloc (.cells #[.slice none 0 0, .slice none 0 0] 27))
  have B2 := Lib.hid (Box.new (w.alloc (.cells #[.slice (some ⟨b, o, none⟩) n c, .slice (some ⟨b2, o2, none⟩) n d] 27)) #[.slice none 0 0, .slice none 0 0] 27)
  simp only [World.size_alloc] at B2
  clear hsm hsz
  go_enter Try.func35, Try.ntmps35
  go_wp2_with fail
  refine (taken_any (k : Int) (H1.out.below HW.out)).mono ?_
  rw [HS.out, HR.out, HU.out]
  rintro e w1 ⟨rfl, hb1⟩
  have HW1 := Lib.hid (HW.out.trans (hb1.mono (by simp; omega)))
  have C1 := Lib.hid (B1.out.below hb1 (by simp; omega))
  have C2 := Lib.hid (B2.out.below hb1 (by simp))
  have l0 := C1.out.lt
  have l1 := C2.out.lt
  clear hb1
  have p0 := C1.out.cell 0
  have p1 := C1.out.cell 1
  have hne : (r - 1 == 0) = false := by rw [beq_eq_false_iff_ne]; omega
  simp at p0 p1
  go_wp2_with fail
  have HWa := Lib.hid (HW1.out.alloc HW1.out.size (.cells #[.string s, .int .i64 (r - 1)] 74))
  refine (with_any (w := w1.alloc (.cells #[.string s, .int .i64 (r - 1)] 74)) (H1.out.below HWa.out) (by omega) (Nat.lt_of_lt_of_le hb HWa.out.size) (Nat.lt_of_lt_of_le hb2 HWa.out.size) (fun j hj => (kc HWa.out _ _ hb).trans (HC.out j hj)) (fun j hj => (kc HWa.out _ _ hb2).trans (HC2.out j hj)) k hlt s (r - 1) HSM.out).mono ?_
  rintro e w2 ⟨g, g2, rfl, hg, hb3⟩
  have D2 := Lib.hid ((C2.out.alloc (.cells #[.string s, .int .i64 (r - 1)] 74)).below hb3 (by simp only [World.size_alloc]; omega))
  have HW2 := Lib.hid (HWa.out.trans (hb3.mono HWa.out.size))
  have HG := Lib.hid hg
  have l2 := D2.out.lt
  clear hg hb3 p0 p1
  have q0 := D2.out.cell 0
  have q1 := D2.out.cell 1
  have q2 := D2.out.frz 0
  have q3 := D2.out.frz 1
  simp at q0 q1
  go_wp2_with fail
  refine bodyPost_ret (v := .tuple #[.agg #[.slice (some ⟨g, 0, none⟩) n n, .slice (some ⟨g2, 0, none⟩) n n], .bool true]) (by simp [results, Try.results35, go_sem, q0, q1]) rfl ⟨_, rfl, some ⟨g, 0, none⟩, n, some ⟨g2, 0, none⟩, n, ?_, ?_, ?_⟩
  · rw [H1.out.tl, List.length_set, H1.out.rl]
  · rw [H1.out.tl, List.length_set, H1.out.rl]
    have hgg := HG.out
    rw [HSE.out] at hgg
    exact ((hgg.off (by simp only [World.size_alloc]; omega) _).off (by simp only [World.size_alloc]; omega) _).low (by simp only [World.size_alloc]; have := HW1.out.size; omega)
  · exact (HW2.out.setCell (Nat.le_add_right _ _) _).setCell (Nat.le_add_right _ _) _

theorem give_last (x : Int) (k b o b2 o2 : Nat) (hp : Pg w A n B m ts rs) (ha : At w A n B m ts rs x k b o b2 o2) (hu : usedB ts rs x = true) (h99 : rs.getD k 0 = 1) :
    Calls Try.prog 35 #[.agg #[.slice A n c, .slice B m d], .int .i64 x] w fun e w' => ∃ v, e = .returned (.tuple #[v, .bool true]) ∧ Made w w' v (ts.set k .empty) (rs.set k 0) := by
  obtain ⟨rfl, hlt, rfl, n12, rfl, rfl, hb, hb2, hc, hc2, r1, r99, hsz⟩ := ha
  have H1 := Lib.hid hp
  have HC := Lib.hid hc
  have HC2 := Lib.hid hc2
  have HS : Hid (takenS ts rs (k : Int) = ts.getD k .empty) := takenS_yes hu
  have HR : Hid (takenR ts rs (k : Int) = rs.getD k 0) := takenR_yes hu
  have HU := Lib.hid hu
  have HSE := Lib.hid (set_self ts k .empty)
  clear hp hc hc2 hu
  generalize ts.getD k .empty = s at HS HSE hsz
  rw [h99] at HR
  clear h99 r1 r99
  have hsm : ByteArray.empty.size ≤ maxLen := by simp [maxLen]
  have HSM := Lib.hid hsm
  have HW := Lib.hid (show Below w.heap.size w ((w.alloc (.cells #[.slice (some ⟨b, o, none⟩) n c, .slice (some ⟨b2, o2, none⟩) n d] 27)).alloc (.cells #[.slice none 0 0, .slice none 0 0] 27)) from ((Below.refl _ _).alloc (Nat.le_refl _) _).alloc (by simp) _)
  have B1 := Lib.hid ((Box.new w #[.slice (some ⟨b, o, none⟩) n c, .slice (some ⟨b2, o2, none⟩) n d] 27).alloc (.cells #[.slice none 0 0, .slice none 0 0] 27))
  have B2 := Lib.hid (Box.new (w.alloc (.cells #[.slice (some ⟨b, o, none⟩) n c, .slice (some ⟨b2, o2, none⟩) n d] 27)) #[.slice none 0 0, .slice none 0 0] 27)
  simp only [World.size_alloc] at B2
  clear hsm hsz
  go_enter Try.func35, Try.ntmps35
  go_wp2_with fail
  refine (taken_any (k : Int) (H1.out.below HW.out)).mono ?_
  rw [HS.out, HR.out, HU.out]
  rintro e w1 ⟨rfl, hb1⟩
  have HW1 := Lib.hid (HW.out.trans (hb1.mono (by simp; omega)))
  have C1 := Lib.hid (B1.out.below hb1 (by simp; omega))
  have C2 := Lib.hid (B2.out.below hb1 (by simp))
  have l0 := C1.out.lt
  have l1 := C2.out.lt
  clear hb1
  have p0 := C1.out.cell 0
  have p1 := C1.out.cell 1
  simp at p0 p1
  go_wp2_with fail
  have HWa := Lib.hid (HW1.out.alloc HW1.out.size (.cells #[.string .empty, .int .i64 (0)] 74))
  refine (with_any (w := w1.alloc (.cells #[.string .empty, .int .i64 (0)] 74)) (H1.out.below HWa.out) (by omega) (Nat.lt_of_lt_of_le hb HWa.out.size) (Nat.lt_of_lt_of_le hb2 HWa.out.size) (fun j hj => (kc HWa.out _ _ hb).trans (HC.out j hj)) (fun j hj => (kc HWa.out _ _ hb2).trans (HC2.out j hj)) k hlt .empty (0) HSM.out).mono ?_
  rintro e w2 ⟨g, g2, rfl, hg, hb3⟩
  have D2 := Lib.hid ((C2.out.alloc (.cells #[.string .empty, .int .i64 (0)] 74)).below hb3 (by simp only [World.size_alloc]; omega))
  have HW2 := Lib.hid (HWa.out.trans (hb3.mono HWa.out.size))
  have HG := Lib.hid hg
  have l2 := D2.out.lt
  clear hg hb3 p0 p1
  have q0 := D2.out.cell 0
  have q1 := D2.out.cell 1
  have q2 := D2.out.frz 0
  have q3 := D2.out.frz 1
  simp at q0 q1
  go_wp2_with fail
  refine bodyPost_ret (v := .tuple #[.agg #[.slice (some ⟨g, 0, none⟩) n n, .slice (some ⟨g2, 0, none⟩) n n], .bool true]) (by simp [results, Try.results35, go_sem, q0, q1]) rfl ⟨_, rfl, some ⟨g, 0, none⟩, n, some ⟨g2, 0, none⟩, n, ?_, ?_, ?_⟩
  · rw [List.length_set, H1.out.tl, List.length_set, H1.out.rl]
  · rw [List.length_set, H1.out.tl, List.length_set, H1.out.rl]
    have hgg := HG.out
    exact ((hgg.off (by simp only [World.size_alloc]; omega) _).off (by simp only [World.size_alloc]; omega) _).low (by simp only [World.size_alloc]; have := HW1.out.size; omega)
  · exact (HW2.out.setCell (Nat.le_add_right _ _) _).setCell (Nat.le_add_right _ _) _


theorem give_any (x : Int) (hp : Pg w A n B m ts rs) :
    Calls Try.prog 35 #[.agg #[.slice A n c, .slice B m d], .int .i64 x] w fun e w' => ∃ v, e = .returned (.tuple #[v, .bool (usedB ts rs x)]) ∧ Made w w' v (giveT ts rs x) (giveR ts rs x) := by
  by_cases hu : usedB ts rs x = true
  · obtain ⟨k, b, o, b2, o2, ha⟩ := at_of x hp hu
    have hk : x.toNat = k := by have := ha.xk; omega
    have hR : giveR ts rs x = rs.set k (rs.getD k 0 - 1) := by unfold giveR; rw [if_pos hu, hk]
    by_cases h1 : rs.getD k 0 = 1
    · have hT : giveT ts rs x = ts.set k .empty := by unfold giveT; rw [if_pos hu, hk, if_pos h1]
      rw [hu, hT, hR, h1]
      exact give_last x k b o b2 o2 hp ha hu h1
    · have hT : giveT ts rs x = ts := by unfold giveT; rw [if_pos hu, hk, if_neg h1]
      rw [hu, hT, hR]
      exact give_some x k b o b2 o2 hp ha hu h1
  · have hu' : usedB ts rs x = false := by simpa using hu
    have hT : giveT ts rs x = [] := by unfold giveT; rw [hu']; rfl
    have hR : giveR ts rs x = [] := by unfold giveR; rw [hu']; rfl
    rw [hu', hT, hR]
    refine (give_no x hp hu').mono ?_
    rintro e w' ⟨he, hb⟩
    exact ⟨_, he, made_nil hb⟩
end
end Go.Proofs.Ytemmcjjfjcjbeaa

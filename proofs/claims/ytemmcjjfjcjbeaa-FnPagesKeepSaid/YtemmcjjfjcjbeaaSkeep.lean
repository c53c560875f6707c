/-
  The model's PagesKeep.
-/
import Derived.Test.YtemmcjjfjcjbeaaStake
namespace Go.Proofs.Ytemmcjjfjcjbeaa
open Go.RowKit

section
variable {A : Option Addr} {n c : Nat} {B : Option Addr} {m d : Nat} {ts : List ByteArray} {rs : List Int} {w : World}

theorem skeep_bad (x : Int) (hp : Pg w A n B m ts rs) (hok : okPg ts rs = false) :
    Calls Try.prog 38 #[.agg #[.slice A n c, .slice B m d], .int .i64 x] w fun e w' => e = .returned (.tuple #[.agg #[.slice none 0 0, .slice none 0 0], .bool false]) ∧ Below w.heap.size w w' := by
  have H1 := Lib.hid hp
  clear hp
  have HW := Lib.hid (show Below w.heap.size w ((w.alloc (.cells #[.slice A n c, .slice B m d] 27)).alloc (.cells #[.slice none 0 0, .slice none 0 0] 27)) from ((Below.refl _ _).alloc (Nat.le_refl _) _).alloc (by simp) _)
  have B2 := Lib.hid (Box.new (w.alloc (.cells #[.slice A n c, .slice B m d] 27)) #[.slice none 0 0, .slice none 0 0] 27)
  simp only [World.size_alloc] at B2
  go_enter Try.func38, Try.ntmps38
  go_wp2_with fail
  refine (oks_any (H1.out.below HW.out)).mono ?_
  rw [hok]
  rintro e w1 ⟨rfl, hb1⟩
  have HW1 := Lib.hid (HW.out.trans (hb1.mono (by simp; omega)))
  have C2 := Lib.hid (B2.out.below hb1 (by simp))
  have l1 := C2.out.lt
  clear hb1
  have p0 := C2.out.cell 0
  have p1 := C2.out.cell 1
  have p2 := C2.out.frz 0
  have p3 := C2.out.frz 1
  simp at p0 p1
  go_wp2_with fail
  refine bodyPost_ret (v := .tuple #[.agg #[.slice none 0 0, .slice none 0 0], .bool false]) (by simp [results, Try.results38, go_sem, p0, p1]) rfl ⟨rfl, ?_⟩
  exact (HW1.out.setCell (Nat.le_add_right _ _) _).setCell (Nat.le_add_right _ _) _

theorem skeep_free (x : Int) (hp : Pg w A n B m ts rs) (hok : okPg ts rs = true) (hu : usedB ts rs x = false) :
    Calls Try.prog 38 #[.agg #[.slice A n c, .slice B m d], .int .i64 x] w fun e w' => e = .returned (.tuple #[.agg #[.slice none 0 0, .slice none 0 0], .bool false]) ∧ Below w.heap.size w w' := by
  have H1 := Lib.hid hp
  have HPU : Hid (posB rs x = false) := Lib.hid ((posB_used x hok).trans hu)
  have hm : m ≤ 12 := by have := (okPg_parts hok).2.1.2; have := hp.rl; omega
  clear hp hu
  have HW := Lib.hid (show Below w.heap.size w ((w.alloc (.cells #[.slice A n c, .slice B m d] 27)).alloc (.cells #[.slice none 0 0, .slice none 0 0] 27)) from ((Below.refl _ _).alloc (Nat.le_refl _) _).alloc (by simp) _)
  have B1 := Lib.hid ((Box.new w #[.slice A n c, .slice B m d] 27).alloc (.cells #[.slice none 0 0, .slice none 0 0] 27))
  have B2 := Lib.hid (Box.new (w.alloc (.cells #[.slice A n c, .slice B m d] 27)) #[.slice none 0 0, .slice none 0 0] 27)
  simp only [World.size_alloc] at B2
  go_enter Try.func38, Try.ntmps38
  go_wp2_with fail
  refine (oks_any (H1.out.below HW.out)).mono ?_
  rw [hok]
  rintro e w1 ⟨rfl, hb1⟩
  have HW1 := Lib.hid (HW.out.trans (hb1.mono (by simp; omega)))
  have C1 := Lib.hid (B1.out.below hb1 (by simp; omega))
  have C2 := Lib.hid (B2.out.below hb1 (by simp))
  clear hb1
  have p0 := C1.out.cell 0
  have p1 := C1.out.cell 1
  simp at p0 p1
  go_wp2_with fail
  refine (l1Used_any x (H1.out.below HW1.out).rc (by omega) H1.out.rl).mono ?_
  rw [HPU.out]
  rintro e w2 ⟨rfl, hb2⟩
  have HW2 := Lib.hid (HW1.out.trans (hb2.mono HW1.out.size))
  have D2 := Lib.hid (C2.out.below hb2 C2.out.lt)
  have l1 := D2.out.lt
  clear hb2 p0 p1
  have p0 := D2.out.cell 0
  have p1 := D2.out.cell 1
  have p2 := D2.out.frz 0
  have p3 := D2.out.frz 1
  simp at p0 p1
  go_wp2_with fail
  refine bodyPost_ret (v := .tuple #[.agg #[.slice none 0 0, .slice none 0 0], .bool false]) (by simp [results, Try.results38, go_sem, p0, p1]) rfl ⟨rfl, ?_⟩
  exact (HW2.out.setCell (Nat.le_add_right _ _) _).setCell (Nat.le_add_right _ _) _

theorem skeep_used (x : Int) (k b o b2 o2 : Nat) (hp : Pg w A n B m ts rs) (ha : At w A n B m ts rs x k b o b2 o2) (hu : usedB ts rs x = true) :
    Calls Try.prog 38 #[.agg #[.slice A n c, .slice B m d], .int .i64 x] w fun e w' => ∃ v, e = .returned (.tuple #[v, .bool (keepB ts rs x)]) ∧ Shown w w' v (keepT ts rs x) (keepR ts rs x) := by
  obtain ⟨rfl, hlt, rfl, n12, rfl, rfl, hb, hb2, hc, hc2, r1, r99, hsz⟩ := ha
  obtain ⟨hok, _, _⟩ := usedB_parts hu
  have H1 := Lib.hid hp
  have HC := Lib.hid hc
  have HC2 := Lib.hid hc2
  have HPU : Hid (posB rs (k : Int) = true) := Lib.hid ((posB_used (k : Int) hok).trans hu)
  have HU := Lib.hid hu
  have hlt' : (k : Int) < n := by omega
  have hk0 : (0 : Int) ≤ k := by omega
  have hn0 : 0 < n := by omega
  clear hp hc hc2 hu hsz
  have HW := Lib.hid (show Below w.heap.size w ((w.alloc (.cells #[.slice (some ⟨b, o, none⟩) n c, .slice (some ⟨b2, o2, none⟩) n d] 27)).alloc (.cells #[.slice none 0 0, .slice none 0 0] 27)) from ((Below.refl _ _).alloc (Nat.le_refl _) _).alloc (by simp) _)
  have B1 := Lib.hid ((Box.new w #[.slice (some ⟨b, o, none⟩) n c, .slice (some ⟨b2, o2, none⟩) n d] 27).alloc (.cells #[.slice none 0 0, .slice none 0 0] 27))
  have B2 := Lib.hid (Box.new (w.alloc (.cells #[.slice (some ⟨b, o, none⟩) n c, .slice (some ⟨b2, o2, none⟩) n d] 27)) #[.slice none 0 0, .slice none 0 0] 27)
  simp only [World.size_alloc] at B2
  go_enter Try.func38, Try.ntmps38
  go_wp2_with fail
  refine (oks_any (H1.out.below HW.out)).mono ?_
  rw [hok]
  rintro e w1 ⟨rfl, hb1⟩
  have HW1 := Lib.hid (HW.out.trans (hb1.mono (by simp; omega)))
  have C1 := Lib.hid (B1.out.below hb1 (by simp; omega))
  have C2 := Lib.hid (B2.out.below hb1 (by simp))
  clear hb1 B1 B2 HW
  have p0 := C1.out.cell 0
  have p1 := C1.out.cell 1
  simp at p0 p1
  go_wp2_with fail
  refine (l1Used_any (k : Int) (H1.out.below HW1.out).rc (by omega) H1.out.rl).mono ?_
  rw [HPU.out]
  rintro e w2 ⟨rfl, hbb⟩
  have HW2 := Lib.hid (HW1.out.trans (hbb.mono HW1.out.size))
  have D1 := Lib.hid (C1.out.below hbb C1.out.lt)
  have D2 := Lib.hid (C2.out.below hbb C2.out.lt)
  clear hbb p0 p1
  have c1 : w2.cell? ⟨b2, o2 + k, none⟩ = some (.int .i64 (rs.getD k 0)) := (kc HW2.out _ _ hb2).trans (HC2.out k hlt)
  have p0 := D1.out.cell 0
  have p1 := D1.out.cell 1
  have l0 := D1.out.lt
  have l1 := D2.out.lt
  simp at p0 p1
  by_cases h99 : rs.getD k 0 < 99
  · have hB : keepB ts rs (k : Int) = true := by unfold keepB; rw [HU.out]; simpa using h99
    have HBB := Lib.hid hB
    have HTT := Lib.hid (show keepT ts rs (k : Int) = ts from if_pos hB)
    have HRR := Lib.hid (show keepR ts rs (k : Int) = rs.set k (rs.getD k 0 + 1) from if_pos hB)
    have hge : ¬ 99 ≤ rs.getD k 0 := by omega
    clear hB
    generalize hre : rs.getD k 0 = r at c1 h99 hge HRR r1 r99
    have HRE := Lib.hid hre
    clear hre
    go_wp2_with fail
    refine (copy_any (H1.out.below HW2.out) (by omega) hn0 (Nat.lt_of_lt_of_le hb HW2.out.size) (Nat.lt_of_lt_of_le hb2 HW2.out.size) (fun j hj => (kc HW2.out _ _ hb).trans (HC.out j hj)) (fun j hj => (kc HW2.out _ _ hb2).trans (HC2.out j hj))).mono ?_
    rintro e w3 ⟨g, cg, g2, cg2, rfl, hq, hb3⟩
    have HQ := Lib.hid hq
    have E2 := Lib.hid (D2.out.below hb3 D2.out.lt)
    have HW3 := Lib.hid (HW2.out.trans (hb3.mono HW2.out.size))
    have lq := hq.rr.lt
    have lq1 := hq.tr.lt
    have ll1 := hq.l1
    have ll2 := hq.l2
    have c2 : w3.cell? ⟨g2, k, none⟩ = some (.int .i64 r) := (hq.rr.cell hlt).trans (by rw [HRE.out])
    have c3 : w3.frozen? ⟨g2, k, none⟩ = false := hq.rr.frozen k
    have l3 := E2.out.lt
    clear hq hb3 p0 p1 c1
    have q0 := E2.out.cell 0
    have q1 := E2.out.cell 1
    have q2 := E2.out.frz 0
    have q3 := E2.out.frz 1
    simp at q0 q1
    go_wp2_with fail
    go_region
    go_wp2
    rw [HTT.out, HRR.out, HBB.out]
    refine bodyPost_ret (v := .tuple #[.agg #[.slice (some ⟨g, 0, none⟩) n cg, .slice (some ⟨g2, 0, none⟩) n cg2], .bool true]) (by simp [results, Try.results38, go_sem, q0, q1, l3]) rfl ⟨_, rfl, some ⟨g, 0, none⟩, cg, some ⟨g2, 0, none⟩, cg2, ?_, ?_, ?_⟩
    · rw [H1.out.tl, List.length_set, H1.out.rl]
    · rw [H1.out.tl, List.length_set, H1.out.rl]
      exact ((((HQ.out.setR k hlt (r + 1)).off (a := ⟨w.heap.size + 1, 0, none⟩) (by show g ≠ w.heap.size + 1; omega) (by show g2 ≠ w.heap.size + 1; omega) _).off (a := ⟨w.heap.size + 1, 1, none⟩) (by show g ≠ w.heap.size + 1; omega) (by show g2 ≠ w.heap.size + 1; omega) _).below ((Below.refl _ _).alloc (Nat.le_refl _) _).drew).pg
    · exact ((((HW3.out.setCell (by show w.heap.size ≤ g2; omega) _).setCell (Nat.le_add_right _ _) _).setCell (Nat.le_add_right _ _) _).alloc (by simp only [World.size_setCell]; exact HW3.out.size) _).drew
  · have hB : keepB ts rs (k : Int) = false := by unfold keepB; rw [decide_eq_false (by simpa using h99), Bool.and_false]
    have HBB := Lib.hid hB
    have HTT := Lib.hid (show keepT ts rs (k : Int) = [] by unfold keepT; rw [hB]; rfl)
    have HRR := Lib.hid (show keepR ts rs (k : Int) = [] by unfold keepR; rw [hB]; rfl)
    have hge : 99 ≤ rs.getD k 0 := by omega
    clear hB
    generalize rs.getD k 0 = r at c1 h99 hge r1 r99
    have p4 := D2.out.cell 0
    have p5 := D2.out.cell 1
    have p6 := D2.out.frz 0
    have p7 := D2.out.frz 1
    simp at p4 p5
    go_wp2_with fail
    rw [HTT.out, HRR.out, HBB.out]
    refine bodyPost_ret (v := .tuple #[.agg #[.slice none 0 0, .slice none 0 0], .bool false]) (by simp [results, Try.results38, go_sem, p4, p5]) rfl ⟨_, rfl, shown_nil ?_⟩
    exact (HW2.out.setCell (Nat.le_add_right _ _) _).setCell (Nat.le_add_right _ _) _

theorem skeep_any (x : Int) (hp : Pg w A n B m ts rs) :
    Calls Try.prog 38 #[.agg #[.slice A n c, .slice B m d], .int .i64 x] w fun e w' => ∃ v, e = .returned (.tuple #[v, .bool (keepB ts rs x)]) ∧ Shown w w' v (keepT ts rs x) (keepR ts rs x) := by
  by_cases hu : usedB ts rs x = true
  · obtain ⟨k, b, o, b2, o2, ha⟩ := at_of x hp hu
    exact skeep_used x k b o b2 o2 hp ha hu
  · have hu' : usedB ts rs x = false := by simpa using hu
    have hB : keepB ts rs x = false := by unfold keepB; rw [hu']; rfl
    have hT : keepT ts rs x = [] := by unfold keepT; rw [hB]; rfl
    have hR : keepR ts rs x = [] := by unfold keepR; rw [hB]; rfl
    rw [hB, hT, hR]
    by_cases hok : okPg ts rs = true
    · refine (skeep_free x hp hok hu').mono ?_
      rintro e w' ⟨he, hb⟩
      exact ⟨_, he, shown_nil hb⟩
    · refine (skeep_bad x hp (by simpa using hok)).mono ?_
      rintro e w' ⟨he, hb⟩
      exact ⟨_, he, shown_nil hb⟩
end
end Go.Proofs.Ytemmcjjfjcjbeaa

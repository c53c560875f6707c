/-
  The model's PagesGive.
-/
import Derived.Test.YtemmcjjfjcjbeaaStake
namespace Go.Proofs.Ytemmcjjfjcjbeaa
open Go.RowKit

section
variable {n c d g g2 lo : Nat} {ts : List ByteArray} {rs : List Int} {w : World}

/-- l1Give on pages of the call's own -/
theorem l1Give_any (k : Nat) (hk : k < n) (hq : Gq w lo g g2 n ts rs) (hlo : lo ≤ w.heap.size) (r1 : 1 ≤ rs.getD k 0) (r99 : rs.getD k 0 ≤ 99) :
    Calls Try.prog 78 #[.agg #[.slice (some ⟨g, 0, none⟩) n c, .slice (some ⟨g2, 0, none⟩) n d], .int .i64 k] w fun e w' =>
      e = .returned (.agg #[.slice (some ⟨g, 0, none⟩) n c, .slice (some ⟨g2, 0, none⟩) n d]) ∧ Gq w' lo g g2 n (if rs.getD k 0 = 1 then ts.set k .empty else ts) (rs.set k (rs.getD k 0 - 1)) ∧ Below lo w w' := by
  have HQ := Lib.hid hq
  have hk' : (k : Int) < n := by omega
  have hk0 : (0 : Int) ≤ k := by omega
  have lb := hq.tr.lt
  have lb2 := hq.rr.lt
  have hne := hq.ne_
  have c1 : w.cell? ⟨g, k, none⟩ = some (.string (ts.getD k .empty)) := hq.tr.cell hk
  have f1 : w.frozen? ⟨g, k, none⟩ = false := hq.tr.frozen k
  have c2 : w.cell? ⟨g2, k, none⟩ = some (.int .i64 (rs.getD k 0)) := hq.rr.cell hk
  have f2 : w.frozen? ⟨g2, k, none⟩ = false := hq.rr.frozen k
  clear hq
  generalize ts.getD k .empty = s at c1
  generalize hre : rs.getD k 0 = r at c2 r1 r99
  clear hre
  by_cases h1 : r = 1
  · have hb : (r - 1 == 0) = true := by rw [beq_iff_eq]; omega
    rw [if_pos h1]
    clear h1
    go_enter Try.func78, Try.ntmps78
    go_wp2_with fail
    go_region
    go_wp2
    refine bodyPost_ret (v := .agg #[.slice (some ⟨g, 0, none⟩) n c, .slice (some ⟨g2, 0, none⟩) n d]) (by simp [results, Try.results78, go_sem]) rfl ⟨rfl, ?_, ?_⟩
    · exact ((HQ.out.setR k hk (r - 1)).setT k hk .empty (by simp [maxLen])).below ((((Below.refl _ _).alloc (Nat.le_refl _) _).alloc (by simp) _).drew)
    · exact (((((Below.refl _ _).setCell HQ.out.l2 _).setCell HQ.out.l1 _).alloc (by simp only [World.size_setCell]; exact hlo) _).alloc (by simp only [World.size_alloc, World.size_setCell]; omega) _).drew
  · have hb : (r - 1 == 0) = false := by rw [beq_eq_false_iff_ne]; omega
    rw [if_neg h1]
    clear h1
    go_enter Try.func78, Try.ntmps78
    go_wp2_with fail
    go_region
    go_wp2
    refine bodyPost_ret (v := .agg #[.slice (some ⟨g, 0, none⟩) n c, .slice (some ⟨g2, 0, none⟩) n d]) (by simp [results, Try.results78, go_sem]) rfl ⟨rfl, ?_, ?_⟩
    · exact (HQ.out.setR k hk (r - 1)).below ((((Below.refl _ _).alloc (Nat.le_refl _) _).alloc (by simp) _).drew)
    · exact ((((Below.refl _ _).setCell HQ.out.l2 _).alloc (by simp only [World.size_setCell]; exact hlo) _).alloc (by simp only [World.size_alloc, World.size_setCell]; omega) _).drew
end

section
variable {A : Option Addr} {n c : Nat} {B : Option Addr} {m d : Nat} {ts : List ByteArray} {rs : List Int} {w : World}
theorem sgive_bad (x : Int) (hp : Pg w A n B m ts rs) (hok : okPg ts rs = false) :
    Calls Try.prog 42 #[.agg #[.slice A n c, .slice B m d], .int .i64 x] w fun e w' => e = .returned (.tuple #[.agg #[.slice none 0 0, .slice none 0 0], .bool false]) ∧ Below w.heap.size w w' := by
  have H1 := Lib.hid hp
  clear hp
  have HW := Lib.hid (show Below w.heap.size w ((w.alloc (.cells #[.slice A n c, .slice B m d] 27)).alloc (.cells #[.slice none 0 0, .slice none 0 0] 27)) from ((Below.refl _ _).alloc (Nat.le_refl _) _).alloc (by simp) _)
  have B2 := Lib.hid (Box.new (w.alloc (.cells #[.slice A n c, .slice B m d] 27)) #[.slice none 0 0, .slice none 0 0] 27)
  simp only [World.size_alloc] at B2
  go_enter Try.func42, Try.ntmps42
  go_wp2_with fail
  refine (oks_any (H1.out.below HW.out)).mono ?_
  rw [hok]
  rintro e w1 ⟨rfl, hb1⟩
  have HW1 := Lib.hid (HW.out.trans (hb1.mono (by simp; omega)))
  have C2 := Lib.hid (B2.out.below hb1 (by simp))
  have l1 := C2.out.lt
  clear hb1
  have p0 := C2.out.cell 0
  have p1 := C2.out.cell 1
  have p2 := C2.out.frz 0
  have p3 := C2.out.frz 1
  simp at p0 p1
  go_wp2_with fail
  refine bodyPost_ret (v := .tuple #[.agg #[.slice none 0 0, .slice none 0 0], .bool false]) (by simp [results, Try.results42, go_sem, p0, p1]) rfl ⟨rfl, ?_⟩
  exact (HW1.out.setCell (Nat.le_add_right _ _) _).setCell (Nat.le_add_right _ _) _

theorem sgive_free (x : Int) (hp : Pg w A n B m ts rs) (hok : okPg ts rs = true) (hu : usedB ts rs x = false) :
    Calls Try.prog 42 #[.agg #[.slice A n c, .slice B m d], .int .i64 x] w fun e w' => e = .returned (.tuple #[.agg #[.slice none 0 0, .slice none 0 0], .bool false]) ∧ Below w.heap.size w w' := by
  have H1 := Lib.hid hp
  have HPU : Hid (posB rs x = false) := Lib.hid ((posB_used x hok).trans hu)
  have hm : m ≤ 12 := by have := (okPg_parts hok).2.1.2; have := hp.rl; omega
  clear hp hu
  have HW := Lib.hid (show Below w.heap.size w ((w.alloc (.cells #[.slice A n c, .slice B m d] 27)).alloc (.cells #[.slice none 0 0, .slice none 0 0] 27)) from ((Below.refl _ _).alloc (Nat.le_refl _) _).alloc (by simp) _)
  have B1 := Lib.hid ((Box.new w #[.slice A n c, .slice B m d] 27).alloc (.cells #[.slice none 0 0, .slice none 0 0] 27))
  have B2 := Lib.hid (Box.new (w.alloc (.cells #[.slice A n c, .slice B m d] 27)) #[.slice none 0 0, .slice none 0 0] 27)
  simp only [World.size_alloc] at B2
  go_enter Try.func42, Try.ntmps42
  go_wp2_with fail
  refine (oks_any (H1.out.below HW.out)).mono ?_
  rw [hok]
  rintro e w1 ⟨rfl, hb1⟩
  have HW1 := Lib.hid (HW.out.trans (hb1.mono (by simp; omega)))
  have C1 := Lib.hid (B1.out.below hb1 (by simp; omega))
  have C2 := Lib.hid (B2.out.below hb1 (by simp))
  clear hb1
  have p0 := C1.out.cell 0
  have p1 := C1.out.cell 1
  simp at p0 p1
  go_wp2_with fail
  refine (l1Used_any x (H1.out.below HW1.out).rc (by omega) H1.out.rl).mono ?_
  rw [HPU.out]
  rintro e w2 ⟨rfl, hb2⟩
  have HW2 := Lib.hid (HW1.out.trans (hb2.mono HW1.out.size))
  have D2 := Lib.hid (C2.out.below hb2 C2.out.lt)
  have l1 := D2.out.lt
  clear hb2 p0 p1
  have p0 := D2.out.cell 0
  have p1 := D2.out.cell 1
  have p2 := D2.out.frz 0
  have p3 := D2.out.frz 1
  simp at p0 p1
  go_wp2_with fail
  refine bodyPost_ret (v := .tuple #[.agg #[.slice none 0 0, .slice none 0 0], .bool false]) (by simp [results, Try.results42, go_sem, p0, p1]) rfl ⟨rfl, ?_⟩
  exact (HW2.out.setCell (Nat.le_add_right _ _) _).setCell (Nat.le_add_right _ _) _

theorem sgive_used (x : Int) (k b o b2 o2 : Nat) (hp : Pg w A n B m ts rs) (ha : At w A n B m ts rs x k b o b2 o2) (hu : usedB ts rs x = true) :
    Calls Try.prog 42 #[.agg #[.slice A n c, .slice B m d], .int .i64 x] w fun e w' => ∃ v, e = .returned (.tuple #[v, .bool (usedB ts rs x)]) ∧ Shown w w' v (giveT ts rs x) (giveR ts rs x) := by
  obtain ⟨rfl, hlt, rfl, n12, rfl, rfl, hb, hb2, hc, hc2, r1, r99, hsz⟩ := ha
  obtain ⟨hok, _, _⟩ := usedB_parts hu
  have H1 := Lib.hid hp
  have HC := Lib.hid hc
  have HC2 := Lib.hid hc2
  have HPU : Hid (posB rs (k : Int) = true) := Lib.hid ((posB_used (k : Int) hok).trans hu)
  have HU := Lib.hid hu
  have hlt' : (k : Int) < n := by omega
  have hk0 : (0 : Int) ≤ k := by omega
  have hn0 : 0 < n := by omega
  clear hp hc hc2 hu hsz
  have HW := Lib.hid (show Below w.heap.size w ((w.alloc (.cells #[.slice (some ⟨b, o, none⟩) n c, .slice (some ⟨b2, o2, none⟩) n d] 27)).alloc (.cells #[.slice none 0 0, .slice none 0 0] 27)) from ((Below.refl _ _).alloc (Nat.le_refl _) _).alloc (by simp) _)
  have B1 := Lib.hid ((Box.new w #[.slice (some ⟨b, o, none⟩) n c, .slice (some ⟨b2, o2, none⟩) n d] 27).alloc (.cells #[.slice none 0 0, .slice none 0 0] 27))
  have B2 := Lib.hid (Box.new (w.alloc (.cells #[.slice (some ⟨b, o, none⟩) n c, .slice (some ⟨b2, o2, none⟩) n d] 27)) #[.slice none 0 0, .slice none 0 0] 27)
  simp only [World.size_alloc] at B2
  go_enter Try.func42, Try.ntmps42
  go_wp2_with fail
  refine (oks_any (H1.out.below HW.out)).mono ?_
  rw [hok]
  rintro e w1 ⟨rfl, hb1⟩
  have HW1 := Lib.hid (HW.out.trans (hb1.mono (by simp; omega)))
  have C1 := Lib.hid (B1.out.below hb1 (by simp; omega))
  have C2 := Lib.hid (B2.out.below hb1 (by simp))
  clear hb1 B1 B2 HW
  have p0 := C1.out.cell 0
  have p1 := C1.out.cell 1
  simp at p0 p1
  go_wp2_with fail
  refine (l1Used_any (k : Int) (H1.out.below HW1.out).rc (by omega) H1.out.rl).mono ?_
  rw [HPU.out]
  rintro e w2 ⟨rfl, hbb⟩
  have HW2 := Lib.hid (HW1.out.trans (hbb.mono HW1.out.size))
  have D1 := Lib.hid (C1.out.below hbb C1.out.lt)
  have D2 := Lib.hid (C2.out.below hbb C2.out.lt)
  clear hbb p0 p1
  have p0 := D1.out.cell 0
  have p1 := D1.out.cell 1
  simp at p0 p1
  have HTT := Lib.hid (show giveT ts rs (k : Int) = (if rs.getD k 0 = 1 then ts.set k .empty else ts) from if_pos HU.out)
  have HRR := Lib.hid (show giveR ts rs (k : Int) = rs.set k (rs.getD k 0 - 1) from if_pos HU.out)
  go_wp2_with fail
  refine (copy_any (H1.out.below HW2.out) (by omega) hn0 (Nat.lt_of_lt_of_le hb HW2.out.size) (Nat.lt_of_lt_of_le hb2 HW2.out.size) (fun j hj => (kc HW2.out _ _ hb).trans (HC.out j hj)) (fun j hj => (kc HW2.out _ _ hb2).trans (HC2.out j hj))).mono ?_
  rintro e w3 ⟨g, cg, g2, cg2, rfl, hq, hb3⟩
  have HQ := Lib.hid hq
  have E2 := Lib.hid (D2.out.below hb3 D2.out.lt)
  have HB3 := Lib.hid hb3
  have hd2 := D2.out.lt
  clear hq hb3 p0 p1
  go_wp2_with fail
  refine (l1Give_any k hlt HQ.out HB3.out.size r1 r99).mono ?_
  rintro e w4 ⟨rfl, hq4, hb4⟩
  have HQ4 := Lib.hid hq4
  have F2 := Lib.hid (E2.out.below hb4 hd2)
  have HW4 := Lib.hid (HW2.out.trans ((HB3.out.trans hb4).mono HW2.out.size))
  have ll1 := hq4.l1
  have ll2 := hq4.l2
  clear hq4 hb4
  have q0 := F2.out.cell 0
  have q1 := F2.out.cell 1
  have q2 := F2.out.frz 0
  have q3 := F2.out.frz 1
  simp at q0 q1
  go_wp2_with fail
  rw [HTT.out, HRR.out, HU.out]
  refine bodyPost_ret (v := .tuple #[.agg #[.slice (some ⟨g, 0, none⟩) n cg, .slice (some ⟨g2, 0, none⟩) n cg2], .bool true]) (by simp [results, Try.results42, go_sem, q0, q1]) rfl ⟨_, rfl, some ⟨g, 0, none⟩, cg, some ⟨g2, 0, none⟩, cg2, ?_, ?_, ?_⟩
  · rw [HQ4.out.tl, List.length_set, H1.out.rl]
  · rw [HQ4.out.tl, List.length_set, H1.out.rl]
    exact ((HQ4.out.off (a := ⟨w.heap.size + 1, 0, none⟩) (by show g ≠ w.heap.size + 1; omega) (by show g2 ≠ w.heap.size + 1; omega) _).off (a := ⟨w.heap.size + 1, 1, none⟩) (by show g ≠ w.heap.size + 1; omega) (by show g2 ≠ w.heap.size + 1; omega) _).pg
  · exact (HW4.out.setCell (Nat.le_add_right _ _) _).setCell (Nat.le_add_right _ _) _

theorem sgive_any (x : Int) (hp : Pg w A n B m ts rs) :
    Calls Try.prog 42 #[.agg #[.slice A n c, .slice B m d], .int .i64 x] w fun e w' => ∃ v, e = .returned (.tuple #[v, .bool (usedB ts rs x)]) ∧ Shown w w' v (giveT ts rs x) (giveR ts rs x) := by
  by_cases hu : usedB ts rs x = true
  · obtain ⟨k, b, o, b2, o2, ha⟩ := at_of x hp hu
    exact sgive_used x k b o b2 o2 hp ha hu
  · have hu' : usedB ts rs x = false := by simpa using hu
    have hT : giveT ts rs x = [] := by unfold giveT; rw [hu']; rfl
    have hR : giveR ts rs x = [] := by unfold giveR; rw [hu']; rfl
    rw [hu', hT, hR]
    by_cases hok : okPg ts rs = true
    · refine (sgive_free x hp hok hu').mono ?_
      rintro e w' ⟨he, hb⟩
      exact ⟨_, he, shown_nil hb⟩
    · refine (sgive_bad x hp (by simpa using hok)).mono ?_
      rintro e w' ⟨he, hb⟩
      exact ⟨_, he, shown_nil hb⟩
end
end Go.Proofs.Ytemmcjjfjcjbeaa

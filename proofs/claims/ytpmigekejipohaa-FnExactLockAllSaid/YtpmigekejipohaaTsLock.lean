/-
  The laws' helpers on Lock: to, eq, sz, mark, held.
-/
import Derived.Test.YtpmigekejipohaaTeInt
import Derived.Test.YtpmigekejipohaaTeThread
namespace Go.Proofs.Ytpmigekejipohaa
open Go.RowKit

def tyLock : Ty (Int × List EThread × List Int) := (Ty.pair tyI (Ty.pair (tyF elThread) (tyFc elI)))
def smallLock (D : Int × List EThread × List Int) : Prop := D.2.1.length ≤ 1048576 ∧ D.2.2.length ≤ 1048576
theorem tyLock_R {w : World} {hi : Nat} {cs : List Value} {D : Int × List EThread × List Int} (h : tyLock.R w hi cs D) : ∃ (A1 : Option Addr) (n1 c1 : Nat) (A2 : Option Addr) (n2 c2 : Nat), cs = [.int .i64 D.1, .slice A1 n1 c1, .slice A2 n2 c2] ∧ (D.2.1.length = n1 ∧ n1 ≤ maxLen ∧ RowF elThread w hi A1 n1 D.2.1) ∧ (D.2.2.length = n2 ∧ (n2 ≤ maxLen ∧ n2 ≤ c2) ∧ RowF elI w hi A2 n2 D.2.2) := by
  obtain ⟨_, _, rfl, rfl, ⟨_, _, rfl, ⟨A1, n1, c1, rfl, r1⟩, ⟨A2, n2, c2, rfl, r2⟩⟩⟩ := h
  exact ⟨A1, n1, c1, A2, n2, c2, rfl, r1, r2⟩
theorem tyLock_sh {w : World} {hi : Nat} {cs : List Value} {D : Int × List EThread × List Int} (h : tyLock.R w hi cs D) : ∃ (A1 : Option Addr) (n1 c1 : Nat) (A2 : Option Addr) (n2 c2 : Nat), cs = [.int .i64 D.1, .slice A1 n1 c1, .slice A2 n2 c2] := by
  obtain ⟨A1, n1, c1, A2, n2, c2, rfl, _⟩ := tyLock_R h
  exact ⟨A1, n1, c1, A2, n2, c2, rfl⟩
theorem tyLock_Rmk {w : World} {hi : Nat} {D : Int × List EThread × List Int} {A1 : Option Addr} {n1 c1 : Nat} {A2 : Option Addr} {n2 c2 : Nat} (h1 : D.2.1.length = n1 ∧ n1 ≤ maxLen ∧ RowF elThread w hi A1 n1 D.2.1) (h2 : D.2.2.length = n2 ∧ (n2 ≤ maxLen ∧ n2 ≤ c2) ∧ RowF elI w hi A2 n2 D.2.2) : tyLock.R w hi [.int .i64 D.1, .slice A1 n1 c1, .slice A2 n2 c2] D := ⟨_, _, rfl, rfl, ⟨_, _, rfl, ⟨_, _, _, rfl, h1⟩, ⟨_, _, _, rfl, h2⟩⟩⟩
theorem tyLock_M {w : World} {fp : List Nat} {cs : List Value} {D : Int × List EThread × List Int} (h : tyLock.M w fp cs D) : ∃ (A1 : Option Addr) (n1 c1 : Nat) (A2 : Option Addr) (n2 c2 : Nat) (f1 : List Nat) (f2 : List Nat), cs = [.int .i64 D.1, .slice A1 n1 c1, .slice A2 n2 c2] ∧ f1 ++ (f2) = fp ∧ (D.2.1.length = n1 ∧ n1 ≤ 1048576 ∧ RowM elThread w f1 A1 n1 D.2.1) ∧ (D.2.2.length = n2 ∧ (n2 ≤ 1048576 ∧ n2 ≤ c2) ∧ RowM elI w f2 A2 n2 D.2.2) ∧ (∀ b ∈ f1, b ∉ f2) := by
  obtain ⟨e0, _, _, _, rfl, rfl, d0, ⟨rfl, rfl⟩, ⟨e1, _, _, _, rfl, rfl, d1, ⟨A1, n1, c1, rfl, r1⟩, ⟨A2, n2, c2, rfl, r2⟩⟩⟩ := h
  exact ⟨A1, n1, c1, A2, n2, c2, _, _, rfl, by simp only [List.nil_append], r1, r2, fun b h1 h2 => d1 b h1 (by first | exact h2 | (simp only [List.mem_append]; first | exact h2 | exact Or.inl h2 | exact Or.inr h2 | exact Or.inr (Or.inl h2) | exact Or.inr (Or.inr h2)))⟩
theorem tyLock_shM {w : World} {fp : List Nat} {cs : List Value} {D : Int × List EThread × List Int} (h : tyLock.M w fp cs D) : ∃ (A1 : Option Addr) (n1 c1 : Nat) (A2 : Option Addr) (n2 c2 : Nat), cs = [.int .i64 D.1, .slice A1 n1 c1, .slice A2 n2 c2] := by
  obtain ⟨A1, n1, c1, A2, n2, c2, _, _, rfl, _⟩ := tyLock_M h
  exact ⟨A1, n1, c1, A2, n2, c2, rfl⟩
theorem tyLock_Mmk {w : World} {D : Int × List EThread × List Int} {A1 : Option Addr} {n1 c1 : Nat} {A2 : Option Addr} {n2 c2 : Nat} {f1 : List Nat} {f2 : List Nat} (h1 : D.2.1.length = n1 ∧ n1 ≤ 1048576 ∧ RowM elThread w f1 A1 n1 D.2.1) (h2 : D.2.2.length = n2 ∧ (n2 ≤ 1048576 ∧ n2 ≤ c2) ∧ RowM elI w f2 A2 n2 D.2.2) (d1_2 : ∀ b ∈ f1, b ∉ f2) : tyLock.M w (f1 ++ (f2)) [.int .i64 D.1, .slice A1 n1 c1, .slice A2 n2 c2] D := by
  have h : tyLock.M w ([] ++ (f1 ++ (f2))) [.int .i64 D.1, .slice A1 n1 c1, .slice A2 n2 c2] D := ⟨[], f1 ++ (f2), _, _, rfl, rfl, fun b h => absurd h (List.not_mem_nil), ⟨rfl, rfl⟩, ⟨f1, f2, _, _, rfl, rfl, fun b h1 h => d1_2 b h1 h, ⟨_, _, _, rfl, h1⟩, ⟨_, _, _, rfl, h2⟩⟩⟩
  simp only [List.nil_append] at h
  exact h
section
variable {w : World} {hi hi2 : Nat} {D : Int × List EThread × List Int} {fp : List Nat} {x0 x1 x2 y0 y1 y2 : Value}
theorem szLock_t (left : Int) (hl : 0 ≤ left) (hl2 : left ≤ 1048576) (h : tyLock.R w hi [x0, x1, x2] D) :
    Calls Try.prog 42 #[.agg #[x0, x1, x2], .int .i64 left] w fun e w' => ∃ z : Int, e = .returned (.int .i64 z) ∧ (0 ≤ z → smallLock D ∧ z ≤ left) ∧ -1 ≤ z ∧ Below w.heap.size w w' := by
  obtain ⟨A1, n1, c1, A2, n2, c2, hcs, ⟨l1, m1, r1⟩, ⟨l2, ⟨m2, k2⟩, r2⟩⟩ := tyLock_R h
  simp only [List.cons.injEq, and_true] at hcs
  obtain ⟨rfl, rfl, rfl⟩ := hcs
  unfold smallLock
  rw [l1]
  have q1 : n1 ≤ 9223372036854775807 := by unfold maxLen at m1; omega
  rw [l2]
  have q2 : n2 ≤ 9223372036854775807 := by unfold maxLen at m2; omega
  clear h r1 r2 m1 m2
  have HW := Lib.hid (show Below w.heap.size w (w.alloc (.cells #[.int .i64 D.1, .slice A1 n1 c1, .slice A2 n2 c2] 51)) from (Below.refl _ _).alloc (Nat.le_refl _) _)
  go_enter Try.func42, Try.ntmps42
  go_wp2_with fail
  refine (szThread_S left hl hl2 q1).mono ?_
  rintro e w0 ⟨z0, rfl, hz0, hy0, rfl⟩
  by_cases hp0 : 0 ≤ z0
  case neg =>
    clear hz0
    go_wp2
    go_ret
    exact ⟨_, rfl, fun h => by omega, by omega, HW.out⟩
  obtain ⟨u0, v0⟩ := hz0 hp0
  have k0 : z0 ≤ 1048576 := by omega
  clear hz0
  go_wp2_with fail
  refine (szInt_S z0 hp0 k0 q2).mono ?_
  rintro e w1 ⟨z1, rfl, hz1, hy1, rfl⟩
  by_cases hp1 : 0 ≤ z1
  case neg =>
    clear hz1
    go_wp2
    go_ret
    exact ⟨_, rfl, fun h => by omega, by omega, HW.out⟩
  obtain ⟨u1, v1⟩ := hz1 hp1
  have k1 : z1 ≤ 1048576 := by omega
  clear hz1
  go_wp2_with fail
  go_ret
  exact ⟨_, rfl, fun _ => ⟨⟨u0, u1⟩, by omega⟩, by omega, HW.out⟩
set_option maxHeartbeats 1000000 in
theorem eqLock_t (h : tyLock.R w hi [x0, x1, x2] D) (h2 : tyLock.R w hi2 [y0, y1, y2] D) :
    Calls Try.prog 39 #[.agg #[x0, x1, x2], .agg #[y0, y1, y2]] w fun e w' => e = .returned (.bool true) ∧ Below w.heap.size w w' := by
  obtain ⟨A1, n1, c1, A2, n2, c2, hcs, ⟨l1, m1, r1⟩, ⟨l2, ⟨m2, k2⟩, r2⟩⟩ := tyLock_R h
  simp only [List.cons.injEq, and_true] at hcs
  obtain ⟨rfl, rfl, rfl⟩ := hcs
  have q1 : n1 ≤ 9223372036854775807 := by unfold maxLen at m1; omega
  have q2 : n2 ≤ 9223372036854775807 := by unfold maxLen at m2; omega
  obtain ⟨B1, p1, d1, B2, p2, d2, hcs2, ⟨l1b, m1b, r1b⟩, ⟨l2b, ⟨m2b, k2b⟩, r2b⟩⟩ := tyLock_R h2
  simp only [List.cons.injEq, and_true] at hcs2
  obtain ⟨rfl, rfl, rfl⟩ := hcs2
  obtain rfl : n1 = p1 := l1.symm.trans l1b
  obtain rfl : n2 = p2 := l2.symm.trans l2b
  have HR1 := Lib.hid r1
  have HS1 := Lib.hid r1b
  have HR2 := Lib.hid r2
  have HS2 := Lib.hid r2b
  clear h h2 m1 m1b l1 l1b r1 r1b m2 m2b l2 l2b r2 r2b
  generalize D.1 = v0
  generalize D.2.1 = L1 at HR1 HS1
  generalize D.2.2 = L2 at HR2 HS2
  have X0 := Lib.hid ((Box.new w #[.int .i64 v0, .slice A1 n1 c1, .slice A2 n2 c2] 28).alloc (.cells #[.int .i64 v0, .slice B1 n1 d1, .slice B2 n2 d2] 28))
  have Y0 := Lib.hid (Box.new (w.alloc (.cells #[.int .i64 v0, .slice A1 n1 c1, .slice A2 n2 c2] 28)) #[.int .i64 v0, .slice B1 n1 d1, .slice B2 n2 d2] 28)
  simp only [World.size_alloc] at Y0
  have HB0 := Lib.hid (show Below w.heap.size w ((w.alloc (.cells #[.int .i64 v0, .slice A1 n1 c1, .slice A2 n2 c2] 28)).alloc (.cells #[.int .i64 v0, .slice B1 n1 d1, .slice B2 n2 d2] 28)) from ((Below.refl _ _).alloc (Nat.le_refl _) _).alloc (by simp only [World.size_alloc]; omega) _)
  go_enter Try.func39, Try.ntmps39
  have a0 := X0.out.cell 0
  have b0 := Y0.out.cell 0
  have a1 := X0.out.cell 1
  have b1 := Y0.out.cell 1
  have a2 := X0.out.cell 2
  have b2 := Y0.out.cell 2
  have la := X0.out.lt
  have lb := Y0.out.lt
  simp at a0 b0 a1 b1 a2 b2
  go_wp2_with fail
  refine (eqThread_S (HR1.out.wb HB0.out) (HS1.out.wb HB0.out) q1).mono ?_
  rintro e w1 ⟨rfl, hb1⟩
  have HB1 := Lib.hid (HB0.out.trans (hb1.mono HB0.out.size))
  have X1 := Lib.hid (X0.out.below hb1 X0.out.lt)
  have Y1 := Lib.hid (Y0.out.below hb1 Y0.out.lt)
  clear hb1 la lb a0 b0 a1 b1 a2 b2
  have a0 := X1.out.cell 0
  have b0 := Y1.out.cell 0
  have a1 := X1.out.cell 1
  have b1 := Y1.out.cell 1
  have a2 := X1.out.cell 2
  have b2 := Y1.out.cell 2
  have la := X1.out.lt
  have lb := Y1.out.lt
  simp at a0 b0 a1 b1 a2 b2
  go_wp2_with fail
  refine (eqInt_S (HR2.out.wb HB1.out) (HS2.out.wb HB1.out) q2).mono ?_
  rintro e w2 ⟨rfl, hb2⟩
  have HB2 := Lib.hid (HB1.out.trans (hb2.mono HB1.out.size))
  have X2 := Lib.hid (X1.out.below hb2 X1.out.lt)
  have Y2 := Lib.hid (Y1.out.below hb2 Y1.out.lt)
  clear hb2 la lb a0 b0 a1 b1 a2 b2
  have a0 := X2.out.cell 0
  have b0 := Y2.out.cell 0
  have a1 := X2.out.cell 1
  have b1 := Y2.out.cell 1
  have a2 := X2.out.cell 2
  have b2 := Y2.out.cell 2
  have la := X2.out.lt
  have lb := Y2.out.lt
  simp at a0 b0 a1 b1 a2 b2
  go_wp2_with fail
  go_ret
  exact ⟨rfl, HB2.out⟩
set_option maxHeartbeats 2000000 in
theorem toLock_t (h : tyLock.R w hi [x0, x1, x2] D) (hs : smallLock D) :
    Calls Try.prog 43 #[.agg #[x0, x1, x2]] w fun e w' => ∃ y0 y1 y2 fp, e = .returned (.agg #[y0, y1, y2]) ∧ tyLock.M w' fp [y0, y1, y2] D ∧ (∀ b ∈ fp, w.heap.size ≤ b ∧ b < w'.heap.size) ∧ Below w.heap.size w w' := by
  obtain ⟨A1, n1, c1, A2, n2, c2, hcs, ⟨l1, m1, r1⟩, ⟨l2, ⟨m2, k2⟩, r2⟩⟩ := tyLock_R h
  simp only [List.cons.injEq, and_true] at hcs
  obtain ⟨rfl, rfl, rfl⟩ := hcs
  unfold smallLock at hs
  obtain ⟨t1, t2⟩ := hs
  rw [l1] at t1
  have HR1 := Lib.hid r1
  have HL1 := Lib.hid l1
  rw [l2] at t2
  have HR2 := Lib.hid r2
  have HL2 := Lib.hid l2
  clear h m1 l1 r1 m2 l2 r2
  generalize hv0 : D.1 = v0
  have HV0 := Lib.hid hv0
  clear hv0
  have B0 := Lib.hid (((Box.new w #[.int .i64 v0, .slice A1 n1 c1, .slice A2 n2 c2] 51).alloc (.cells #[.int .i64 0, .slice none 0 0, .slice none 0 0] 28)).alloc (.cells #[.int .i64 v0, .slice none 0 0, .slice none 0 0] 28))
  have C0 := Lib.hid ((Box.new (w.alloc (.cells #[.int .i64 v0, .slice A1 n1 c1, .slice A2 n2 c2] 51)) #[.int .i64 0, .slice none 0 0, .slice none 0 0] 28).alloc (.cells #[.int .i64 v0, .slice none 0 0, .slice none 0 0] 28))
  have D0 := Lib.hid (Box.new ((w.alloc (.cells #[.int .i64 v0, .slice A1 n1 c1, .slice A2 n2 c2] 51)).alloc (.cells #[.int .i64 0, .slice none 0 0, .slice none 0 0] 28)) #[.int .i64 v0, .slice none 0 0, .slice none 0 0] 28)
  simp only [World.size_alloc] at C0 D0
  have HB0 := Lib.hid (show Below w.heap.size w (((w.alloc (.cells #[.int .i64 v0, .slice A1 n1 c1, .slice A2 n2 c2] 51)).alloc (.cells #[.int .i64 0, .slice none 0 0, .slice none 0 0] 28)).alloc (.cells #[.int .i64 v0, .slice none 0 0, .slice none 0 0] 28)) from (((Below.refl _ _).alloc (Nat.le_refl _) _).alloc (by simp only [World.size_alloc]; omega) _).alloc (by simp only [World.size_alloc]; omega) _)
  go_enter Try.func43, Try.ntmps43
  go_wp2_with fail
  have HP0 := Lib.hid HB0.out
  have DP0 := Lib.hid D0.out
  have CP0 := Lib.hid C0.out
  have BP0 := Lib.hid B0.out
  refine (toThread_S (HR1.out.wb HP0.out) HL1.out t1).mono ?_
  rintro e w1 ⟨g1, rfl, hm1, hg1, hh1, hb1⟩
  have hgs1 := hg1
  have hsz1 := hb1.size
  have HB1 := Lib.hid (HP0.out.trans (hb1.mono HP0.out.size))
  have B1 := Lib.hid (BP0.out.below hb1 BP0.out.lt)
  have C1 := Lib.hid (CP0.out.below hb1 CP0.out.lt)
  have D1 := Lib.hid (DP0.out.below hb1 DP0.out.lt)
  have hgd1 : w.heap.size + 1 + 1 < g1 := Nat.lt_of_lt_of_le DP0.out.lt hg1
  have M1_1 := Lib.hid hm1
  clear hm1 hb1 hsz1
  have b0 := B1.out.cell 0
  have c0 := C1.out.cell 0
  have d0 := D1.out.cell 0
  have fc0 := C1.out.frz 0
  have fd0 := D1.out.frz 0
  have b1 := B1.out.cell 1
  have c1 := C1.out.cell 1
  have d1 := D1.out.cell 1
  have fc1 := C1.out.frz 1
  have fd1 := D1.out.frz 1
  have b2 := B1.out.cell 2
  have c2 := C1.out.cell 2
  have d2 := D1.out.cell 2
  have fc2 := C1.out.frz 2
  have fd2 := D1.out.frz 2
  have lb := B1.out.lt
  have lc := C1.out.lt
  have ld := D1.out.lt
  simp at b0 c0 d0 b1 c1 d1 b2 c2 d2
  go_wp2_with fail
  have HP1 := Lib.hid (HB1.out.setCell (p := ⟨w.heap.size + 1 + 1, 1, none⟩) (by show w.heap.size ≤ w.heap.size + 1 + 1; omega) (.slice (some ⟨g1, 0, none⟩) n1 n1))
  have DP1 := Lib.hid (D1.out.set 1 (.slice (some ⟨g1, 0, none⟩) n1 n1))
  have CP1 := Lib.hid (C1.out.other (a := ⟨w.heap.size + 1 + 1, 1, none⟩) (by show w.heap.size + 1 ≠ w.heap.size + 1 + 1; omega) (.slice (some ⟨g1, 0, none⟩) n1 n1))
  have BP1 := Lib.hid (B1.out.other (a := ⟨w.heap.size + 1 + 1, 1, none⟩) (by show w.heap.size ≠ w.heap.size + 1 + 1; omega) (.slice (some ⟨g1, 0, none⟩) n1 n1))
  have M1_P1 := Lib.hid (M1_1.out.off (show g1 ≠ w.heap.size + 1 + 1 by omega) 1 (.slice (some ⟨g1, 0, none⟩) n1 n1))
  refine (toInt_S (HR2.out.wb HP1.out) HL2.out t2).mono ?_
  rintro e w2 ⟨g2, rfl, hm2, hg2, hh2, hb2⟩
  have hgs2 := hg2
  simp only [World.size_setCell] at hgs2
  have hsz2 := hb2.size
  have HB2 := Lib.hid (HP1.out.trans (hb2.mono HP1.out.size))
  have B2 := Lib.hid (BP1.out.below hb2 BP1.out.lt)
  have C2 := Lib.hid (CP1.out.below hb2 CP1.out.lt)
  have D2 := Lib.hid (DP1.out.below hb2 DP1.out.lt)
  have hgd2 : w.heap.size + 1 + 1 < g2 := Nat.lt_of_lt_of_le DP1.out.lt hg2
  have hlt1_2 : g1 < g2 := Nat.lt_of_lt_of_le (hh1 ) hgs2
  have M1_2 := Lib.hid (M1_P1.out.frame fun x hx => hb2.block x (by rw [List.mem_singleton] at hx; rw [hx]; exact Nat.lt_of_lt_of_le (show g1 < _ from hh1) (Nat.le_of_eq (by simp only [World.size_setCell]))))
  have hlu1_2 : g1 < w2.heap.size := Nat.lt_trans hlt1_2 hh2
  have M2_2 := Lib.hid hm2
  clear hm2 hb2 hsz2 lb lc ld b0 c0 d0 fc0 fd0 b1 c1 d1 fc1 fd1 b2 c2 d2 fc2 fd2
  have b0 := B2.out.cell 0
  have c0 := C2.out.cell 0
  have d0 := D2.out.cell 0
  have fc0 := C2.out.frz 0
  have fd0 := D2.out.frz 0
  have b1 := B2.out.cell 1
  have c1 := C2.out.cell 1
  have d1 := D2.out.cell 1
  have fc1 := C2.out.frz 1
  have fd1 := D2.out.frz 1
  have b2 := B2.out.cell 2
  have c2 := C2.out.cell 2
  have d2 := D2.out.cell 2
  have fc2 := C2.out.frz 2
  have fd2 := D2.out.frz 2
  have lb := B2.out.lt
  have lc := C2.out.lt
  have ld := D2.out.lt
  simp at b0 c0 d0 b1 c1 d1 b2 c2 d2
  go_wp2_with fail
  refine bodyPost_ret (v := .agg #[.int .i64 v0, .slice (some ⟨g1, 0, none⟩) n1 n1, .slice (some ⟨g2, 0, none⟩) n2 n2]) (by simp [results, Try.results43, go_sem, c0, c1, c2]) rfl ⟨_, _, _, [g1] ++ ([g2]), rfl, ?_, ?_, ((((HB2.out.setCell (by show w.heap.size ≤ w.heap.size + 1 + 1; omega) _).setCell (by show w.heap.size ≤ w.heap.size + 1; omega) _).setCell (by show w.heap.size ≤ w.heap.size + 1; omega) _).setCell (by show w.heap.size ≤ w.heap.size + 1; omega) _)⟩
  · rw [← HV0.out]
    exact tyLock_Mmk ⟨HL1.out, t1, ((((M1_2.out.off (show g1 ≠ w.heap.size + 1 + 1 by omega) _ _).off (show g1 ≠ w.heap.size + 1 by omega) _ _).off (show g1 ≠ w.heap.size + 1 by omega) _ _).off (show g1 ≠ w.heap.size + 1 by omega) _ _)⟩ ⟨HL2.out, ⟨t2, Nat.le_refl _⟩, ((((M2_2.out.off (show g2 ≠ w.heap.size + 1 + 1 by omega) _ _).off (show g2 ≠ w.heap.size + 1 by omega) _ _).off (show g2 ≠ w.heap.size + 1 by omega) _ _).off (show g2 ≠ w.heap.size + 1 by omega) _ _)⟩ (fun b h1 h2 => by rw [List.mem_singleton] at h1 h2; omega) 
  · intro b hb
    simp only [List.mem_append, List.mem_singleton, World.size_setCell] at hb ⊢
    rcases hb with rfl | rfl
    all_goals omega
def mksLock (k : Int) (D : Int × List EThread × List Int) : Int × List EThread × List Int := (D.1, mksG mkThread 4 (k) D.2.1.length, mksG mkInt 1 (k + 4 * (D.2.1.length : Int)) D.2.2.length)
def cntLock (D : Int × List EThread × List Int) : Int := 4 * (D.2.1.length : Int) + (D.2.2.length : Int)
theorem cntLock_mk (k : Int) : cntLock (mksLock k D) = cntLock D := by simp only [cntLock, mksLock, mksG_len]
theorem cntLock_pos : 0 ≤ cntLock D := by unfold cntLock; omega
set_option maxHeartbeats 1000000 in
theorem markLock_t (k : Int) (h0 : 0 < k) (h1 : k ≤ 900000000) (hm : tyLock.M w fp [x0, x1, x2] D) (hf : ∀ b ∈ fp, b < w.heap.size) :
    Calls Try.prog 40 #[.agg #[x0, x1, x2], .int .i64 k] w fun e w' => e = .returned (.int .i64 (k + cntLock D)) ∧ tyLock.M w' fp [x0, x1, x2] (mksLock k D) ∧ Foot w w' fp := by
  obtain ⟨A1, n1, c1, A2, n2, c2, f1, f2, hcs, rfl, ⟨l1, m1, r1⟩, ⟨l2, ⟨m2, k2⟩, r2⟩, d1_2⟩ := tyLock_M hm
  simp only [List.cons.injEq, and_true] at hcs
  obtain ⟨rfl, rfl, rfl⟩ := hcs
  unfold cntLock
  have HM1_0 := Lib.hid r1
  have HL1 := Lib.hid l1
  have HM2_0 := Lib.hid r2
  have HL2 := Lib.hid l2
  rw [l1, l2]
  have HF := Lib.hid hf
  have HD1_2 := Lib.hid d1_2
  clear hm hf l1 r1 l2 r2 d1_2
  have X0 := Lib.hid (Box.new w #[.int .i64 D.1, .slice A1 n1 c1, .slice A2 n2 c2] 28)
  have HT0 := Lib.hid (Foot.of_below (show Below w.heap.size w (w.alloc (.cells #[.int .i64 D.1, .slice A1 n1 c1, .slice A2 n2 c2] 28)) from (Below.refl _ _).alloc (Nat.le_refl _) _) (f1 ++ (f2)))
  have HM1_1 := Lib.hid (HM1_0.out.frame fun b hb => Below.heap_alloc w (.cells #[.int .i64 D.1, .slice A1 n1 c1, .slice A2 n2 c2] 28) b (HF.out b (by first | exact hb | exact List.mem_append_left _ hb | exact List.mem_append_right _ hb | exact List.mem_append_right _ (List.mem_append_left _ hb) | exact List.mem_append_right _ (List.mem_append_right _ hb))))
  have HM2_1 := Lib.hid (HM2_0.out.frame fun b hb => Below.heap_alloc w (.cells #[.int .i64 D.1, .slice A1 n1 c1, .slice A2 n2 c2] 28) b (HF.out b (by first | exact hb | exact List.mem_append_left _ hb | exact List.mem_append_right _ hb | exact List.mem_append_right _ (List.mem_append_left _ hb) | exact List.mem_append_right _ (List.mem_append_right _ hb))))
  go_enter Try.func40, Try.ntmps40
  have a0 := X0.out.cell 0
  have a1 := X0.out.cell 1
  have a2 := X0.out.cell 2
  have la := X0.out.lt
  simp at a0 a1 a2
  go_wp2_with fail
  refine (markThread_S (k) (by omega) (by omega) HL1.out m1 HM1_1.out).mono ?_
  rintro e w1 ⟨rfl, hm1, ht1⟩
  have HN1_1 := Lib.hid hm1
  have HM2_2 := Lib.hid (HM2_1.out.frame fun b hb => ht1.block b (Nat.lt_of_lt_of_le (HF.out b (by first | exact hb | exact List.mem_append_left _ hb | exact List.mem_append_right _ hb | exact List.mem_append_right _ (List.mem_append_left _ hb) | exact List.mem_append_right _ (List.mem_append_right _ hb))) HT0.out.size) (fun hb' => HD1_2.out b hb' hb))
  have HT1 := Lib.hid (HT0.out.trans (ht1.sub fun b hb => by first | exact hb | exact List.mem_append_left _ hb | exact List.mem_append_right _ hb | exact List.mem_append_right _ (List.mem_append_left _ hb) | exact List.mem_append_right _ (List.mem_append_right _ hb)))
  have X1 := Lib.hid (ht1.box X0.out fun hb => by have := HF.out w.heap.size (by first | exact hb | exact List.mem_append_left _ hb | exact List.mem_append_right _ hb | exact List.mem_append_right _ (List.mem_append_left _ hb) | exact List.mem_append_right _ (List.mem_append_right _ hb)); omega)
  clear hm1 ht1 la a0 a1 a2
  have a0 := X1.out.cell 0
  have a1 := X1.out.cell 1
  have a2 := X1.out.cell 2
  have la := X1.out.lt
  simp at a0 a1 a2
  go_wp2_with fail
  refine (markInt_S (k + 4 * (n1 : Int)) (by omega) (by omega) HL2.out m2 HM2_2.out).mono ?_
  rintro e w2 ⟨rfl, hm2, ht2⟩
  have HN2_2 := Lib.hid hm2
  have HN1_2 := Lib.hid (HN1_1.out.frame fun b hb => ht2.block b (Nat.lt_of_lt_of_le (HF.out b (by first | exact hb | exact List.mem_append_left _ hb | exact List.mem_append_right _ hb | exact List.mem_append_right _ (List.mem_append_left _ hb) | exact List.mem_append_right _ (List.mem_append_right _ hb))) HT1.out.size) (fun hb' => HD1_2.out b hb hb'))
  have HT2 := Lib.hid (HT1.out.trans (ht2.sub fun b hb => by first | exact hb | exact List.mem_append_left _ hb | exact List.mem_append_right _ hb | exact List.mem_append_right _ (List.mem_append_left _ hb) | exact List.mem_append_right _ (List.mem_append_right _ hb)))
  have X2 := Lib.hid (ht2.box X1.out fun hb => by have := HF.out w.heap.size (by first | exact hb | exact List.mem_append_left _ hb | exact List.mem_append_right _ hb | exact List.mem_append_right _ (List.mem_append_left _ hb) | exact List.mem_append_right _ (List.mem_append_right _ hb)); omega)
  clear hm2 ht2 la a0 a1 a2
  go_wp2_with fail
  go_ret
  refine ⟨ret_int (by omega), ?_, HT2.out⟩
  have e := tyLock_Mmk (D := mksLock k D) (A1 := A1) (n1 := n1) (c1 := c1) (A2 := A2) (n2 := n2) (c2 := c2) ⟨by simp only [mksLock, mksG_len]; exact HL1.out, m1, by have h := HN1_2.out; simp only [mksLock]; rw [HL1.out]; exact h⟩ ⟨by simp only [mksLock, mksG_len]; exact HL2.out, ⟨m2, k2⟩, by have h := HN2_2.out; simp only [mksLock]; rw [HL1.out, HL2.out]; exact h⟩ HD1_2.out 
  exact e
set_option maxHeartbeats 1000000 in
theorem heldLock_t (k : Int) (h0 : 0 < k) (h1 : k ≤ 900000000) (h : tyLock.R w hi [x0, x1, x2] (mksLock k D)) (hs : smallLock D) :
    Calls Try.prog 41 #[.agg #[x0, x1, x2], .int .i64 k] w fun e w' => e = .returned (.int .i64 (k + cntLock D)) ∧ Below w.heap.size w w' := by
  obtain ⟨A1, n1, c1, A2, n2, c2, hcs, ⟨l1, m1, r1⟩, ⟨l2, ⟨m2, k2⟩, r2⟩⟩ := tyLock_R h
  simp only [List.cons.injEq, and_true] at hcs
  obtain ⟨rfl, rfl, rfl⟩ := hcs
  unfold smallLock at hs
  obtain ⟨t1, t2⟩ := hs
  simp only [mksLock, mksG_len] at l1 r1
  simp only [mksLock, mksG_len] at l2 r2
  unfold cntLock
  rw [l1, l2]
  rw [l1] at r1
  rw [l1, l2] at r2
  rw [l1] at t1
  have HR1 := Lib.hid r1
  rw [l2] at t2
  have HR2 := Lib.hid r2
  clear h l1 r1 m1 l2 r2 m2
  dsimp only [mksLock]
  have X0 := Lib.hid (Box.new w #[.int .i64 D.1, .slice A1 n1 c1, .slice A2 n2 c2] 28)
  have HB0 := Lib.hid (show Below w.heap.size w (w.alloc (.cells #[.int .i64 D.1, .slice A1 n1 c1, .slice A2 n2 c2] 28)) from (Below.refl _ _).alloc (Nat.le_refl _) _)
  go_enter Try.func41, Try.ntmps41
  have a0 := X0.out.cell 0
  have a1 := X0.out.cell 1
  have a2 := X0.out.cell 2
  have la := X0.out.lt
  simp at a0 a1 a2
  go_wp2_with fail
  refine (heldThread_S (k) (by omega) (by omega) t1 (HR1.out.wb HB0.out)).mono ?_
  rintro e w1 ⟨rfl, hb1⟩
  have HB1 := Lib.hid (HB0.out.trans (hb1.mono HB0.out.size))
  have X1 := Lib.hid (X0.out.below hb1 X0.out.lt)
  clear hb1 la a0 a1 a2
  have hp1 : ¬ (k + 4 * (n1 : Int) < 0) := by omega
  have a0 := X1.out.cell 0
  have a1 := X1.out.cell 1
  have a2 := X1.out.cell 2
  have la := X1.out.lt
  simp at a0 a1 a2
  go_wp2_with fail
  refine (heldInt_S (k + 4 * (n1 : Int)) (by omega) (by omega) t2 (HR2.out.wb HB1.out)).mono ?_
  rintro e w2 ⟨rfl, hb2⟩
  have HB2 := Lib.hid (HB1.out.trans (hb2.mono HB1.out.size))
  have X2 := Lib.hid (X1.out.below hb2 X1.out.lt)
  clear hb2 la a0 a1 a2
  have hp2 : ¬ (k + 4 * (n1 : Int) + (n2 : Int) < 0) := by omega
  go_wp2_with fail
  go_ret
  exact ⟨ret_int (by omega), HB2.out⟩
end
end Go.Proofs.Ytpmigekejipohaa

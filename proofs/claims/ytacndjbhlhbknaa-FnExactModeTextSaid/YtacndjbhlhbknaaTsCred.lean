/-
  The laws' helpers on Cred: to, eq, sz, mark, held.
-/
import Derived.Test.YtacndjbhlhbknaaTeInt
namespace Go.Proofs.Ytacndjbhlhbknaa
open Go.RowKit

def tyCred : Ty (Int × Int × List Int) := (Ty.pair tyI (Ty.pair tyI (tyF elI)))
def smallCred (D : Int × Int × List Int) : Prop := D.2.2.length ≤ 1048576
theorem tyCred_R {w : World} {hi : Nat} {cs : List Value} {D : Int × Int × List Int} (h : tyCred.R w hi cs D) : ∃ (A2 : Option Addr) (n2 c2 : Nat), cs = [.int .i64 D.1, .int .i64 D.2.1, .slice A2 n2 c2] ∧ (D.2.2.length = n2 ∧ n2 ≤ maxLen ∧ RowF elI w hi A2 n2 D.2.2) := by
  obtain ⟨_, _, rfl, rfl, ⟨_, _, rfl, rfl, ⟨A2, n2, c2, rfl, r2⟩⟩⟩ := h
  exact ⟨A2, n2, c2, rfl, r2⟩
theorem tyCred_sh {w : World} {hi : Nat} {cs : List Value} {D : Int × Int × List Int} (h : tyCred.R w hi cs D) : ∃ (A2 : Option Addr) (n2 c2 : Nat), cs = [.int .i64 D.1, .int .i64 D.2.1, .slice A2 n2 c2] := by
  obtain ⟨A2, n2, c2, rfl, _⟩ := tyCred_R h
  exact ⟨A2, n2, c2, rfl⟩
theorem tyCred_Rmk {w : World} {hi : Nat} {D : Int × Int × List Int} {A2 : Option Addr} {n2 c2 : Nat} (h2 : D.2.2.length = n2 ∧ n2 ≤ maxLen ∧ RowF elI w hi A2 n2 D.2.2) : tyCred.R w hi [.int .i64 D.1, .int .i64 D.2.1, .slice A2 n2 c2] D := ⟨_, _, rfl, rfl, ⟨_, _, rfl, rfl, ⟨_, _, _, rfl, h2⟩⟩⟩
theorem tyCred_M {w : World} {fp : List Nat} {cs : List Value} {D : Int × Int × List Int} (h : tyCred.M w fp cs D) : ∃ (A2 : Option Addr) (n2 c2 : Nat) (f2 : List Nat), cs = [.int .i64 D.1, .int .i64 D.2.1, .slice A2 n2 c2] ∧ f2 = fp ∧ (D.2.2.length = n2 ∧ n2 ≤ 1048576 ∧ RowM elI w f2 A2 n2 D.2.2) := by
  obtain ⟨e0, _, _, _, rfl, rfl, d0, ⟨rfl, rfl⟩, ⟨e1, _, _, _, rfl, rfl, d1, ⟨rfl, rfl⟩, ⟨A2, n2, c2, rfl, r2⟩⟩⟩ := h
  exact ⟨A2, n2, c2, _, rfl, by simp only [List.nil_append], r2⟩
theorem tyCred_shM {w : World} {fp : List Nat} {cs : List Value} {D : Int × Int × List Int} (h : tyCred.M w fp cs D) : ∃ (A2 : Option Addr) (n2 c2 : Nat), cs = [.int .i64 D.1, .int .i64 D.2.1, .slice A2 n2 c2] := by
  obtain ⟨A2, n2, c2, _, rfl, _⟩ := tyCred_M h
  exact ⟨A2, n2, c2, rfl⟩
theorem tyCred_Mmk {w : World} {D : Int × Int × List Int} {A2 : Option Addr} {n2 c2 : Nat} {f2 : List Nat} (h2 : D.2.2.length = n2 ∧ n2 ≤ 1048576 ∧ RowM elI w f2 A2 n2 D.2.2) : tyCred.M w (f2) [.int .i64 D.1, .int .i64 D.2.1, .slice A2 n2 c2] D := by
  have h : tyCred.M w ([] ++ ([] ++ (f2))) [.int .i64 D.1, .int .i64 D.2.1, .slice A2 n2 c2] D := ⟨[], [] ++ (f2), _, _, rfl, rfl, fun b h => absurd h (List.not_mem_nil), ⟨rfl, rfl⟩, ⟨[], f2, _, _, rfl, rfl, fun b h => absurd h (List.not_mem_nil), ⟨rfl, rfl⟩, ⟨_, _, _, rfl, h2⟩⟩⟩
  simp only [List.nil_append] at h
  exact h
section
variable {w : World} {hi hi2 : Nat} {D : Int × Int × List Int} {fp : List Nat} {x0 x1 x2 y0 y1 y2 : Value}
theorem szCred_t (left : Int) (hl : 0 ≤ left) (hl2 : left ≤ 1048576) (h : tyCred.R w hi [x0, x1, x2] D) :
    Calls Try.prog 42 #[.agg #[x0, x1, x2], .int .i64 left] w fun e w' => ∃ z : Int, e = .returned (.int .i64 z) ∧ (0 ≤ z → smallCred D ∧ z ≤ left) ∧ -1 ≤ z ∧ Below w.heap.size w w' := by
  obtain ⟨A2, n2, c2, hcs, ⟨l2, m2, r2⟩⟩ := tyCred_R h
  simp only [List.cons.injEq, and_true] at hcs
  obtain ⟨rfl, rfl, rfl⟩ := hcs
  unfold smallCred
  rw [l2]
  have q2 : n2 ≤ 9223372036854775807 := by unfold maxLen at m2; omega
  clear h r2 m2
  have HW := Lib.hid (show Below w.heap.size w (w.alloc (.cells #[.int .i64 D.1, .int .i64 D.2.1, .slice A2 n2 c2] 45)) from (Below.refl _ _).alloc (Nat.le_refl _) _)
  go_enter Try.func42, Try.ntmps42
  go_wp2_with fail
  refine (szInt_S left hl hl2 q2).mono ?_
  rintro e w0 ⟨z0, rfl, hz0, hy0, rfl⟩
  by_cases hp0 : 0 ≤ z0
  case neg =>
    clear hz0
    go_wp2
    go_ret
    exact ⟨_, rfl, fun h => by omega, by omega, HW.out⟩
  obtain ⟨u0, v0⟩ := hz0 hp0
  have k0 : z0 ≤ 1048576 := by omega
  clear hz0
  go_wp2_with fail
  go_ret
  exact ⟨_, rfl, fun _ => ⟨u0, by omega⟩, by omega, HW.out⟩
set_option maxHeartbeats 1000000 in
theorem eqCred_t (h : tyCred.R w hi [x0, x1, x2] D) (h2 : tyCred.R w hi2 [y0, y1, y2] D) :
    Calls Try.prog 44 #[.agg #[x0, x1, x2], .agg #[y0, y1, y2]] w fun e w' => e = .returned (.bool true) ∧ Below w.heap.size w w' := by
  obtain ⟨A2, n2, c2, hcs, ⟨l2, m2, r2⟩⟩ := tyCred_R h
  simp only [List.cons.injEq, and_true] at hcs
  obtain ⟨rfl, rfl, rfl⟩ := hcs
  have q2 : n2 ≤ 9223372036854775807 := by unfold maxLen at m2; omega
  obtain ⟨B2, p2, d2, hcs2, ⟨l2b, m2b, r2b⟩⟩ := tyCred_R h2
  simp only [List.cons.injEq, and_true] at hcs2
  obtain ⟨rfl, rfl, rfl⟩ := hcs2
  obtain rfl : n2 = p2 := l2.symm.trans l2b
  have HR2 := Lib.hid r2
  have HS2 := Lib.hid r2b
  clear h h2 m2 m2b l2 l2b r2 r2b
  generalize D.1 = v0
  generalize D.2.1 = v1
  generalize D.2.2 = L2 at HR2 HS2
  have X0 := Lib.hid ((Box.new w #[.int .i64 v0, .int .i64 v1, .slice A2 n2 c2] 25).alloc (.cells #[.int .i64 v0, .int .i64 v1, .slice B2 n2 d2] 25))
  have Y0 := Lib.hid (Box.new (w.alloc (.cells #[.int .i64 v0, .int .i64 v1, .slice A2 n2 c2] 25)) #[.int .i64 v0, .int .i64 v1, .slice B2 n2 d2] 25)
  simp only [World.size_alloc] at Y0
  have HB0 := Lib.hid (show Below w.heap.size w ((w.alloc (.cells #[.int .i64 v0, .int .i64 v1, .slice A2 n2 c2] 25)).alloc (.cells #[.int .i64 v0, .int .i64 v1, .slice B2 n2 d2] 25)) from ((Below.refl _ _).alloc (Nat.le_refl _) _).alloc (by simp only [World.size_alloc]; omega) _)
  go_enter Try.func44, Try.ntmps44
  have a0 := X0.out.cell 0
  have b0 := Y0.out.cell 0
  have a1 := X0.out.cell 1
  have b1 := Y0.out.cell 1
  have a2 := X0.out.cell 2
  have b2 := Y0.out.cell 2
  have la := X0.out.lt
  have lb := Y0.out.lt
  simp at a0 b0 a1 b1 a2 b2
  go_wp2_with fail
  refine (eqInt_S (HR2.out.wb HB0.out) (HS2.out.wb HB0.out) q2).mono ?_
  rintro e w1 ⟨rfl, hb1⟩
  have HB1 := Lib.hid (HB0.out.trans (hb1.mono HB0.out.size))
  have X1 := Lib.hid (X0.out.below hb1 X0.out.lt)
  have Y1 := Lib.hid (Y0.out.below hb1 Y0.out.lt)
  clear hb1 la lb a0 b0 a1 b1 a2 b2
  have a0 := X1.out.cell 0
  have b0 := Y1.out.cell 0
  have a1 := X1.out.cell 1
  have b1 := Y1.out.cell 1
  have a2 := X1.out.cell 2
  have b2 := Y1.out.cell 2
  have la := X1.out.lt
  have lb := Y1.out.lt
  simp at a0 b0 a1 b1 a2 b2
  go_wp2_with fail
  go_ret
  exact ⟨rfl, HB1.out⟩
set_option maxHeartbeats 2000000 in
theorem toCred_t (h : tyCred.R w hi [x0, x1, x2] D) (hs : smallCred D) :
    Calls Try.prog 43 #[.agg #[x0, x1, x2]] w fun e w' => ∃ y0 y1 y2 fp, e = .returned (.agg #[y0, y1, y2]) ∧ tyCred.M w' fp [y0, y1, y2] D ∧ (∀ b ∈ fp, w.heap.size ≤ b ∧ b < w'.heap.size) ∧ Below w.heap.size w w' := by
  obtain ⟨A2, n2, c2, hcs, ⟨l2, m2, r2⟩⟩ := tyCred_R h
  simp only [List.cons.injEq, and_true] at hcs
  obtain ⟨rfl, rfl, rfl⟩ := hcs
  unfold smallCred at hs
  have t2 := hs
  rw [l2] at t2
  have HR2 := Lib.hid r2
  have HL2 := Lib.hid l2
  clear h hs m2 l2 r2
  generalize hv0 : D.1 = v0
  have HV0 := Lib.hid hv0
  clear hv0
  generalize hv1 : D.2.1 = v1
  have HV1 := Lib.hid hv1
  clear hv1
  have B0 := Lib.hid (((Box.new w #[.int .i64 v0, .int .i64 v1, .slice A2 n2 c2] 45).alloc (.cells #[.int .i64 0, .int .i64 0, .slice none 0 0] 25)).alloc (.cells #[.int .i64 v0, .int .i64 v1, .slice none 0 0] 25))
  have C0 := Lib.hid ((Box.new (w.alloc (.cells #[.int .i64 v0, .int .i64 v1, .slice A2 n2 c2] 45)) #[.int .i64 0, .int .i64 0, .slice none 0 0] 25).alloc (.cells #[.int .i64 v0, .int .i64 v1, .slice none 0 0] 25))
  have D0 := Lib.hid (Box.new ((w.alloc (.cells #[.int .i64 v0, .int .i64 v1, .slice A2 n2 c2] 45)).alloc (.cells #[.int .i64 0, .int .i64 0, .slice none 0 0] 25)) #[.int .i64 v0, .int .i64 v1, .slice none 0 0] 25)
  simp only [World.size_alloc] at C0 D0
  have HB0 := Lib.hid (show Below w.heap.size w (((w.alloc (.cells #[.int .i64 v0, .int .i64 v1, .slice A2 n2 c2] 45)).alloc (.cells #[.int .i64 0, .int .i64 0, .slice none 0 0] 25)).alloc (.cells #[.int .i64 v0, .int .i64 v1, .slice none 0 0] 25)) from (((Below.refl _ _).alloc (Nat.le_refl _) _).alloc (by simp only [World.size_alloc]; omega) _).alloc (by simp only [World.size_alloc]; omega) _)
  go_enter Try.func43, Try.ntmps43
  go_wp2_with fail
  have HP0 := Lib.hid HB0.out
  have DP0 := Lib.hid D0.out
  have CP0 := Lib.hid C0.out
  have BP0 := Lib.hid B0.out
  refine (toInt_S (HR2.out.wb HP0.out) HL2.out t2).mono ?_
  rintro e w1 ⟨g2, rfl, hm2, hg2, hh2, hb1⟩
  have hgs2 := hg2
  have hsz1 := hb1.size
  have HB1 := Lib.hid (HP0.out.trans (hb1.mono HP0.out.size))
  have B1 := Lib.hid (BP0.out.below hb1 BP0.out.lt)
  have C1 := Lib.hid (CP0.out.below hb1 CP0.out.lt)
  have D1 := Lib.hid (DP0.out.below hb1 DP0.out.lt)
  have hgd2 : w.heap.size + 1 + 1 < g2 := Nat.lt_of_lt_of_le DP0.out.lt hg2
  have M2_1 := Lib.hid hm2
  clear hm2 hb1 hsz1
  have b0 := B1.out.cell 0
  have c0 := C1.out.cell 0
  have d0 := D1.out.cell 0
  have fc0 := C1.out.frz 0
  have fd0 := D1.out.frz 0
  have b1 := B1.out.cell 1
  have c1 := C1.out.cell 1
  have d1 := D1.out.cell 1
  have fc1 := C1.out.frz 1
  have fd1 := D1.out.frz 1
  have b2 := B1.out.cell 2
  have c2 := C1.out.cell 2
  have d2 := D1.out.cell 2
  have fc2 := C1.out.frz 2
  have fd2 := D1.out.frz 2
  have lb := B1.out.lt
  have lc := C1.out.lt
  have ld := D1.out.lt
  simp at b0 c0 d0 b1 c1 d1 b2 c2 d2
  go_wp2_with fail
  refine bodyPost_ret (v := .agg #[.int .i64 v0, .int .i64 v1, .slice (some ⟨g2, 0, none⟩) n2 n2]) (by simp [results, Try.results43, go_sem, c0, c1, c2]) rfl ⟨_, _, _, [g2], rfl, ?_, ?_, ((((HB1.out.setCell (by show w.heap.size ≤ w.heap.size + 1 + 1; omega) _).setCell (by show w.heap.size ≤ w.heap.size + 1; omega) _).setCell (by show w.heap.size ≤ w.heap.size + 1; omega) _).setCell (by show w.heap.size ≤ w.heap.size + 1; omega) _)⟩
  · rw [← HV0.out, ← HV1.out]
    exact tyCred_Mmk ⟨HL2.out, t2, ((((M2_1.out.off (show g2 ≠ w.heap.size + 1 + 1 by omega) _ _).off (show g2 ≠ w.heap.size + 1 by omega) _ _).off (show g2 ≠ w.heap.size + 1 by omega) _ _).off (show g2 ≠ w.heap.size + 1 by omega) _ _)⟩  
  · intro b hb
    simp only [List.mem_singleton, World.size_setCell] at hb ⊢
    subst hb
    omega
def mksCred (k : Int) (D : Int × Int × List Int) : Int × Int × List Int := (D.1, D.2.1, mksG mkInt 1 (k) D.2.2.length)
def cntCred (D : Int × Int × List Int) : Int := (D.2.2.length : Int)
theorem cntCred_mk (k : Int) : cntCred (mksCred k D) = cntCred D := by simp only [cntCred, mksCred, mksG_len]
theorem cntCred_pos : 0 ≤ cntCred D := by unfold cntCred; omega
set_option maxHeartbeats 1000000 in
theorem markCred_t (k : Int) (h0 : 0 < k) (h1 : k ≤ 900000000) (hm : tyCred.M w fp [x0, x1, x2] D) (hf : ∀ b ∈ fp, b < w.heap.size) :
    Calls Try.prog 45 #[.agg #[x0, x1, x2], .int .i64 k] w fun e w' => e = .returned (.int .i64 (k + cntCred D)) ∧ tyCred.M w' fp [x0, x1, x2] (mksCred k D) ∧ Foot w w' fp := by
  obtain ⟨A2, n2, c2, f2, hcs, rfl, ⟨l2, m2, r2⟩⟩ := tyCred_M hm
  simp only [List.cons.injEq, and_true] at hcs
  obtain ⟨rfl, rfl, rfl⟩ := hcs
  unfold cntCred
  have HM2_0 := Lib.hid r2
  have HL2 := Lib.hid l2
  rw [l2]
  have HF := Lib.hid hf
  clear hm hf l2 r2 
  have X0 := Lib.hid (Box.new w #[.int .i64 D.1, .int .i64 D.2.1, .slice A2 n2 c2] 25)
  have HT0 := Lib.hid (Foot.of_below (show Below w.heap.size w (w.alloc (.cells #[.int .i64 D.1, .int .i64 D.2.1, .slice A2 n2 c2] 25)) from (Below.refl _ _).alloc (Nat.le_refl _) _) (f2))
  have HM2_1 := Lib.hid (HM2_0.out.frame fun b hb => Below.heap_alloc w (.cells #[.int .i64 D.1, .int .i64 D.2.1, .slice A2 n2 c2] 25) b (HF.out b (by first | exact hb | exact List.mem_append_left _ hb | exact List.mem_append_right _ hb | exact List.mem_append_right _ (List.mem_append_left _ hb) | exact List.mem_append_right _ (List.mem_append_right _ hb))))
  go_enter Try.func45, Try.ntmps45
  have a0 := X0.out.cell 0
  have a1 := X0.out.cell 1
  have a2 := X0.out.cell 2
  have la := X0.out.lt
  simp at a0 a1 a2
  go_wp2_with fail
  refine (markInt_S (k) (by omega) (by omega) HL2.out m2 HM2_1.out).mono ?_
  rintro e w1 ⟨rfl, hm2, ht1⟩
  have HN2_1 := Lib.hid hm2
  have HT1 := Lib.hid (HT0.out.trans (ht1.sub fun b hb => by first | exact hb | exact List.mem_append_left _ hb | exact List.mem_append_right _ hb | exact List.mem_append_right _ (List.mem_append_left _ hb) | exact List.mem_append_right _ (List.mem_append_right _ hb)))
  have X1 := Lib.hid (ht1.box X0.out fun hb => by have := HF.out w.heap.size (by first | exact hb | exact List.mem_append_left _ hb | exact List.mem_append_right _ hb | exact List.mem_append_right _ (List.mem_append_left _ hb) | exact List.mem_append_right _ (List.mem_append_right _ hb)); omega)
  clear hm2 ht1 la a0 a1 a2
  go_wp2_with fail
  go_ret
  refine ⟨ret_int (by omega), ?_, HT1.out⟩
  have e := tyCred_Mmk (D := mksCred k D) (A2 := A2) (n2 := n2) (c2 := c2) ⟨by simp only [mksCred, mksG_len]; exact HL2.out, m2, by have h := HN2_1.out; simp only [mksCred]; rw [HL2.out]; exact h⟩  
  exact e
set_option maxHeartbeats 1000000 in
theorem heldCred_t (k : Int) (h0 : 0 < k) (h1 : k ≤ 900000000) (h : tyCred.R w hi [x0, x1, x2] (mksCred k D)) (hs : smallCred D) :
    Calls Try.prog 46 #[.agg #[x0, x1, x2], .int .i64 k] w fun e w' => e = .returned (.int .i64 (k + cntCred D)) ∧ Below w.heap.size w w' := by
  obtain ⟨A2, n2, c2, hcs, ⟨l2, m2, r2⟩⟩ := tyCred_R h
  simp only [List.cons.injEq, and_true] at hcs
  obtain ⟨rfl, rfl, rfl⟩ := hcs
  unfold smallCred at hs
  have t2 := hs
  simp only [mksCred, mksG_len] at l2 r2
  unfold cntCred
  rw [l2]
  rw [l2] at r2
  rw [l2] at t2
  have HR2 := Lib.hid r2
  clear h hs l2 r2 m2
  dsimp only [mksCred]
  have X0 := Lib.hid (Box.new w #[.int .i64 D.1, .int .i64 D.2.1, .slice A2 n2 c2] 25)
  have HB0 := Lib.hid (show Below w.heap.size w (w.alloc (.cells #[.int .i64 D.1, .int .i64 D.2.1, .slice A2 n2 c2] 25)) from (Below.refl _ _).alloc (Nat.le_refl _) _)
  go_enter Try.func46, Try.ntmps46
  have a0 := X0.out.cell 0
  have a1 := X0.out.cell 1
  have a2 := X0.out.cell 2
  have la := X0.out.lt
  simp at a0 a1 a2
  go_wp2_with fail
  refine (heldInt_S (k) (by omega) (by omega) t2 (HR2.out.wb HB0.out)).mono ?_
  rintro e w1 ⟨rfl, hb1⟩
  have HB1 := Lib.hid (HB0.out.trans (hb1.mono HB0.out.size))
  have X1 := Lib.hid (X0.out.below hb1 X0.out.lt)
  clear hb1 la a0 a1 a2
  have hp1 : ¬ (k + (n2 : Int) < 0) := by omega
  go_wp2_with fail
  go_ret
  exact ⟨ret_int (by omega), HB1.out⟩
end
end Go.Proofs.Ytacndjbhlhbknaa

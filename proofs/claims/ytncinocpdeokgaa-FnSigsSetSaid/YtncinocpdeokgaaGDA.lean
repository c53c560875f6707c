/-
  The walk of FnSigsSet on drawn arguments.
-/
import Derived.Test.YtncinocpdeokgaaGDraw3
import Derived.Test.YtncinocpdeokgaaTqSigs
import Derived.Test.YtncinocpdeokgaaGSs
namespace Go.Proofs.Ytncinocpdeokgaa
open Go.RowKit

section
variable {A : Option Addr} {n c : Nat} {w : World}
set_option maxHeartbeats 4000000 in
set_option maxRecDepth 100000 in
theorem dSigsSet_walk (hOk : GOk 26) (hSet : GSet 30) (hc : Code w A n) (hcap : n ≤ c) (hcap2 : c ≤ maxLen) : Calls Try.prog 5 #[.slice A n c] w fun e w' => e = .returned (.bool true) ∧ Below w.heap.size w w' := by
  have hn := hc.1
  unfold maxLen at hn
  by_cases hbig : (1048576 : Int) < n
  · go_enter Try.func5, Try.ntmps5
    go_wp2_with fail
    go_ret
    exact ⟨rfl, Below.refl _ _⟩
  have HCODE := Lib.hid hc
  clear hc
  have HOK := Lib.hid hOk
  clear hOk
  have HSET := Lib.hid hSet
  clear hSet
  have HW0 := Lib.hid (Below.refl w.heap.size w)
  go_enter Try.func5, Try.ntmps5
  have HA0 := Lib.hid (show Below w.heap.size w w from (Below.refl _ _))
  go_wp2_with fail
  refine (dDrawSigsSet_any HCODE.out hcap hcap2).mono ?_
  rintro e w1 ⟨y00, y01, y02, D0, n', d', rfl, nl, nu, dl, du, hr0, hs0, hb1⟩
  have HC1 := Lib.hid (HA0.out.trans (hb1.mono HA0.out.size))
  have HW1 := Lib.hid (HW0.out.trans (HC1.out.mono HW0.out.size))
  clear hb1
  obtain ⟨A00, n00, c00, A01, n01, c01, A02, n02, c02, hcs⟩ := tySigs_sh hr0
  simp only [List.cons.injEq, and_true] at hcs
  obtain ⟨rfl, rfl, rfl⟩ := hcs
  obtain ⟨H0, B0, L0⟩ := D0
  have HS0 := Lib.hid hs0
  have HR0_1 := Lib.hid (hr0)
  clear hr0 hs0
  have HA1 := Lib.hid (show Below w1.heap.size w1 (w1.alloc (.cells #[.slice A00 n00 c00, .slice A01 n01 c01, .slice A02 n02 c02] 26)) from ((Below.refl _ _).alloc (Nat.le_refl _) _))
  go_wp2_with fail
  refine (HSET.out n' d' (Ty.below_w HR0_1.out HA1.out) HS0.out).mono ?_
  rintro e w2 ⟨a0, a1, a2, fp0, rfl, hm0, hf0, hsm0, hb2⟩
  have HC2 := Lib.hid (HA1.out.trans (hb2.mono HA1.out.size))
  have HW2 := Lib.hid (HW1.out.trans (HC2.out.mono HW1.out.size))
  have HR0_2 := Lib.hid (Ty.below_w HR0_1.out HC2.out)
  have C0_2 := Lib.hid ((Box.new w1 #[.slice A00 n00 c00, .slice A01 n01 c01, .slice A02 n02 c02] 26).below hb2 (by simp only [World.size_alloc]; omega))
  clear hb2
  have HSA := Lib.hid hsm0
  clear hsm0
  obtain ⟨E00, m00, o00, E01, m01, o01, E02, m02, o02, hcs⟩ := tySigs_shM hm0
  simp only [List.cons.injEq, and_true] at hcs
  obtain ⟨rfl, rfl, rfl⟩ := hcs
  have HQ0_2 := Lib.hid (tySigs.mr hm0 fun b hb => (hf0 b hb).2)
  clear hm0 hf0
  have HA2 := Lib.hid (show Below w2.heap.size w2 (w2.alloc (.cells #[.slice E00 m00 o00, .slice E01 m01 o01, .slice E02 m02 o02] 26)) from ((Below.refl _ _).alloc (Nat.le_refl _) _))
  have c0_c0 := C0_2.out.cell 0
  have c0_c1 := C0_2.out.cell 1
  have c0_c2 := C0_2.out.cell 2
  simp at c0_c0 c0_c1 c0_c2
  have c0_l := C0_2.out.lt
  go_wp2_with fail
  refine (sigsSet_s n' d' (Ty.below_w HR0_2.out HA2.out) HS0.out).mono ?_
  rintro e w3 ⟨b0, b1, b2, rfl, hm1, hb3⟩
  clear c0_c0 c0_c1 c0_c2 c0_l
  have HC3 := Lib.hid (HA2.out.trans (hb3.mono HA2.out.size))
  have HW3 := Lib.hid (HW2.out.trans (HC3.out.mono HW2.out.size))
  have HR0_3 := Lib.hid (Ty.below_w HR0_2.out HC3.out)
  have HQ0_3 := Lib.hid (Ty.below_w HQ0_2.out HC3.out)
  have C0_3 := Lib.hid (C0_2.out.below HC3.out C0_2.out.lt)
  have X_3 := Lib.hid ((Box.new w2 #[.slice E00 m00 o00, .slice E01 m01 o01, .slice E02 m02 o02] 26).below hb3 (by simp only [World.size_alloc]; omega))
  clear hb3
  obtain ⟨F10, m10, o10, F11, m11, o11, F12, m12, o12, hcs⟩ := tySigs_sh hm1
  simp only [List.cons.injEq, and_true] at hcs
  obtain ⟨rfl, rfl, rfl⟩ := hcs
  have HQ1_3 := Lib.hid (hm1)
  clear hm1
  have HA3 := Lib.hid (show Below w3.heap.size w3 (w3.alloc (.cells #[.slice F10 m10 o10, .slice F11 m11 o11, .slice F12 m12 o12] 26)) from ((Below.refl _ _).alloc (Nat.le_refl _) _))
  have c0_c0 := C0_3.out.cell 0
  have c0_c1 := C0_3.out.cell 1
  have c0_c2 := C0_3.out.cell 2
  have x_c0 := X_3.out.cell 0
  have x_c1 := X_3.out.cell 1
  have x_c2 := X_3.out.cell 2
  simp at c0_c0 c0_c1 c0_c2 x_c0 x_c1 x_c2
  have c0_l := C0_3.out.lt
  have x_l := X_3.out.lt
  go_wp2_with fail
  refine (qdSigs_t (Ty.below_w HQ0_3.out HA3.out) (Ty.below_w HQ1_3.out HA3.out)).mono ?_
  rintro e w4 ⟨rfl, hb4⟩
  clear c0_c0 c0_c1 c0_c2 x_c0 x_c1 x_c2 c0_l x_l
  have HC4 := Lib.hid (HA3.out.trans (hb4.mono HA3.out.size))
  have HW4 := Lib.hid (HW3.out.trans (HC4.out.mono HW3.out.size))
  have HR0_4 := Lib.hid (Ty.below_w HR0_3.out HC4.out)
  have HQ0_4 := Lib.hid (Ty.below_w HQ0_3.out HC4.out)
  have HQ1_4 := Lib.hid (Ty.below_w HQ1_3.out HC4.out)
  have C0_4 := Lib.hid (C0_3.out.below HC4.out C0_3.out.lt)
  have X_4 := Lib.hid (X_3.out.below HC4.out X_3.out.lt)
  have Y_4 := Lib.hid ((Box.new w3 #[.slice F10 m10 o10, .slice F11 m11 o11, .slice F12 m12 o12] 26).below hb4 (by simp only [World.size_alloc]; omega))
  clear hb4
  have hbb : (sgsB (H0, B0, L0) n' d' == sgsB (H0, B0, L0) n' d') = true := by simp
  by_cases h0 : sgsB (H0, B0, L0) n' d' = true
  case neg =>
    have h0' : sgsB (H0, B0, L0) n' d' = false := by simpa using h0
    rw [h0']
    clear h0
    have HA4 := Lib.hid (show Below w4.heap.size w4 w4 from (Below.refl _ _))
    have c0_c0 := C0_4.out.cell 0
    have c0_c1 := C0_4.out.cell 1
    have c0_c2 := C0_4.out.cell 2
    have x_c0 := X_4.out.cell 0
    have x_c1 := X_4.out.cell 1
    have x_c2 := X_4.out.cell 2
    have y_c0 := Y_4.out.cell 0
    have y_c1 := Y_4.out.cell 1
    have y_c2 := Y_4.out.cell 2
    simp at c0_c0 c0_c1 c0_c2 x_c0 x_c1 x_c2 y_c0 y_c1 y_c2
    have c0_l := C0_4.out.lt
    have x_l := X_4.out.lt
    have y_l := Y_4.out.lt
    go_wp2_with fail
    go_ret
    exact ⟨rfl, HW4.out⟩
  clear hbb
  obtain ⟨hs, _, ⟨k, hk2, hk, hkn, hkt⟩, _⟩ := sgs_at h0
  have HSG := Lib.hid (sig_iff.1 hs)
  have hok := sgs_ok h0
  have hbk := sgs_back h0
  rw [hkt] at hok hbk
  have HSO := Lib.hid (sig_iff.1 hok)
  have HOK1 := Lib.hid hok
  have HBK := Lib.hid hbk
  have HSA := Lib.hid (show smallSigs (H0, B0, L0.set k d') by have h := HSA.out; rw [sgs_yes h0, hkt] at h; exact h)
  have HQ0_4 := Lib.hid (by have h := HQ0_4.out; rw [sgs_yes h0, hkt] at h; exact h)
  rw [h0]
  clear h0 hs hok hbk
  have hk1 : IntKind.i64.wrap (n' - 1) = (k : Int) := by rw [IntWalk.i64_in _ (by omega)]; omega
  have hk3 : (0 : Int) ≤ k := by omega
  have hk4 : (k : Int) < 8 := by omega
  clear hkn hkt nl nu dl du hk2
  obtain ⟨bx0, ax0, _, bx1, ax1, _, bx2, ax2, _, hx0, hx1, hx2, hx⟩ := read8 HQ0_4.out HSO.out.1 HSO.out.2.1 HSO.out.2.2.1
  simp only [Value.slice.injEq] at hx0 hx1 hx2
  obtain ⟨rfl, rfl, rfl⟩ := hx0
  obtain ⟨rfl, rfl, rfl⟩ := hx1
  obtain ⟨rfl, rfl, rfl⟩ := hx2
  have EX_4 := Lib.hid hx
  clear hx
  obtain ⟨bs0, as0, _, bs1, as1, _, bs2, as2, _, hx0, hx1, hx2, hx⟩ := read8 HR0_4.out HSG.out.1 HSG.out.2.1 HSG.out.2.2.1
  simp only [Value.slice.injEq] at hx0 hx1 hx2
  obtain ⟨rfl, rfl, rfl⟩ := hx0
  obtain ⟨rfl, rfl, rfl⟩ := hx1
  obtain ⟨rfl, rfl, rfl⟩ := hx2
  have E0_4 := Lib.hid hx
  clear hx
  have HA4 := Lib.hid (show Below w4.heap.size w4 w4 from (Below.refl _ _))
  have c0_c0 := C0_4.out.cell 0
  have c0_c1 := C0_4.out.cell 1
  have c0_c2 := C0_4.out.cell 2
  have x_c0 := X_4.out.cell 0
  have x_c1 := X_4.out.cell 1
  have x_c2 := X_4.out.cell 2
  have y_c0 := Y_4.out.cell 0
  have y_c1 := Y_4.out.cell 1
  have y_c2 := Y_4.out.cell 2
  simp at c0_c0 c0_c1 c0_c2 x_c0 x_c1 x_c2 y_c0 y_c1 y_c2
  have c0_l := C0_4.out.lt
  have x_l := X_4.out.lt
  have y_l := Y_4.out.lt
  have r0 := E0_4.out.c2 k hk
  dsimp only at r0
  have hbs2 := E0_4.out.h2
  go_wp2_with fail
  refine wp_region_held_drew (S := fun w' => w'.cell? ⟨w2.heap.size, 0, none⟩ = some (.slice (some ⟨bx0, ax0, none⟩) 8 o00) ∧ w'.cell? ⟨w2.heap.size, 1, none⟩ = some (.slice (some ⟨bx1, ax1, none⟩) 8 o01) ∧ w'.cell? ⟨w2.heap.size, 2, none⟩ = some (.slice (some ⟨bx2, ax2, none⟩) 8 o02) ∧ w'.cell? ⟨w1.heap.size, 2, none⟩ = some (.slice (some ⟨bs2, as2, none⟩) 8 c02) ∧ w'.cell? ⟨bs2, as2 + k, none⟩ = some (.int .i64 (L0.getD k 0))) (by kernel_rfl) ⟨x_c0, x_c1, x_c2, c0_c2, r0⟩ (fun hHeld => ?_)
  have hlC0_ := C0_4.out.lt
  have hlX_ := X_4.out.lt
  have hlY_ := Y_4.out.lt
  refine wpAnyH_take (i := 0) (v := ?vz1_0) rfl (by kernel_rfl) (by kernel_rfl) (by kernel_rfl) (fun _ _ _ h => h) (Or.inl ⟨by rfl, ?hyz1_0⟩) (by assumption) ?restz1_0
  case hyz1_0 =>
    intro w hSw
    try dsimp only at hSw
    go_simp
    try with_reducible rfl
  try simp only [Act.put, List.setIfInBounds_toArray, List.set_cons_zero, List.set_cons_succ, List.getElem_toArray, List.getElem_cons_zero]
  refine wpAnyH_take (i := 1) (v := ?vz2_1) rfl (by kernel_rfl) (by kernel_rfl) (by kernel_rfl) (fun _ _ _ h => h) (Or.inl ⟨by rfl, ?hyz2_1⟩) (by assumption) ?restz2_1
  case hyz2_1 =>
    intro w hSw
    try dsimp only at hSw
    go_simp
    try with_reducible rfl
  try simp only [Act.put, List.setIfInBounds_toArray, List.set_cons_zero, List.set_cons_succ, List.getElem_toArray, List.getElem_cons_zero, List.getElem_cons_succ]
  refine wpAnyH_take (i := 2) (v := ?vz3_2) rfl (by kernel_rfl) (by kernel_rfl) (by kernel_rfl) (fun _ _ _ h => h) (Or.inl ⟨by rfl, ?hyz3_2⟩) (by assumption) ?restz3_2
  case hyz3_2 =>
    intro w hSw
    try dsimp only at hSw
    go_simp
    try with_reducible rfl
  try simp only [Act.put, List.setIfInBounds_toArray, List.set_cons_zero, List.set_cons_succ, List.getElem_toArray, List.getElem_cons_zero, List.getElem_cons_succ]
  refine wpAnyH_take (i := 3) (v := ?vz4_3) rfl (by kernel_rfl) (by kernel_rfl) (by kernel_rfl) (fun _ _ _ h => h) (Or.inl ⟨by rfl, ?hyz4_3⟩) (by assumption) ?restz4_3
  case hyz4_3 =>
    intro w hSw
    try dsimp only at hSw
    go_simp
    try with_reducible rfl
  try simp only [Act.put, List.setIfInBounds_toArray, List.set_cons_zero, List.set_cons_succ, List.getElem_toArray, List.getElem_cons_zero, List.getElem_cons_succ]
  refine wpAnyH_take (i := 4) (v := ?vz5_4) rfl (by kernel_rfl) (by kernel_rfl) (by kernel_rfl) (fun _ _ _ h => h) (Or.inl ⟨by rfl, ?hyz5_4⟩) (by assumption) ?restz5_4
  case hyz5_4 =>
    intro w hSw
    try dsimp only at hSw
    go_simp
    try with_reducible rfl
  try simp only [Act.put, List.setIfInBounds_toArray, List.set_cons_zero, List.set_cons_succ, List.getElem_toArray, List.getElem_cons_zero, List.getElem_cons_succ]
  refine wpAnyH_take (i := 5) (v := ?vz6_5) rfl (by kernel_rfl) (by kernel_rfl) (by kernel_rfl) (fun _ _ _ h => h) (Or.inl ⟨by rfl, ?hyz6_5⟩) (by assumption) ?restz6_5
  case hyz6_5 =>
    intro w hSw
    try dsimp only at hSw
    go_simp
    try with_reducible rfl
  try simp only [Act.put, List.setIfInBounds_toArray, List.set_cons_zero, List.set_cons_succ, List.getElem_toArray, List.getElem_cons_zero, List.getElem_cons_succ]
  refine wpAnyH_take (i := 6) (v := ?vz7_6) rfl (by kernel_rfl) (by kernel_rfl) (by kernel_rfl) (fun _ _ _ h => h) (Or.inl ⟨by rfl, ?hyz7_6⟩) (by assumption) ?restz7_6
  case hyz7_6 =>
    intro w hSw
    try dsimp only at hSw
    go_simp
    try with_reducible rfl
  try simp only [Act.put, List.setIfInBounds_toArray, List.set_cons_zero, List.set_cons_succ, List.getElem_toArray, List.getElem_cons_zero, List.getElem_cons_succ]
  refine wpAnyH_take (i := 7) (v := ?vz8_7) rfl (by kernel_rfl) (by kernel_rfl) (by kernel_rfl) (fun _ _ _ h => h) (Or.inl ⟨by rfl, ?hyz8_7⟩) (by assumption) ?restz8_7
  case hyz8_7 =>
    intro w hSw
    try dsimp only at hSw
    go_simp
    try with_reducible rfl
  try simp only [Act.put, List.setIfInBounds_toArray, List.set_cons_zero, List.set_cons_succ, List.getElem_toArray, List.getElem_cons_zero, List.getElem_cons_succ]
  refine wpAnyH_ready (rs := [8, 12]) (by kernel_rfl) (by simp) ?_
  refine (AllReadyH.cons rfl (fun K hK => ?_) (AllReadyH.cons rfl (fun K hK => ?_) AllReadyH.nil))
  · go_simp
    go_at_call 30
    refine (HSET.out n' (L0.getD k 0) (Ty.below_w HQ0_4.out (Below.refl _ _).drew) HSA.out).mono ?_
    rw [HBK.out.1, HBK.out.2]
    rintro e w61 ⟨e0, e1, e2, fp2, rfl, hm2, hf2, hsm2, hb61⟩
    clear hsm2
    have HT61 := Lib.hid (show Below w4.heap.size w4 w61 from (Below.refl _ _).drew.trans (hb61.mono (Nat.le_refl _)))
    have HF := Lib.hid hf2
    have HM61 := Lib.hid hm2
    have hsz61 := HT61.out.size
    obtain ⟨P20, m20, o20, P21, m21, o21, P22, m22, o22, hcs⟩ := tySigs_shM hm2
    simp only [List.cons.injEq, and_true] at hcs
    obtain ⟨rfl, rfl, rfl⟩ := hcs
    clear hb61 hf2 hm2
    have HR0_61 := Lib.hid (Ty.below_w HR0_4.out HT61.out)
    have HQ0_61 := Lib.hid (Ty.below_w HQ0_4.out HT61.out)
    have HQ1_61 := Lib.hid (Ty.below_w HQ1_4.out HT61.out)
    have C0_61 := Lib.hid (C0_4.out.below HT61.out C0_4.out.lt)
    have X_61 := Lib.hid (X_4.out.below HT61.out X_4.out.lt)
    have Y_61 := Lib.hid (Y_4.out.below HT61.out Y_4.out.lt)
    have EX_61 := Lib.hid (EX_4.out.below HT61.out)
    have E0_61 := Lib.hid (E0_4.out.below HT61.out)
    refine hK.out _ _ ⟨X_61.out.cell 0, X_61.out.cell 1, X_61.out.cell 2, C0_61.out.cell 2, E0_61.out.c2 k hk⟩ (fun hHeld => ?_)
    clear hK K
    try simp only [Act.put, List.setIfInBounds_toArray, List.set_cons_zero, List.set_cons_succ, List.getElem_toArray, List.getElem_cons_zero, List.getElem_cons_succ]
    refine wpAnyH_take (i := 9) (v := ?vz9_9) rfl (by kernel_rfl) (by kernel_rfl) (by kernel_rfl) (fun _ _ _ h => h) (Or.inl ⟨by rfl, ?hyz9_9⟩) (by assumption) ?restz9_9
    case hyz9_9 =>
      intro w hSw
      try dsimp only at hSw
      go_simp
      try with_reducible rfl
    try simp only [Act.put, List.setIfInBounds_toArray, List.set_cons_zero, List.set_cons_succ, List.getElem_toArray, List.getElem_cons_zero, List.getElem_cons_succ]
    refine wpAnyH_take (i := 10) (v := ?vz10_10) rfl (by kernel_rfl) (by kernel_rfl) (by kernel_rfl) (fun _ _ _ h => h) (Or.inl ⟨by rfl, ?hyz10_10⟩) (by assumption) ?restz10_10
    case hyz10_10 =>
      intro w hSw
      try dsimp only at hSw
      go_simp
      try with_reducible rfl
    try simp only [Act.put, List.setIfInBounds_toArray, List.set_cons_zero, List.set_cons_succ, List.getElem_toArray, List.getElem_cons_zero, List.getElem_cons_succ]
    refine wpAnyH_take (i := 11) (v := ?vz11_11) rfl (by kernel_rfl) (by kernel_rfl) (by kernel_rfl) (fun _ _ _ h => h) (Or.inl ⟨by rfl, ?hyz11_11⟩) (by assumption) ?restz11_11
    case hyz11_11 =>
      intro w hSw
      try dsimp only at hSw
      go_simp
      try with_reducible rfl
    try simp only [Act.put, List.setIfInBounds_toArray, List.set_cons_zero, List.set_cons_succ, List.getElem_toArray, List.getElem_cons_zero, List.getElem_cons_succ]
    refine wpAnyH_ready (rs := [12]) (by kernel_rfl) (by simp) ?_
    refine (AllReadyH.cons rfl (fun K hK => ?_) AllReadyH.nil)
    go_simp
    have HT62 := Lib.hid (show Below w61.heap.size w61 ((w61.alloc (.cells #[.slice none 0 0, .slice none 0 0, .slice none 0 0] 26))) from ((Below.refl _ _).alloc (Nat.le_refl _) (.cells #[.slice none 0 0, .slice none 0 0, .slice none 0 0] 26)))
    have HN62 := Lib.hid (show Box ((w61.alloc (.cells #[.slice none 0 0, .slice none 0 0, .slice none 0 0] 26))) w61.heap.size #[.slice none 0 0, .slice none 0 0, .slice none 0 0] 26 from Box.new w61 #[.slice none 0 0, .slice none 0 0, .slice none 0 0] 26)
    have hs62 : w61.heap.size < ((w61.alloc (.cells #[.slice none 0 0, .slice none 0 0, .slice none 0 0] 26))).heap.size := by simp
    generalize (w61.alloc (.cells #[.slice none 0 0, .slice none 0 0, .slice none 0 0] 26)) = w62 at HT62 HN62 hs62 ⊢
    have HM62 := Lib.hid (HM61.out |> fun h => Ty.mb h HT62.out fun b hb => (HF.out b hb).2)
    have HR0_62 := Lib.hid (Ty.below_w HR0_61.out HT62.out)
    have HQ0_62 := Lib.hid (Ty.below_w HQ0_61.out HT62.out)
    have HQ1_62 := Lib.hid (Ty.below_w HQ1_61.out HT62.out)
    have C0_62 := Lib.hid (C0_61.out.below HT62.out C0_61.out.lt)
    have X_62 := Lib.hid (X_61.out.below HT62.out X_61.out.lt)
    have Y_62 := Lib.hid (Y_61.out.below HT62.out Y_61.out.lt)
    have EX_62 := Lib.hid (EX_61.out.below HT62.out)
    have E0_62 := Lib.hid (E0_61.out.below HT62.out)
    refine hK.out _ _ ⟨X_62.out.cell 0, X_62.out.cell 1, X_62.out.cell 2, C0_62.out.cell 2, E0_62.out.c2 k hk⟩ (fun hHeld => ?_)
    clear hK K
    try simp only [Act.put, List.setIfInBounds_toArray, List.set_cons_zero, List.set_cons_succ, List.getElem_toArray, List.getElem_cons_zero, List.getElem_cons_succ]
    refine wpAnyH_ready (rs := [13]) (by kernel_rfl) (by simp) ?_
    refine (AllReadyH.cons rfl (fun K hK => ?_) AllReadyH.nil)
    have z0 := HN62.out.cell 0
    have zf0 := HN62.out.frz 0
    have z1 := HN62.out.cell 1
    have zf1 := HN62.out.frz 1
    have z2 := HN62.out.cell 2
    have zf2 := HN62.out.frz 2
    have zl := HN62.out.lt
    simp at z0 z1 z2
    go_simp
    refine hK.out _ _ ⟨(((X_62.out.other (a := ⟨w61.heap.size, 0, none⟩) (by show w2.heap.size ≠ w61.heap.size; omega) _).other (a := ⟨w61.heap.size, 1, none⟩) (by show w2.heap.size ≠ w61.heap.size; omega) _).other (a := ⟨w61.heap.size, 2, none⟩) (by show w2.heap.size ≠ w61.heap.size; omega) _).cell 0, (((X_62.out.other (a := ⟨w61.heap.size, 0, none⟩) (by show w2.heap.size ≠ w61.heap.size; omega) _).other (a := ⟨w61.heap.size, 1, none⟩) (by show w2.heap.size ≠ w61.heap.size; omega) _).other (a := ⟨w61.heap.size, 2, none⟩) (by show w2.heap.size ≠ w61.heap.size; omega) _).cell 1, (((X_62.out.other (a := ⟨w61.heap.size, 0, none⟩) (by show w2.heap.size ≠ w61.heap.size; omega) _).other (a := ⟨w61.heap.size, 1, none⟩) (by show w2.heap.size ≠ w61.heap.size; omega) _).other (a := ⟨w61.heap.size, 2, none⟩) (by show w2.heap.size ≠ w61.heap.size; omega) _).cell 2, (((C0_62.out.other (a := ⟨w61.heap.size, 0, none⟩) (by show w1.heap.size ≠ w61.heap.size; omega) _).other (a := ⟨w61.heap.size, 1, none⟩) (by show w1.heap.size ≠ w61.heap.size; omega) _).other (a := ⟨w61.heap.size, 2, none⟩) (by show w1.heap.size ≠ w61.heap.size; omega) _).cell 2, (World.cell?_setCell_other _ _ _ _ (fun e => by injection e with e1 _; omega)).trans ((World.cell?_setCell_other _ _ _ _ (fun e => by injection e with e1 _; omega)).trans ((World.cell?_setCell_other _ _ _ _ (fun e => by injection e with e1 _; omega)).trans (E0_62.out.c2 k hk)))⟩ (fun hHeld => ?_)
    clear hK K z0 z1 z2 zf0 zf1 zf2 zl
    try simp only [Act.put, List.setIfInBounds_toArray, List.set_cons_zero, List.set_cons_succ, List.getElem_toArray, List.getElem_cons_zero, List.getElem_cons_succ]
    refine wpAnyH_take (i := 14) (v := ?vz12_14) rfl (by kernel_rfl) (by kernel_rfl) (by kernel_rfl) (fun _ _ _ h => h) (Or.inl ⟨by rfl, ?hyz12_14⟩) (by assumption) ?restz12_14
    case hyz12_14 =>
      intro w hSw
      try dsimp only at hSw
      go_simp
      try with_reducible rfl
    try simp only [Act.put, List.setIfInBounds_toArray, List.set_cons_zero, List.set_cons_succ, List.getElem_toArray, List.getElem_cons_zero, List.getElem_cons_succ]
    refine wpAnyH_done (by kernel_rfl) ?_ _
    clear c0_c0 c0_c1 c0_c2 x_c0 x_c1 x_c2 y_c0 y_c1 y_c2 c0_l x_l y_l r0
    have HCC := Lib.hid (((((HT61.out.trans (HT62.out.mono HT61.out.size))).setCell (p := ⟨w61.heap.size, 0, none⟩) (by show w4.heap.size ≤ w61.heap.size; omega) (.slice P20 m20 o20)).setCell (p := ⟨w61.heap.size, 1, none⟩) (by show w4.heap.size ≤ w61.heap.size; omega) (.slice P21 m21 o21)).setCell (p := ⟨w61.heap.size, 2, none⟩) (by show w4.heap.size ≤ w61.heap.size; omega) (.slice P22 m22 o22))
    have HMM := Lib.hid (tySigs.mframe (tySigs.mframe (tySigs.mframe HM62.out fun b hb => heap_setCell_other _ ⟨w61.heap.size, 0, none⟩ b (.slice P20 m20 o20) (by have h := HF.out b hb; show b ≠ w61.heap.size; omega)) fun b hb => heap_setCell_other _ ⟨w61.heap.size, 1, none⟩ b (.slice P21 m21 o21) (by have h := HF.out b hb; show b ≠ w61.heap.size; omega)) fun b hb => heap_setCell_other _ ⟨w61.heap.size, 2, none⟩ b (.slice P22 m22 o22) (by have h := HF.out b hb; show b ≠ w61.heap.size; omega))
    have HQ2_39 := Lib.hid (tySigs.mr (hi := ((((w62.setCell ⟨w61.heap.size, 0, none⟩ (.slice P20 m20 o20)).setCell ⟨w61.heap.size, 1, none⟩ (.slice P21 m21 o21)).setCell ⟨w61.heap.size, 2, none⟩ (.slice P22 m22 o22))).heap.size) HMM.out fun b hb => by have h := HF.out b hb; simp only [World.size_setCell]; omega)
    have Z_39 := Lib.hid (show Box (((w62.setCell ⟨w61.heap.size, 0, none⟩ (.slice P20 m20 o20)).setCell ⟨w61.heap.size, 1, none⟩ (.slice P21 m21 o21)).setCell ⟨w61.heap.size, 2, none⟩ (.slice P22 m22 o22)) w61.heap.size #[.slice P20 m20 o20, .slice P21 m21 o21, .slice P22 m22 o22] 26 by have h := ((HN62.out.set 0 (.slice P20 m20 o20)).set 1 (.slice P21 m21 o21)).set 2 (.slice P22 m22 o22); simpa using h)
    have hsz39 : ((((w62.setCell ⟨w61.heap.size, 0, none⟩ (.slice P20 m20 o20)).setCell ⟨w61.heap.size, 1, none⟩ (.slice P21 m21 o21)).setCell ⟨w61.heap.size, 2, none⟩ (.slice P22 m22 o22))).heap.size = w62.heap.size := by simp only [World.size_setCell]
    have hsz39 := Nat.le_of_eq hsz39.symm
    generalize (((w62.setCell ⟨w61.heap.size, 0, none⟩ (.slice P20 m20 o20)).setCell ⟨w61.heap.size, 1, none⟩ (.slice P21 m21 o21)).setCell ⟨w61.heap.size, 2, none⟩ (.slice P22 m22 o22)) = w39 at HCC HMM HQ2_39 Z_39 hsz39 ⊢
    have HR0_39 := Lib.hid (Ty.below_w HR0_4.out HCC.out)
    have HQ0_39 := Lib.hid (Ty.below_w HQ0_4.out HCC.out)
    have HQ1_39 := Lib.hid (Ty.below_w HQ1_4.out HCC.out)
    have C0_39 := Lib.hid (C0_4.out.below HCC.out C0_4.out.lt)
    have X_39 := Lib.hid (X_4.out.below HCC.out X_4.out.lt)
    have Y_39 := Lib.hid (Y_4.out.below HCC.out Y_4.out.lt)
    have EX_39 := Lib.hid (EX_4.out.below HCC.out)
    have E0_39 := Lib.hid (E0_4.out.below HCC.out)
    have HW39 := Lib.hid (HW4.out.trans (HCC.out.mono HW4.out.size))
    have HA39 := Lib.hid (show Below w39.heap.size w39 w39 from (Below.refl _ _))
    have c0_c0 := C0_39.out.cell 0
    have c0_c1 := C0_39.out.cell 1
    have c0_c2 := C0_39.out.cell 2
    have x_c0 := X_39.out.cell 0
    have x_c1 := X_39.out.cell 1
    have x_c2 := X_39.out.cell 2
    have y_c0 := Y_39.out.cell 0
    have y_c1 := Y_39.out.cell 1
    have y_c2 := Y_39.out.cell 2
    have z_c0 := Z_39.out.cell 0
    have z_c1 := Z_39.out.cell 1
    have z_c2 := Z_39.out.cell 2
    simp at c0_c0 c0_c1 c0_c2 x_c0 x_c1 x_c2 y_c0 y_c1 y_c2 z_c0 z_c1 z_c2
    have c0_l := C0_39.out.lt
    have x_l := X_39.out.lt
    have y_l := Y_39.out.lt
    have z_l := Z_39.out.lt
    go_wp2_with fail
    refine (HOK.out (Ty.below_w HQ0_39.out HA39.out)).mono ?_
    rintro e w40 ⟨rfl, hb40⟩
    clear c0_c0 c0_c1 c0_c2 x_c0 x_c1 x_c2 y_c0 y_c1 y_c2 z_c0 z_c1 z_c2 c0_l x_l y_l z_l
    have HC40 := Lib.hid (HA39.out.trans (hb40.mono HA39.out.size))
    have HW40 := Lib.hid (HW39.out.trans (HC40.out.mono HW39.out.size))
    have HR0_40 := Lib.hid (Ty.below_w HR0_39.out HC40.out)
    have HQ0_40 := Lib.hid (Ty.below_w HQ0_39.out HC40.out)
    have HQ1_40 := Lib.hid (Ty.below_w HQ1_39.out HC40.out)
    have HQ2_40 := Lib.hid (Ty.below_w HQ2_39.out HC40.out)
    have C0_40 := Lib.hid (C0_39.out.below HC40.out C0_39.out.lt)
    have X_40 := Lib.hid (X_39.out.below HC40.out X_39.out.lt)
    have Y_40 := Lib.hid (Y_39.out.below HC40.out Y_39.out.lt)
    have Z_40 := Lib.hid (Z_39.out.below HC40.out Z_39.out.lt)
    clear hb40
    have EX_40 := Lib.hid (EX_39.out.below HC40.out)
    have E0_40 := Lib.hid (E0_39.out.below HC40.out)
    rw [HOK1.out]
    have r1 := EX_40.out.c2 k hk
    dsimp only at r1
    rw [getD_set' L0 k k d' 0 (by rw [HSG.out.2.2.1]; exact hk), if_pos rfl] at r1
    have hdd : (d' == d') = true := by simp
    have HA40 := Lib.hid (show Below w40.heap.size w40 w40 from (Below.refl _ _))
    have c0_c0 := C0_40.out.cell 0
    have c0_c1 := C0_40.out.cell 1
    have c0_c2 := C0_40.out.cell 2
    have x_c0 := X_40.out.cell 0
    have x_c1 := X_40.out.cell 1
    have x_c2 := X_40.out.cell 2
    have y_c0 := Y_40.out.cell 0
    have y_c1 := Y_40.out.cell 1
    have y_c2 := Y_40.out.cell 2
    have z_c0 := Z_40.out.cell 0
    have z_c1 := Z_40.out.cell 1
    have z_c2 := Z_40.out.cell 2
    simp at c0_c0 c0_c1 c0_c2 x_c0 x_c1 x_c2 y_c0 y_c1 y_c2 z_c0 z_c1 z_c2
    have c0_l := C0_40.out.lt
    have x_l := X_40.out.lt
    have y_l := Y_40.out.lt
    have z_l := Z_40.out.lt
    go_wp2_with fail
    refine (qdSigs_t (Ty.below_w HQ2_40.out HA40.out) (Ty.below_w HR0_40.out HA40.out)).mono ?_
    rintro e w41 ⟨rfl, hb41⟩
    clear c0_c0 c0_c1 c0_c2 x_c0 x_c1 x_c2 y_c0 y_c1 y_c2 z_c0 z_c1 z_c2 c0_l x_l y_l z_l
    have HC41 := Lib.hid (HA40.out.trans (hb41.mono HA40.out.size))
    have HW41 := Lib.hid (HW40.out.trans (HC41.out.mono HW40.out.size))
    have HR0_41 := Lib.hid (Ty.below_w HR0_40.out HC41.out)
    have HQ0_41 := Lib.hid (Ty.below_w HQ0_40.out HC41.out)
    have HQ1_41 := Lib.hid (Ty.below_w HQ1_40.out HC41.out)
    have HQ2_41 := Lib.hid (Ty.below_w HQ2_40.out HC41.out)
    have C0_41 := Lib.hid (C0_40.out.below HC41.out C0_40.out.lt)
    have X_41 := Lib.hid (X_40.out.below HC41.out X_40.out.lt)
    have Y_41 := Lib.hid (Y_40.out.below HC41.out Y_40.out.lt)
    have Z_41 := Lib.hid (Z_40.out.below HC41.out Z_40.out.lt)
    clear hb41
    have EX_41 := Lib.hid (EX_40.out.below HC41.out)
    have E0_41 := Lib.hid (E0_40.out.below HC41.out)
    go_wp2_with fail
    go_ret
    exact ⟨rfl, HW41.out⟩
  · go_simp
    have HT64 := Lib.hid (show Below w4.heap.size w4 ((w4.alloc (.cells #[.slice none 0 0, .slice none 0 0, .slice none 0 0] 26)).drew) from ((Below.refl _ _).alloc (Nat.le_refl _) (.cells #[.slice none 0 0, .slice none 0 0, .slice none 0 0] 26)).drew)
    have HN64 := Lib.hid (show Box ((w4.alloc (.cells #[.slice none 0 0, .slice none 0 0, .slice none 0 0] 26)).drew) w4.heap.size #[.slice none 0 0, .slice none 0 0, .slice none 0 0] 26 from Box.new w4 #[.slice none 0 0, .slice none 0 0, .slice none 0 0] 26)
    have hs64 : w4.heap.size < ((w4.alloc (.cells #[.slice none 0 0, .slice none 0 0, .slice none 0 0] 26)).drew).heap.size := by show w4.heap.size < (w4.alloc (.cells #[.slice none 0 0, .slice none 0 0, .slice none 0 0] 26)).heap.size; simp
    generalize (w4.alloc (.cells #[.slice none 0 0, .slice none 0 0, .slice none 0 0] 26)).drew = w64 at HT64 HN64 hs64 ⊢
    have HR0_64 := Lib.hid (Ty.below_w HR0_4.out HT64.out)
    have HQ0_64 := Lib.hid (Ty.below_w HQ0_4.out HT64.out)
    have HQ1_64 := Lib.hid (Ty.below_w HQ1_4.out HT64.out)
    have C0_64 := Lib.hid (C0_4.out.below HT64.out C0_4.out.lt)
    have X_64 := Lib.hid (X_4.out.below HT64.out X_4.out.lt)
    have Y_64 := Lib.hid (Y_4.out.below HT64.out Y_4.out.lt)
    have EX_64 := Lib.hid (EX_4.out.below HT64.out)
    have E0_64 := Lib.hid (E0_4.out.below HT64.out)
    refine hK.out _ _ ⟨X_64.out.cell 0, X_64.out.cell 1, X_64.out.cell 2, C0_64.out.cell 2, E0_64.out.c2 k hk⟩ (fun hHeld => ?_)
    clear hK K
    try simp only [Act.put, List.setIfInBounds_toArray, List.set_cons_zero, List.set_cons_succ, List.getElem_toArray, List.getElem_cons_zero, List.getElem_cons_succ]
    refine wpAnyH_ready (rs := [8]) (by kernel_rfl) (by simp) ?_
    refine (AllReadyH.cons rfl (fun K hK => ?_) AllReadyH.nil)
    go_simp
    go_at_call 30
    refine (HSET.out n' (L0.getD k 0) HQ0_64.out HSA.out).mono ?_
    rw [HBK.out.1, HBK.out.2]
    rintro e w65 ⟨e0, e1, e2, fp2, rfl, hm2, hf2, hsm2, hb65⟩
    clear hsm2
    have HT65 := Lib.hid (show Below w64.heap.size w64 w65 from hb65)
    have HF := Lib.hid hf2
    have HM65 := Lib.hid hm2
    have hsz65 := HT65.out.size
    obtain ⟨P20, m20, o20, P21, m21, o21, P22, m22, o22, hcs⟩ := tySigs_shM hm2
    simp only [List.cons.injEq, and_true] at hcs
    obtain ⟨rfl, rfl, rfl⟩ := hcs
    clear hb65 hf2 hm2
    have HY65 := Lib.hid (HN64.out.below HT65.out HN64.out.lt)
    have HR0_65 := Lib.hid (Ty.below_w HR0_64.out HT65.out)
    have HQ0_65 := Lib.hid (Ty.below_w HQ0_64.out HT65.out)
    have HQ1_65 := Lib.hid (Ty.below_w HQ1_64.out HT65.out)
    have C0_65 := Lib.hid (C0_64.out.below HT65.out C0_64.out.lt)
    have X_65 := Lib.hid (X_64.out.below HT65.out X_64.out.lt)
    have Y_65 := Lib.hid (Y_64.out.below HT65.out Y_64.out.lt)
    have EX_65 := Lib.hid (EX_64.out.below HT65.out)
    have E0_65 := Lib.hid (E0_64.out.below HT65.out)
    refine hK.out _ _ ⟨X_65.out.cell 0, X_65.out.cell 1, X_65.out.cell 2, C0_65.out.cell 2, E0_65.out.c2 k hk⟩ (fun hHeld => ?_)
    clear hK K
    try simp only [Act.put, List.setIfInBounds_toArray, List.set_cons_zero, List.set_cons_succ, List.getElem_toArray, List.getElem_cons_zero, List.getElem_cons_succ]
    refine wpAnyH_take (i := 9) (v := ?vz13_9) rfl (by kernel_rfl) (by kernel_rfl) (by kernel_rfl) (fun _ _ _ h => h) (Or.inl ⟨by rfl, ?hyz13_9⟩) (by assumption) ?restz13_9
    case hyz13_9 =>
      intro w hSw
      try dsimp only at hSw
      go_simp
      try with_reducible rfl
    try simp only [Act.put, List.setIfInBounds_toArray, List.set_cons_zero, List.set_cons_succ, List.getElem_toArray, List.getElem_cons_zero, List.getElem_cons_succ]
    refine wpAnyH_take (i := 10) (v := ?vz14_10) rfl (by kernel_rfl) (by kernel_rfl) (by kernel_rfl) (fun _ _ _ h => h) (Or.inl ⟨by rfl, ?hyz14_10⟩) (by assumption) ?restz14_10
    case hyz14_10 =>
      intro w hSw
      try dsimp only at hSw
      go_simp
      try with_reducible rfl
    try simp only [Act.put, List.setIfInBounds_toArray, List.set_cons_zero, List.set_cons_succ, List.getElem_toArray, List.getElem_cons_zero, List.getElem_cons_succ]
    refine wpAnyH_take (i := 11) (v := ?vz15_11) rfl (by kernel_rfl) (by kernel_rfl) (by kernel_rfl) (fun _ _ _ h => h) (Or.inl ⟨by rfl, ?hyz15_11⟩) (by assumption) ?restz15_11
    case hyz15_11 =>
      intro w hSw
      try dsimp only at hSw
      go_simp
      try with_reducible rfl
    try simp only [Act.put, List.setIfInBounds_toArray, List.set_cons_zero, List.set_cons_succ, List.getElem_toArray, List.getElem_cons_zero, List.getElem_cons_succ]
    refine wpAnyH_ready (rs := [13]) (by kernel_rfl) (by simp) ?_
    refine (AllReadyH.cons rfl (fun K hK => ?_) AllReadyH.nil)
    have z0 := HY65.out.cell 0
    have zf0 := HY65.out.frz 0
    have z1 := HY65.out.cell 1
    have zf1 := HY65.out.frz 1
    have z2 := HY65.out.cell 2
    have zf2 := HY65.out.frz 2
    have zl := HY65.out.lt
    simp at z0 z1 z2
    go_simp
    refine hK.out _ _ ⟨(((X_65.out.other (a := ⟨w4.heap.size, 0, none⟩) (by show w2.heap.size ≠ w4.heap.size; omega) _).other (a := ⟨w4.heap.size, 1, none⟩) (by show w2.heap.size ≠ w4.heap.size; omega) _).other (a := ⟨w4.heap.size, 2, none⟩) (by show w2.heap.size ≠ w4.heap.size; omega) _).cell 0, (((X_65.out.other (a := ⟨w4.heap.size, 0, none⟩) (by show w2.heap.size ≠ w4.heap.size; omega) _).other (a := ⟨w4.heap.size, 1, none⟩) (by show w2.heap.size ≠ w4.heap.size; omega) _).other (a := ⟨w4.heap.size, 2, none⟩) (by show w2.heap.size ≠ w4.heap.size; omega) _).cell 1, (((X_65.out.other (a := ⟨w4.heap.size, 0, none⟩) (by show w2.heap.size ≠ w4.heap.size; omega) _).other (a := ⟨w4.heap.size, 1, none⟩) (by show w2.heap.size ≠ w4.heap.size; omega) _).other (a := ⟨w4.heap.size, 2, none⟩) (by show w2.heap.size ≠ w4.heap.size; omega) _).cell 2, (((C0_65.out.other (a := ⟨w4.heap.size, 0, none⟩) (by show w1.heap.size ≠ w4.heap.size; omega) _).other (a := ⟨w4.heap.size, 1, none⟩) (by show w1.heap.size ≠ w4.heap.size; omega) _).other (a := ⟨w4.heap.size, 2, none⟩) (by show w1.heap.size ≠ w4.heap.size; omega) _).cell 2, (World.cell?_setCell_other _ _ _ _ (fun e => by injection e with e1 _; omega)).trans ((World.cell?_setCell_other _ _ _ _ (fun e => by injection e with e1 _; omega)).trans ((World.cell?_setCell_other _ _ _ _ (fun e => by injection e with e1 _; omega)).trans (E0_65.out.c2 k hk)))⟩ (fun hHeld => ?_)
    clear hK K z0 z1 z2 zf0 zf1 zf2 zl
    try simp only [Act.put, List.setIfInBounds_toArray, List.set_cons_zero, List.set_cons_succ, List.getElem_toArray, List.getElem_cons_zero, List.getElem_cons_succ]
    refine wpAnyH_take (i := 14) (v := ?vz16_14) rfl (by kernel_rfl) (by kernel_rfl) (by kernel_rfl) (fun _ _ _ h => h) (Or.inl ⟨by rfl, ?hyz16_14⟩) (by assumption) ?restz16_14
    case hyz16_14 =>
      intro w hSw
      try dsimp only at hSw
      go_simp
      try with_reducible rfl
    try simp only [Act.put, List.setIfInBounds_toArray, List.set_cons_zero, List.set_cons_succ, List.getElem_toArray, List.getElem_cons_zero, List.getElem_cons_succ]
    refine wpAnyH_done (by kernel_rfl) ?_ _
    clear c0_c0 c0_c1 c0_c2 x_c0 x_c1 x_c2 y_c0 y_c1 y_c2 c0_l x_l y_l r0
    have HCC := Lib.hid (((((HT64.out.trans (HT65.out.mono HT64.out.size))).setCell (p := ⟨w4.heap.size, 0, none⟩) (by show w4.heap.size ≤ w4.heap.size; omega) (.slice P20 m20 o20)).setCell (p := ⟨w4.heap.size, 1, none⟩) (by show w4.heap.size ≤ w4.heap.size; omega) (.slice P21 m21 o21)).setCell (p := ⟨w4.heap.size, 2, none⟩) (by show w4.heap.size ≤ w4.heap.size; omega) (.slice P22 m22 o22))
    have HMM := Lib.hid (tySigs.mframe (tySigs.mframe (tySigs.mframe HM65.out fun b hb => heap_setCell_other _ ⟨w4.heap.size, 0, none⟩ b (.slice P20 m20 o20) (by have h := HF.out b hb; show b ≠ w4.heap.size; omega)) fun b hb => heap_setCell_other _ ⟨w4.heap.size, 1, none⟩ b (.slice P21 m21 o21) (by have h := HF.out b hb; show b ≠ w4.heap.size; omega)) fun b hb => heap_setCell_other _ ⟨w4.heap.size, 2, none⟩ b (.slice P22 m22 o22) (by have h := HF.out b hb; show b ≠ w4.heap.size; omega))
    have HQ2_39 := Lib.hid (tySigs.mr (hi := ((((w65.setCell ⟨w4.heap.size, 0, none⟩ (.slice P20 m20 o20)).setCell ⟨w4.heap.size, 1, none⟩ (.slice P21 m21 o21)).setCell ⟨w4.heap.size, 2, none⟩ (.slice P22 m22 o22))).heap.size) HMM.out fun b hb => by have h := HF.out b hb; simp only [World.size_setCell]; omega)
    have Z_39 := Lib.hid (show Box (((w65.setCell ⟨w4.heap.size, 0, none⟩ (.slice P20 m20 o20)).setCell ⟨w4.heap.size, 1, none⟩ (.slice P21 m21 o21)).setCell ⟨w4.heap.size, 2, none⟩ (.slice P22 m22 o22)) w4.heap.size #[.slice P20 m20 o20, .slice P21 m21 o21, .slice P22 m22 o22] 26 by have h := ((HY65.out.set 0 (.slice P20 m20 o20)).set 1 (.slice P21 m21 o21)).set 2 (.slice P22 m22 o22); simpa using h)
    have hsz39 : ((((w65.setCell ⟨w4.heap.size, 0, none⟩ (.slice P20 m20 o20)).setCell ⟨w4.heap.size, 1, none⟩ (.slice P21 m21 o21)).setCell ⟨w4.heap.size, 2, none⟩ (.slice P22 m22 o22))).heap.size = w65.heap.size := by simp only [World.size_setCell]
    have hsz39 := Nat.le_of_eq hsz39.symm
    generalize (((w65.setCell ⟨w4.heap.size, 0, none⟩ (.slice P20 m20 o20)).setCell ⟨w4.heap.size, 1, none⟩ (.slice P21 m21 o21)).setCell ⟨w4.heap.size, 2, none⟩ (.slice P22 m22 o22)) = w39 at HCC HMM HQ2_39 Z_39 hsz39 ⊢
    have HR0_39 := Lib.hid (Ty.below_w HR0_4.out HCC.out)
    have HQ0_39 := Lib.hid (Ty.below_w HQ0_4.out HCC.out)
    have HQ1_39 := Lib.hid (Ty.below_w HQ1_4.out HCC.out)
    have C0_39 := Lib.hid (C0_4.out.below HCC.out C0_4.out.lt)
    have X_39 := Lib.hid (X_4.out.below HCC.out X_4.out.lt)
    have Y_39 := Lib.hid (Y_4.out.below HCC.out Y_4.out.lt)
    have EX_39 := Lib.hid (EX_4.out.below HCC.out)
    have E0_39 := Lib.hid (E0_4.out.below HCC.out)
    have HW39 := Lib.hid (HW4.out.trans (HCC.out.mono HW4.out.size))
    have HA39 := Lib.hid (show Below w39.heap.size w39 w39 from (Below.refl _ _))
    have c0_c0 := C0_39.out.cell 0
    have c0_c1 := C0_39.out.cell 1
    have c0_c2 := C0_39.out.cell 2
    have x_c0 := X_39.out.cell 0
    have x_c1 := X_39.out.cell 1
    have x_c2 := X_39.out.cell 2
    have y_c0 := Y_39.out.cell 0
    have y_c1 := Y_39.out.cell 1
    have y_c2 := Y_39.out.cell 2
    have z_c0 := Z_39.out.cell 0
    have z_c1 := Z_39.out.cell 1
    have z_c2 := Z_39.out.cell 2
    simp at c0_c0 c0_c1 c0_c2 x_c0 x_c1 x_c2 y_c0 y_c1 y_c2 z_c0 z_c1 z_c2
    have c0_l := C0_39.out.lt
    have x_l := X_39.out.lt
    have y_l := Y_39.out.lt
    have z_l := Z_39.out.lt
    go_wp2_with fail
    refine (HOK.out (Ty.below_w HQ0_39.out HA39.out)).mono ?_
    rintro e w40 ⟨rfl, hb40⟩
    clear c0_c0 c0_c1 c0_c2 x_c0 x_c1 x_c2 y_c0 y_c1 y_c2 z_c0 z_c1 z_c2 c0_l x_l y_l z_l
    have HC40 := Lib.hid (HA39.out.trans (hb40.mono HA39.out.size))
    have HW40 := Lib.hid (HW39.out.trans (HC40.out.mono HW39.out.size))
    have HR0_40 := Lib.hid (Ty.below_w HR0_39.out HC40.out)
    have HQ0_40 := Lib.hid (Ty.below_w HQ0_39.out HC40.out)
    have HQ1_40 := Lib.hid (Ty.below_w HQ1_39.out HC40.out)
    have HQ2_40 := Lib.hid (Ty.below_w HQ2_39.out HC40.out)
    have C0_40 := Lib.hid (C0_39.out.below HC40.out C0_39.out.lt)
    have X_40 := Lib.hid (X_39.out.below HC40.out X_39.out.lt)
    have Y_40 := Lib.hid (Y_39.out.below HC40.out Y_39.out.lt)
    have Z_40 := Lib.hid (Z_39.out.below HC40.out Z_39.out.lt)
    clear hb40
    have EX_40 := Lib.hid (EX_39.out.below HC40.out)
    have E0_40 := Lib.hid (E0_39.out.below HC40.out)
    rw [HOK1.out]
    have r1 := EX_40.out.c2 k hk
    dsimp only at r1
    rw [getD_set' L0 k k d' 0 (by rw [HSG.out.2.2.1]; exact hk), if_pos rfl] at r1
    have hdd : (d' == d') = true := by simp
    have HA40 := Lib.hid (show Below w40.heap.size w40 w40 from (Below.refl _ _))
    have c0_c0 := C0_40.out.cell 0
    have c0_c1 := C0_40.out.cell 1
    have c0_c2 := C0_40.out.cell 2
    have x_c0 := X_40.out.cell 0
    have x_c1 := X_40.out.cell 1
    have x_c2 := X_40.out.cell 2
    have y_c0 := Y_40.out.cell 0
    have y_c1 := Y_40.out.cell 1
    have y_c2 := Y_40.out.cell 2
    have z_c0 := Z_40.out.cell 0
    have z_c1 := Z_40.out.cell 1
    have z_c2 := Z_40.out.cell 2
    simp at c0_c0 c0_c1 c0_c2 x_c0 x_c1 x_c2 y_c0 y_c1 y_c2 z_c0 z_c1 z_c2
    have c0_l := C0_40.out.lt
    have x_l := X_40.out.lt
    have y_l := Y_40.out.lt
    have z_l := Z_40.out.lt
    go_wp2_with fail
    refine (qdSigs_t (Ty.below_w HQ2_40.out HA40.out) (Ty.below_w HR0_40.out HA40.out)).mono ?_
    rintro e w41 ⟨rfl, hb41⟩
    clear c0_c0 c0_c1 c0_c2 x_c0 x_c1 x_c2 y_c0 y_c1 y_c2 z_c0 z_c1 z_c2 c0_l x_l y_l z_l
    have HC41 := Lib.hid (HA40.out.trans (hb41.mono HA40.out.size))
    have HW41 := Lib.hid (HW40.out.trans (HC41.out.mono HW40.out.size))
    have HR0_41 := Lib.hid (Ty.below_w HR0_40.out HC41.out)
    have HQ0_41 := Lib.hid (Ty.below_w HQ0_40.out HC41.out)
    have HQ1_41 := Lib.hid (Ty.below_w HQ1_40.out HC41.out)
    have HQ2_41 := Lib.hid (Ty.below_w HQ2_40.out HC41.out)
    have C0_41 := Lib.hid (C0_40.out.below HC41.out C0_40.out.lt)
    have X_41 := Lib.hid (X_40.out.below HC41.out X_40.out.lt)
    have Y_41 := Lib.hid (Y_40.out.below HC41.out Y_40.out.lt)
    have Z_41 := Lib.hid (Z_40.out.below HC41.out Z_40.out.lt)
    clear hb41
    have EX_41 := Lib.hid (EX_40.out.below HC41.out)
    have E0_41 := Lib.hid (E0_40.out.below HC41.out)
    go_wp2_with fail
    go_ret
    exact ⟨rfl, HW41.out⟩
end
end Go.Proofs.Ytncinocpdeokgaa

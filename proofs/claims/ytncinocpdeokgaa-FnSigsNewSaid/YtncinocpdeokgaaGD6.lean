/-
  The walk of FnSigsNew.
-/
import Derived.Test.YtncinocpdeokgaaGDraw3
import Derived.Test.YtncinocpdeokgaaTqSigs
import Derived.Test.YtncinocpdeokgaaGSs
namespace Go.Proofs.Ytncinocpdeokgaa
open Go.RowKit

section
variable {A : Option Addr} {n c : Nat} {w : World}
set_option maxHeartbeats 4000000 in
set_option maxRecDepth 100000 in
theorem dSigsNew_walk (hOk : GOk 26) (hNew : GNew 22) (hNxt : GNxt 23) (hc : Code w A n) (_hcap : n ≤ c) (_hcap2 : c ≤ maxLen) : Calls Try.prog 3 #[.slice A n c] w fun e w' => e = .returned (.bool true) ∧ Below w.heap.size w w' := by
  have hn := hc.1
  unfold maxLen at hn
  by_cases hbig : (1048576 : Int) < n
  · go_enter Try.func3, Try.ntmps3
    go_wp2_with fail
    go_ret
    exact ⟨rfl, Below.refl _ _⟩
  have HCODE := Lib.hid hc
  clear hc
  have HOK := Lib.hid hOk
  clear hOk
  have HNEW := Lib.hid hNew
  clear hNew
  have HNXT := Lib.hid hNxt
  clear hNxt
  have HW0 := Lib.hid (Below.refl w.heap.size w)
  go_enter Try.func3, Try.ntmps3
  have HA0 := Lib.hid (show Below w.heap.size w w from (Below.refl _ _))
  go_wp2_with fail
  refine (HNEW.out).mono ?_
  rintro e w1 ⟨a0, a1, a2, fp0, rfl, hm0, hf0, hsm0, hb1⟩
  have HC1 := Lib.hid (HA0.out.trans (hb1.mono HA0.out.size))
  have HW1 := Lib.hid (HW0.out.trans (HC1.out.mono HW0.out.size))
  clear hb1
  have HSA := Lib.hid hsm0
  clear hsm0
  obtain ⟨E00, m00, o00, E01, m01, o01, E02, m02, o02, hcs⟩ := tySigs_shM hm0
  simp only [List.cons.injEq, and_true] at hcs
  obtain ⟨rfl, rfl, rfl⟩ := hcs
  have HQ0_1 := Lib.hid (tySigs.mr hm0 fun b hb => (hf0 b hb).2)
  clear hm0 hf0
  have HA1 := Lib.hid (show Below w1.heap.size w1 (w1.alloc (.cells #[.slice E00 m00 o00, .slice E01 m01 o01, .slice E02 m02 o02] 26)) from ((Below.refl _ _).alloc (Nat.le_refl _) _))
  go_wp2_with fail
  refine (HNXT.out (Ty.below_w HQ0_1.out HA1.out) HSA.out).mono ?_
  rintro e w2 ⟨b0, b1, b2, fp1, rfl, hm1, hf1, hsm1, hb2⟩
  have HC2 := Lib.hid (HA1.out.trans (hb2.mono HA1.out.size))
  have HW2 := Lib.hid (HW1.out.trans (HC2.out.mono HW1.out.size))
  have HQ0_2 := Lib.hid (Ty.below_w HQ0_1.out HC2.out)
  have X_2 := Lib.hid ((Box.new w1 #[.slice E00 m00 o00, .slice E01 m01 o01, .slice E02 m02 o02] 26).below hb2 (by simp only [World.size_alloc]; omega))
  clear hb2
  clear hsm1
  rw [new_facts.2.1, new_facts.2.2]
  obtain ⟨F10, m10, o10, F11, m11, o11, F12, m12, o12, hcs⟩ := tySigs_shM hm1
  simp only [List.cons.injEq, and_true] at hcs
  obtain ⟨rfl, rfl, rfl⟩ := hcs
  have HQ1_2 := Lib.hid (tySigs.mr hm1 fun b hb => (hf1 b hb).2)
  clear hm1 hf1
  have HA2 := Lib.hid (show Below w2.heap.size w2 (w2.alloc (.cells #[.slice F10 m10 o10, .slice F11 m11 o11, .slice F12 m12 o12] 26)) from ((Below.refl _ _).alloc (Nat.le_refl _) _))
  have x_c0 := X_2.out.cell 0
  have x_c1 := X_2.out.cell 1
  have x_c2 := X_2.out.cell 2
  simp at x_c0 x_c1 x_c2
  have x_l := X_2.out.lt
  have hn0 : (0 : Int) ≤ n := by omega
  go_wp2_with fail
  have X_9 := Lib.hid (X_2.out.alloc (.cells #[.slice F10 m10 o10, .slice F11 m11 o11, .slice F12 m12 o12] 26))
  have HQ0_9 := Lib.hid (Ty.below_w HQ0_2.out HA2.out)
  have HW9 := Lib.hid (HW2.out.trans (HA2.out.mono HW2.out.size))
  generalize (w2.alloc (.cells #[.slice F10 m10 o10, .slice F11 m11 o11, .slice F12 m12 o12] 26)) = w9 at X_9 HQ0_9 HW9 ⊢
  clear x_c0 x_c1 x_c2 x_l
  have x_c0 := X_9.out.cell 0
  have x_c1 := X_9.out.cell 1
  have x_c2 := X_9.out.cell 2
  simp at x_c0 x_c1 x_c2
  have x_l := X_9.out.lt
  refine wp_region_held_drew (S := fun w' => w'.cell? ⟨w1.heap.size, 0, none⟩ = some (.slice E00 m00 o00) ∧ w'.cell? ⟨w1.heap.size, 1, none⟩ = some (.slice E01 m01 o01) ∧ w'.cell? ⟨w1.heap.size, 2, none⟩ = some (.slice E02 m02 o02)) (by kernel_rfl) ⟨x_c0, x_c1, x_c2⟩ (fun hHeld => ?_)
  refine wpAnyH_take (i := 0) (v := ?vr0) rfl (by kernel_rfl) (by kernel_rfl) (by kernel_rfl) (fun _ _ _ h => h) (Or.inl ⟨by rfl, ?hyr0⟩) (by assumption) ?restr0
  case hyr0 =>
    intro w hSw
    try dsimp only at hSw
    go_simp
    try with_reducible rfl
  simp only [Act.put, List.setIfInBounds_toArray, List.set_cons_zero, List.set_cons_succ, List.getElem_toArray, List.getElem_cons_zero]
  refine wpAnyH_ready (rs := [1]) (by kernel_rfl) (by simp) ?_
  refine AllReadyH.cons rfl (fun K hK => ?_) AllReadyH.nil
  go_simp
  go_at_call 25
  refine (sigsNew_any).mono ?_
  rintro e w10 ⟨e0, e1, e2, fp5, rfl, hm5, hf5, _, hb10⟩
  have HC10 := Lib.hid (show Below w9.heap.size w9 w10 from (Below.refl _ _).drew.trans (hb10.mono (Nat.le_refl _)))
  have HW10 := Lib.hid (HW9.out.trans (HC10.out.mono HW9.out.size))
  have HQ0_10 := Lib.hid (Ty.below_w HQ0_9.out HC10.out)
  have X_10 := Lib.hid (X_9.out.below HC10.out X_9.out.lt)
  clear hb10
  have HQ5_10 := Lib.hid (tySigs.mr hm5 fun b hb => (hf5 b hb).2)
  obtain ⟨I50, m50, o50, I51, m51, o51, I52, m52, o52, hcs⟩ := tySigs_shM hm5
  simp only [List.cons.injEq, and_true] at hcs
  obtain ⟨rfl, rfl, rfl⟩ := hcs
  clear hm5 hf5
  refine hK.out _ _ ?_ (fun hHeld => ?_)
  · exact ⟨X_10.out.cell 0, X_10.out.cell 1, X_10.out.cell 2⟩
  clear hK K
  try simp only [Act.put, List.setIfInBounds_toArray, List.set_cons_zero, List.set_cons_succ, List.getElem_toArray, List.getElem_cons_zero, List.getElem_cons_succ]
  refine wpAnyH_ready (rs := [2]) (by kernel_rfl) (by simp) ?_
  refine AllReadyH.cons rfl (fun K hK => ?_) AllReadyH.nil
  go_simp
  go_at_call 24
  refine (qdSigs_t HQ0_10.out HQ5_10.out).mono ?_
  rintro e w11 ⟨rfl, hb11⟩
  have HC11 := Lib.hid (show Below w10.heap.size w10 w11 from hb11)
  have HW11 := Lib.hid (HW10.out.trans (HC11.out.mono HW10.out.size))
  have HQ0_11 := Lib.hid (Ty.below_w HQ0_10.out HC11.out)
  have HQ5_11 := Lib.hid (Ty.below_w HQ5_10.out HC11.out)
  have X_11 := Lib.hid (X_10.out.below HC11.out X_10.out.lt)
  clear hb11
  refine hK.out _ _ ?_ (fun hHeld => ?_)
  · exact ⟨X_11.out.cell 0, X_11.out.cell 1, X_11.out.cell 2⟩
  clear hK K
  try simp only [Act.put, List.setIfInBounds_toArray, List.set_cons_zero, List.set_cons_succ, List.getElem_toArray, List.getElem_cons_zero, List.getElem_cons_succ]
  refine wpAnyH_take (i := 3) (v := ?vr3) rfl (by kernel_rfl) (by kernel_rfl) (by kernel_rfl) (fun _ _ _ h => h) (Or.inl ⟨by rfl, ?hyr3⟩) (by assumption) ?restr3
  case hyr3 =>
    intro w hSw
    try dsimp only at hSw
    go_simp
    try with_reducible rfl
  simp only [Act.put, List.setIfInBounds_toArray, List.set_cons_zero, List.set_cons_succ, List.getElem_toArray, List.getElem_cons_zero, List.getElem_cons_succ]
  refine wpAnyH_take (i := 4) (v := ?vr4) rfl (by kernel_rfl) (by kernel_rfl) (by kernel_rfl) (fun _ _ _ h => h) (Or.inl ⟨by rfl, ?hyr4⟩) (by assumption) ?restr4
  case hyr4 =>
    intro w hSw
    try dsimp only at hSw
    go_simp
    try with_reducible rfl
  simp only [Act.put, List.setIfInBounds_toArray, List.set_cons_zero, List.set_cons_succ, List.getElem_toArray, List.getElem_cons_zero, List.getElem_cons_succ]
  refine wpAnyH_ready (rs := [5]) (by kernel_rfl) (by simp) ?_
  refine AllReadyH.cons rfl (fun K hK => ?_) AllReadyH.nil
  go_simp
  go_at_call 26
  refine (HOK.out HQ0_11.out).mono ?_
  rw [new_facts.1]
  rintro e w12 ⟨rfl, hb12⟩
  have HC12 := Lib.hid (show Below w11.heap.size w11 w12 from hb12)
  have HW12 := Lib.hid (HW11.out.trans (HC12.out.mono HW11.out.size))
  have HQ0_12 := Lib.hid (Ty.below_w HQ0_11.out HC12.out)
  have HQ5_12 := Lib.hid (Ty.below_w HQ5_11.out HC12.out)
  have X_12 := Lib.hid (X_11.out.below HC12.out X_11.out.lt)
  clear hb12
  refine hK.out _ _ ?_ (fun hHeld => ?_)
  · exact ⟨X_12.out.cell 0, X_12.out.cell 1, X_12.out.cell 2⟩
  clear hK K
  try simp only [Act.put, List.setIfInBounds_toArray, List.set_cons_zero, List.set_cons_succ, List.getElem_toArray, List.getElem_cons_zero, List.getElem_cons_succ]
  refine wpAnyH_take (i := 6) (v := ?vr6) rfl (by kernel_rfl) (by kernel_rfl) (by kernel_rfl) (fun _ _ _ h => h) (Or.inl ⟨by rfl, ?hyr6⟩) (by assumption) ?restr6
  case hyr6 =>
    intro w hSw
    try dsimp only at hSw
    go_simp
    try with_reducible rfl
  simp only [Act.put, List.setIfInBounds_toArray, List.set_cons_zero, List.set_cons_succ, List.getElem_toArray, List.getElem_cons_zero, List.getElem_cons_succ]
  refine wpAnyH_take (i := 7) (v := ?vr7) rfl (by kernel_rfl) (by kernel_rfl) (by kernel_rfl) (fun _ _ _ h => h) (Or.inl ⟨by rfl, ?hyr7⟩) (by assumption) ?restr7
  case hyr7 =>
    intro w hSw
    try dsimp only at hSw
    go_simp
    try with_reducible rfl
  simp only [Act.put, List.setIfInBounds_toArray, List.set_cons_zero, List.set_cons_succ, List.getElem_toArray, List.getElem_cons_zero, List.getElem_cons_succ]
  refine wpAnyH_take (i := 8) (v := ?vr8) rfl (by kernel_rfl) (by kernel_rfl) (by kernel_rfl) (fun _ _ _ h => h) (Or.inl ⟨by rfl, ?hyr8⟩) (by assumption) ?restr8
  case hyr8 =>
    intro w hSw
    try dsimp only at hSw
    go_simp
    try with_reducible rfl
  simp only [Act.put, List.setIfInBounds_toArray, List.set_cons_zero, List.set_cons_succ, List.getElem_toArray, List.getElem_cons_zero, List.getElem_cons_succ]
  refine wpAnyH_take (i := 9) (v := ?vr9) rfl (by kernel_rfl) (by kernel_rfl) (by kernel_rfl) (fun _ _ _ h => h) (Or.inl ⟨by rfl, ?hyr9⟩) (by assumption) ?restr9
  case hyr9 =>
    intro w hSw
    try dsimp only at hSw
    go_simp
    try with_reducible rfl
  simp only [Act.put, List.setIfInBounds_toArray, List.set_cons_zero, List.set_cons_succ, List.getElem_toArray, List.getElem_cons_zero, List.getElem_cons_succ]
  refine wpAnyH_take (i := 10) (v := ?vr10) rfl (by kernel_rfl) (by kernel_rfl) (by kernel_rfl) (fun _ _ _ h => h) (Or.inl ⟨by rfl, ?hyr10⟩) (by assumption) ?restr10
  case hyr10 =>
    intro w hSw
    try dsimp only at hSw
    go_simp
    try with_reducible rfl
  simp only [Act.put, List.setIfInBounds_toArray, List.set_cons_zero, List.set_cons_succ, List.getElem_toArray, List.getElem_cons_zero, List.getElem_cons_succ]
  refine wpAnyH_take (i := 11) (v := ?vr11) rfl (by kernel_rfl) (by kernel_rfl) (by kernel_rfl) (fun _ _ _ h => h) (Or.inl ⟨by rfl, ?hyr11⟩) (by assumption) ?restr11
  case hyr11 =>
    intro w hSw
    try dsimp only at hSw
    go_simp
    try with_reducible rfl
  simp only [Act.put, List.setIfInBounds_toArray, List.set_cons_zero, List.set_cons_succ, List.getElem_toArray, List.getElem_cons_zero, List.getElem_cons_succ]
  refine wpAnyH_take (i := 12) (v := ?vr12) rfl (by kernel_rfl) (by kernel_rfl) (by kernel_rfl) (fun _ _ _ h => h) (Or.inl ⟨by rfl, ?hyr12⟩) (by assumption) ?restr12
  case hyr12 =>
    intro w hSw
    try dsimp only at hSw
    go_simp
    try with_reducible rfl
  simp only [Act.put, List.setIfInBounds_toArray, List.set_cons_zero, List.set_cons_succ, List.getElem_toArray, List.getElem_cons_zero, List.getElem_cons_succ]
  refine wpAnyH_take (i := 13) (v := ?vr13) rfl (by kernel_rfl) (by kernel_rfl) (by kernel_rfl) (fun _ _ _ h => h) (Or.inl ⟨by rfl, ?hyr13⟩) (by assumption) ?restr13
  case hyr13 =>
    intro w hSw
    try dsimp only at hSw
    go_simp
    try with_reducible rfl
  simp only [Act.put, List.setIfInBounds_toArray, List.set_cons_zero, List.set_cons_succ, List.getElem_toArray, List.getElem_cons_zero, List.getElem_cons_succ]
  refine wpAnyH_take (i := 14) (v := ?vr14) rfl (by kernel_rfl) (by kernel_rfl) (by kernel_rfl) (fun _ _ _ h => h) (Or.inl ⟨by rfl, ?hyr14⟩) (by assumption) ?restr14
  case hyr14 =>
    intro w hSw
    try dsimp only at hSw
    go_simp
    try with_reducible rfl
  simp only [Act.put, List.setIfInBounds_toArray, List.set_cons_zero, List.set_cons_succ, List.getElem_toArray, List.getElem_cons_zero, List.getElem_cons_succ]
  refine wpAnyH_take (i := 15) (v := ?vr15) rfl (by kernel_rfl) (by kernel_rfl) (by kernel_rfl) (fun _ _ _ h => h) (Or.inl ⟨by rfl, ?hyr15⟩) (by assumption) ?restr15
  case hyr15 =>
    intro w hSw
    try dsimp only at hSw
    go_simp
    try with_reducible rfl
  simp only [Act.put, List.setIfInBounds_toArray, List.set_cons_zero, List.set_cons_succ, List.getElem_toArray, List.getElem_cons_zero, List.getElem_cons_succ]
  refine wpAnyH_take (i := 16) (v := ?vr16) rfl (by kernel_rfl) (by kernel_rfl) (by kernel_rfl) (fun _ _ _ h => h) (Or.inl ⟨by rfl, ?hyr16⟩) (by assumption) ?restr16
  case hyr16 =>
    intro w hSw
    try dsimp only at hSw
    go_simp
    try with_reducible rfl
  simp only [Act.put, List.setIfInBounds_toArray, List.set_cons_zero, List.set_cons_succ, List.getElem_toArray, List.getElem_cons_zero, List.getElem_cons_succ]
  refine wpAnyH_take (i := 17) (v := ?vr17) rfl (by kernel_rfl) (by kernel_rfl) (by kernel_rfl) (fun _ _ _ h => h) (Or.inl ⟨by rfl, ?hyr17⟩) (by assumption) ?restr17
  case hyr17 =>
    intro w hSw
    try dsimp only at hSw
    go_simp
    try with_reducible rfl
  simp only [Act.put, List.setIfInBounds_toArray, List.set_cons_zero, List.set_cons_succ, List.getElem_toArray, List.getElem_cons_zero, List.getElem_cons_succ]
  refine wpAnyH_take (i := 18) (v := ?vr18) rfl (by kernel_rfl) (by kernel_rfl) (by kernel_rfl) (fun _ _ _ h => h) (Or.inl ⟨by rfl, ?hyr18⟩) (by assumption) ?restr18
  case hyr18 =>
    intro w hSw
    try dsimp only at hSw
    go_simp
    try with_reducible rfl
  simp only [Act.put, List.setIfInBounds_toArray, List.set_cons_zero, List.set_cons_succ, List.getElem_toArray, List.getElem_cons_zero, List.getElem_cons_succ]
  refine wpAnyH_take (i := 19) (v := ?vr19) rfl (by kernel_rfl) (by kernel_rfl) (by kernel_rfl) (fun _ _ _ h => h) (Or.inl ⟨by rfl, ?hyr19⟩) (by assumption) ?restr19
  case hyr19 =>
    intro w hSw
    try dsimp only at hSw
    go_simp
    try with_reducible rfl
  simp only [Act.put, List.setIfInBounds_toArray, List.set_cons_zero, List.set_cons_succ, List.getElem_toArray, List.getElem_cons_zero, List.getElem_cons_succ]
  refine wpAnyH_take (i := 20) (v := ?vr20) rfl (by kernel_rfl) (by kernel_rfl) (by kernel_rfl) (fun _ _ _ h => h) (Or.inl ⟨by rfl, ?hyr20⟩) (by assumption) ?restr20
  case hyr20 =>
    intro w hSw
    try dsimp only at hSw
    go_simp
    try with_reducible rfl
  simp only [Act.put, List.setIfInBounds_toArray, List.set_cons_zero, List.set_cons_succ, List.getElem_toArray, List.getElem_cons_zero, List.getElem_cons_succ]
  refine wpAnyH_done (by kernel_rfl) ?_ _
  go_wp2_with fail
  go_ret
  exact ⟨ret_bool (by simp), HW12.out⟩
end
end Go.Proofs.Ytncinocpdeokgaa

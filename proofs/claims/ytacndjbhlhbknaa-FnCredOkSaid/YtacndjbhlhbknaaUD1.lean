/-
  The walks of FnCredOk and the like on drawn arguments.
-/
import Derived.Test.YtacndjbhlhbknaaUDraw2
namespace Go.Proofs.Ytacndjbhlhbknaa
open Go.RowKit

section
variable {A : Option Addr} {n c : Nat} {w : World}
theorem bec_self (u v : Int) (l : List Int) : becB (u, v, l) u = credB (u, v, l) := by
  unfold becB
  dsimp only
  cases h : credB (u, v, l)
  · rfl
  · unfold credB at h
    rw [Bool.and_eq_true, Bool.and_eq_true] at h
    rw [h.2.1]
    simp
theorem sgn_self {u v : Int} {l : List Int} (h : credB (u, v, l) = true) : sgnB (u, v, l) (u, v, l) = true := by
  unfold sgnB
  rw [h]
  simp
theorem sgn_zero {u v x y : Int} {l k : List Int} (h : credB (u, v, l) = true) (h2 : credB (x, y, k) = true) (hz : u = 0) : sgnB (u, v, l) (x, y, k) = true := by
  subst hz
  unfold sgnB
  rw [h, h2]
  simp
theorem sgn_sym {u v x y : Int} {l k : List Int} (h : credB (u, v, l) = true) (h2 : credB (x, y, k) = true) (hz : ¬ u = 0) (hy : ¬ x = 0) : sgnB (x, y, k) (u, v, l) = sgnB (u, v, l) (x, y, k) := by
  unfold sgnB
  rw [h, h2]
  dsimp only
  rw [decide_eq_false hz, decide_eq_false hy]
  simp only [Bool.true_and, Bool.false_or]
  rw [Bool.eq_iff_iff]
  simp only [Bool.or_eq_true, decide_eq_true_eq]
  omega
theorem run_bec {u v x : Int} {l : List Int} (h : runB (u, v, l) x = true) : becB (x, v, l) v = true := by
  unfold runB credB at h
  rw [Bool.and_eq_true, Bool.and_eq_true, Bool.and_eq_true, Bool.and_eq_true] at h
  obtain ⟨⟨h1, h2, h3, h4⟩, h5⟩ := h
  dsimp only at h1 h2 h3 h4
  unfold becB credB
  dsimp only
  rw [h1, h3, h4, h5]
  simp
theorem bec_parts {u v x : Int} {l : List Int} (h : becB (u, v, l) x = true) : grTo l l.length = true ∧ uB u = true ∧ uB v = true ∧ decide (l.length ≤ 3) = true ∧ uB x = true ∧ (u = 0 ∨ x = v ∨ x = u) := by
  unfold becB credB at h
  simp only [Bool.and_eq_true, Bool.or_eq_true, decide_eq_true_eq] at h
  obtain ⟨⟨h1, h2, h3, h4⟩, h5, h6⟩ := h
  exact ⟨h1, h2, h3, decide_eq_true h4, h5, h6⟩
theorem bec_ok0 {v x : Int} {l : List Int} (h : becB (0, v, l) x = true) : credB (x, x, l) = true := by
  obtain ⟨h1, _, _, h4, h5, _⟩ := bec_parts h
  unfold credB
  dsimp only
  rw [h1, h4, h5]
  rfl
theorem bec_ok1 {u v x : Int} {l : List Int} (_hz : ¬ u = 0) (h : becB (u, v, l) x = true) : credB (x, v, l) = true := by
  obtain ⟨h1, _, h3, h4, h5, _⟩ := bec_parts h
  unfold credB
  dsimp only
  rw [h1, h3, h4, h5]
  rfl
theorem bec_or {u v x : Int} {l : List Int} (hz : ¬ u = 0) (h : becB (u, v, l) x = true) : x = v ∨ x = u := by
  have h6 := (bec_parts h).2.2.2.2.2
  omega
theorem bec_again {v x : Int} {l : List Int} (h : becB (0, v, l) x = true) : becB (x, x, l) x = true := by
  obtain ⟨h1, _, _, h4, h5, _⟩ := bec_parts h
  unfold becB credB
  dsimp only
  rw [h1, h4, h5]
  simp
theorem bec_gone {x : Int} {l : List Int} (h : ¬ x = 0) : becB (x, x, l) 0 = false := by
  unfold becB
  dsimp only
  rw [decide_eq_false h, decide_eq_false (show ¬ (0 : Int) = x from fun e => h e.symm)]
  simp


set_option maxHeartbeats 4000000 in
set_option maxRecDepth 100000 in
theorem dCredOk_walk (hm : COk 20) (hb : CBecM 22) (hc : Code w A n) (hcap : n ≤ c) (hcap2 : c ≤ maxLen) : Calls Try.prog 3 #[.slice A n c] w fun e w' => e = .returned (.bool true) ∧ Below w.heap.size w w' := by
  have hn := hc.1
  unfold maxLen at hn
  by_cases hbig : (1048576 : Int) < n
  · go_enter Try.func3, Try.ntmps3
    go_wp2_with fail
    go_ret
    exact ⟨rfl, Below.refl _ _⟩
  have HCODE := Lib.hid hc
  clear hc
  have HM := Lib.hid hm
  clear hm
  have HB := Lib.hid hb
  clear hb
  have HW0 := Lib.hid (Below.refl w.heap.size w)
  go_enter Try.func3, Try.ntmps3
  have HA0 := Lib.hid (show Below w.heap.size w w from (Below.refl _ _))
  go_wp2_with fail
  refine (dDrawCredOk_any HCODE.out hcap hcap2).mono ?_
  rintro e w1 ⟨y00, y01, y02, D0, rfl, hr0, hs0, hb1⟩
  have HC1 := Lib.hid (HA0.out.trans (hb1.mono HA0.out.size))
  have HW1 := Lib.hid (HW0.out.trans (HC1.out.mono HW0.out.size))
  clear hb1
  obtain ⟨A0, n0, c0, hcs⟩ := tyCred_sh hr0
  simp only [List.cons.injEq, and_true] at hcs
  obtain ⟨rfl, rfl, rfl⟩ := hcs
  obtain ⟨u0, v0, l0⟩ := D0
  dsimp only at hr0 ⊢
  have HS0 := Lib.hid hs0
  have HR0_1 := Lib.hid (hr0)
  clear hr0 hs0
  have HA1 := Lib.hid (show Below w1.heap.size w1 (w1.alloc (.cells #[.int .i64 u0, .int .i64 v0, .slice A0 n0 c0] 25)) from ((Below.refl _ _).alloc (Nat.le_refl _) _))
  go_wp2_with fail
  refine (HM.out (Ty.below_w HR0_1.out HA1.out)).mono ?_
  rintro e w2 ⟨rfl, hb2⟩
  have HC2 := Lib.hid (HA1.out.trans (hb2.mono HA1.out.size))
  have HW2 := Lib.hid (HW1.out.trans (HC2.out.mono HW1.out.size))
  have HR0_2 := Lib.hid (Ty.below_w HR0_1.out HC2.out)
  have C0_2 := Lib.hid ((Box.new w1 #[.int .i64 u0, .int .i64 v0, .slice A0 n0 c0] 25).below hb2 (by simp only [World.size_alloc]; omega))
  clear hb2
  have HA2 := Lib.hid (show Below w2.heap.size w2 w2 from (Below.refl _ _))
  have c0_c0 := C0_2.out.cell 0
  have c0_c1 := C0_2.out.cell 1
  have c0_c2 := C0_2.out.cell 2
  simp at c0_c0 c0_c1 c0_c2
  have c0_l := C0_2.out.lt
  go_wp2_with fail
  refine (credOk_any (Ty.below_w HR0_2.out HA2.out)).mono ?_
  rintro e w3 ⟨rfl, hb3⟩
  clear c0_c0 c0_c1 c0_c2 c0_l
  have HC3 := Lib.hid (HA2.out.trans (hb3.mono HA2.out.size))
  have HW3 := Lib.hid (HW2.out.trans (HC3.out.mono HW2.out.size))
  have HR0_3 := Lib.hid (Ty.below_w HR0_2.out HC3.out)
  have C0_3 := Lib.hid (C0_2.out.below HC3.out C0_2.out.lt)
  clear hb3
  have HA3 := Lib.hid (show Below w3.heap.size w3 w3 from (Below.refl _ _))
  have c0_c0 := C0_3.out.cell 0
  have c0_c1 := C0_3.out.cell 1
  have c0_c2 := C0_3.out.cell 2
  simp at c0_c0 c0_c1 c0_c2
  have c0_l := C0_3.out.lt
  go_wp2_with fail
  refine (HB.out u0 (Ty.below_w HR0_3.out HA3.out) HS0.out).mono ?_
  rintro e w4 ⟨y0, y1, y2, fp, rfl, hm, hf, hsm, hb4⟩
  clear c0_c0 c0_c1 c0_c2 c0_l
  have HC4 := Lib.hid (HA3.out.trans (hb4.mono HA3.out.size))
  have HW4 := Lib.hid (HW3.out.trans (HC4.out.mono HW3.out.size))
  have HR0_4 := Lib.hid (Ty.below_w HR0_3.out HC4.out)
  have C0_4 := Lib.hid (C0_3.out.below HC4.out C0_3.out.lt)
  clear hb4
  obtain ⟨A9, n9, c9, hcs⟩ := tyCred_shM hm
  simp only [List.cons.injEq, and_true] at hcs
  obtain ⟨rfl, rfl, rfl⟩ := hcs
  clear hm hf hsm
  rw [bec_self]
  have HWW := Lib.hid (HW4.out.alloc HW4.out.size (.cells #[.int .i64 (becD (u0, v0, l0) u0).1, .int .i64 (becD (u0, v0, l0) u0).2.1, .slice A9 n9 c9] 25))
  go_wp2_with fail
  go_ret
  exact ⟨rfl, HWW.out⟩
end
end Go.Proofs.Ytacndjbhlhbknaa

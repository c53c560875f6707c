/-
  The walk of FnAreasAt on drawn arguments.
-/
import Derived.Test.YtphanhlaojpbiaaADOk
import Derived.Test.YtphanhlaojpbiaaReg
import Derived.Deep.RegionHeld3
namespace Go.Proofs.Ytphanhlaojpbiaa
open Go.RowKit

section
variable {A : Option Addr} {n c : Nat} {w : World}
theorem hasTo_cons (a : Ar) (l : List Ar) (x : Int) : ∀ k, hasTo (a :: l) x (k + 1) = (if hasA a x = true then 1 else 0) + hasTo l x k
  | 0 => by simp [hasTo]
  | k + 1 => by
    have h := hasTo_cons a l x k
    simp only [hasTo] at h ⊢
    simp only [List.getD_cons_succ]
    omega
theorem hasTo_cov {x : Int} : ∀ {l : List Ar} {b : Int}, Asc b l → hasTo l x l.length = if (cov l x).isSome = true then 1 else 0
  | [], _, _ => by simp [hasTo, cov]
  | a :: l, b, h => by
    rw [List.length_cons, hasTo_cons, hasTo_cov h.2.2]
    by_cases hh : hasA a x = true
    · rw [cov_low h.2.2 ((hasA_iff a x).1 hh).2]
      simp [cov, hh]
    · simp [cov, hh]
theorem hasTo_le (l : List Ar) (x : Int) : ∀ k : Nat, 0 ≤ hasTo l x k ∧ hasTo l x k ≤ k
  | 0 => by simp [hasTo]
  | k + 1 => by
    have h := hasTo_le l x k
    simp only [hasTo]
    split <;> omega
theorem okL_at {l : List Ar} (h : okL l = true) {k : Nat} (hk : k < l.length) : okA (l.getD k .z) = true := okTo_at (okL_parts h).1 hk

set_option maxHeartbeats 8000000 in
set_option maxRecDepth 100000 in
theorem dAreasAt_walk (I : ImplA) (hc : Code w A n) (hcap : n ≤ c) (hcap2 : c ≤ maxLen) :
    Calls Try.prog 5 #[.slice A n c] w fun e w' => e = .returned (.bool true) ∧ Below w.heap.size w w' := by
  have hn := hc.1
  unfold maxLen at hn
  by_cases hbig : (1048576 : Int) < n
  · go_enter Try.func5, Try.ntmps5
    go_wp2_with fail
    go_ret
    exact ⟨rfl, Below.refl _ _⟩
  have HC0 := Lib.hid hc
  have HI := Lib.hid I
  have HW0 := Lib.hid (Below.refl w.heap.size w)
  clear hc I
  go_enter Try.func5, Try.ntmps5
  go_wp2_with fail
  refine (drawAreasAt_any HC0.out hcap hcap2).mono ?_
  rintro e w1 ⟨v, l, p, rfl, p0, p1, ho, ⟨hl7, htl⟩, hb1⟩
  obtain ⟨C, c1, rfl, hr⟩ := ho.row
  have HR1 := Lib.hid hr
  have HM := Lib.hid (show l.length ≤ maxLen by unfold maxLen; omega)
  have HMM := Lib.hid (show l.length ≤ 9223372036854775807 by omega)
  have HTL := Lib.hid htl
  clear ho hr htl
  have HW1 := Lib.hid (HW0.out.trans (hb1.mono HW0.out.size))
  clear hb1
  go_wp2_with fail
  refine (HI.out.at_ p HR1.out rfl HM.out HTL.out).mono ?_
  rintro e w2 ⟨rfl, hb2⟩
  have HW2 := Lib.hid (HW1.out.trans (hb2.mono HW1.out.size))
  have HR2 := Lib.hid (HR1.out.below hb2)
  clear hb2
  go_wp2_with fail
  refine (atS_any p HR2.out rfl HM.out).mono ?_
  rintro e w3 ⟨rfl, hb3⟩
  have HW3 := Lib.hid (HW2.out.trans (hb3.mono HW2.out.size))
  have HR3 := Lib.hid (HR2.out.below hb3)
  clear hb3
  by_cases hB : okL l = true
  rotate_left
  · have hv : atV l p = -1 := by unfold atV; rw [if_neg hB]
    rw [hv]
    clear hB hv
    go_wp2_with fail
    go_ret
    exact ⟨rfl, HW3.out⟩
  rcases at_cov hB p with ⟨j, hj, ha, hhj, hcv⟩ | ⟨ha, hcv⟩
  rotate_left
  · rw [ha]
    clear hB ha hcv
    go_wp2_with fail
    go_ret
    exact ⟨rfl, HW3.out⟩
  rw [ha]
  have hone : hasTo l p l.length = 1 := by rw [hasTo_cov (okL_iff.1 hB).1, hcv]; rfl
  have H1 := Lib.hid hone
  have HOK := Lib.hid hB
  have HJ := Lib.hid hhj
  have hj0 : (0 : Int) ≤ j := by omega
  have hj1 : (j : Int) < l.length := by omega
  have hml := HMM.out
  clear ha hcv hone hB hhj
  go_wp2_with fail
  go_loopw [8, 9] (fun s i wr => ∃ k : Nat, k ≤ l.length ∧ i = .int .i64 k ∧ s = .int .i64 (hasTo l p k) ∧ Below w.heap.size w wr ∧ Below w3.heap.size w3 wr) (fun _ i _ => l.length - (intOf i).toNat)
  case atStart => exact ⟨0, Nat.zero_le _, rfl, rfl, HW3.out, Below.refl _ _⟩
  case round =>
    obtain ⟨k, hk, rfl, rfl, hb, hb'⟩ := hrel
    have HV := Lib.hid hb
    have HV' := Lib.hid hb'
    clear hb hb'
    by_cases hlt : k < l.length
    · have hk1 : (k : Int) < l.length := by omega
      have hk2 : (0 : Int) ≤ k := by omega
      obtain ⟨b1, o1, rfl, hb1, hc1⟩ := HR3.out (by omega)
      obtain ⟨c10, c11, c12, c13⟩ := hc1 k hlt
      rw [← kc HV'.out _ _ hb1] at c10 c11
      clear hc1 c12 c13
      have hpp := okA_parts (okL_at HOK.out hlt)
      have hcl := hasTo_le l p k
      have HX := Lib.hid (show hasTo l p (k + 1) = hasTo l p k + if hasA (l.getD k .z) p = true then 1 else 0 from rfl)
      generalize hasTo l p k = z at hcl HX ⊢
      generalize l.getD k .z = a at c10 c11 hpp HX
      have hw1 : IntKind.i64.wrap (z + 1) = z + 1 := IntWalk.i64_in _ (by omega)
      have hw2 : IntKind.i64.wrap (a.f + a.m) = a.f + a.m := IntWalk.i64_in _ (by omega)
      by_cases h1 : a.f ≤ p
      · by_cases h2 : p < a.f + a.m
        · have HX2 := Lib.hid (show hasTo l p (k + 1) = z + 1 by rw [HX.out, if_pos ((hasA_iff a p).2 ⟨h1, h2⟩)])
          go_wp2_with fail
          go_region_held3 (fun w' => w'.cell? ⟨b1, o1 + k * 4, none⟩ = some (.int .i64 a.f) ∧ w'.cell? ⟨b1, o1 + k * 4 + 1, none⟩ = some (.int .i64 a.m))
            (first | exact ⟨c10, c11⟩)
            (first | fail)
          go_wp2
          go_roundw
          case rel => exact ⟨k + 1, by omega, by go_num, by rw [HX2.out], HV.out.drew, HV'.out.drew⟩
          case measure => simp [intOf]; omega
        · have HX2 := Lib.hid (show hasTo l p (k + 1) = z by rw [HX.out, if_neg (fun h => h2 ((hasA_iff a p).1 h).2)]; omega)
          go_wp2_with fail
          go_region_held3 (fun w' => w'.cell? ⟨b1, o1 + k * 4, none⟩ = some (.int .i64 a.f) ∧ w'.cell? ⟨b1, o1 + k * 4 + 1, none⟩ = some (.int .i64 a.m))
            (first | exact ⟨c10, c11⟩)
            (first | fail)
          go_wp2
          go_roundw
          case rel => exact ⟨k + 1, by omega, by go_num, by rw [HX2.out], HV.out.drew, HV'.out.drew⟩
          case measure => simp [intOf]; omega
      · have HX2 := Lib.hid (show hasTo l p (k + 1) = z by rw [HX.out, if_neg (fun h => h1 ((hasA_iff a p).1 h).1)]; omega)
        have HD := Lib.hid (decide_eq_false h1)
        go_wp2_with fail
        refine wp_region_held_drew (S := fun w' => w'.cell? ⟨b1, o1 + k * 4, none⟩ = some (.int .i64 a.f) ∧ True) (by kernel_rfl) ⟨c10, trivial⟩ (fun hHeld => ?_)
        refine wpAnyH_take (i := 0) (v := ?vt0) rfl (by kernel_rfl) (by kernel_rfl) (by kernel_rfl) (fun _ _ _ h => h) (Or.inl ⟨by rfl, ?hyt0⟩) (by assumption) ?restt0
        case hyt0 =>
          intro w hSw
          try dsimp only at hSw
          go_simp
          try with_reducible rfl
        simp only [Act.put, List.setIfInBounds_toArray, List.set_cons_zero, List.set_cons_succ, List.getElem_toArray, List.getElem_cons_zero]
        refine wpAnyH_take (i := 1) (v := ?vt1) rfl (by kernel_rfl) (by kernel_rfl) (by kernel_rfl) (fun _ _ _ h => h) (Or.inl ⟨by rfl, ?hyt1⟩) (by assumption) ?restt1
        case hyt1 =>
          intro w hSw
          try dsimp only at hSw
          go_simp
          try with_reducible rfl
        simp only [Act.put, List.setIfInBounds_toArray, List.set_cons_zero, List.set_cons_succ, List.getElem_toArray, List.getElem_cons_zero, List.getElem_cons_succ]
        refine wpAnyH_take (i := 2) (v := ?vt2) rfl (by kernel_rfl) (by kernel_rfl) (by kernel_rfl) (fun _ _ _ h => h) (Or.inl ⟨by rfl, ?hyt2⟩) (by assumption) ?restt2
        case hyt2 =>
          intro w hSw
          try dsimp only at hSw
          go_simp
          try with_reducible rfl
        simp only [Act.put, List.setIfInBounds_toArray, List.set_cons_zero, List.set_cons_succ, List.getElem_toArray, List.getElem_cons_zero, List.getElem_cons_succ]
        refine wpAnyH_take (i := 3) (v := ?vt3) rfl (by kernel_rfl) (by kernel_rfl) (by kernel_rfl) (fun _ _ _ h => h) (Or.inl ⟨by rfl, ?hyt3⟩) (by assumption) ?restt3
        case hyt3 =>
          intro w hSw
          try dsimp only at hSw
          go_simp
          try with_reducible rfl
        simp only [Act.put, List.setIfInBounds_toArray, List.set_cons_zero, List.set_cons_succ, List.getElem_toArray, List.getElem_cons_zero, List.getElem_cons_succ]
        refine wpAnyH_take (i := 4) (v := ?vt4) rfl (by kernel_rfl) (by kernel_rfl) (by kernel_rfl) (fun _ _ _ h => h) (Or.inl ⟨by rfl, ?hyt4⟩) (by assumption) ?restt4
        case hyt4 =>
          intro w hSw
          try dsimp only at hSw
          go_simp
          try with_reducible rfl
        simp only [Act.put, List.setIfInBounds_toArray, List.set_cons_zero, List.set_cons_succ, List.getElem_toArray, List.getElem_cons_zero, List.getElem_cons_succ]
        refine wpAnyH_take (i := 5) (v := ?vt5) rfl (by kernel_rfl) (by kernel_rfl) (by kernel_rfl) (fun _ _ _ h => h) (Or.inl ⟨by rfl, ?hyt5⟩) (by assumption) ?restt5
        case hyt5 =>
          intro w hSw
          try dsimp only at hSw
          go_simp
          try with_reducible rfl
        simp only [Act.put, List.setIfInBounds_toArray, List.set_cons_zero, List.set_cons_succ, List.getElem_toArray, List.getElem_cons_zero, List.getElem_cons_succ]
        refine wpAnyH_take (i := 6) (v := ?vt6) rfl (by kernel_rfl) (by kernel_rfl) (by kernel_rfl) (fun _ _ _ h => h) (Or.inl ⟨by rfl, ?hyt6⟩) (by assumption) ?restt6
        case hyt6 =>
          intro w hSw
          try dsimp only at hSw
          go_simp
          simp only [HD.out]
          try with_reducible rfl
        simp only [Act.put, List.setIfInBounds_toArray, List.set_cons_zero, List.set_cons_succ, List.getElem_toArray, List.getElem_cons_zero, List.getElem_cons_succ]
        refine wpAnyH_take (i := 7) (v := ?vt7) rfl (by kernel_rfl) (by kernel_rfl) (by kernel_rfl) (fun _ _ _ h => h) (Or.inl ⟨by rfl, ?hyt7⟩) (by assumption) ?restt7
        case hyt7 =>
          intro w hSw
          try dsimp only at hSw
          go_simp
          try with_reducible rfl
        simp only [Act.put, List.setIfInBounds_toArray, List.set_cons_zero, List.set_cons_succ, List.getElem_toArray, List.getElem_cons_zero, List.getElem_cons_succ]
        refine wpAnyH_drop (fuel := 1) [8, 9, 10, 11, 12, 13, 14, 15, 16, 17, 18, 19, 20] [49, 50, 51, 52, 53, 54, 55, 56, 57, 58, 59, 60, 61] #[true, true, true, true, true, true, true, true, true, true, true, true, true, true, true, true, true, true, true, true, true, false] (by kernel_rfl) (fun d _ _ _ _ h => by cases d <;> exact h) (by assumption) (by kernel_rfl) (by kernel_rfl) (by kernel_rfl) ?_
        simp only [putsU, Act.put, List.setIfInBounds_toArray, List.set_cons_zero, List.set_cons_succ]
        refine wpAnyH_take (i := 21) (v := ?vt21) rfl (by kernel_rfl) (by kernel_rfl) (by kernel_rfl) (fun _ _ _ h => h) (Or.inl ⟨by rfl, ?hyt21⟩) (by assumption) ?restt21
        case hyt21 =>
          intro w hSw
          try dsimp only at hSw
          go_simp
          try with_reducible rfl
        simp only [Act.put, List.setIfInBounds_toArray, List.set_cons_zero, List.set_cons_succ, List.getElem_toArray, List.getElem_cons_zero, List.getElem_cons_succ]
        refine wpAnyH_done (by kernel_rfl) ?_ _
        go_wp2
        go_roundw
        case rel => exact ⟨k + 1, by omega, by go_num, by rw [HX2.out], HV.out.drew, HV'.out.drew⟩
        case measure => simp [intOf]; omega
    · obtain rfl : k = l.length := by omega
      rw [H1.out]
      obtain ⟨b1, o1, rfl, hb1, hc1⟩ := HR3.out (by omega)
      obtain ⟨c10, c11, c12, c13⟩ := hc1 j hj
      rw [← kc HV'.out _ _ hb1] at c10 c11
      clear hc1 c12 c13
      have hpp := okA_parts (okL_at HOK.out hj)
      have hh := (hasA_iff _ p).1 HJ.out
      generalize l.getD j .z = a at c10 c11 hpp hh
      have hh1 := hh.1
      have hh2 := hh.2
      have hw2 : IntKind.i64.wrap (a.f + a.m) = a.f + a.m := IntWalk.i64_in _ (by omega)
      go_wp2_with fail
      go_region_held3 (fun w' => w'.cell? ⟨b1, o1 + j * 4, none⟩ = some (.int .i64 a.f) ∧ w'.cell? ⟨b1, o1 + j * 4 + 1, none⟩ = some (.int .i64 a.m))
        (first | exact ⟨c10, c11⟩)
        (first | fail)
      go_wp2
      go_ret
      exact ⟨rfl, HV.out.drew⟩

end
end Go.Proofs.Ytphanhlaojpbiaa

/-
  Memory: the model's MemOk.
-/
import Derived.Test.YtfmbadhiflaldaaMS4
namespace Go.Proofs.Ytfmbadhiflaldaa
open Go.RowKit
set_option maxRecDepth 100000

/-- what MemOk asks of a slot beside l3Space -/
def slT (s : ESp) (g : Nat) : Prop := (slD s g).f0 = 0 ∨ (0 ≤ (slD s g).f1 ∧ (slD s g).f1 ≤ 11)
theorem spv_iff {s : ESp} : SpV s ↔ SpM s ∧ ∀ g, g < s.2.2.length → slT s g := by
  constructor
  · intro h
    refine ⟨⟨h.dead, h.areas, h.len, fun e g hg => ?_⟩, fun g hg => ?_⟩
    · unfold slM
      rcases (h.sl e g hg).ok with h1 | ⟨h1, h2, h3, h4, h5⟩
      · rw [h1]; rfl
      · rw [if_neg (by omega), h4, inB_of (by omega)]
        simp only [Bool.true_and]
        cases hs : shaB s g
        · rfl
        · rw [h5 hs]; rfl
    · cases e : s.1
      · have := (h.dead e).2; omega
      · have h16 := h.len e
        rcases (h.sl e g (by omega)).ok with h1 | ⟨_, h2, h3, _, _⟩
        · left; rw [h1]; rfl
        · right; exact ⟨h2, h3⟩
  · rintro ⟨h, ht⟩
    refine ⟨h.dead, h.areas, h.len, fun e g hg => ?_⟩
    have h1 := h.sl e g hg
    have h2 := ht g (by rw [h.len e]; exact hg)
    unfold slM at h1
    unfold slT at h2
    split at h1
    · exact ⟨Or.inl (sameSl_iff.1 h1)⟩
    · rename_i h3
      simp only [Bool.and_eq_true, Bool.not_eq_true', Bool.and_eq_false_iff, Bool.not_eq_false'] at h1
      have h4 := of_inB h1.2.1
      rcases h2 with h2 | h2
      · exact absurd h2 h3
      · refine ⟨Or.inr ⟨by omega, h2.1, h2.2, h1.1, fun hs => ?_⟩⟩
        rcases h1.2.2 with h5 | h5
        · rw [hs] at h5; cases h5
        · exact h5
/-- what MemOk answers -/
def MokR (w : World) (D : EMem) (e : Ending) (w' : World) : Prop := (∃ b, e = .returned (.bool b) ∧ (b = true ↔ MemV D)) ∧ Below w.heap.size w w'
section
variable {D : EMem} {w : World}
set_option maxHeartbeats 16000000 in
theorem memOkS_main {hi : Nat} {x0 x1 x2 x3 x4 x5 : Value} (h : tyMem.R w hi [x0, x1, x2, x3, x4, x5] D) (hw : wfMem D) : Calls Try.prog 20 #[.agg #[x0, x1, x2, x3, x4, x5]] w (MokR w D) := by
  have h0 := h
  obtain ⟨hr, hsw, ⟨A2, n2, c2, e0, hl5, hm5, hr5⟩, rfl⟩ := tyMem_R h
  simp only [List.cons.injEq, and_true] at e0
  obtain rfl := e0
  obtain ⟨A0, n0, c0, B0, m0, d0, rfl, rfl, hp1, _, hri0⟩ := pg_of hr hw.1
  obtain ⟨A1, n1, c1, B1, m1, d1, rfl, rfl, hp2, _, hri1⟩ := pg_of hsw hw.2.1
  obtain ⟨hd, hhd⟩ : ∃ hd, D.2.2.2 = hd := ⟨_, rfl⟩
  rw [hhd] at h0 ⊢
  have HHD := Lib.hid hhd
  have HRI0 := Lib.hid hri0
  have HRI1 := Lib.hid hri1
  have hbl := (Below.refl w.heap.size w).alloc (Nat.le_refl _) (.cells #[.slice A0 n0 c0, .slice B0 m0 d0, .slice A1 n1 c1, .slice B1 m1 d1, .slice A2 n2 c2, .int .i64 hd] 29)
  have HX := Lib.hid (Box.new w #[.slice A0 n0 c0, .slice B0 m0 d0, .slice A1 n1 c1, .slice B1 m1 d1, .slice A2 n2 c2, .int .i64 hd] 29)
  have HB := Lib.hid hbl
  have HP1 := Lib.hid (hp1.below hbl)
  have HP2 := Lib.hid (hp2.below hbl)
  have HM := Lib.hid (Ty.below_w h0 hbl)
  have HR5 := Lib.hid (hr5.wb hbl)
  have HL5 := Lib.hid hl5
  have mx0 : m0 ≤ 9223372036854775807 := hp1.mb
  have mx1 : m1 ≤ 9223372036854775807 := hp2.mb
  have mx2 : n2 ≤ 9223372036854775807 := hm5
  obtain ⟨p1, hpp1⟩ : ∃ p, okPg D.1.1 D.1.2 = p := ⟨_, rfl⟩
  obtain ⟨p2, hpp2⟩ : ∃ p, okPg D.2.1.1 D.2.1.2 = p := ⟨_, rfl⟩
  have HK1 := Lib.hid hpp1
  have HK2 := Lib.hid hpp2
  clear h h0 hw hri0 hri1 hr hsw hl5 hm5 hr5 hp1 hp2 hhd hbl hpp1 hpp2
  go_enter Try.func20, Try.ntmps20
  go_upto_region 1 with fail
  generalize w.alloc (.cells #[.slice A0 n0 c0, .slice B0 m0 d0, .slice A1 n1 c1, .slice B1 m1 d1, .slice A2 n2 c2, .int .i64 hd] 29) = w1 at HX HB HP1 HP2 HM HR5 ⊢
  have x0 := HX.out.cell 0
  have x1 := HX.out.cell 1
  have x2 := HX.out.cell 2
  have x3 := HX.out.cell 3
  have x4 := HX.out.cell 4
  have x5 := HX.out.cell 5
  have xl := HX.out.lt
  simp at x0 x1 x2 x3 x4 x5
  go_wp2_with fail
  refine (oks_any HP1.out).mono ?_
  rw [HK1.out]
  rintro e w2 ⟨rfl, hb2⟩
  have HX2 := Lib.hid (HX.out.below hb2 HX.out.lt)
  have HB2 := Lib.hid (HB.out.trans (hb2.mono HB.out.size))
  have HP22 := Lib.hid (HP2.out.below hb2)
  have HM2 := Lib.hid (Ty.below_w HM.out hb2)
  have HR52 := Lib.hid (HR5.out.wb hb2)
  have HPL1 := Lib.hid HP1.out.rl
  clear hb2 x0 x1 x2 x3 x4 x5 xl HX HB HP2 HM HR5 HP1
  have x0 := HX2.out.cell 0
  have x1 := HX2.out.cell 1
  have x2 := HX2.out.cell 2
  have x3 := HX2.out.cell 3
  have x4 := HX2.out.cell 4
  have x5 := HX2.out.cell 5
  have xl := HX2.out.lt
  simp at x0 x1 x2 x3 x4 x5
  cases p1
  case false =>
    have HN := Lib.hid (show ¬ MemV D from fun hv => (by have := hv.ram.1; rw [HK1.out] at this; cases this))
    go_wp2_with fail
    go_ret
    exact ⟨⟨false, rfl, fun e => (by cases e), fun e => absurd e HN.out⟩, HB2.out⟩
  go_wp2_with fail
  refine (oks_any HP22.out).mono ?_
  rw [HK2.out]
  rintro e w3 ⟨rfl, hb2⟩
  have HX3 := Lib.hid (HX2.out.below hb2 HX2.out.lt)
  have HB3 := Lib.hid (HB2.out.trans (hb2.mono HB2.out.size))
  have HM3 := Lib.hid (Ty.below_w HM2.out hb2)
  have HR53 := Lib.hid (HR52.out.wb hb2)
  have HPL2 := Lib.hid HP22.out.rl
  clear hb2 x0 x1 x2 x3 x4 x5 xl HX2 HB2 HM2 HR52 HP22
  have x0 := HX3.out.cell 0
  have x1 := HX3.out.cell 1
  have x2 := HX3.out.cell 2
  have x3 := HX3.out.cell 3
  have x4 := HX3.out.cell 4
  have x5 := HX3.out.cell 5
  have xl := HX3.out.lt
  simp at x0 x1 x2 x3 x4 x5
  cases p2
  case false =>
    have HN := Lib.hid (show ¬ MemV D from fun hv => (by have := hv.swap.1; rw [HK2.out] at this; cases this))
    go_wp2_with fail
    go_ret
    exact ⟨⟨false, rfl, fun e => (by cases e), fun e => absurd e HN.out⟩, HB3.out⟩
  by_cases hm0 : m0 = 12
  case neg =>
    have q : ((m0 : Int) != 12) = true := by rw [bne_iff_ne]; omega
    have HN := Lib.hid (show ¬ MemV D from fun hv => hm0 (by rw [← HPL1.out]; exact hv.ram.2))
    clear hm0
    go_wp2_with fail
    go_ret
    exact ⟨⟨false, rfl, fun e => (by cases e), fun e => absurd e HN.out⟩, HB3.out⟩
  subst hm0
  by_cases hm1 : m1 = 12
  case neg =>
    have q : ((m1 : Int) != 12) = true := by rw [bne_iff_ne]; omega
    have HN := Lib.hid (show ¬ MemV D from fun hv => hm1 (by rw [← HPL2.out]; exact hv.swap.2))
    clear hm1
    go_wp2_with fail
    go_ret
    exact ⟨⟨false, rfl, fun e => (by cases e), fun e => absurd e HN.out⟩, HB3.out⟩
  subst hm1
  by_cases hn2 : n2 = 5
  case neg =>
    have q : ((n2 : Int) != 5) = true := by rw [bne_iff_ne]; omega
    have HN := Lib.hid (show ¬ MemV D from fun hv => hn2 (by rw [← HL5.out]; exact hv.five))
    clear hn2
    go_wp2_with fail
    go_ret
    exact ⟨⟨false, rfl, fun e => (by cases e), fun e => absurd e HN.out⟩, HB3.out⟩
  subst hn2
  obtain ⟨hb_, hhb⟩ : ∃ b, inB hd 0 11 = b := ⟨_, rfl⟩
  have HHB := Lib.hid hhb
  clear hhb
  go_wp2_with fail
  refine (l6In_any hd 0 11 _).mono ?_
  rw [HHB.out]
  rintro e w9 ⟨rfl, rfl⟩
  cases hb_
  case false =>
    have HN := Lib.hid (show ¬ MemV D from fun hv => (by have h9 := of_inB_not HHB.out; have := hv.hand; rw [HHD.out] at this; omega))
    go_wp2_with fail
    go_ret
    exact ⟨⟨false, rfl, fun e => (by cases e), fun e => absurd e HN.out⟩, HB3.out⟩
  go_wp2_with fail
  clear x0 x1 x2 x3 x4 x5 xl
  go_loopw [3] (fun i wr => ∃ u : Nat, i = .int .i64 u ∧ u ≤ 5 ∧ (∀ j, j < u → SpV (spD D j)) ∧ Below w3.heap.size w3 wr) (fun i _ => 5 - (intOf i).toNat)
  case atStart => exact ⟨0, rfl, Nat.zero_le _, fun j hj => absurd hj (Nat.not_lt_zero j), Below.refl _ _⟩
  case round =>
    obtain ⟨u, rfl, hu, hsv, hb⟩ := hrel
    rename World => v1
    have HSV := Lib.hid hsv
    have HBR := Lib.hid hb
    have HB4 := Lib.hid (HB3.out.trans (hb.mono HB3.out.size))
    have HX4 := Lib.hid (HX3.out.below hb HX3.out.lt)
    have HR4 := Lib.hid (HR53.out.wb hb)
    have HM4 := Lib.hid (Ty.below_w HM3.out hb)
    clear hsv hb
    by_cases hlt : u < 5
    case neg =>
      obtain rfl : u = 5 := by omega
      have hkk : ¬ ((5 : Int) < 5) := by decide
      clear HBR
      go_wp2_with fail
      have HLL := Lib.hid (fun u (hu : u < 5) => (show (spD D u).2.2.length = 16 ∨ (spD D u).2.2.length = 0 from by
        have h9 := HSV.out u hu
        cases e : (spD D u).1
        · exact Or.inr (h9.dead e).2
        · exact Or.inl (h9.len e)))
      have HOO := Lib.hid (fun u (hu : u < 5) => (show okL (arL (spD D u).2.1) = true from by
        have h9 := HSV.out u hu
        cases e : (spD D u).1
        · rw [List.eq_nil_of_length_eq_zero (h9.dead e).1]; rfl
        · exact h9.areas e))
      go_loopw [7] (fun i wr => ∃ j : Nat, i = .int .i64 j ∧ j ≤ 12 ∧ ToldV (lnkS D 5 80) 0 D.1.2 j ∧ Below v1.heap.size v1 wr) (fun i _ => 12 - (intOf i).toNat)
      case atStart => exact ⟨0, rfl, Nat.zero_le _, fun j hj => absurd hj (Nat.not_lt_zero j), Below.refl _ _⟩
      case round =>
        obtain ⟨j, rfl, hj, htv, hb⟩ := hrel
        rename World => v2
        have HTV7 := Lib.hid htv
        have HBR := Lib.hid hb
        have HB8 := Lib.hid (HB4.out.trans (hb.mono HB4.out.size))
        have HX8 := Lib.hid (HX4.out.below hb HX4.out.lt)
        have HM8 := Lib.hid (Ty.below_w HM4.out hb)
        clear htv hb
        by_cases hlt : j < 12
        case neg =>
          obtain rfl : j = 12 := by omega
          have hkk : ¬ ((12 : Int) < 12) := by decide
          go_wp2_with fail
          rename World => v4
          have HB4' := HB8
          have HX4' := HX8
          have HM4' := HM8
          clear HB4 HX4 HM4 HB8 HX8 HM8 HBR
          have HB4 := HB4'
          have HX4 := HX4'
          have HM4 := HM4'
          clear HB4' HX4' HM4'
          go_loopw [8] (fun i wr => ∃ j : Nat, i = .int .i64 j ∧ j ≤ 12 ∧ ToldV (lnkS D 5 80) 12 D.2.1.2 j ∧ Below v4.heap.size v4 wr) (fun i _ => 12 - (intOf i).toNat)
          case atStart => exact ⟨0, rfl, Nat.zero_le _, fun j hj => absurd hj (Nat.not_lt_zero j), Below.refl _ _⟩
          case round =>
            obtain ⟨j, rfl, hj, htv, hb⟩ := hrel
            rename World => v2
            have HTV8 := Lib.hid htv
            have HBR := Lib.hid hb
            have HB8 := Lib.hid (HB4.out.trans (hb.mono HB4.out.size))
            have HX8 := Lib.hid (HX4.out.below hb HX4.out.lt)
            have HM8 := Lib.hid (Ty.below_w HM4.out hb)
            clear htv hb
            by_cases hlt : j < 12
            case neg =>
              obtain rfl : j = 12 := by omega
              have hkk : ¬ ((12 : Int) < 12) := by decide
              go_wp2_with fail
              go_ret
              have h9 := told_iff.2 ⟨HTV7.out, HTV8.out⟩
              exact ⟨⟨true, rfl, fun _ => ⟨⟨HK1.out, HPL1.out⟩, ⟨HK2.out, HPL2.out⟩, HL5.out, by rw [HHD.out]; exact of_inB HHB.out, HSV.out, h9.1, h9.2⟩, fun _ => rfl⟩, HB8.out⟩
            have hj1 : (j : Int) < 12 := by omega
            have hj2 : (0 : Int) ≤ j := by omega
            obtain ⟨b, o, rfl, _, hb0, hcc⟩ := (HRI1.out.wb HB8.out) (by omega)
            have q0 := hcc j hlt 0 (by decide)
            rw [show o + j * elI.K + 0 = o + j from by show o + j * 1 + 0 = o + j; omega] at q0
            obtain ⟨r, hr⟩ : ∃ r, (D.2.1.2).getD j elI.z = r := ⟨_, rfl⟩
            rw [hr] at q0
            replace q0 : v2.cell? ⟨b, o + j, none⟩ = some (.int .i64 r) := q0
            have HRR := Lib.hid (show (D.2.1.2).getD j 0 = r from hr)
            have hkd : knd (12 + j) = 2 := by unfold knd; rw [if_neg (by omega)]
            have hpl : plc (12 + j) = (j : Int) := by unfold plc; omega
            have ht := told_any (p := 12 + j) (Ty.below_w HM8.out (Below.refl v2.heap.size v2).drew) HL5.out (fun u hu => HLL.out u hu)
            rw [hkd, hpl] at ht
            obtain ⟨tl, htl⟩ : ∃ tl, (tolL D 80 (12 + j)).length = tl := ⟨_, rfl⟩
            rw [htl] at ht
            have HTL := Lib.hid htl
            have hc1 := Lib.hid ht
            have ha := fun (va : World) (hv : Below v2.heap.size v2 va) => alone_any (p := 12 + j) (Ty.below_w HM8.out hv) HL5.out (fun u hu => HLL.out u hu) (fun u hu => HOO.out u hu)
            rw [hkd, hpl] at ha
            obtain ⟨al, hal⟩ : ∃ al, alnB D (tolL D 80 (12 + j)) = al := ⟨_, rfl⟩
            rw [hal] at ha
            have HAL := Lib.hid hal
            have hc2 := Lib.hid ha
            have x0 := HX8.out.cell 0
            have x1 := HX8.out.cell 1
            have x2 := HX8.out.cell 2
            have x3 := HX8.out.cell 3
            have x4 := HX8.out.cell 4
            have x5 := HX8.out.cell 5
            have xl := HX8.out.lt
            simp at x0 x1 x2 x3 x4 x5
            clear hcc hr hkd hpl ht htl ha hal
            go_upto_region 25 with fail
            by_cases hne : (tl : Int) = r
            case neg =>
              have hq : ((tl : Int) != r) = true := by rw [bne_iff_ne]; exact hne
              have HN := Lib.hid (show ¬ MemV D from fun hv => hne (by
                have h9 := ((told_iff.1 ⟨hv.told, hv.alone⟩).2 j hlt).1
                rw [HRR.out] at h9
                rw [← HTL.out]
                exact h9))
              clear hne
              refine wp_region_held_drew (S := fun w' => w'.cell? ⟨w.heap.size, 0, none⟩ = some (.slice A0 n0 c0) ∧ w'.cell? ⟨w.heap.size, 1, none⟩ = some (.slice B0 12 d0) ∧ w'.cell? ⟨w.heap.size, 2, none⟩ = some (.slice A1 n1 c1) ∧ w'.cell? ⟨w.heap.size, 3, none⟩ = some (.slice (some ⟨b, o, none⟩) 12 d1) ∧ w'.cell? ⟨w.heap.size, 4, none⟩ = some (.slice A2 5 c2) ∧ w'.cell? ⟨w.heap.size, 5, none⟩ = some (.int .i64 hd) ∧ w'.cell? ⟨b, o + j, none⟩ = some (.int .i64 r)) (by kernel_rfl) ⟨x0, x1, x2, x3, x4, x5, q0⟩ (fun hHeld => ?_)
              refine wpAnyH_take (i := 0) (v := ?va80) rfl (by kernel_rfl) (by kernel_rfl) (by kernel_rfl) (fun _ _ _ h => h) (Or.inl ⟨by rfl, ?hya80⟩) (by assumption) ?resta80
              case hya80 =>
                intro w hSw
                try dsimp only at hSw
                go_simp
                try with_reducible rfl
              simp only [Act.put, List.setIfInBounds_toArray, List.set_cons_zero, List.set_cons_succ, List.getElem_toArray, List.getElem_cons_zero]
              refine wpAnyH_take (i := 1) (v := ?va81) rfl (by kernel_rfl) (by kernel_rfl) (by kernel_rfl) (fun _ _ _ h => h) (Or.inl ⟨by rfl, ?hya81⟩) (by assumption) ?resta81
              case hya81 =>
                intro w hSw
                try dsimp only at hSw
                go_simp
                try with_reducible rfl
              simp only [Act.put, List.setIfInBounds_toArray, List.set_cons_zero, List.set_cons_succ, List.getElem_toArray, List.getElem_cons_zero, List.getElem_cons_succ]
              refine wpAnyH_take (i := 3) (v := ?va83) rfl (by kernel_rfl) (by kernel_rfl) (by kernel_rfl) (fun _ _ _ h => h) (Or.inl ⟨by rfl, ?hya83⟩) (by assumption) ?resta83
              case hya83 =>
                intro w hSw
                try dsimp only at hSw
                go_simp
                try with_reducible rfl
              simp only [Act.put, List.setIfInBounds_toArray, List.set_cons_zero, List.set_cons_succ, List.getElem_toArray, List.getElem_cons_zero, List.getElem_cons_succ]
              refine wpAnyH_take (i := 4) (v := ?va84) rfl (by kernel_rfl) (by kernel_rfl) (by kernel_rfl) (fun _ _ _ h => h) (Or.inl ⟨by rfl, ?hya84⟩) (by assumption) ?resta84
              case hya84 =>
                intro w hSw
                try dsimp only at hSw
                go_simp
                try with_reducible rfl
              simp only [Act.put, List.setIfInBounds_toArray, List.set_cons_zero, List.set_cons_succ, List.getElem_toArray, List.getElem_cons_zero, List.getElem_cons_succ]
              refine wpAnyH_take (i := 5) (v := ?va85) rfl (by kernel_rfl) (by kernel_rfl) (by kernel_rfl) (fun _ _ _ h => h) (Or.inl ⟨by rfl, ?hya85⟩) (by assumption) ?resta85
              case hya85 =>
                intro w hSw
                try dsimp only at hSw
                go_simp
                try with_reducible rfl
              simp only [Act.put, List.setIfInBounds_toArray, List.set_cons_zero, List.set_cons_succ, List.getElem_toArray, List.getElem_cons_zero, List.getElem_cons_succ]
              refine wpAnyH_take (i := 6) (v := ?va86) rfl (by kernel_rfl) (by kernel_rfl) (by kernel_rfl) (fun _ _ _ h => h) (Or.inl ⟨by rfl, ?hya86⟩) (by assumption) ?resta86
              case hya86 =>
                intro w hSw
                try dsimp only at hSw
                go_simp
                try with_reducible rfl
              simp only [Act.put, List.setIfInBounds_toArray, List.set_cons_zero, List.set_cons_succ, List.getElem_toArray, List.getElem_cons_zero, List.getElem_cons_succ]
              refine wpAnyH_take (i := 7) (v := ?va87) rfl (by kernel_rfl) (by kernel_rfl) (by kernel_rfl) (fun _ _ _ h => h) (Or.inl ⟨by rfl, ?hya87⟩) (by assumption) ?resta87
              case hya87 =>
                intro w hSw
                try dsimp only at hSw
                go_simp
                try with_reducible rfl
              simp only [Act.put, List.setIfInBounds_toArray, List.set_cons_zero, List.set_cons_succ, List.getElem_toArray, List.getElem_cons_zero, List.getElem_cons_succ]
              refine wpAnyH_take (i := 8) (v := ?va88) rfl (by kernel_rfl) (by kernel_rfl) (by kernel_rfl) (fun _ _ _ h => h) (Or.inl ⟨by rfl, ?hya88⟩) (by assumption) ?resta88
              case hya88 =>
                intro w hSw
                try dsimp only at hSw
                go_simp
                try with_reducible rfl
              simp only [Act.put, List.setIfInBounds_toArray, List.set_cons_zero, List.set_cons_succ, List.getElem_toArray, List.getElem_cons_zero, List.getElem_cons_succ]
              refine wpAnyH_ready (rs := [2]) (by kernel_rfl) (by simp) ?_
              refine AllReadyH.cons rfl (fun K hK => ?_) AllReadyH.nil
              go_simp
              refine hc1.out.mono ?_
              rintro e va ⟨rfl, hb1⟩
              have HBA := Lib.hid hb1
              have HKP := Lib.hid (fun (x : Nat) (i : Nat) (hx : x < v2.heap.size) => (show va.cell? ⟨x, i, none⟩ = v2.cell? ⟨x, i, none⟩ from hb1.cell (p := ⟨x, i, none⟩) hx))
              clear hb1
              refine hK.out _ _ ?_ (fun hHeld => ?_)
              · exact ⟨(HKP.out _ _ xl).trans x0, (HKP.out _ _ xl).trans x1, (HKP.out _ _ xl).trans x2, (HKP.out _ _ xl).trans x3, (HKP.out _ _ xl).trans x4, (HKP.out _ _ xl).trans x5, (HKP.out _ _ hb0).trans q0⟩
              clear hK K
              try simp only [Act.put, List.setIfInBounds_toArray, List.set_cons_zero, List.set_cons_succ, List.getElem_toArray, List.getElem_cons_zero, List.getElem_cons_succ]
              refine wpAnyH_take (i := 9) (v := ?va89) rfl (by kernel_rfl) (by kernel_rfl) (by kernel_rfl) (fun _ _ _ h => h) (Or.inl ⟨by rfl, ?hya89⟩) (by assumption) ?resta89
              case hya89 =>
                intro w hSw
                try dsimp only at hSw
                go_simp
                try with_reducible rfl
              simp only [Act.put, List.setIfInBounds_toArray, List.set_cons_zero, List.set_cons_succ, List.getElem_toArray, List.getElem_cons_zero, List.getElem_cons_succ]
              refine wpAnyH_take (i := 10) (v := ?va810) rfl (by kernel_rfl) (by kernel_rfl) (by kernel_rfl) (fun _ _ _ h => h) (Or.inl ⟨by rfl, ?hya810⟩) (by assumption) ?resta810
              case hya810 =>
                intro w hSw
                try dsimp only at hSw
                go_simp
                try with_reducible rfl
              simp only [Act.put, List.setIfInBounds_toArray, List.set_cons_zero, List.set_cons_succ, List.getElem_toArray, List.getElem_cons_zero, List.getElem_cons_succ]
              refine wpAnyH_drop (fuel := 1) [11, 12, 13, 14] [125, 126, 127, 128] #[true, true, true, true, true, true, true, true, true, true, true, true, true, true, true, false] (by kernel_rfl) (fun d _ _ _ _ h => by cases d <;> exact h) (by assumption) (by kernel_rfl) (by kernel_rfl) (by kernel_rfl) ?_
              simp only [putsU, Act.put, List.setIfInBounds_toArray, List.set_cons_zero, List.set_cons_succ]
              refine wpAnyH_take (i := 15) (v := ?va815) rfl (by kernel_rfl) (by kernel_rfl) (by kernel_rfl) (fun _ _ _ h => h) (Or.inl ⟨by rfl, ?hya815⟩) (by assumption) ?resta815
              case hya815 =>
                intro w hSw
                try dsimp only at hSw
                go_simp
                try with_reducible rfl
              simp only [Act.put, List.setIfInBounds_toArray, List.set_cons_zero, List.set_cons_succ, List.getElem_toArray, List.getElem_cons_zero, List.getElem_cons_succ]
              refine wpAnyH_done (by kernel_rfl) ?_ _
              go_wp2_with fail
              go_ret
              exact ⟨⟨false, rfl, fun e => (by cases e), fun e => absurd e HN.out⟩, HB8.out.drew.trans (HBA.out.mono (show w.heap.size ≤ v2.drew.heap.size from HB8.out.size))⟩
            have hq : ((tl : Int) != r) = false := by simp only [bne_eq_false_iff_eq]; exact hne
            have HE := Lib.hid hne
            clear hne
            go_region_held3 (fun w' => w'.cell? ⟨w.heap.size, 0, none⟩ = some (.slice A0 n0 c0) ∧ w'.cell? ⟨w.heap.size, 1, none⟩ = some (.slice B0 12 d0) ∧ w'.cell? ⟨w.heap.size, 2, none⟩ = some (.slice A1 n1 c1) ∧ w'.cell? ⟨w.heap.size, 3, none⟩ = some (.slice (some ⟨b, o, none⟩) 12 d1) ∧ w'.cell? ⟨w.heap.size, 4, none⟩ = some (.slice A2 5 c2) ∧ w'.cell? ⟨w.heap.size, 5, none⟩ = some (.int .i64 hd) ∧ w'.cell? ⟨b, o + j, none⟩ = some (.int .i64 r))
              (first | with_reducible exact ⟨(HKQ.out _ _ xl).trans x0, (HKQ.out _ _ xl).trans x1, (HKQ.out _ _ xl).trans x2, (HKQ.out _ _ xl).trans x3, (HKQ.out _ _ xl).trans x4, (HKQ.out _ _ xl).trans x5, (HKQ.out _ _ hb0).trans q0⟩ | with_reducible exact ⟨(HKP.out _ _ xl).trans x0, (HKP.out _ _ xl).trans x1, (HKP.out _ _ xl).trans x2, (HKP.out _ _ xl).trans x3, (HKP.out _ _ xl).trans x4, (HKP.out _ _ xl).trans x5, (HKP.out _ _ hb0).trans q0⟩ | exact ⟨x0, x1, x2, x3, x4, x5, q0⟩)
              (first
                | (go_at_call 53
                   refine hc1.out.mono ?_
                   rintro e va ⟨rfl, hb1⟩
                   have HBA := Lib.hid hb1
                   have HKP := Lib.hid (fun (x : Nat) (i : Nat) (hx : x < v2.heap.size) => (show va.cell? ⟨x, i, none⟩ = v2.cell? ⟨x, i, none⟩ from hb1.cell (p := ⟨x, i, none⟩) hx))
                   clear hb1)
                | (go_at_call 54
                   refine (hc2.out _ ((Below.refl v2.heap.size v2).drew.trans HBA.out)).mono ?_
                   rintro e vb ⟨rfl, hb1⟩
                   have HBB := Lib.hid (HBA.out.trans (hb1.mono HBA.out.size))
                   have HKQ := Lib.hid (fun (x : Nat) (i : Nat) (hx : x < v2.heap.size) => (hb1.cell (p := ⟨x, i, none⟩) (Nat.lt_of_lt_of_le hx HBA.out.size)).trans (HKP.out x i hx))
                   clear hb1))
            have HBF := Lib.hid (HB8.out.drew.trans (HBB.out.mono (show w.heap.size ≤ v2.drew.heap.size from HB8.out.size)))
            have HBG := Lib.hid (HBR.out.drew.trans (HBB.out.mono (show v4.heap.size ≤ v2.drew.heap.size from HBR.out.size)))
            clear x0 x1 x2 x3 x4 x5 xl q0
            cases al
            case false =>
              have HN := Lib.hid (show ¬ MemV D from fun hv => (by
                have h9 := aln_iff.2 (hv.alone (12 + j) (by omega))
                rw [HAL.out] at h9
                cases h9))
              go_wp2_with fail
              go_ret
              exact ⟨⟨false, rfl, fun e => (by cases e), fun e => absurd e HN.out⟩, HBF.out⟩
            go_wp2_with fail
            go_roundw
            case rel =>
              refine ⟨j + 1, by go_num, by omega, fun i hi => ?_, HBG.out⟩
              rcases Nat.lt_or_ge i j with h1 | h1
              · exact HTV8.out i h1
              · obtain rfl : i = j := by omega
                refine ⟨?_, (alone_iff fun c hc => tol_lt hc).2 (aln_iff.1 HAL.out)⟩
                rw [HRR.out]
                show ((tolL D 80 (12 + i)).length : Int) = r
                rw [HTL.out]
                exact HE.out
            case measure => simp [intOf]; omega
        have hj1 : (j : Int) < 12 := by omega
        have hj2 : (0 : Int) ≤ j := by omega
        obtain ⟨b, o, rfl, _, hb0, hcc⟩ := (HRI0.out.wb HB8.out) (by omega)
        have q0 := hcc j hlt 0 (by decide)
        rw [show o + j * elI.K + 0 = o + j from by show o + j * 1 + 0 = o + j; omega] at q0
        obtain ⟨r, hr⟩ : ∃ r, (D.1.2).getD j elI.z = r := ⟨_, rfl⟩
        rw [hr] at q0
        replace q0 : v2.cell? ⟨b, o + j, none⟩ = some (.int .i64 r) := q0
        have HRR := Lib.hid (show (D.1.2).getD j 0 = r from hr)
        have hkd : knd (0 + j) = 1 := by unfold knd; rw [if_pos (by omega)]
        have hpl : plc (0 + j) = (j : Int) := by unfold plc; omega
        have ht := told_any (p := 0 + j) (Ty.below_w HM8.out (Below.refl v2.heap.size v2).drew) HL5.out (fun u hu => HLL.out u hu)
        rw [hkd, hpl] at ht
        obtain ⟨tl, htl⟩ : ∃ tl, (tolL D 80 (0 + j)).length = tl := ⟨_, rfl⟩
        rw [htl] at ht
        have HTL := Lib.hid htl
        have hc1 := Lib.hid ht
        have ha := fun (va : World) (hv : Below v2.heap.size v2 va) => alone_any (p := 0 + j) (Ty.below_w HM8.out hv) HL5.out (fun u hu => HLL.out u hu) (fun u hu => HOO.out u hu)
        rw [hkd, hpl] at ha
        obtain ⟨al, hal⟩ : ∃ al, alnB D (tolL D 80 (0 + j)) = al := ⟨_, rfl⟩
        rw [hal] at ha
        have HAL := Lib.hid hal
        have hc2 := Lib.hid ha
        have x0 := HX8.out.cell 0
        have x1 := HX8.out.cell 1
        have x2 := HX8.out.cell 2
        have x3 := HX8.out.cell 3
        have x4 := HX8.out.cell 4
        have x5 := HX8.out.cell 5
        have xl := HX8.out.lt
        simp at x0 x1 x2 x3 x4 x5
        clear hcc hr hkd hpl ht htl ha hal
        go_upto_region 20 with fail
        by_cases hne : (tl : Int) = r
        case neg =>
          have hq : ((tl : Int) != r) = true := by rw [bne_iff_ne]; exact hne
          have HN := Lib.hid (show ¬ MemV D from fun hv => hne (by
            have h9 := ((told_iff.1 ⟨hv.told, hv.alone⟩).1 j hlt).1
            rw [HRR.out] at h9
            rw [← HTL.out]
            exact h9))
          clear hne
          refine wp_region_held_drew (S := fun w' => w'.cell? ⟨w.heap.size, 0, none⟩ = some (.slice A0 n0 c0) ∧ w'.cell? ⟨w.heap.size, 1, none⟩ = some (.slice (some ⟨b, o, none⟩) 12 d0) ∧ w'.cell? ⟨w.heap.size, 2, none⟩ = some (.slice A1 n1 c1) ∧ w'.cell? ⟨w.heap.size, 3, none⟩ = some (.slice B1 12 d1) ∧ w'.cell? ⟨w.heap.size, 4, none⟩ = some (.slice A2 5 c2) ∧ w'.cell? ⟨w.heap.size, 5, none⟩ = some (.int .i64 hd) ∧ w'.cell? ⟨b, o + j, none⟩ = some (.int .i64 r)) (by kernel_rfl) ⟨x0, x1, x2, x3, x4, x5, q0⟩ (fun hHeld => ?_)
          refine wpAnyH_take (i := 0) (v := ?va70) rfl (by kernel_rfl) (by kernel_rfl) (by kernel_rfl) (fun _ _ _ h => h) (Or.inl ⟨by rfl, ?hya70⟩) (by assumption) ?resta70
          case hya70 =>
            intro w hSw
            try dsimp only at hSw
            go_simp
            try with_reducible rfl
          simp only [Act.put, List.setIfInBounds_toArray, List.set_cons_zero, List.set_cons_succ, List.getElem_toArray, List.getElem_cons_zero]
          refine wpAnyH_take (i := 1) (v := ?va71) rfl (by kernel_rfl) (by kernel_rfl) (by kernel_rfl) (fun _ _ _ h => h) (Or.inl ⟨by rfl, ?hya71⟩) (by assumption) ?resta71
          case hya71 =>
            intro w hSw
            try dsimp only at hSw
            go_simp
            try with_reducible rfl
          simp only [Act.put, List.setIfInBounds_toArray, List.set_cons_zero, List.set_cons_succ, List.getElem_toArray, List.getElem_cons_zero, List.getElem_cons_succ]
          refine wpAnyH_take (i := 3) (v := ?va73) rfl (by kernel_rfl) (by kernel_rfl) (by kernel_rfl) (fun _ _ _ h => h) (Or.inl ⟨by rfl, ?hya73⟩) (by assumption) ?resta73
          case hya73 =>
            intro w hSw
            try dsimp only at hSw
            go_simp
            try with_reducible rfl
          simp only [Act.put, List.setIfInBounds_toArray, List.set_cons_zero, List.set_cons_succ, List.getElem_toArray, List.getElem_cons_zero, List.getElem_cons_succ]
          refine wpAnyH_take (i := 4) (v := ?va74) rfl (by kernel_rfl) (by kernel_rfl) (by kernel_rfl) (fun _ _ _ h => h) (Or.inl ⟨by rfl, ?hya74⟩) (by assumption) ?resta74
          case hya74 =>
            intro w hSw
            try dsimp only at hSw
            go_simp
            try with_reducible rfl
          simp only [Act.put, List.setIfInBounds_toArray, List.set_cons_zero, List.set_cons_succ, List.getElem_toArray, List.getElem_cons_zero, List.getElem_cons_succ]
          refine wpAnyH_take (i := 5) (v := ?va75) rfl (by kernel_rfl) (by kernel_rfl) (by kernel_rfl) (fun _ _ _ h => h) (Or.inl ⟨by rfl, ?hya75⟩) (by assumption) ?resta75
          case hya75 =>
            intro w hSw
            try dsimp only at hSw
            go_simp
            try with_reducible rfl
          simp only [Act.put, List.setIfInBounds_toArray, List.set_cons_zero, List.set_cons_succ, List.getElem_toArray, List.getElem_cons_zero, List.getElem_cons_succ]
          refine wpAnyH_take (i := 6) (v := ?va76) rfl (by kernel_rfl) (by kernel_rfl) (by kernel_rfl) (fun _ _ _ h => h) (Or.inl ⟨by rfl, ?hya76⟩) (by assumption) ?resta76
          case hya76 =>
            intro w hSw
            try dsimp only at hSw
            go_simp
            try with_reducible rfl
          simp only [Act.put, List.setIfInBounds_toArray, List.set_cons_zero, List.set_cons_succ, List.getElem_toArray, List.getElem_cons_zero, List.getElem_cons_succ]
          refine wpAnyH_take (i := 7) (v := ?va77) rfl (by kernel_rfl) (by kernel_rfl) (by kernel_rfl) (fun _ _ _ h => h) (Or.inl ⟨by rfl, ?hya77⟩) (by assumption) ?resta77
          case hya77 =>
            intro w hSw
            try dsimp only at hSw
            go_simp
            try with_reducible rfl
          simp only [Act.put, List.setIfInBounds_toArray, List.set_cons_zero, List.set_cons_succ, List.getElem_toArray, List.getElem_cons_zero, List.getElem_cons_succ]
          refine wpAnyH_take (i := 8) (v := ?va78) rfl (by kernel_rfl) (by kernel_rfl) (by kernel_rfl) (fun _ _ _ h => h) (Or.inl ⟨by rfl, ?hya78⟩) (by assumption) ?resta78
          case hya78 =>
            intro w hSw
            try dsimp only at hSw
            go_simp
            try with_reducible rfl
          simp only [Act.put, List.setIfInBounds_toArray, List.set_cons_zero, List.set_cons_succ, List.getElem_toArray, List.getElem_cons_zero, List.getElem_cons_succ]
          refine wpAnyH_ready (rs := [2]) (by kernel_rfl) (by simp) ?_
          refine AllReadyH.cons rfl (fun K hK => ?_) AllReadyH.nil
          go_simp
          refine hc1.out.mono ?_
          rintro e va ⟨rfl, hb1⟩
          have HBA := Lib.hid hb1
          have HKP := Lib.hid (fun (x : Nat) (i : Nat) (hx : x < v2.heap.size) => (show va.cell? ⟨x, i, none⟩ = v2.cell? ⟨x, i, none⟩ from hb1.cell (p := ⟨x, i, none⟩) hx))
          clear hb1
          refine hK.out _ _ ?_ (fun hHeld => ?_)
          · exact ⟨(HKP.out _ _ xl).trans x0, (HKP.out _ _ xl).trans x1, (HKP.out _ _ xl).trans x2, (HKP.out _ _ xl).trans x3, (HKP.out _ _ xl).trans x4, (HKP.out _ _ xl).trans x5, (HKP.out _ _ hb0).trans q0⟩
          clear hK K
          try simp only [Act.put, List.setIfInBounds_toArray, List.set_cons_zero, List.set_cons_succ, List.getElem_toArray, List.getElem_cons_zero, List.getElem_cons_succ]
          refine wpAnyH_take (i := 9) (v := ?va79) rfl (by kernel_rfl) (by kernel_rfl) (by kernel_rfl) (fun _ _ _ h => h) (Or.inl ⟨by rfl, ?hya79⟩) (by assumption) ?resta79
          case hya79 =>
            intro w hSw
            try dsimp only at hSw
            go_simp
            try with_reducible rfl
          simp only [Act.put, List.setIfInBounds_toArray, List.set_cons_zero, List.set_cons_succ, List.getElem_toArray, List.getElem_cons_zero, List.getElem_cons_succ]
          refine wpAnyH_take (i := 10) (v := ?va710) rfl (by kernel_rfl) (by kernel_rfl) (by kernel_rfl) (fun _ _ _ h => h) (Or.inl ⟨by rfl, ?hya710⟩) (by assumption) ?resta710
          case hya710 =>
            intro w hSw
            try dsimp only at hSw
            go_simp
            try with_reducible rfl
          simp only [Act.put, List.setIfInBounds_toArray, List.set_cons_zero, List.set_cons_succ, List.getElem_toArray, List.getElem_cons_zero, List.getElem_cons_succ]
          refine wpAnyH_drop (fuel := 1) [11, 12, 13, 14] [105, 106, 107, 108] #[true, true, true, true, true, true, true, true, true, true, true, true, true, true, true, false] (by kernel_rfl) (fun d _ _ _ _ h => by cases d <;> exact h) (by assumption) (by kernel_rfl) (by kernel_rfl) (by kernel_rfl) ?_
          simp only [putsU, Act.put, List.setIfInBounds_toArray, List.set_cons_zero, List.set_cons_succ]
          refine wpAnyH_take (i := 15) (v := ?va715) rfl (by kernel_rfl) (by kernel_rfl) (by kernel_rfl) (fun _ _ _ h => h) (Or.inl ⟨by rfl, ?hya715⟩) (by assumption) ?resta715
          case hya715 =>
            intro w hSw
            try dsimp only at hSw
            go_simp
            try with_reducible rfl
          simp only [Act.put, List.setIfInBounds_toArray, List.set_cons_zero, List.set_cons_succ, List.getElem_toArray, List.getElem_cons_zero, List.getElem_cons_succ]
          refine wpAnyH_done (by kernel_rfl) ?_ _
          go_wp2_with fail
          go_ret
          exact ⟨⟨false, rfl, fun e => (by cases e), fun e => absurd e HN.out⟩, HB8.out.drew.trans (HBA.out.mono (show w.heap.size ≤ v2.drew.heap.size from HB8.out.size))⟩
        have hq : ((tl : Int) != r) = false := by simp only [bne_eq_false_iff_eq]; exact hne
        have HE := Lib.hid hne
        clear hne
        go_region_held3 (fun w' => w'.cell? ⟨w.heap.size, 0, none⟩ = some (.slice A0 n0 c0) ∧ w'.cell? ⟨w.heap.size, 1, none⟩ = some (.slice (some ⟨b, o, none⟩) 12 d0) ∧ w'.cell? ⟨w.heap.size, 2, none⟩ = some (.slice A1 n1 c1) ∧ w'.cell? ⟨w.heap.size, 3, none⟩ = some (.slice B1 12 d1) ∧ w'.cell? ⟨w.heap.size, 4, none⟩ = some (.slice A2 5 c2) ∧ w'.cell? ⟨w.heap.size, 5, none⟩ = some (.int .i64 hd) ∧ w'.cell? ⟨b, o + j, none⟩ = some (.int .i64 r))
          (first | with_reducible exact ⟨(HKQ.out _ _ xl).trans x0, (HKQ.out _ _ xl).trans x1, (HKQ.out _ _ xl).trans x2, (HKQ.out _ _ xl).trans x3, (HKQ.out _ _ xl).trans x4, (HKQ.out _ _ xl).trans x5, (HKQ.out _ _ hb0).trans q0⟩ | with_reducible exact ⟨(HKP.out _ _ xl).trans x0, (HKP.out _ _ xl).trans x1, (HKP.out _ _ xl).trans x2, (HKP.out _ _ xl).trans x3, (HKP.out _ _ xl).trans x4, (HKP.out _ _ xl).trans x5, (HKP.out _ _ hb0).trans q0⟩ | exact ⟨x0, x1, x2, x3, x4, x5, q0⟩)
          (first
            | (go_at_call 53
               refine hc1.out.mono ?_
               rintro e va ⟨rfl, hb1⟩
               have HBA := Lib.hid hb1
               have HKP := Lib.hid (fun (x : Nat) (i : Nat) (hx : x < v2.heap.size) => (show va.cell? ⟨x, i, none⟩ = v2.cell? ⟨x, i, none⟩ from hb1.cell (p := ⟨x, i, none⟩) hx))
               clear hb1)
            | (go_at_call 54
               refine (hc2.out _ ((Below.refl v2.heap.size v2).drew.trans HBA.out)).mono ?_
               rintro e vb ⟨rfl, hb1⟩
               have HBB := Lib.hid (HBA.out.trans (hb1.mono HBA.out.size))
               have HKQ := Lib.hid (fun (x : Nat) (i : Nat) (hx : x < v2.heap.size) => (hb1.cell (p := ⟨x, i, none⟩) (Nat.lt_of_lt_of_le hx HBA.out.size)).trans (HKP.out x i hx))
               clear hb1))
        have HBF := Lib.hid (HB8.out.drew.trans (HBB.out.mono (show w.heap.size ≤ v2.drew.heap.size from HB8.out.size)))
        have HBG := Lib.hid (HBR.out.drew.trans (HBB.out.mono (show v1.heap.size ≤ v2.drew.heap.size from HBR.out.size)))
        clear x0 x1 x2 x3 x4 x5 xl q0
        cases al
        case false =>
          have HN := Lib.hid (show ¬ MemV D from fun hv => (by
            have h9 := aln_iff.2 (hv.alone (0 + j) (by omega))
            rw [HAL.out] at h9
            cases h9))
          go_wp2_with fail
          go_ret
          exact ⟨⟨false, rfl, fun e => (by cases e), fun e => absurd e HN.out⟩, HBF.out⟩
        go_wp2_with fail
        go_roundw
        case rel =>
          refine ⟨j + 1, by go_num, by omega, fun i hi => ?_, HBG.out⟩
          rcases Nat.lt_or_ge i j with h1 | h1
          · exact HTV7.out i h1
          · obtain rfl : i = j := by omega
            refine ⟨?_, (alone_iff fun c hc => tol_lt hc).2 (aln_iff.1 HAL.out)⟩
            rw [HRR.out]
            show ((tolL D 80 (0 + i)).length : Int) = r
            rw [HTL.out]
            exact HE.out
        case measure => simp [intOf]; omega
    have hu1 : (u : Int) < 5 := by omega
    have hu2 : (0 : Int) ≤ u := by omega
    obtain ⟨b, o, lv, A8, n8, c8, A9, c9, rfl, hb0, q0, q1, q2, hsr, hrs, hms, _⟩ := mem_sp (c := 0) HR4.out hlt
    have HSP := Lib.hid (l3Space_any hsr)
    obtain ⟨ls, hls⟩ : ∃ ls, (D.2.2.1.getD u spZ).2.2.length = ls := ⟨_, rfl⟩
    rw [hls] at q2 hrs hms HSP
    have HLS := Lib.hid (show (spD D u).2.2.length = ls from hls)
    have HRS := Lib.hid hrs
    have x4 := HX4.out.cell 4
    have xl := HX4.out.lt
    simp at x4
    have mls : ls ≤ 9223372036854775807 := hms
    clear hsr hrs hms hls
    go_wp2_with fail
    refine HSP.out.mono ?_
    rintro e v2 ⟨⟨bq, rfl, hbq⟩, hb2⟩
    have HBQ := Lib.hid (show bq = true ↔ SpM (spD D u) from hbq)
    have HBR2 := Lib.hid (HBR.out.trans (hb2.mono HBR.out.size))
    have HB5 := Lib.hid (HB4.out.trans (hb2.mono HB4.out.size))
    have HX5 := Lib.hid (HX4.out.below hb2 HX4.out.lt)
    have HR5' := Lib.hid (HR4.out.wb hb2)
    have HRS5 := Lib.hid (HRS.out.wb hb2)
    clear hbq hb2 HSP HRS HX4 HM4 x4 xl q0 q1 q2 hb0
    cases bq
    case false =>
      have HN := Lib.hid (show ¬ MemV D from fun hv => (by have h9 := HBQ.out.2 (spv_iff.1 (hv.sp u hlt)).1; cases h9))
      go_wp2_with fail
      go_ret
      exact ⟨⟨false, rfl, fun e => (by cases e), fun e => absurd e HN.out⟩, HB5.out⟩
    go_wp2_with fail
    go_loopw [4] (fun kv wr => ∃ k : Nat, kv = .int .i64 k ∧ k ≤ ls ∧ (∀ g, g < k → slT (spD D u) g) ∧ Below v2.heap.size v2 wr) (fun kv _ => ls - (intOf kv).toNat)
    case atStart => exact ⟨0, rfl, Nat.zero_le _, fun j hj => absurd hj (Nat.not_lt_zero j), Below.refl _ _⟩
    case round =>
      obtain ⟨k, rfl, hk, hst, hb⟩ := hrel
      rename World => v3
      have HST := Lib.hid hst
      have HBR3 := Lib.hid (HBR2.out.trans (hb.mono HBR2.out.size))
      have HBI := Lib.hid hb
      have HB6 := Lib.hid (HB5.out.trans (hb.mono HB5.out.size))
      have HX6 := Lib.hid (HX5.out.below hb HX5.out.lt)
      obtain ⟨b', o', lv', A8', n8', c8', A9', c9', hA, hb0, q0, q1, q2, _, hrs, _, _⟩ := mem_sp (c := 0) (HR5'.out.wb hb) hlt
      injection hA with hA
      injection hA with e1 e2 _
      subst e1 e2
      rw [show (D.2.2.1.getD u spZ).2.2.length = ls from HLS.out] at q2 hrs
      have x4 := HX6.out.cell 4
      have xl := HX6.out.lt
      simp at x4
      clear hst hb
      by_cases hkl : k < ls
      case neg =>
        obtain rfl : k = ls := by omega
        have hkk : ¬ ((k : Int) < k) := by omega
        have HSU := Lib.hid (show SpV (spD D u) from spv_iff.2 ⟨HBQ.out.1 (by first | rfl | trivial), fun g hg => HST.out g (by rw [← HLS.out]; exact hg)⟩)
        clear hrs
        go_wp2_with fail
        go_roundw
        case rel =>
          refine ⟨u + 1, by go_num, by omega, fun j hj => ?_, HBR3.out⟩
          rcases Nat.lt_or_ge j u with h1 | h1
          · exact HSV.out j h1
          · obtain rfl : j = u := by omega
            exact HSU.out
        case measure => simp [intOf]; omega
      have hk1 : (k : Int) < ls := by omega
      have hk2 : (0 : Int) ≤ k := by omega
      obtain ⟨b9, o9, rfl, _, hb9, hcc⟩ := hrs (by omega)
      have t0 := hcc k hkl 0 (by decide)
      have t1 := hcc k hkl 1 (by decide)
      have t2 := hcc k hkl 2 (by decide)
      have t3 := hcc k hkl 3 (by decide)
      obtain ⟨x, hx⟩ : ∃ x, (D.2.2.1.getD u spZ).2.2.getD k elSlot.z = x := ⟨_, rfl⟩
      rw [hx] at t0 t1 t2 t3
      have HXS := Lib.hid (show slD (spD D u) k = x from hx)
      obtain ⟨x0, x1, x2, x3⟩ := x
      replace t0 : v3.cell? ⟨b9, o9 + k * 4, none⟩ = some (.int .i64 x0) := t0
      replace t1 : v3.cell? ⟨b9, o9 + k * 4 + 1, none⟩ = some (.int .i64 x1) := t1
      replace t2 : v3.cell? ⟨b9, o9 + k * 4 + 2, none⟩ = some (.bool x2) := t2
      replace t3 : v3.cell? ⟨b9, o9 + k * 4 + 3, none⟩ = some (.bool x3) := t3
      have HBA := Lib.hid (HBI.out.alloc HBI.out.size (.cells #[.int .i64 x0, .int .i64 x1, .bool x2, .bool x3] 47))
      have HB7 := Lib.hid (HB6.out.alloc HB6.out.size (.cells #[.int .i64 x0, .int .i64 x1, .bool x2, .bool x3] 47))
      have HSN := Lib.hid (fun (h : x0 = 0 ∨ (0 ≤ x1 ∧ x1 ≤ 11)) => (show ∀ g, g < k + 1 → slT (spD D u) g from fun g hg => by
        rcases Nat.lt_or_ge g k with h1 | h1
        · exact HST.out g h1
        · obtain rfl : g = k := by omega
          unfold slT; rw [HXS.out]; exact h))
      clear hcc hx hrs q0 q1
      by_cases hz : x0 = 0
      case pos =>
        have e0 : (x0 == 2) = false := by simp only [beq_eq_false_iff_ne, ne_eq]; omega
        have e1 : (x0 != 0) = false := by simpa using hz
        have HY := Lib.hid (HSN.out (Or.inl hz))
        clear hz
        go_wp2_with fail
        go_roundw
        case rel => exact ⟨k + 1, by go_num, by omega, HY.out, HBA.out⟩
        case measure => simp [intOf]; omega
      have e1 : (x0 != 0) = true := by simpa using hz
      obtain ⟨ib, hib⟩ : ∃ ib, inB x1 0 11 = ib := ⟨_, rfl⟩
      have HIB := Lib.hid hib
      have HZ := Lib.hid hz
      clear hib
      by_cases hz2 : x0 = 2
      all_goals
        first
          | (have e0 : (x0 == 2) = true := by simpa using hz2)
          | (have e0 : (x0 == 2) = false := by simpa using hz2)
        clear hz hz2
        cases ib
        case false =>
          have HN := Lib.hid (show ¬ MemV D from fun hv => (by
            have h9 := (spv_iff.1 (hv.sp u hlt)).2 k (by rw [HLS.out]; exact hkl)
            unfold slT at h9
            rw [HXS.out] at h9
            have h8 := of_inB_not HIB.out
            rcases h9 with h9 | h9
            · exact HZ.out h9
            · exact h8 h9))
          go_wp2_with fail
          refine (l6In_any x1 0 11 _).mono ?_
          rw [HIB.out]
          rintro e v4 ⟨rfl, rfl⟩
          go_wp2_with fail
          go_ret
          exact ⟨⟨false, rfl, fun e => (by cases e), fun e => absurd e HN.out⟩, HB7.out⟩
        have HY := Lib.hid (HSN.out (Or.inr (of_inB HIB.out)))
        go_wp2_with fail
        refine (l6In_any x1 0 11 _).mono ?_
        rw [HIB.out]
        rintro e v4 ⟨rfl, rfl⟩
        go_wp2_with fail
        go_roundw
        case rel => exact ⟨k + 1, by go_num, by omega, HY.out, HBA.out⟩
        case measure => simp [intOf]; omega
theorem memOkS {hi : Nat} {x0 x1 x2 x3 x4 x5 : Value} (h : tyMem.R w hi [x0, x1, x2, x3, x4, x5] D) (hw : wfMem D) : Calls Try.prog 20 #[.agg #[x0, x1, x2, x3, x4, x5]] w fun e w' => e = .returned (.bool (memB D)) ∧ Below w.heap.size w w' :=
  (memOkS_main h hw).mono fun e w' h1 => by
    obtain ⟨⟨b, rfl, hb⟩, h2⟩ := h1
    exact ⟨by rw [memB_eq hb], h2⟩
end
end Go.Proofs.Ytfmbadhiflaldaa

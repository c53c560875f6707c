/-
  Memory: the model's l3Space.
-/
import Derived.Test.YtfmbadhiflaldaaMS1
namespace Go.Proofs.Ytfmbadhiflaldaa
open Go.RowKit
set_option maxRecDepth 100000

/-- what l3Space asks of a slot -/
def slM (s : ESp) (g : Nat) : Bool := if (slD s g).f0 = 0 then sameSl (slD s g) slZ else inAr s g && (inB (slD s g).f0 1 2 && !(shaB s g && !(slD s g).f2))
structure SpM (s : ESp) : Prop where
  dead : s.1 = false → s.2.1.length = 0 ∧ s.2.2.length = 0
  areas : s.1 = true → okL (arL s.2.1) = true
  len : s.1 = true → s.2.2.length = 16
  sl : s.1 = true → ∀ g, g < 16 → slM s g = true
/-- what l3Space answers -/
def SpmR (w : World) (s : ESp) (e : Ending) (w' : World) : Prop := (∃ b, e = .returned (.bool b) ∧ (b = true ↔ SpM s)) ∧ Below w.heap.size w w'
section
variable {w : World} {s : ESp}
set_option maxHeartbeats 4000000 in
theorem l3Space_any {hi : Nat} {y0 y1 y2 : Value} (h : tySpace.R w hi [y0, y1, y2] s) : Calls Try.prog 52 #[.agg #[y0, y1, y2]] w (SpmR w s) := by
  obtain ⟨rfl, ⟨A1, n1, c1, e1, hl1, hm1, hr1⟩, ⟨A2, n2, c2, e2, hl2, hm2, hr2⟩⟩ := tySpace_R h
  injection e1 with e1
  injection e2 with e2
  subst e1 e2
  obtain ⟨lv, hlv⟩ : ∃ lv, s.1 = lv := ⟨_, rfl⟩
  rw [hlv]
  have hbl := (Below.refl w.heap.size w).alloc (Nat.le_refl _) (.cells #[.bool lv, .slice A1 n1 c1, .slice A2 n2 c2] 45)
  have HB := Lib.hid hbl
  have HX := Lib.hid (Box.new w #[.bool lv, .slice A1 n1 c1, .slice A2 n2 c2] 45)
  have HR1 := Lib.hid (hr1.wb hbl)
  have HR2 := Lib.hid (hr2.wb hbl)
  have HL1 := Lib.hid hl1
  have HL2 := Lib.hid hl2
  have HLV := Lib.hid hlv
  have HAO := Lib.hid (oksL_any (c := c1) (hr1.wb hbl).rowA (by rw [arL_len]; exact hl1) hm1)
  have mx1 : n1 ≤ 9223372036854775807 := hm1
  have mx2 : n2 ≤ 9223372036854775807 := hm2
  obtain ⟨ao, hao⟩ : ∃ ao, okL (arL s.2.1) = ao := ⟨_, rfl⟩
  rw [hao] at HAO
  have HAK := Lib.hid hao
  clear h hlv hbl hr1 hr2 hl1 hl2 hm1 hm2 hao
  cases lv
  case false =>
    by_cases h1 : n1 = 0
    case neg =>
      have q1 : ((n1 : Int) == 0) = false := by simp only [beq_eq_false_iff_ne, ne_eq]; omega
      have HN := Lib.hid (show ¬ SpM s from fun hv => h1 (by rw [← HL1.out]; exact (hv.dead HLV.out).1))
      clear h1
      go_enter Try.func52, Try.ntmps52
      go_wp2_with fail
      go_ret
      exact ⟨⟨false, rfl, fun e => (by cases e), fun e => absurd e HN.out⟩, HB.out⟩
    by_cases h2 : n2 = 0
    case neg =>
      have q1 : ((n1 : Int) == 0) = true := by simp only [beq_iff_eq]; omega
      have q2 : ((n2 : Int) == 0) = false := by simp only [beq_eq_false_iff_ne, ne_eq]; omega
      have HN := Lib.hid (show ¬ SpM s from fun hv => h2 (by rw [← HL2.out]; exact (hv.dead HLV.out).2))
      clear h1 h2
      go_enter Try.func52, Try.ntmps52
      go_wp2_with fail
      go_ret
      exact ⟨⟨false, rfl, fun e => (by cases e), fun e => absurd e HN.out⟩, HB.out⟩
    have q1 : ((n1 : Int) == 0) = true := by simp only [beq_iff_eq]; omega
    have q2 : ((n2 : Int) == 0) = true := by simp only [beq_iff_eq]; omega
    have HY := Lib.hid (show SpM s from ⟨fun _ => ⟨by rw [HL1.out, h1], by rw [HL2.out, h2]⟩, fun e => (by rw [HLV.out] at e; cases e), fun e => (by rw [HLV.out] at e; cases e), fun e => (by rw [HLV.out] at e; cases e)⟩)
    clear h1 h2
    go_enter Try.func52, Try.ntmps52
    go_wp2_with fail
    go_ret
    exact ⟨⟨true, rfl, fun _ => HY.out, fun _ => rfl⟩, HB.out⟩
  go_enter Try.func52, Try.ntmps52
  go_upto_region 1 with fail
  generalize w.alloc (.cells #[.bool true, .slice A1 n1 c1, .slice A2 n2 c2] 45) = w1 at HB HX HR1 HR2 HAO ⊢
  have x0 := HX.out.cell 0
  have x1 := HX.out.cell 1
  have x2 := HX.out.cell 2
  have xl := HX.out.lt
  simp at x0 x1 x2
  go_wp2_with fail
  refine HAO.out.mono ?_
  rintro e w2 ⟨rfl, hb2⟩
  have HB2 := Lib.hid (HB.out.trans (hb2.mono HB.out.size))
  have HX2 := Lib.hid (HX.out.below hb2 HX.out.lt)
  have HR12 := Lib.hid (HR1.out.wb hb2)
  have HR22 := Lib.hid (HR2.out.wb hb2)
  clear hb2 x0 x1 x2 xl HX HB HAO HR1 HR2
  have x0 := HX2.out.cell 0
  have x1 := HX2.out.cell 1
  have x2 := HX2.out.cell 2
  have xl := HX2.out.lt
  simp at x0 x1 x2
  cases ao
  case false =>
    have HN := Lib.hid (show ¬ SpM s from fun hv => (by have := hv.areas HLV.out; rw [HAK.out] at this; cases this))
    go_wp2_with fail
    go_ret
    exact ⟨⟨false, rfl, fun e => (by cases e), fun e => absurd e HN.out⟩, HB2.out⟩
  by_cases h16 : n2 = 16
  case neg =>
    have q2 : ((n2 : Int) != 16) = true := by rw [bne_iff_ne]; omega
    have HN := Lib.hid (show ¬ SpM s from fun hv => h16 (by rw [← HL2.out]; exact hv.len HLV.out))
    clear h16
    go_wp2_with fail
    go_ret
    exact ⟨⟨false, rfl, fun e => (by cases e), fun e => absurd e HN.out⟩, HB2.out⟩
  subst h16
  go_wp2_with fail
  clear x0 x1 x2 xl
  go_loopw [3] (fun i wr => ∃ g : Nat, i = .int .i64 g ∧ g ≤ 16 ∧ (∀ j, j < g → slM s j = true) ∧ Below w2.heap.size w2 wr) (fun i _ => 16 - (intOf i).toNat)
  case atStart => exact ⟨0, rfl, Nat.zero_le _, fun j hj => absurd hj (Nat.not_lt_zero j), Below.refl _ _⟩
  case round =>
    obtain ⟨g, rfl, hg, hsl, hb⟩ := hrel
    rename World => v1
    have HSL := Lib.hid hsl
    have HB3 := Lib.hid (HB2.out.trans (hb.mono HB2.out.size))
    have HX3 := Lib.hid (HX2.out.below hb HX2.out.lt)
    have HR3 := Lib.hid (HR12.out.wb hb)
    have HBR := Lib.hid hb
    by_cases hlt : g < 16
    case neg =>
      obtain rfl : g = 16 := by omega
      have hgg : ¬ ((16 : Int) < 16) := by decide
      clear hsl hb
      go_wp2_with fail
      go_ret
      exact ⟨⟨true, rfl, fun _ => ⟨fun e => (by rw [HLV.out] at e; cases e), fun _ => HAK.out, fun _ => HL2.out, fun _ => HSL.out⟩, fun _ => rfl⟩, HB3.out⟩
    have hg1 : (g : Int) < 16 := by omega
    have hg2 : (0 : Int) ≤ g := by omega
    obtain ⟨b, o, rfl, _, hb0, hcc⟩ := (HR22.out.wb hb) (by omega)
    have q0 := hcc g hlt 0 (by decide)
    have q1 := hcc g hlt 1 (by decide)
    have q2 := hcc g hlt 2 (by decide)
    have q3 := hcc g hlt 3 (by decide)
    obtain ⟨x, hx⟩ : ∃ x, s.2.2.getD g elSlot.z = x := ⟨_, rfl⟩
    rw [hx] at q0 q1 q2 q3
    have HXS := Lib.hid (show slD s g = x from hx)
    obtain ⟨x0, x1, x2, x3⟩ := x
    replace q0 : v1.cell? ⟨b, o + g * 4, none⟩ = some (.int .i64 x0) := q0
    replace q1 : v1.cell? ⟨b, o + g * 4 + 1, none⟩ = some (.int .i64 x1) := q1
    replace q2 : v1.cell? ⟨b, o + g * 4 + 2, none⟩ = some (.bool x2) := q2
    replace q3 : v1.cell? ⟨b, o + g * 4 + 3, none⟩ = some (.bool x3) := q3
    have z1 := HX3.out.cell 1
    have z2 := HX3.out.cell 2
    have zl := HX3.out.lt
    simp at z1 z2
    have hbl := (Below.refl v1.heap.size v1).alloc (Nat.le_refl _) (.cells #[.int .i64 x0, .int .i64 x1, .bool x2, .bool x3] 47)
    have HBL := Lib.hid hbl
    have HXS5 := Lib.hid (Box.new v1 #[.int .i64 x0, .int .i64 x1, .bool x2, .bool x3] 47)
    have hn6 := (okL_parts HAK.out).2
    rw [arL_len, HL1.out] at hn6
    have hcall := l2At_any (c := c1) (g : Int) (HR3.out.wb hbl).rowA (by rw [arL_len]; exact HL1.out) (by omega) (by have h9 := (okL_parts HAK.out).1; rw [arL_len, HL1.out] at h9; exact h9)
    have HCL := Lib.hid hcall
    have hgd : ∀ (w : World) (x y : Operand), (eqGuard .neq 47 x y (.agg #[.int .i64 x0, .int .i64 x1, .bool x2, .bool x3]) (.agg #[.int .i64 0, .int .i64 0, .bool false, .bool false])).run Try.prog w = .ok () w := fun w x y => run_eqGuard_agg w _ _ _ _ _ _ slot_guard
    have hnq := slot_neq ⟨x0, x1, x2, x3⟩ slZ
    obtain ⟨sm, hsm⟩ : ∃ sm, sameSl ⟨x0, x1, x2, x3⟩ slZ = sm := ⟨_, rfl⟩
    rw [hsm] at hnq
    replace hnq : ∀ w : World, (binOp .neq 47 (.agg #[.int .i64 x0, .int .i64 x1, .bool x2, .bool x3]) (.agg #[.int .i64 0, .int .i64 0, .bool false, .bool false])).run Try.prog w = .ok (.bool (!sm)) w := hnq
    have HSM := Lib.hid hsm
    clear hsl hb hcc hx hbl hcall hsm
    go_upto_region 9 with fail
    clear q0 q1 q2 q3
    generalize v1.alloc (.cells #[.int .i64 x0, .int .i64 x1, .bool x2, .bool x3] 47) = v2 at HBL HXS5 HCL ⊢
    obtain ⟨X, hX⟩ : ∃ X, v1.heap.size = X := ⟨_, rfl⟩
    rw [hX] at HXS5 ⊢
    have z1 := (kc HBL.out _ _ zl).trans z1
    have z2 := (kc HBL.out _ _ zl).trans z2
    have zl2 := Nat.lt_of_lt_of_le zl HBL.out.size
    clear hX
    go_wp2_with fail
    refine HCL.out.mono ?_
    rintro e v3 ⟨rfl, hb3⟩
    have HB6 := Lib.hid (HB3.out.trans ((HBL.out.trans (hb3.mono HBL.out.size)).mono HB3.out.size))
    have HBR6 := Lib.hid (HBR.out.trans ((HBL.out.trans (hb3.mono HBL.out.size)).mono HBR.out.size))
    have HX6 := Lib.hid (HXS5.out.below hb3 HXS5.out.lt)
    have HR6 := Lib.hid ((HR3.out.wb HBL.out).wb hb3)
    have z1 := (kc hb3 _ _ zl2).trans z1
    have z2 := (kc hb3 _ _ zl2).trans z2
    have zl3 := Nat.lt_of_lt_of_le zl2 hb3.size
    have t0 := HX6.out.cell 0
    have t1 := HX6.out.cell 1
    have t2 := HX6.out.cell 2
    have t3 := HX6.out.cell 3
    have tl := HX6.out.lt
    simp at t0 t1 t2 t3
    clear hb3 HCL HBL HXS5 HB3 HX3 HBR HR3
    have HNX := Lib.hid (fun (h : slM s g = true) => (show ∀ j, j < g + 1 → slM s j = true from fun j hj => by
      rcases Nat.lt_or_ge j g with h1 | h1
      · exact HSL.out j h1
      · obtain rfl : j = g := by omega
        exact h))
    have HNO := Lib.hid (fun (h : slM s g = false) => (show ¬ SpM s from fun hv => by
      have h9 := hv.sl HLV.out g hlt
      rw [h] at h9
      cases h9))
    obtain ⟨at_, hat⟩ : ∃ a, l2AtV (arL s.2.1) (g : Int) = a := ⟨_, rfl⟩
    rw [hat]
    by_cases hz : x0 = 0
    case pos =>
      have e0 : (x0 == 0) = true := by simpa using hz
      have HSE := Lib.hid (show slM s g = sm from by unfold slM; rw [HXS.out, if_pos hz, HSM.out])
      clear hz hat
      cases sm
      case false =>
        have HN := Lib.hid (HNO.out HSE.out)
        go_wp2_with fail
        go_ret
        exact ⟨⟨false, rfl, fun e => (by cases e), fun e => absurd e HN.out⟩, HB6.out⟩
      have HY := Lib.hid (HNX.out HSE.out)
      go_wp2_with fail
      go_roundw
      case rel => exact ⟨g + 1, by go_num, by omega, HY.out, HBR6.out⟩
      case measure => simp [intOf]; omega
    have e0 : (x0 == 0) = false := by simpa using hz
    have HSE := Lib.hid (show slM s g = (inAr s g && (inB x0 1 2 && !(shaB s g && !x2))) from by unfold slM; rw [HXS.out, if_neg hz])
    clear hz hnq hgd
    by_cases hin : fstA (g : Int) (arL s.2.1) < s.2.1.length
    case neg =>
      have ha : at_ < 0 := by rw [← hat]; unfold l2AtV; rw [if_neg (by rw [arL_len]; exact hin)]; decide
      have HN := Lib.hid (HNO.out (by rw [HSE.out]; unfold inAr; rw [decide_eq_false hin]; rfl))
      clear hin hat
      go_wp2_with fail
      go_ret
      exact ⟨⟨false, rfl, fun e => (by cases e), fun e => absurd e HN.out⟩, HB6.out⟩
    have hav : at_ = (fstA (g : Int) (arL s.2.1) : Int) := by rw [← hat]; unfold l2AtV; rw [if_pos (by rw [arL_len]; exact hin)]
    have hsh := sha_yes hin
    unfold arAt at hsh
    have hia : inAr s g = true := by unfold inAr; exact decide_eq_true hin
    obtain ⟨k, hk⟩ : ∃ k, fstA (g : Int) (arL s.2.1) = k := ⟨_, rfl⟩
    rw [hk] at hav hin hsh
    rw [HL1.out] at hin
    subst hav
    have ha : ¬ (k : Int) < 0 := by omega
    have hk1 : (k : Int) < n1 := by omega
    have hk2 : (0 : Int) ≤ k := by omega
    obtain ⟨b1, o1, rfl, _, hbb, hcc⟩ := HR6.out (by omega)
    have q3 := hcc k hin 3 (by decide)
    obtain ⟨a, haa⟩ : ∃ a, s.2.1.getD k elArea.z = a := ⟨_, rfl⟩
    rw [haa] at q3 hsh
    obtain ⟨a0, a1, a2, a3⟩ := a
    replace q3 : v3.cell? ⟨b1, o1 + k * 4 + 3, none⟩ = some (.bool a3) := q3
    dsimp only at hsh
    rw [hia, hsh, Bool.true_and] at HSE
    clear hcc haa hk hsh hia hat
    obtain ⟨ib, hib⟩ : ∃ ib, inB x0 1 2 = ib := ⟨_, rfl⟩
    rw [hib] at HSE
    have HIB := Lib.hid hib
    clear hib
    cases ib
    case false =>
      have HN := Lib.hid (HNO.out HSE.out)
      go_wp2_with fail
      refine (l6In_any x0 1 2 _).mono ?_
      rw [HIB.out]
      rintro e v4 ⟨rfl, rfl⟩
      go_wp2_with fail
      go_ret
      exact ⟨⟨false, rfl, fun e => (by cases e), fun e => absurd e HN.out⟩, HB6.out⟩
    cases a3
    case false =>
      have HY := Lib.hid (HNX.out HSE.out)
      go_wp2_with fail
      refine (l6In_any x0 1 2 _).mono ?_
      rw [HIB.out]
      rintro e v4 ⟨rfl, rfl⟩
      go_wp2_with fail
      go_roundw
      case rel => exact ⟨g + 1, by go_num, by omega, HY.out, HBR6.out⟩
      case measure => simp [intOf]; omega
    cases x2
    case false =>
      have HN := Lib.hid (HNO.out HSE.out)
      go_wp2_with fail
      refine (l6In_any x0 1 2 _).mono ?_
      rw [HIB.out]
      rintro e v4 ⟨rfl, rfl⟩
      go_wp2_with fail
      go_ret
      exact ⟨⟨false, rfl, fun e => (by cases e), fun e => absurd e HN.out⟩, HB6.out⟩
    have HY := Lib.hid (HNX.out HSE.out)
    go_wp2_with fail
    refine (l6In_any x0 1 2 _).mono ?_
    rw [HIB.out]
    rintro e v4 ⟨rfl, rfl⟩
    go_wp2_with fail
    go_roundw
    case rel => exact ⟨g + 1, by go_num, by omega, HY.out, HBR6.out⟩
    case measure => simp [intOf]; omega
end
end Go.Proofs.Ytfmbadhiflaldaa

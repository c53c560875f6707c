/-
  Memory: the model's l3Shared, l3Space; the program's MemOk.
-/
import Derived.Test.YtfmbadhiflaldaaMI9
namespace Go.Proofs.Ytfmbadhiflaldaa
open Go.RowKit
set_option maxRecDepth 100000

section
variable {D : EMem} {w : World}
theorem memOkI {hi : Nat} {x0 x1 x2 x3 x4 x5 : Value} (h : tyMem.R w hi [x0, x1, x2, x3, x4, x5] D) (hw : wfMem D) (hT : ∀ s ∈ D.2.2.1, TopE s.2.1) :
    Calls Try.prog 18 #[.agg #[x0, x1, x2, x3, x4, x5]] w fun e w' => e = .returned (.bool (memB D)) ∧ Below w.heap.size w w' := by
  have hbl := (Below.refl w.heap.size w).alloc (Nat.le_refl _) (.cells #[x0, x1, x2, x3, x4, x5] 29)
  obtain ⟨_, _, _, rfl⟩ := tyMem_R h
  obtain ⟨A0, n0, c0, B0, m0, d0, A1, n1, c1, B1, m1, d1, A2, n2, c2, hsh⟩ := tyMem_sh h
  simp only [List.cons.injEq, and_true] at hsh
  obtain ⟨rfl, rfl, rfl, rfl, rfl⟩ := hsh
  have HC := Lib.hid (memLinked_any (Ty.below_w h hbl) hw hT)
  have HB := Lib.hid hbl
  obtain ⟨hd, hhd⟩ : ∃ hd, D.2.2.2 = hd := ⟨_, rfl⟩
  rw [hhd] at HC HB ⊢
  clear h hw hT hbl hhd
  go_enter Try.func18, Try.ntmps18
  go_wp2_with fail
  refine HC.out.mono ?_
  rintro e w1 ⟨b, ptr, rfl, hb, _, hbb⟩
  have HE := Lib.hid (memB_eq hb)
  have HB1 := Lib.hid (HB.out.trans (hbb.mono HB.out.size))
  clear hb hbb
  go_wp2_with fail
  go_ret
  exact ⟨by rw [HE.out]; rfl, HB1.out⟩
variable {s : ESp}
theorem shared_any {hi g : Nat} {y0 y1 y2 : Value} (h : tySpace.R w hi [y0, y1, y2] s) (hok : okL (arL s.2.1) = true) :
    Calls Try.prog 95 #[.agg #[y0, y1, y2], .int .i64 (g : Int)] w fun e w' => e = .returned (.bool (shaB s g)) ∧ Below w.heap.size w w' := by
  obtain ⟨rfl, ⟨A1, n1, c1, e1, hl1, hm1, hr1⟩, ⟨A2, n2, c2, e2, _, _, _⟩⟩ := tySpace_R h
  injection e1 with e1
  injection e2 with e2
  subst e1 e2
  obtain ⟨lv, hlv⟩ : ∃ lv, s.1 = lv := ⟨_, rfl⟩
  rw [hlv]
  have hbl := (Below.refl w.heap.size w).alloc (Nat.le_refl _) (.cells #[.bool lv, .slice A1 n1 c1, .slice A2 n2 c2] 45)
  have hn6 := (okL_parts hok).2
  rw [arL_len, hl1] at hn6
  have hcall := l2At_any (c := c1) (g : Int) (hr1.wb hbl).rowA (by rw [arL_len]; exact hl1) (by omega) (by have h9 := (okL_parts hok).1; rw [arL_len, hl1] at h9; exact h9)
  have HB := Lib.hid hbl
  have HX := Lib.hid (Box.new w #[.bool lv, .slice A1 n1 c1, .slice A2 n2 c2] 45)
  have HR := Lib.hid (hr1.wb hbl)
  have HL := Lib.hid hl1
  by_cases hin : fstA (g : Int) (arL s.2.1) < s.2.1.length
  case neg =>
    have hv : l2AtV (arL s.2.1) (g : Int) = -1 := by unfold l2AtV; rw [if_neg (by rw [arL_len]; exact hin)]
    rw [hv] at hcall
    have HC := Lib.hid hcall
    have HS := Lib.hid (sha_no hin)
    rw [HS.out]
    clear h hok hlv hbl hcall hv hin hr1 hl1
    go_enter Try.func95, Try.ntmps95
    go_wp2_with fail
    refine HC.out.mono ?_
    rintro e w1 ⟨rfl, hb1⟩
    have HB1 := Lib.hid (HB.out.trans (hb1.mono HB.out.size))
    clear hb1
    go_wp2_with fail
    go_ret
    exact ⟨rfl, HB1.out⟩
  have hv : l2AtV (arL s.2.1) (g : Int) = (fstA (g : Int) (arL s.2.1) : Int) := by unfold l2AtV; rw [if_pos (by rw [arL_len]; exact hin)]
  rw [hv] at hcall
  have HS := Lib.hid (sha_yes hin)
  rw [HS.out]
  unfold arAt
  obtain ⟨k, hk⟩ : ∃ k, fstA (g : Int) (arL s.2.1) = k := ⟨_, rfl⟩
  rw [hk] at hcall hin ⊢
  have HC := Lib.hid hcall
  obtain ⟨b, o, rfl, _, hb0, hcc⟩ := HR.out (by omega)
  have q3 := hcc k (by omega) 3 (by decide)
  obtain ⟨a, ha⟩ : ∃ a, s.2.1.getD k elArea.z = a := ⟨_, rfl⟩
  rw [ha] at q3 ⊢
  obtain ⟨a0, a1, a2, a3⟩ := a
  replace q3 : (w.alloc (.cells #[.bool lv, .slice (some ⟨b, o, none⟩) n1 c1, .slice A2 n2 c2] 45)).cell? ⟨b, o + k * 4 + 3, none⟩ = some (.bool a3) := q3
  have hk1 : (k : Int) < n1 := by omega
  have hk2 : (0 : Int) ≤ k := by omega
  dsimp only
  clear h hok hlv hbl hcall hv hin hr1 hl1 hcc ha hk HS
  go_enter Try.func95, Try.ntmps95
  go_upto_region 1 with fail
  generalize w.alloc (.cells #[.bool lv, .slice (some ⟨b, o, none⟩) n1 c1, .slice A2 n2 c2] 45) = w1 at HB HX HR HC q3 hb0 ⊢
  have x1 := HX.out.cell 1
  have xl := HX.out.lt
  simp at x1
  go_wp2_with fail
  refine HC.out.mono ?_
  rintro e w2 ⟨rfl, hb1⟩
  have HB1 := Lib.hid (HB.out.trans (hb1.mono HB.out.size))
  have q3 := (kc hb1 _ _ hb0).trans q3
  have x1 := (kc hb1 _ _ xl).trans x1
  have hb2 := Nat.lt_of_lt_of_le hb0 hb1.size
  have xl2 := Nat.lt_of_lt_of_le xl hb1.size
  clear hb1
  go_wp2_with fail
  go_ret
  exact ⟨rfl, HB1.out⟩
end
end Go.Proofs.Ytfmbadhiflaldaa

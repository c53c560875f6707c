/-
  The draw of signals.
-/
import Derived.Test.YtncinocpdeokgaaGSz
import Derived.Test.YtncinocpdeokgaaKOpen
namespace Go.Proofs.Ytncinocpdeokgaa
open Go.RowKit

theorem S8.touch {w w' : World} {lo g g0 g1 g2 : Nat} {D : Sg} (h : S8 w lo g0 g1 g2 D) (ht : Touch w w' (some ⟨g, 0, none⟩) 1) (hg : g < lo) : S8 w' lo g0 g1 g2 D where
  r0 := h.r0.frame fun b hm => ht.block b (by rw [List.mem_singleton.1 hm]; exact h.b0.2) fun _ a e => by injection e with e; subst e; have h2 := h.b0; rw [List.mem_singleton.1 hm]; show g0 ≠ g; omega
  r1 := h.r1.frame fun b hm => ht.block b (by rw [List.mem_singleton.1 hm]; exact h.b1.2) fun _ a e => by injection e with e; subst e; have h2 := h.b1; rw [List.mem_singleton.1 hm]; show g1 ≠ g; omega
  r2 := h.r2.frame fun b hm => ht.block b (by rw [List.mem_singleton.1 hm]; exact h.b2.2) fun _ a e => by injection e with e; subst e; have h2 := h.b2; rw [List.mem_singleton.1 hm]; show g2 ≠ g; omega
  l0 := h.l0
  l1 := h.l1
  l2 := h.l2
  b0 := ⟨h.b0.1, Nat.lt_of_lt_of_le h.b0.2 ht.size⟩
  b1 := ⟨h.b1.1, Nat.lt_of_lt_of_le h.b1.2 ht.size⟩
  b2 := ⟨h.b2.1, Nat.lt_of_lt_of_le h.b2.2 ht.size⟩
  n01 := h.n01
  n02 := h.n02
  n12 := h.n12
theorem four_at {w w' : World} {W g : Nat} {x a b d f : Int} {t : TypeId} (h : Box w W #[.int .i64 a, .int .i64 b, .int .i64 d, .int .i64 f] t) (ht : Touch w w' (some ⟨g, 0, none⟩) 1) (hne : g ≠ W) (x0 : 0 ≤ x) (x1 : x < 4) :
    ∃ r : Int, w'.cell? ⟨W, x.toNat, none⟩ = some (.int .i64 r) := by
  have hb : Box w' W _ t := (ht.box h fun a e => by injection e with e; subst e; exact fun e => hne e.symm)
  rw [hb.cell]
  obtain h | h | h | h : x = 0 ∨ x = 1 ∨ x = 2 ∨ x = 3 := by omega
  all_goals subst h; exact ⟨_, rfl⟩
/-- signals were drawn -/
def SigsDrawn (w : World) (g : Nat) (A : Option Addr) (n c : Nat) (p : Int) (e : Ending) (w' : World) : Prop :=
  ∃ (y0 y1 y2 : Value) (D : Sg) (fp : List Nat) (q : Int), e = .returned (.agg #[y0, y1, y2]) ∧ tySigs.M w' fp [y0, y1, y2] D ∧ (∀ b ∈ fp, w.heap.size < b ∧ b < w'.heap.size) ∧ smallSigs D ∧ Rd w' g A n c q ∧ q ≤ p + 40 ∧ Touch w w' (some ⟨g, 0, none⟩) 1
theorem tail8 {w : World} {g : Nat} {l : List Bool} (h : RowM elB w [g] (some ⟨g, 0, none⟩) 8 l) : RowM elB w [g] (some ⟨g, 1, none⟩) 7 (l.drop 1) := fun _ => by
  obtain ⟨b, o, e, hfp, hb, hf, hc⟩ := h (by omega)
  injection e with e
  injection e with e1 e2
  subst e1 e2
  refine ⟨g, 1, rfl, rfl, hb, hf, fun k hk r hr => ?_⟩
  have h2 := hc (k + 1) (by omega) r hr
  have e3 : (l.drop 1).getD k elB.z = l.getD (k + 1) elB.z := by simp [List.getD_eq_getElem?_getD]
  rw [e3, ← h2]
  have hk1 : elB.K = 1 := rfl
  rw [hk1]
  congr 2
  omega
/-- the result stands in its box -/
theorem sigs_end {w w6 : World} {g : Nat} {A : Option Addr} {n c : Nat} {p q : Int} {fp : List Nat} {y0 y1 y2 : Value} {D : Sg} (hr : Rd w g A n c p) (hq : Rd w6 g A n c q) (hq2 : q ≤ p + 40) (ht : Touch w w6 (some ⟨g, 0, none⟩) 1) (hm : tySigs.M w6 fp [y0, y1, y2] D) (hf : ∀ b ∈ fp, w.heap.size < b ∧ b < w6.heap.size) (hs : smallSigs D) :
    SigsDrawn w g A n c p (.returned (.agg #[y0, y1, y2])) (((w6.setCell ⟨w.heap.size, 0, none⟩ y0).setCell ⟨w.heap.size, 1, none⟩ y1).setCell ⟨w.heap.size, 2, none⟩ y2) := by
  have hg := hr.box.lt
  have hgn : g ≠ w.heap.size := by omega
  have hb := ((hq.box.other (a := ⟨w.heap.size, 0, none⟩) hgn y0).other (a := ⟨w.heap.size, 1, none⟩) hgn y1).other (a := ⟨w.heap.size, 2, none⟩) hgn y2
  have hbl : Below w.heap.size w6 (((w6.setCell ⟨w.heap.size, 0, none⟩ y0).setCell ⟨w.heap.size, 1, none⟩ y1).setCell ⟨w.heap.size, 2, none⟩ y2) :=
    (((Below.refl w.heap.size w6).setCell (Nat.le_refl _) _).setCell (Nat.le_refl _) _).setCell (Nat.le_refl _) _
  have ht2 := ht.low_ hbl
  have hne : ∀ b ∈ fp, b ≠ w.heap.size := fun b hb => by have := hf b hb; omega
  refine ⟨y0, y1, y2, D, fp, q, rfl, ?_, fun b hb => ?_, hs, hr.of_touch ht2 hb hq.p0 hq.p1, hq2, ht2⟩
  · exact tySigs.mframe (tySigs.mframe (tySigs.mframe hm fun b hb => heap_setCell_other _ ⟨w.heap.size, 0, none⟩ b _ (hne b hb)) fun b hb => heap_setCell_other _ ⟨w.heap.size, 1, none⟩ b _ (hne b hb)) fun b hb => heap_setCell_other _ ⟨w.heap.size, 2, none⟩ b _ (hne b hb)
  · have := hf b hb
    simp only [World.size_setCell]
    exact this

section
variable {A : Option Addr} {n c : Nat} {w : World} {g : Nat} {p : Int}
set_option maxHeartbeats 8000000 in
set_option maxRecDepth 100000 in
theorem sigs_any (hr : Rd w g A n c p) (hp : p ≤ 10000) : Calls Try.prog 63 #[.pointer (some ⟨g, 0, none⟩)] w (SigsDrawn w g A n c p) := by
  have HR := Lib.hid hr
  have hp0 := hr.p0
  have hg := hr.box.lt
  have HA0 := Lib.hid (show Below w.heap.size w (w.alloc (.cells #[.slice none 0 0, .slice none 0 0, .slice none 0 0] 26)) from (Below.refl _ _).alloc (Nat.le_refl _) _)
  have ZZ := Lib.hid (Box.new w #[.slice none 0 0, .slice none 0 0, .slice none 0 0] 26)
  clear hr
  go_enter Try.func63, Try.ntmps63
  go_wp2_with fail
  refine sigsNew8.mono ?_
  rintro e w1 ⟨g0, g1, g2, rfl, hs, hb⟩
  have hb0 := hs.b0
  have hb1 := hs.b1
  have hb2 := hs.b2
  simp only [World.size_alloc] at hb0 hb1 hb2
  have HB1 := Lib.hid (HA0.out.trans (hb.mono HA0.out.size))
  have Z1 := Lib.hid (ZZ.out.below hb (by simp))
  have S1 := Lib.hid (show S8 w1 (w.heap.size + 2) g0 g1 g2 newD by have h := hs; simp only [World.size_alloc] at h; exact h)
  clear hs hb
  have hw1 : w.heap.size < w1.heap.size := Z1.out.lt
  have HA1 := Lib.hid (show Below w1.heap.size w1 (w1.alloc (.cells #[.slice (some ⟨g0, 0, none⟩) 8 8, .slice (some ⟨g1, 0, none⟩) 8 8, .slice (some ⟨g2, 0, none⟩) 8 8] 26)) from (Below.refl _ _).alloc (Nat.le_refl _) _)
  have O2 := Lib.hid (Box.new w1 #[.slice (some ⟨g0, 0, none⟩) 8 8, .slice (some ⟨g1, 0, none⟩) 8 8, .slice (some ⟨g2, 0, none⟩) 8 8] 26)
  have Z2 := Lib.hid (Z1.out.alloc (.cells #[.slice (some ⟨g0, 0, none⟩) 8 8, .slice (some ⟨g1, 0, none⟩) 8 8, .slice (some ⟨g2, 0, none⟩) 8 8] 26))
  have S2 := Lib.hid (S1.out.below HA1.out)
  have HB2 := Lib.hid (HB1.out.trans (HA1.out.mono HB1.out.size))
  have T2 := Lib.hid (Touch.of_below (A := some ⟨g, 0, none⟩) (n := 1) HB2.out)
  have R2 := Lib.hid (HR.out.below HB2.out)
  have hX1 : w.heap.size < w1.heap.size := hw1
  go_wp2_with fail
  clear HA0 HA1 HB1 HB2 ZZ Z1 S1
  generalize hXe : w1.heap.size = X at hb0 hb1 hb2 hX1 O2
  have HXE := Lib.hid hXe
  clear hXe hw1
  go_loopw [4] (fun i wr => ∃ (k : Nat) (D : Sg) (q : Int), i = .int .i64 k ∧ k ≤ 8 ∧ q ≤ p + 3 * k ∧ S8 wr (w.heap.size + 2) g0 g1 g2 D ∧ Box wr X #[.slice (some ⟨g0, 0, none⟩) 8 8, .slice (some ⟨g1, 0, none⟩) 8 8, .slice (some ⟨g2, 0, none⟩) 8 8] 26 ∧ Box wr w.heap.size #[.slice none 0 0, .slice none 0 0, .slice none 0 0] 26 ∧ Rd wr g A n c q ∧ Touch w wr (some ⟨g, 0, none⟩) 1) (fun i _ => 8 - (intOf i).toNat)
  case atStart => exact ⟨0, newD, p, rfl, by omega, by omega, S2.out, O2.out, Z2.out, R2.out, T2.out⟩
  case round =>
    obtain ⟨k, D, q, rfl, hk, hq, hs, ho, hz, hrd, ht⟩ := hrel
    have hq0 := hrd.p0
    clear O2 Z2 S2 T2 R2
    generalize hW0 : wr = W0 at hs ho hz hrd ht ⊢
    have S0 := Lib.hid hs
    have O0 := Lib.hid ho
    have Z0 := Lib.hid hz
    have R0 := Lib.hid hrd
    have T0 := Lib.hid ht
    clear hs ho hz hrd ht hW0
    by_cases hlt : k < 8
    · have hk1 : (k : Int) < 8 := by omega
      have hk2 : (0 : Int) ≤ k := by omega
      have hwx : IntKind.i64.wrap ((k : Int) + 1) = (k : Int) + 1 := IntWalk.i64_in _ (by omega)
      have o0 := O0.out.cell 0
      have o1 := O0.out.cell 1
      have o2 := O0.out.cell 2
      have ol := O0.out.lt
      simp at o0 o1 o2
      go_wp2_with fail
      refine wp_region_held_drew (S := fun w' => w'.cell? ⟨X, 0, none⟩ = some (.slice (some ⟨g0, 0, none⟩) 8 8) ∧ w'.cell? ⟨X, 1, none⟩ = some (.slice (some ⟨g1, 0, none⟩) 8 8) ∧ w'.cell? ⟨X, 2, none⟩ = some (.slice (some ⟨g2, 0, none⟩) 8 8)) (by kernel_rfl) ⟨o0, o1, o2⟩ (fun hHeld => ?_)
      refine wpAnyH_take (i := 0) (v := ?va0) rfl (by kernel_rfl) (by kernel_rfl) (by kernel_rfl) (fun _ _ _ h => h) (Or.inl ⟨by rfl, ?hya0⟩) (by assumption) ?resta0
      case hya0 =>
        intro w hSw
        try dsimp only at hSw
        go_simp
        try with_reducible rfl
      simp only [Act.put, List.setIfInBounds_toArray, List.set_cons_zero, List.set_cons_succ, List.getElem_toArray, List.getElem_cons_zero]
      refine wpAnyH_take (i := 1) (v := ?va1) rfl (by kernel_rfl) (by kernel_rfl) (by kernel_rfl) (fun _ _ _ h => h) (Or.inl ⟨by rfl, ?hya1⟩) (by assumption) ?resta1
      case hya1 =>
        intro w hSw
        try dsimp only at hSw
        go_simp
        try with_reducible rfl
      simp only [Act.put, List.setIfInBounds_toArray, List.set_cons_zero, List.set_cons_succ, List.getElem_toArray, List.getElem_cons_zero, List.getElem_cons_succ]
      refine wpAnyH_take (i := 2) (v := ?va2) rfl (by kernel_rfl) (by kernel_rfl) (by kernel_rfl) (fun _ _ _ h => h) (Or.inl ⟨by rfl, ?hya2⟩) (by assumption) ?resta2
      case hya2 =>
        intro w hSw
        try dsimp only at hSw
        go_simp
        try with_reducible rfl
      simp only [Act.put, List.setIfInBounds_toArray, List.set_cons_zero, List.set_cons_succ, List.getElem_toArray, List.getElem_cons_zero, List.getElem_cons_succ]
      refine wpAnyH_take (i := 3) (v := ?va3) rfl (by kernel_rfl) (by kernel_rfl) (by kernel_rfl) (fun _ _ _ h => h) (Or.inl ⟨by rfl, ?hya3⟩) (by assumption) ?resta3
      case hya3 =>
        intro w hSw
        try dsimp only at hSw
        go_simp
        try with_reducible rfl
      simp only [Act.put, List.setIfInBounds_toArray, List.set_cons_zero, List.set_cons_succ, List.getElem_toArray, List.getElem_cons_zero, List.getElem_cons_succ]
      refine wpAnyH_ready (rs := [4]) (by kernel_rfl) (by simp) ?_
      refine AllReadyH.cons rfl (fun K hK => ?_) AllReadyH.nil
      go_simp
      go_at_call 65
      refine (pick2_any 3 (by omega) (by omega) (R0.out.below (Below.refl _ _).drew) (by omega)).mono ?_
      rintro e W1 ⟨t1, rfl, u1, v1, hrd, ht⟩
      have S1 := Lib.hid (S0.out.drew.touch ht (by omega))
      have O1 := Lib.hid (ht.box (show Box W0.drew X #[.slice (some ⟨g0, 0, none⟩) 8 8, .slice (some ⟨g1, 0, none⟩) 8 8, .slice (some ⟨g2, 0, none⟩) 8 8] 26 from O0.out) (fun a e => by injection e with e; subst e; show X ≠ g; omega))
      have Z1 := Lib.hid (ht.box (show Box W0.drew w.heap.size #[.slice none 0 0, .slice none 0 0, .slice none 0 0] 26 from Z0.out) (fun a e => by injection e with e; subst e; show w.heap.size ≠ g; omega))
      have R1 := Lib.hid hrd
      have T1 := Lib.hid ((T0.out.then_ (Below.refl _ _).drew).trans ht)
      clear hrd ht
      obtain ⟨s0, f0⟩ := S1.out.c0 k hlt
      refine hK.out _ _ ?_ (fun hHeld => ?_)
      · exact ⟨O1.out.cell 0, O1.out.cell 1, O1.out.cell 2⟩
      clear hK K
      try simp only [Act.put, List.setIfInBounds_toArray, List.set_cons_zero, List.set_cons_succ, List.getElem_toArray, List.getElem_cons_zero, List.getElem_cons_succ]
      refine wpAnyH_take (i := 5) (v := ?va5) rfl (by kernel_rfl) (by kernel_rfl) (by kernel_rfl) (fun _ _ _ h => h) (Or.inl ⟨by rfl, ?hya5⟩) (by assumption) ?resta5
      case hya5 =>
        intro w hSw
        try dsimp only at hSw
        go_simp
        try with_reducible rfl
      simp only [Act.put, List.setIfInBounds_toArray, List.set_cons_zero, List.set_cons_succ, List.getElem_toArray, List.getElem_cons_zero, List.getElem_cons_succ]
      refine wpAnyH_take (i := 6) (v := ?va6) rfl (by kernel_rfl) (by kernel_rfl) (by kernel_rfl) (fun _ _ _ h => h) (Or.inl ⟨by rfl, ?hya6⟩) (by assumption) ?resta6
      case hya6 =>
        intro w hSw
        try dsimp only at hSw
        go_simp
        try with_reducible rfl
      simp only [Act.put, List.setIfInBounds_toArray, List.set_cons_zero, List.set_cons_succ, List.getElem_toArray, List.getElem_cons_zero, List.getElem_cons_succ]
      refine wpAnyH_ready (rs := [7]) (by kernel_rfl) (by simp) ?_
      refine AllReadyH.cons rfl (fun K hK => ?_) AllReadyH.nil
      go_simp

      refine hK.out _ _ ?_ (fun hHeld => ?_)
      · exact ⟨(World.cell?_setCell_other _ _ _ _ (fun e => by injection e with e1 _; omega)).trans (O1.out.cell 0), (World.cell?_setCell_other _ _ _ _ (fun e => by injection e with e1 _; omega)).trans (O1.out.cell 1), (World.cell?_setCell_other _ _ _ _ (fun e => by injection e with e1 _; omega)).trans (O1.out.cell 2)⟩
      clear hK K
      try simp only [Act.put, List.setIfInBounds_toArray, List.set_cons_zero, List.set_cons_succ, List.getElem_toArray, List.getElem_cons_zero, List.getElem_cons_succ]
      refine wpAnyH_done (by kernel_rfl) ?_ _
      clear o0 o1 o2 ol
      clear s0 f0
      obtain ⟨D2, hs⟩ : ∃ D : Sg, S8 (W1.setCell ⟨g0, k, none⟩ (.bool (t1 == 0))) (w.heap.size + 2) g0 g1 g2 D := ⟨_, S1.out.put0 k hlt (t1 == 0)⟩
      have S2 := Lib.hid hs
      have O2 := Lib.hid (O1.out.other (a := ⟨g0, k, none⟩) (by show X ≠ g0; omega) (.bool (t1 == 0)))
      have Z2 := Lib.hid (Z1.out.other (a := ⟨g0, k, none⟩) (by show w.heap.size ≠ g0; omega) (.bool (t1 == 0)))
      have T2 := Lib.hid (T1.out.low_ (show Below w.heap.size W1 (W1.setCell ⟨g0, k, none⟩ (.bool (t1 == 0))) from (Below.refl _ _).setCell (by show w.heap.size ≤ g0; omega) _))
      have R2 := Lib.hid (HR.out.of_touch T2.out (R1.out.box.other (a := ⟨g0, k, none⟩) (by show g ≠ g0; omega) (.bool (t1 == 0))) (show 0 ≤ q + 1 by omega) (by omega))
      clear hs
      generalize W1.setCell ⟨g0, k, none⟩ (.bool (t1 == 0)) = W2 at S2 O2 Z2 R2 T2 ⊢
      have HFX := Lib.hid (fix_nat k hlt)
      by_cases hf : 2 ≤ k
      case neg =>
        have hfx : fixB ((k : Int) + 1) = true := by rw [HFX.out, decide_eq_false hf]; rfl
        go_wp2_with fail
        refine (l10Fixed_any _).mono ?_
        rw [hfx]
        rintro e w9 ⟨rfl, rfl⟩
        go_wp2_with fail
        go_roundw
        case rel => exact ⟨k + 1, D2, q + 1, by go_num, by omega, by omega, S2.out, O2.out, Z2.out, R2.out, T2.out⟩
        case measure => simp [intOf]; omega
      have hfx : fixB ((k : Int) + 1) = false := by rw [HFX.out, decide_eq_true hf]; rfl
      go_wp2_with fail
      refine (l10Fixed_any _).mono ?_
      rw [hfx]
      rintro e w9 ⟨rfl, rfl⟩
      have o0 := O2.out.cell 0
      have o1 := O2.out.cell 1
      have o2 := O2.out.cell 2
      have ol := O2.out.lt
      simp at o0 o1 o2
      go_wp2_with fail
      refine wp_region_held_drew (S := fun w' => w'.cell? ⟨X, 0, none⟩ = some (.slice (some ⟨g0, 0, none⟩) 8 8) ∧ w'.cell? ⟨X, 1, none⟩ = some (.slice (some ⟨g1, 0, none⟩) 8 8) ∧ w'.cell? ⟨X, 2, none⟩ = some (.slice (some ⟨g2, 0, none⟩) 8 8)) (by kernel_rfl) ⟨o0, o1, o2⟩ (fun hHeld => ?_)
      refine wpAnyH_take (i := 0) (v := ?vb0) rfl (by kernel_rfl) (by kernel_rfl) (by kernel_rfl) (fun _ _ _ h => h) (Or.inl ⟨by rfl, ?hyb0⟩) (by assumption) ?restb0
      case hyb0 =>
        intro w hSw
        try dsimp only at hSw
        go_simp
        try with_reducible rfl
      simp only [Act.put, List.setIfInBounds_toArray, List.set_cons_zero, List.set_cons_succ, List.getElem_toArray, List.getElem_cons_zero]
      refine wpAnyH_take (i := 1) (v := ?vb1) rfl (by kernel_rfl) (by kernel_rfl) (by kernel_rfl) (fun _ _ _ h => h) (Or.inl ⟨by rfl, ?hyb1⟩) (by assumption) ?restb1
      case hyb1 =>
        intro w hSw
        try dsimp only at hSw
        go_simp
        try with_reducible rfl
      simp only [Act.put, List.setIfInBounds_toArray, List.set_cons_zero, List.set_cons_succ, List.getElem_toArray, List.getElem_cons_zero, List.getElem_cons_succ]
      refine wpAnyH_take (i := 2) (v := ?vb2) rfl (by kernel_rfl) (by kernel_rfl) (by kernel_rfl) (fun _ _ _ h => h) (Or.inl ⟨by rfl, ?hyb2⟩) (by assumption) ?restb2
      case hyb2 =>
        intro w hSw
        try dsimp only at hSw
        go_simp
        try with_reducible rfl
      simp only [Act.put, List.setIfInBounds_toArray, List.set_cons_zero, List.set_cons_succ, List.getElem_toArray, List.getElem_cons_zero, List.getElem_cons_succ]
      refine wpAnyH_take (i := 3) (v := ?vb3) rfl (by kernel_rfl) (by kernel_rfl) (by kernel_rfl) (fun _ _ _ h => h) (Or.inl ⟨by rfl, ?hyb3⟩) (by assumption) ?restb3
      case hyb3 =>
        intro w hSw
        try dsimp only at hSw
        go_simp
        try with_reducible rfl
      simp only [Act.put, List.setIfInBounds_toArray, List.set_cons_zero, List.set_cons_succ, List.getElem_toArray, List.getElem_cons_zero, List.getElem_cons_succ]
      refine wpAnyH_ready (rs := [4]) (by kernel_rfl) (by simp) ?_
      refine AllReadyH.cons rfl (fun K hK => ?_) AllReadyH.nil
      go_simp
      go_at_call 65
      refine (pick2_any 3 (by omega) (by omega) (R2.out.below (Below.refl _ _).drew) (by omega)).mono ?_
      rintro e W3 ⟨t3, rfl, u3, v3, hrd, ht⟩
      have S3 := Lib.hid (S2.out.drew.touch ht (by omega))
      have O3 := Lib.hid (ht.box (show Box W2.drew X #[.slice (some ⟨g0, 0, none⟩) 8 8, .slice (some ⟨g1, 0, none⟩) 8 8, .slice (some ⟨g2, 0, none⟩) 8 8] 26 from O2.out) (fun a e => by injection e with e; subst e; show X ≠ g; omega))
      have Z3 := Lib.hid (ht.box (show Box W2.drew w.heap.size #[.slice none 0 0, .slice none 0 0, .slice none 0 0] 26 from Z2.out) (fun a e => by injection e with e; subst e; show w.heap.size ≠ g; omega))
      have R3 := Lib.hid hrd
      have T3 := Lib.hid ((T2.out.then_ (Below.refl _ _).drew).trans ht)
      clear hrd ht
      obtain ⟨s1, f1⟩ := S3.out.c1 k hlt
      refine hK.out _ _ ?_ (fun hHeld => ?_)
      · exact ⟨O3.out.cell 0, O3.out.cell 1, O3.out.cell 2⟩
      clear hK K
      try simp only [Act.put, List.setIfInBounds_toArray, List.set_cons_zero, List.set_cons_succ, List.getElem_toArray, List.getElem_cons_zero, List.getElem_cons_succ]
      refine wpAnyH_take (i := 5) (v := ?vb5) rfl (by kernel_rfl) (by kernel_rfl) (by kernel_rfl) (fun _ _ _ h => h) (Or.inl ⟨by rfl, ?hyb5⟩) (by assumption) ?restb5
      case hyb5 =>
        intro w hSw
        try dsimp only at hSw
        go_simp
        try with_reducible rfl
      simp only [Act.put, List.setIfInBounds_toArray, List.set_cons_zero, List.set_cons_succ, List.getElem_toArray, List.getElem_cons_zero, List.getElem_cons_succ]
      refine wpAnyH_take (i := 6) (v := ?vb6) rfl (by kernel_rfl) (by kernel_rfl) (by kernel_rfl) (fun _ _ _ h => h) (Or.inl ⟨by rfl, ?hyb6⟩) (by assumption) ?restb6
      case hyb6 =>
        intro w hSw
        try dsimp only at hSw
        go_simp
        try with_reducible rfl
      simp only [Act.put, List.setIfInBounds_toArray, List.set_cons_zero, List.set_cons_succ, List.getElem_toArray, List.getElem_cons_zero, List.getElem_cons_succ]
      refine wpAnyH_ready (rs := [7]) (by kernel_rfl) (by simp) ?_
      refine AllReadyH.cons rfl (fun K hK => ?_) AllReadyH.nil
      go_simp

      refine hK.out _ _ ?_ (fun hHeld => ?_)
      · exact ⟨(World.cell?_setCell_other _ _ _ _ (fun e => by injection e with e1 _; omega)).trans (O3.out.cell 0), (World.cell?_setCell_other _ _ _ _ (fun e => by injection e with e1 _; omega)).trans (O3.out.cell 1), (World.cell?_setCell_other _ _ _ _ (fun e => by injection e with e1 _; omega)).trans (O3.out.cell 2)⟩
      clear hK K
      try simp only [Act.put, List.setIfInBounds_toArray, List.set_cons_zero, List.set_cons_succ, List.getElem_toArray, List.getElem_cons_zero, List.getElem_cons_succ]
      refine wpAnyH_done (by kernel_rfl) ?_ _
      clear o0 o1 o2 ol
      clear s1 f1
      obtain ⟨D4, hs⟩ : ∃ D : Sg, S8 (W3.setCell ⟨g1, k, none⟩ (.bool (t3 == 0))) (w.heap.size + 2) g0 g1 g2 D := ⟨_, S3.out.put1 k hlt (t3 == 0)⟩
      have S4 := Lib.hid hs
      have O4 := Lib.hid (O3.out.other (a := ⟨g1, k, none⟩) (by show X ≠ g1; omega) (.bool (t3 == 0)))
      have Z4 := Lib.hid (Z3.out.other (a := ⟨g1, k, none⟩) (by show w.heap.size ≠ g1; omega) (.bool (t3 == 0)))
      have T4 := Lib.hid (T3.out.low_ (show Below w.heap.size W3 (W3.setCell ⟨g1, k, none⟩ (.bool (t3 == 0))) from (Below.refl _ _).setCell (by show w.heap.size ≤ g1; omega) _))
      have R4 := Lib.hid (HR.out.of_touch T4.out (R3.out.box.other (a := ⟨g1, k, none⟩) (by show g ≠ g1; omega) (.bool (t3 == 0))) (show 0 ≤ q + 1 + 1 by omega) (by omega))
      clear hs
      generalize W3.setCell ⟨g1, k, none⟩ (.bool (t3 == 0)) = W4 at S4 O4 Z4 R4 T4 ⊢
      have o0 := O4.out.cell 0
      have o1 := O4.out.cell 1
      have o2 := O4.out.cell 2
      have ol := O4.out.lt
      simp at o0 o1 o2
      go_wp2_with fail
      refine wp_region_held_drew (S := fun w' => w'.cell? ⟨X, 0, none⟩ = some (.slice (some ⟨g0, 0, none⟩) 8 8) ∧ w'.cell? ⟨X, 1, none⟩ = some (.slice (some ⟨g1, 0, none⟩) 8 8) ∧ w'.cell? ⟨X, 2, none⟩ = some (.slice (some ⟨g2, 0, none⟩) 8 8)) (by kernel_rfl) ⟨o0, o1, o2⟩ (fun hHeld => ?_)
      refine wpAnyH_take (i := 0) (v := ?vh1_0) rfl (by kernel_rfl) (by kernel_rfl) (by kernel_rfl) (fun _ _ _ h => h) (Or.inl ⟨by rfl, ?hyh1_0⟩) (by assumption) ?resth1_0
      case hyh1_0 =>
        intro w hSw
        try dsimp only at hSw
        go_simp
        try with_reducible rfl
      simp only [Act.put, List.setIfInBounds_toArray, List.set_cons_zero, List.set_cons_succ, List.getElem_toArray, List.getElem_cons_zero]
      refine wpAnyH_take (i := 1) (v := ?vh2_1) rfl (by kernel_rfl) (by kernel_rfl) (by kernel_rfl) (fun _ _ _ h => h) (Or.inl ⟨by rfl, ?hyh2_1⟩) (by assumption) ?resth2_1
      case hyh2_1 =>
        intro w hSw
        try dsimp only at hSw
        go_simp
        try with_reducible rfl
      try simp only [Act.put, List.setIfInBounds_toArray, List.set_cons_zero, List.set_cons_succ, List.getElem_toArray, List.getElem_cons_zero, List.getElem_cons_succ]
      refine wpAnyH_take (i := 2) (v := ?vh3_2) rfl (by kernel_rfl) (by kernel_rfl) (by kernel_rfl) (fun _ _ _ h => h) (Or.inl ⟨by rfl, ?hyh3_2⟩) (by assumption) ?resth3_2
      case hyh3_2 =>
        intro w hSw
        try dsimp only at hSw
        go_simp
        try with_reducible rfl
      try simp only [Act.put, List.setIfInBounds_toArray, List.set_cons_zero, List.set_cons_succ, List.getElem_toArray, List.getElem_cons_zero, List.getElem_cons_succ]
      refine wpAnyH_take (i := 4) (v := ?vh4_4) rfl (by kernel_rfl) (by kernel_rfl) (by kernel_rfl) (fun _ _ _ h => h) (Or.inl ⟨by rfl, ?hyh4_4⟩) (by assumption) ?resth4_4
      case hyh4_4 =>
        intro w hSw
        try dsimp only at hSw
        go_simp
        try with_reducible rfl
      try simp only [Act.put, List.setIfInBounds_toArray, List.set_cons_zero, List.set_cons_succ, List.getElem_toArray, List.getElem_cons_zero, List.getElem_cons_succ]
      refine wpAnyH_ready (rs := [3, 5]) (by kernel_rfl) (by simp) ?_
      refine (AllReadyH.cons rfl (fun K hK => ?_) (AllReadyH.cons rfl (fun K hK => ?_) AllReadyH.nil))
      · go_simp
        have HAB := Lib.hid (show Below W4.drew.heap.size W4.drew ((W4.alloc (.cells #[.int .i64 0, .int .i64 0, .int .i64 1, .int .i64 4] 3)).drew) from (Below.refl _ _).alloc (Nat.le_refl _) (.cells #[.int .i64 0, .int .i64 0, .int .i64 1, .int .i64 4] 3))
        have S5 := Lib.hid (S4.out.drew.below HAB.out)
        have O5 := Lib.hid ((show Box W4.drew X #[.slice (some ⟨g0, 0, none⟩) 8 8, .slice (some ⟨g1, 0, none⟩) 8 8, .slice (some ⟨g2, 0, none⟩) 8 8] 26 from O4.out).below HAB.out (show X < W4.drew.heap.size from O4.out.lt))
        have Z5 := Lib.hid ((show Box W4.drew w.heap.size #[.slice none 0 0, .slice none 0 0, .slice none 0 0] 26 from Z4.out).below HAB.out (show w.heap.size < W4.drew.heap.size from Z4.out.lt))
        have R5 := Lib.hid ((R4.out.below (Below.refl _ _).drew).below HAB.out)
        have T5 := Lib.hid ((T4.out.then_ (Below.refl _ _).drew).then_ HAB.out)
        have LB := Lib.hid (show Box ((W4.alloc (.cells #[.int .i64 0, .int .i64 0, .int .i64 1, .int .i64 4] 3)).drew) W4.heap.size #[.int .i64 0, .int .i64 0, .int .i64 1, .int .i64 4] 3 from Box.new W4.drew #[.int .i64 0, .int .i64 0, .int .i64 1, .int .i64 4] 3)
        clear HAB
        generalize ((W4.alloc (.cells #[.int .i64 0, .int .i64 0, .int .i64 1, .int .i64 4] 3)).drew) = W5 at S5 O5 Z5 R5 T5 LB ⊢
        refine hK.out _ _ ⟨O5.out.cell 0, O5.out.cell 1, O5.out.cell 2⟩ (fun hHeld => ?_)
        clear hK K
        try simp only [Act.put, List.setIfInBounds_toArray, List.set_cons_zero, List.set_cons_succ, List.getElem_toArray, List.getElem_cons_zero, List.getElem_cons_succ]
        refine wpAnyH_ready (rs := [5]) (by kernel_rfl) (by simp) ?_
        refine (AllReadyH.cons rfl (fun K hK => ?_) AllReadyH.nil)
        go_simp
        go_at_call 65
        refine (pick2_any 4 (by omega) (by omega) R5.out (by omega)).mono ?_
        rintro e W6 ⟨t6, rfl, u6, v6, hrd, ht⟩
        have S6 := Lib.hid (S5.out.touch ht (by omega))
        have O6 := Lib.hid (ht.box (show Box W5 X #[.slice (some ⟨g0, 0, none⟩) 8 8, .slice (some ⟨g1, 0, none⟩) 8 8, .slice (some ⟨g2, 0, none⟩) 8 8] 26 from O5.out) (fun a e => by injection e with e; subst e; show X ≠ g; omega))
        have Z6 := Lib.hid (ht.box (show Box W5 w.heap.size #[.slice none 0 0, .slice none 0 0, .slice none 0 0] 26 from Z5.out) (fun a e => by injection e with e; subst e; show w.heap.size ≠ g; omega))
        have R6 := Lib.hid hrd
        have T6 := Lib.hid (T5.out.trans ht)
        have hta := ht
        clear hrd ht
        obtain ⟨r, hr⟩ := four_at LB.out hta (by have := R4.out.box.lt; show g ≠ W4.heap.size; omega) u6 v6
        have hr : W6.cell? ⟨W4.heap.size, t6.toNat, none⟩ = some (.int .i64 r) := hr
        clear hta LB
        refine hK.out _ _ ⟨O6.out.cell 0, O6.out.cell 1, O6.out.cell 2⟩ (fun hHeld => ?_)
        clear hK K
        try simp only [Act.put, List.setIfInBounds_toArray, List.set_cons_zero, List.set_cons_succ, List.getElem_toArray, List.getElem_cons_zero, List.getElem_cons_succ]
        refine wpAnyH_take (i := 6) (v := ?vh5_6) rfl (by kernel_rfl) (by kernel_rfl) (by kernel_rfl) (fun _ _ _ h => h) (Or.inl ⟨by rfl, ?hyh5_6⟩) (by assumption) ?resth5_6
        case hyh5_6 =>
          intro w hSw
          try dsimp only at hSw
          go_simp
          try with_reducible rfl
        try simp only [Act.put, List.setIfInBounds_toArray, List.set_cons_zero, List.set_cons_succ, List.getElem_toArray, List.getElem_cons_zero, List.getElem_cons_succ]
        refine wpAnyH_ready (rs := [7]) (by kernel_rfl) (by simp) ?_
        refine (AllReadyH.cons rfl (fun K hK => ?_) AllReadyH.nil)
        go_simp
        refine hK.out _ _ ⟨O6.out.cell 0, O6.out.cell 1, O6.out.cell 2⟩ (fun hHeld => ?_)
        clear hK K
        try simp only [Act.put, List.setIfInBounds_toArray, List.set_cons_zero, List.set_cons_succ, List.getElem_toArray, List.getElem_cons_zero, List.getElem_cons_succ]
        refine wpAnyH_take (i := 8) (v := ?vh6_8) rfl (by kernel_rfl) (by kernel_rfl) (by kernel_rfl) (fun _ _ _ h => h) (Or.inl ⟨by rfl, ?hyh6_8⟩) (by assumption) ?resth6_8
        case hyh6_8 =>
          intro w hSw
          try dsimp only at hSw
          go_simp
          try with_reducible rfl
        try simp only [Act.put, List.setIfInBounds_toArray, List.set_cons_zero, List.set_cons_succ, List.getElem_toArray, List.getElem_cons_zero, List.getElem_cons_succ]
        obtain ⟨s2, f2⟩ := S6.out.c2 k hlt
        refine wpAnyH_ready (rs := [9]) (by kernel_rfl) (by simp) ?_
        refine (AllReadyH.cons rfl (fun K hK => ?_) AllReadyH.nil)
        go_simp
        refine hK.out _ _ ⟨(World.cell?_setCell_other _ _ _ _ (fun e => by injection e with e1 _; omega)).trans (O6.out.cell 0), (World.cell?_setCell_other _ _ _ _ (fun e => by injection e with e1 _; omega)).trans (O6.out.cell 1), (World.cell?_setCell_other _ _ _ _ (fun e => by injection e with e1 _; omega)).trans (O6.out.cell 2)⟩ (fun hHeld => ?_)
        clear hK K
        try simp only [Act.put, List.setIfInBounds_toArray, List.set_cons_zero, List.set_cons_succ, List.getElem_toArray, List.getElem_cons_zero, List.getElem_cons_succ]
        refine wpAnyH_done (by kernel_rfl) ?_ _
        clear o0 o1 o2 ol s2 f2
        clear hr
        obtain ⟨D7, hs⟩ : ∃ D : Sg, S8 (W6.setCell ⟨g2, k, none⟩ (.int .i64 r)) (w.heap.size + 2) g0 g1 g2 D := ⟨_, S6.out.put2 k hlt r⟩
        have S7 := Lib.hid hs
        have O7 := Lib.hid (O6.out.other (a := ⟨g2, k, none⟩) (by show X ≠ g2; omega) (.int .i64 r))
        have Z7 := Lib.hid (Z6.out.other (a := ⟨g2, k, none⟩) (by show w.heap.size ≠ g2; omega) (.int .i64 r))
        have T7 := Lib.hid (T6.out.low_ (show Below w.heap.size W6 (W6.setCell ⟨g2, k, none⟩ (.int .i64 r)) from (Below.refl _ _).setCell (by show w.heap.size ≤ g2; omega) _))
        have R7 := Lib.hid (HR.out.of_touch T7.out (R6.out.box.other (a := ⟨g2, k, none⟩) (by show g ≠ g2; omega) (.int .i64 r)) (show 0 ≤ q + 1 + 1 + 1 by omega) (by omega))
        clear hs
        generalize W6.setCell ⟨g2, k, none⟩ (.int .i64 r) = W7 at S7 O7 Z7 R7 T7 ⊢
        go_wp2_with fail
        go_roundw
        case rel => exact ⟨k + 1, D7, q + 1 + 1 + 1, by go_num, by omega, by omega, S7.out, O7.out, Z7.out, R7.out, T7.out⟩
        case measure => simp [intOf]; omega
      · go_simp
        go_at_call 65
        refine (pick2_any 4 (by omega) (by omega) (R4.out.below (Below.refl _ _).drew) (by omega)).mono ?_
        rintro e W5 ⟨t5, rfl, u5, v5, hrd, ht⟩
        have S5 := Lib.hid (S4.out.drew.touch ht (by omega))
        have O5 := Lib.hid (ht.box (show Box W4.drew X #[.slice (some ⟨g0, 0, none⟩) 8 8, .slice (some ⟨g1, 0, none⟩) 8 8, .slice (some ⟨g2, 0, none⟩) 8 8] 26 from O4.out) (fun a e => by injection e with e; subst e; show X ≠ g; omega))
        have Z5 := Lib.hid (ht.box (show Box W4.drew w.heap.size #[.slice none 0 0, .slice none 0 0, .slice none 0 0] 26 from Z4.out) (fun a e => by injection e with e; subst e; show w.heap.size ≠ g; omega))
        have R5 := Lib.hid hrd
        have T5 := Lib.hid ((T4.out.then_ (Below.refl _ _).drew).trans ht)
        have hta := ht
        clear hrd ht
        clear hta
        refine hK.out _ _ ⟨O5.out.cell 0, O5.out.cell 1, O5.out.cell 2⟩ (fun hHeld => ?_)
        clear hK K
        try simp only [Act.put, List.setIfInBounds_toArray, List.set_cons_zero, List.set_cons_succ, List.getElem_toArray, List.getElem_cons_zero, List.getElem_cons_succ]
        refine wpAnyH_ready (rs := [3]) (by kernel_rfl) (by simp) ?_
        refine (AllReadyH.cons rfl (fun K hK => ?_) AllReadyH.nil)
        go_simp
        have HAB := Lib.hid (show Below W5.heap.size W5 (W5.alloc (.cells #[.int .i64 0, .int .i64 0, .int .i64 1, .int .i64 4] 3)) from (Below.refl _ _).alloc (Nat.le_refl _) (.cells #[.int .i64 0, .int .i64 0, .int .i64 1, .int .i64 4] 3))
        have S6 := Lib.hid (S5.out.below HAB.out)
        have O6 := Lib.hid ((show Box W5 X #[.slice (some ⟨g0, 0, none⟩) 8 8, .slice (some ⟨g1, 0, none⟩) 8 8, .slice (some ⟨g2, 0, none⟩) 8 8] 26 from O5.out).below HAB.out (show X < W5.heap.size from O5.out.lt))
        have Z6 := Lib.hid ((show Box W5 w.heap.size #[.slice none 0 0, .slice none 0 0, .slice none 0 0] 26 from Z5.out).below HAB.out (show w.heap.size < W5.heap.size from Z5.out.lt))
        have R6 := Lib.hid (R5.out.below HAB.out)
        have T6 := Lib.hid (T5.out.then_ HAB.out)
        have LB := Lib.hid (show Box (W5.alloc (.cells #[.int .i64 0, .int .i64 0, .int .i64 1, .int .i64 4] 3)) W5.heap.size #[.int .i64 0, .int .i64 0, .int .i64 1, .int .i64 4] 3 from Box.new W5 #[.int .i64 0, .int .i64 0, .int .i64 1, .int .i64 4] 3)
        clear HAB
        obtain ⟨r, hr⟩ := four_at LB.out (Touch.refl _ (some ⟨g, 0, none⟩) 1) (by have := R5.out.box.lt; show g ≠ W5.heap.size; omega) u5 v5
        have hsz6 : W5.heap.size < (W5.alloc (.cells #[.int .i64 0, .int .i64 0, .int .i64 1, .int .i64 4] 3)).heap.size := by simp
        generalize W5.alloc (.cells #[.int .i64 0, .int .i64 0, .int .i64 1, .int .i64 4] 3) = W6 at S6 O6 Z6 R6 T6 hr hsz6 ⊢
        clear LB
        refine hK.out _ _ ⟨O6.out.cell 0, O6.out.cell 1, O6.out.cell 2⟩ (fun hHeld => ?_)
        clear hK K
        try simp only [Act.put, List.setIfInBounds_toArray, List.set_cons_zero, List.set_cons_succ, List.getElem_toArray, List.getElem_cons_zero, List.getElem_cons_succ]
        refine wpAnyH_take (i := 6) (v := ?vh7_6) rfl (by kernel_rfl) (by kernel_rfl) (by kernel_rfl) (fun _ _ _ h => h) (Or.inl ⟨by rfl, ?hyh7_6⟩) (by assumption) ?resth7_6
        case hyh7_6 =>
          intro w hSw
          try dsimp only at hSw
          go_simp
          try with_reducible rfl
        try simp only [Act.put, List.setIfInBounds_toArray, List.set_cons_zero, List.set_cons_succ, List.getElem_toArray, List.getElem_cons_zero, List.getElem_cons_succ]
        refine wpAnyH_ready (rs := [7]) (by kernel_rfl) (by simp) ?_
        refine (AllReadyH.cons rfl (fun K hK => ?_) AllReadyH.nil)
        go_simp
        refine hK.out _ _ ⟨O6.out.cell 0, O6.out.cell 1, O6.out.cell 2⟩ (fun hHeld => ?_)
        clear hK K
        try simp only [Act.put, List.setIfInBounds_toArray, List.set_cons_zero, List.set_cons_succ, List.getElem_toArray, List.getElem_cons_zero, List.getElem_cons_succ]
        refine wpAnyH_take (i := 8) (v := ?vh8_8) rfl (by kernel_rfl) (by kernel_rfl) (by kernel_rfl) (fun _ _ _ h => h) (Or.inl ⟨by rfl, ?hyh8_8⟩) (by assumption) ?resth8_8
        case hyh8_8 =>
          intro w hSw
          try dsimp only at hSw
          go_simp
          try with_reducible rfl
        try simp only [Act.put, List.setIfInBounds_toArray, List.set_cons_zero, List.set_cons_succ, List.getElem_toArray, List.getElem_cons_zero, List.getElem_cons_succ]
        obtain ⟨s2, f2⟩ := S6.out.c2 k hlt
        refine wpAnyH_ready (rs := [9]) (by kernel_rfl) (by simp) ?_
        refine (AllReadyH.cons rfl (fun K hK => ?_) AllReadyH.nil)
        go_simp
        refine hK.out _ _ ⟨(World.cell?_setCell_other _ _ _ _ (fun e => by injection e with e1 _; omega)).trans (O6.out.cell 0), (World.cell?_setCell_other _ _ _ _ (fun e => by injection e with e1 _; omega)).trans (O6.out.cell 1), (World.cell?_setCell_other _ _ _ _ (fun e => by injection e with e1 _; omega)).trans (O6.out.cell 2)⟩ (fun hHeld => ?_)
        clear hK K
        try simp only [Act.put, List.setIfInBounds_toArray, List.set_cons_zero, List.set_cons_succ, List.getElem_toArray, List.getElem_cons_zero, List.getElem_cons_succ]
        refine wpAnyH_done (by kernel_rfl) ?_ _
        clear o0 o1 o2 ol s2 f2
        clear hr
        obtain ⟨D7, hs⟩ : ∃ D : Sg, S8 (W6.setCell ⟨g2, k, none⟩ (.int .i64 r)) (w.heap.size + 2) g0 g1 g2 D := ⟨_, S6.out.put2 k hlt r⟩
        have S7 := Lib.hid hs
        have O7 := Lib.hid (O6.out.other (a := ⟨g2, k, none⟩) (by show X ≠ g2; omega) (.int .i64 r))
        have Z7 := Lib.hid (Z6.out.other (a := ⟨g2, k, none⟩) (by show w.heap.size ≠ g2; omega) (.int .i64 r))
        have T7 := Lib.hid (T6.out.low_ (show Below w.heap.size W6 (W6.setCell ⟨g2, k, none⟩ (.int .i64 r)) from (Below.refl _ _).setCell (by show w.heap.size ≤ g2; omega) _))
        have R7 := Lib.hid (HR.out.of_touch T7.out (R6.out.box.other (a := ⟨g2, k, none⟩) (by show g ≠ g2; omega) (.int .i64 r)) (show 0 ≤ q + 1 + 1 + 1 by omega) (by omega))
        clear hs
        generalize W6.setCell ⟨g2, k, none⟩ (.int .i64 r) = W7 at S7 O7 Z7 R7 T7 ⊢
        go_wp2_with fail
        go_roundw
        case rel => exact ⟨k + 1, D7, q + 1 + 1 + 1, by go_num, by omega, by omega, S7.out, O7.out, Z7.out, R7.out, T7.out⟩
        case measure => simp [intOf]; omega
    · obtain rfl : k = 8 := by omega
      have o0 := O0.out.cell 0
      have o1 := O0.out.cell 1
      have o2 := O0.out.cell 2
      have ol := O0.out.lt
      simp at o0 o1 o2
      go_wp2_with fail
      clear o0 o1 o2 ol
      refine (pick2_any 24 (by omega) (by omega) R0.out (by omega)).mono ?_
      rintro e W1 ⟨t1, rfl, u1, v1, hrd, ht⟩
      have S1 := Lib.hid (S0.out.touch ht (by omega))
      have O1 := Lib.hid (ht.box (show Box W0 X #[.slice (some ⟨g0, 0, none⟩) 8 8, .slice (some ⟨g1, 0, none⟩) 8 8, .slice (some ⟨g2, 0, none⟩) 8 8] 26 from O0.out) (fun a e => by injection e with e; subst e; show X ≠ g; omega))
      have Z1 := Lib.hid (ht.box (show Box W0 w.heap.size #[.slice none 0 0, .slice none 0 0, .slice none 0 0] 26 from Z0.out) (fun a e => by injection e with e; subst e; show w.heap.size ≠ g; omega))
      have R1 := Lib.hid hrd
      have T1 := Lib.hid (T0.out.trans ht)
      clear hrd ht
      have hq2 : q + 1 ≤ p + 25 := by omega
      by_cases c0 : t1 = 0
      · subst c0
        clear u1 v1
        have o0 := O1.out.cell 0
        have o1 := O1.out.cell 1
        have o2 := O1.out.cell 2
        have ol := O1.out.lt
        simp at o0 o1 o2
        go_wp2_with fail
        refine wp_region_held_drew (S := fun w' => w'.cell? ⟨X, 0, none⟩ = some (.slice (some ⟨g0, 0, none⟩) 8 8) ∧ w'.cell? ⟨X, 1, none⟩ = some (.slice (some ⟨g1, 0, none⟩) 8 8) ∧ w'.cell? ⟨X, 2, none⟩ = some (.slice (some ⟨g2, 0, none⟩) 8 8)) (by kernel_rfl) ⟨o0, o1, o2⟩ (fun hHeld => ?_)
        refine wpAnyH_take (i := 0) (v := ?vd0) rfl (by kernel_rfl) (by kernel_rfl) (by kernel_rfl) (fun _ _ _ h => h) (Or.inl ⟨by rfl, ?hyd0⟩) (by assumption) ?restd0
        case hyd0 =>
          intro w hSw
          try dsimp only at hSw
          go_simp
          try with_reducible rfl
        simp only [Act.put, List.setIfInBounds_toArray, List.set_cons_zero, List.set_cons_succ, List.getElem_toArray, List.getElem_cons_zero]
        refine wpAnyH_take (i := 1) (v := ?vd1) rfl (by kernel_rfl) (by kernel_rfl) (by kernel_rfl) (fun _ _ _ h => h) (Or.inl ⟨by rfl, ?hyd1⟩) (by assumption) ?restd1
        case hyd1 =>
          intro w hSw
          try dsimp only at hSw
          go_simp
          try with_reducible rfl
        simp only [Act.put, List.setIfInBounds_toArray, List.set_cons_zero, List.set_cons_succ, List.getElem_toArray, List.getElem_cons_zero, List.getElem_cons_succ]
        refine wpAnyH_take (i := 2) (v := ?vd2) rfl (by kernel_rfl) (by kernel_rfl) (by kernel_rfl) (fun _ _ _ h => h) (Or.inl ⟨by rfl, ?hyd2⟩) (by assumption) ?restd2
        case hyd2 =>
          intro w hSw
          try dsimp only at hSw
          go_simp
          try with_reducible rfl
        simp only [Act.put, List.setIfInBounds_toArray, List.set_cons_zero, List.set_cons_succ, List.getElem_toArray, List.getElem_cons_zero, List.getElem_cons_succ]
        refine wpAnyH_take (i := 4) (v := ?vd4) rfl (by kernel_rfl) (by kernel_rfl) (by kernel_rfl) (fun _ _ _ h => h) (Or.inl ⟨by rfl, ?hyd4⟩) (by assumption) ?restd4
        case hyd4 =>
          intro w hSw
          try dsimp only at hSw
          go_simp
          try with_reducible rfl
        simp only [Act.put, List.setIfInBounds_toArray, List.set_cons_zero, List.set_cons_succ, List.getElem_toArray, List.getElem_cons_zero, List.getElem_cons_succ]
        refine wpAnyH_ready (rs := [3]) (by kernel_rfl) (by simp) ?_
        refine AllReadyH.cons rfl (fun K hK => ?_) AllReadyH.nil
        go_simp
        go_at_call 65
        refine (pick2_any 8 (by omega) (by omega) (R1.out.below (Below.refl _ _).drew) (by omega)).mono ?_
        rintro e W2 ⟨t2, rfl, u2, v2, hrd, ht⟩
        have S2 := Lib.hid (S1.out.drew.touch ht (by omega))
        have O2 := Lib.hid (ht.box (show Box W1.drew X #[.slice (some ⟨g0, 0, none⟩) 8 8, .slice (some ⟨g1, 0, none⟩) 8 8, .slice (some ⟨g2, 0, none⟩) 8 8] 26 from O1.out) (fun a e => by injection e with e; subst e; show X ≠ g; omega))
        have Z2 := Lib.hid (ht.box (show Box W1.drew w.heap.size #[.slice none 0 0, .slice none 0 0, .slice none 0 0] 26 from Z1.out) (fun a e => by injection e with e; subst e; show w.heap.size ≠ g; omega))
        have R2 := Lib.hid hrd
        have T2 := Lib.hid ((T1.out.then_ (Below.refl _ _).drew).trans ht)
        clear hrd ht
        refine hK.out _ _ ?_ (fun hHeld => ?_)
        · exact ⟨O2.out.cell 0, O2.out.cell 1, O2.out.cell 2⟩
        clear hK K
        try simp only [Act.put, List.setIfInBounds_toArray, List.set_cons_zero, List.set_cons_succ, List.getElem_toArray, List.getElem_cons_zero, List.getElem_cons_succ]
        refine wpAnyH_ready (rs := [5]) (by kernel_rfl) (by simp) ?_
        refine AllReadyH.cons rfl (fun K hK => ?_) AllReadyH.nil
        go_simp
        go_at_call 65
        refine (pick2_any 6 (by omega) (by omega) R2.out (by omega)).mono ?_
        rintro e W3 ⟨t3, rfl, u3, v3, hrd, ht⟩
        have S3 := Lib.hid (S2.out.touch ht (by omega))
        have O3 := Lib.hid (ht.box (show Box W2 X #[.slice (some ⟨g0, 0, none⟩) 8 8, .slice (some ⟨g1, 0, none⟩) 8 8, .slice (some ⟨g2, 0, none⟩) 8 8] 26 from O2.out) (fun a e => by injection e with e; subst e; show X ≠ g; omega))
        have Z3 := Lib.hid (ht.box (show Box W2 w.heap.size #[.slice none 0 0, .slice none 0 0, .slice none 0 0] 26 from Z2.out) (fun a e => by injection e with e; subst e; show w.heap.size ≠ g; omega))
        have R3 := Lib.hid hrd
        have T3 := Lib.hid (T2.out.trans ht)
        clear hrd ht
        obtain ⟨x, hx⟩ : ∃ x : Nat, x = t2.toNat := ⟨_, rfl⟩
        have hxk : x < 8 := by omega
        obtain ⟨s2, f2⟩ := S3.out.c2 x hxk
        rw [hx] at s2 f2
        refine hK.out _ _ ?_ (fun hHeld => ?_)
        · exact ⟨O3.out.cell 0, O3.out.cell 1, O3.out.cell 2⟩
        clear hK K
        try simp only [Act.put, List.setIfInBounds_toArray, List.set_cons_zero, List.set_cons_succ, List.getElem_toArray, List.getElem_cons_zero, List.getElem_cons_succ]
        refine wpAnyH_take (i := 6) (v := ?vd6) rfl (by kernel_rfl) (by kernel_rfl) (by kernel_rfl) (fun _ _ _ h => h) (Or.inl ⟨by rfl, ?hyd6⟩) (by assumption) ?restd6
        case hyd6 =>
          intro w hSw
          try dsimp only at hSw
          go_simp
          try with_reducible rfl
        simp only [Act.put, List.setIfInBounds_toArray, List.set_cons_zero, List.set_cons_succ, List.getElem_toArray, List.getElem_cons_zero, List.getElem_cons_succ]
        refine wpAnyH_ready (rs := [7]) (by kernel_rfl) (by simp) ?_
        refine AllReadyH.cons rfl (fun K hK => ?_) AllReadyH.nil
        go_simp
        
        refine hK.out _ _ ?_ (fun hHeld => ?_)
        · exact ⟨(World.cell?_setCell_other _ _ _ _ (fun e => by injection e with e1 _; omega)).trans (O3.out.cell 0), (World.cell?_setCell_other _ _ _ _ (fun e => by injection e with e1 _; omega)).trans (O3.out.cell 1), (World.cell?_setCell_other _ _ _ _ (fun e => by injection e with e1 _; omega)).trans (O3.out.cell 2)⟩
        clear hK K
        try simp only [Act.put, List.setIfInBounds_toArray, List.set_cons_zero, List.set_cons_succ, List.getElem_toArray, List.getElem_cons_zero, List.getElem_cons_succ]
        refine wpAnyH_done (by kernel_rfl) ?_ _
        clear o0 o1 o2 ol
        clear s2 f2
        rw [← hx]
        obtain ⟨D4, hs⟩ : ∃ D : Sg, S8 (W3.setCell ⟨g2, x, none⟩ (.int .i64 t3)) (w.heap.size + 2) g0 g1 g2 D := ⟨_, S3.out.put2 x hxk t3⟩
        have S4 := Lib.hid hs
        have O4 := Lib.hid (O3.out.other (a := ⟨g2, x, none⟩) (by show X ≠ g2; omega) (.int .i64 t3))
        have Z4 := Lib.hid (Z3.out.other (a := ⟨g2, x, none⟩) (by show w.heap.size ≠ g2; omega) (.int .i64 t3))
        have T4 := Lib.hid (T3.out.low_ (show Below w.heap.size W3 (W3.setCell ⟨g2, x, none⟩ (.int .i64 t3)) from (Below.refl _ _).setCell (by show w.heap.size ≤ g2; omega) _))
        have R4 := Lib.hid (HR.out.of_touch T4.out (R3.out.box.other (a := ⟨g2, x, none⟩) (by show g ≠ g2; omega) (.int .i64 t3)) (show 0 ≤ q + 1 + 1 + 1 by omega) (by omega))
        clear hs
        generalize W3.setCell ⟨g2, x, none⟩ (.int .i64 t3) = W4 at S4 O4 Z4 R4 T4 ⊢
        have o0 := O4.out.cell 0
        have o1 := O4.out.cell 1
        have o2 := O4.out.cell 2
        have ol := O4.out.lt
        simp at o0 o1 o2
        have z0 := Z4.out.cell 0
        have e0 := Z4.out.frz 0
        have z1 := Z4.out.cell 1
        have e1 := Z4.out.frz 1
        have z2 := Z4.out.cell 2
        have e2 := Z4.out.frz 2
        have zl := Z4.out.lt
        simp at z0 z1 z2
        have hne1 : ¬ (X = w.heap.size) := by omega
        have hne2 : ¬ (w.heap.size = X) := by omega
        go_wp2_with fail
        refine bodyPost_ret (v := .agg #[.slice (some ⟨g0, 0, none⟩) 8 8, .slice (some ⟨g1, 0, none⟩) 8 8, .slice (some ⟨g2, 0, none⟩) 8 8]) (by simp [results, Try.results63, go_sem, z0, z1, z2]) rfl (sigs_end HR.out R4.out (by omega) T4.out (S4.out.M 8 8 8) (fun b hb => by have := S4.out.fp b hb; omega) S4.out.small)
      by_cases c1 : t1 = 1
      · subst c1
        clear u1 v1 c0
        have o0 := O1.out.cell 0
        have o1 := O1.out.cell 1
        have o2 := O1.out.cell 2
        have ol := O1.out.lt
        simp at o0 o1 o2
        go_wp2_with fail
        refine wp_region_held_drew (S := fun w' => w'.cell? ⟨X, 0, none⟩ = some (.slice (some ⟨g0, 0, none⟩) 8 8) ∧ w'.cell? ⟨X, 1, none⟩ = some (.slice (some ⟨g1, 0, none⟩) 8 8) ∧ w'.cell? ⟨X, 2, none⟩ = some (.slice (some ⟨g2, 0, none⟩) 8 8)) (by kernel_rfl) ⟨o0, o1, o2⟩ (fun hHeld => ?_)
        refine wpAnyH_take (i := 0) (v := ?ve0) rfl (by kernel_rfl) (by kernel_rfl) (by kernel_rfl) (fun _ _ _ h => h) (Or.inl ⟨by rfl, ?hye0⟩) (by assumption) ?reste0
        case hye0 =>
          intro w hSw
          try dsimp only at hSw
          go_simp
          try with_reducible rfl
        simp only [Act.put, List.setIfInBounds_toArray, List.set_cons_zero, List.set_cons_succ, List.getElem_toArray, List.getElem_cons_zero]
        refine wpAnyH_take (i := 1) (v := ?ve1) rfl (by kernel_rfl) (by kernel_rfl) (by kernel_rfl) (fun _ _ _ h => h) (Or.inl ⟨by rfl, ?hye1⟩) (by assumption) ?reste1
        case hye1 =>
          intro w hSw
          try dsimp only at hSw
          go_simp
          try with_reducible rfl
        simp only [Act.put, List.setIfInBounds_toArray, List.set_cons_zero, List.set_cons_succ, List.getElem_toArray, List.getElem_cons_zero, List.getElem_cons_succ]
        refine wpAnyH_take (i := 2) (v := ?ve2) rfl (by kernel_rfl) (by kernel_rfl) (by kernel_rfl) (fun _ _ _ h => h) (Or.inl ⟨by rfl, ?hye2⟩) (by assumption) ?reste2
        case hye2 =>
          intro w hSw
          try dsimp only at hSw
          go_simp
          try with_reducible rfl
        simp only [Act.put, List.setIfInBounds_toArray, List.set_cons_zero, List.set_cons_succ, List.getElem_toArray, List.getElem_cons_zero, List.getElem_cons_succ]
        refine wpAnyH_ready (rs := [3]) (by kernel_rfl) (by simp) ?_
        refine AllReadyH.cons rfl (fun K hK => ?_) AllReadyH.nil
        go_simp
        go_at_call 65
        refine (pick2_any 2 (by omega) (by omega) (R1.out.below (Below.refl _ _).drew) (by omega)).mono ?_
        rintro e W2 ⟨t2, rfl, u2, v2, hrd, ht⟩
        have S2 := Lib.hid (S1.out.drew.touch ht (by omega))
        have O2 := Lib.hid (ht.box (show Box W1.drew X #[.slice (some ⟨g0, 0, none⟩) 8 8, .slice (some ⟨g1, 0, none⟩) 8 8, .slice (some ⟨g2, 0, none⟩) 8 8] 26 from O1.out) (fun a e => by injection e with e; subst e; show X ≠ g; omega))
        have Z2 := Lib.hid (ht.box (show Box W1.drew w.heap.size #[.slice none 0 0, .slice none 0 0, .slice none 0 0] 26 from Z1.out) (fun a e => by injection e with e; subst e; show w.heap.size ≠ g; omega))
        have R2 := Lib.hid hrd
        have T2 := Lib.hid ((T1.out.then_ (Below.refl _ _).drew).trans ht)
        clear hrd ht
        obtain ⟨x, hx⟩ : ∃ x : Nat, x = t2.toNat := ⟨_, rfl⟩
        have hxk : x < 8 := by omega
        have h8 : t2 < 8 := by omega
        obtain ⟨s1, f1⟩ := S2.out.c1 x hxk
        rw [hx] at s1 f1
        refine hK.out _ _ ?_ (fun hHeld => ?_)
        · exact ⟨O2.out.cell 0, O2.out.cell 1, O2.out.cell 2⟩
        clear hK K
        try simp only [Act.put, List.setIfInBounds_toArray, List.set_cons_zero, List.set_cons_succ, List.getElem_toArray, List.getElem_cons_zero, List.getElem_cons_succ]
        refine wpAnyH_take (i := 4) (v := ?ve4) rfl (by kernel_rfl) (by kernel_rfl) (by kernel_rfl) (fun _ _ _ h => h) (Or.inl ⟨by rfl, ?hye4⟩) (by assumption) ?reste4
        case hye4 =>
          intro w hSw
          try dsimp only at hSw
          go_simp
          try with_reducible rfl
        simp only [Act.put, List.setIfInBounds_toArray, List.set_cons_zero, List.set_cons_succ, List.getElem_toArray, List.getElem_cons_zero, List.getElem_cons_succ]
        refine wpAnyH_ready (rs := [5]) (by kernel_rfl) (by simp) ?_
        refine AllReadyH.cons rfl (fun K hK => ?_) AllReadyH.nil
        go_simp
        
        refine hK.out _ _ ?_ (fun hHeld => ?_)
        · exact ⟨(World.cell?_setCell_other _ _ _ _ (fun e => by injection e with e1 _; omega)).trans (O2.out.cell 0), (World.cell?_setCell_other _ _ _ _ (fun e => by injection e with e1 _; omega)).trans (O2.out.cell 1), (World.cell?_setCell_other _ _ _ _ (fun e => by injection e with e1 _; omega)).trans (O2.out.cell 2)⟩
        clear hK K
        try simp only [Act.put, List.setIfInBounds_toArray, List.set_cons_zero, List.set_cons_succ, List.getElem_toArray, List.getElem_cons_zero, List.getElem_cons_succ]
        refine wpAnyH_done (by kernel_rfl) ?_ _
        clear o0 o1 o2 ol
        clear s1 f1
        rw [← hx]
        obtain ⟨D3, hs⟩ : ∃ D : Sg, S8 (W2.setCell ⟨g1, x, none⟩ (.bool true)) (w.heap.size + 2) g0 g1 g2 D := ⟨_, S2.out.put1 x hxk true⟩
        have S3 := Lib.hid hs
        have O3 := Lib.hid (O2.out.other (a := ⟨g1, x, none⟩) (by show X ≠ g1; omega) (.bool true))
        have Z3 := Lib.hid (Z2.out.other (a := ⟨g1, x, none⟩) (by show w.heap.size ≠ g1; omega) (.bool true))
        have T3 := Lib.hid (T2.out.low_ (show Below w.heap.size W2 (W2.setCell ⟨g1, x, none⟩ (.bool true)) from (Below.refl _ _).setCell (by show w.heap.size ≤ g1; omega) _))
        have R3 := Lib.hid (HR.out.of_touch T3.out (R2.out.box.other (a := ⟨g1, x, none⟩) (by show g ≠ g1; omega) (.bool true)) (show 0 ≤ q + 1 + 1 by omega) (by omega))
        clear hs
        generalize W2.setCell ⟨g1, x, none⟩ (.bool true) = W3 at S3 O3 Z3 R3 T3 ⊢
        have o0 := O3.out.cell 0
        have o1 := O3.out.cell 1
        have o2 := O3.out.cell 2
        have ol := O3.out.lt
        simp at o0 o1 o2
        have z0 := Z3.out.cell 0
        have e0 := Z3.out.frz 0
        have z1 := Z3.out.cell 1
        have e1 := Z3.out.frz 1
        have z2 := Z3.out.cell 2
        have e2 := Z3.out.frz 2
        have zl := Z3.out.lt
        simp at z0 z1 z2
        have hne1 : ¬ (X = w.heap.size) := by omega
        have hne2 : ¬ (w.heap.size = X) := by omega
        go_wp2_with fail
        refine bodyPost_ret (v := .agg #[.slice (some ⟨g0, 0, none⟩) 8 8, .slice (some ⟨g1, 0, none⟩) 8 8, .slice (some ⟨g2, 0, none⟩) 8 8]) (by simp [results, Try.results63, go_sem, z0, z1, z2]) rfl (sigs_end HR.out R3.out (by omega) T3.out (S3.out.M 8 8 8) (fun b hb => by have := S3.out.fp b hb; omega) S3.out.small)
      by_cases c2 : t1 = 2
      · subst c2
        clear u1 v1 c0 c1
        have hne1 : ¬ (X = w.heap.size) := by omega
        have hne2 : ¬ (w.heap.size = X) := by omega
        have o0 := O1.out.cell 0
        have o1 := O1.out.cell 1
        have o2 := O1.out.cell 2
        have ol := O1.out.lt
        simp at o0 o1 o2
        have of0 := O1.out.frz 0
        have of1 := O1.out.frz 1
        have of2 := O1.out.frz 2
        have z0 := Z1.out.cell 0
        have e0 := Z1.out.frz 0
        have z1 := Z1.out.cell 1
        have e1 := Z1.out.frz 1
        have z2 := Z1.out.cell 2
        have e2 := Z1.out.frz 2
        have zl := Z1.out.lt
        simp at z0 z1 z2
        go_wp2_with fail
        have hm : tySigs.M W1 ([g0] ++ ([g1] ++ [g2])) [.slice (some ⟨g0, 1, none⟩) 7 7, .slice (some ⟨g1, 0, none⟩) 8 8, .slice (some ⟨g2, 0, none⟩) 8 8] (D.1.drop 1, D.2.1, D.2.2) :=
          tySigs_Mmk ⟨by have h := S1.out.l0; simp only [List.length_drop]; omega, by omega, tail8 S1.out.r0⟩ ⟨S1.out.l1, by omega, S1.out.r1⟩ ⟨S1.out.l2, by omega, S1.out.r2⟩
            (fun b h1 h2 => by rw [List.mem_singleton] at h1 h2; exact S1.out.n01 (h1.symm.trans h2)) (fun b h1 h2 => by rw [List.mem_singleton] at h1 h2; exact S1.out.n02 (h1.symm.trans h2)) (fun b h1 h2 => by rw [List.mem_singleton] at h1 h2; exact S1.out.n12 (h1.symm.trans h2))
        have hfp := S1.out.fp
        have hfx : ∀ b ∈ [g0] ++ ([g1] ++ [g2]), b ≠ X := fun b hb => by
          simp only [List.mem_append, List.mem_singleton] at hb
          omega
        have HM5 := Lib.hid (tySigs.mframe hm fun b hb => heap_setCell_other _ ⟨X, 0, none⟩ b (.slice (some ⟨g0, 1, none⟩) 7 7) (hfx b hb))
        have T5 := Lib.hid (T1.out.low_ (show Below w.heap.size W1 (W1.setCell ⟨X, 0, none⟩ (.slice (some ⟨g0, 1, none⟩) 7 7)) from (Below.refl _ _).setCell (by show w.heap.size ≤ X; omega) _))
        have R5 := Lib.hid (HR.out.of_touch T5.out (R1.out.box.other (a := ⟨X, 0, none⟩) (by show g ≠ X; omega) (.slice (some ⟨g0, 1, none⟩) 7 7)) (show 0 ≤ q + 1 by omega) (by omega))
        have HSM5 := Lib.hid (show smallSigs (D.1.drop 1, D.2.1, D.2.2) by have h0 := S1.out.l0; have h1 := S1.out.l1; have h2 := S1.out.l2; unfold smallSigs; simp only [List.length_drop]; omega)
        refine bodyPost_ret (v := .agg #[.slice (some ⟨g0, 1, none⟩) 7 7, .slice (some ⟨g1, 0, none⟩) 8 8, .slice (some ⟨g2, 0, none⟩) 8 8]) (by simp [results, Try.results63, go_sem, z0, z1, z2]) rfl (sigs_end HR.out R5.out (by omega) T5.out HM5.out (fun b hb => by have := hfp b hb; simp only [World.size_setCell]; omega) HSM5.out)
      have c0' : (t1 == 0) = false := by simpa using c0
      have c1' : (t1 == 1) = false := by simpa using c1
      have c2' : (t1 == 2) = false := by simpa using c2
      clear c0 c1 c2
      have o0 := O1.out.cell 0
      have o1 := O1.out.cell 1
      have o2 := O1.out.cell 2
      have ol := O1.out.lt
      simp at o0 o1 o2
      have z0 := Z1.out.cell 0
      have e0 := Z1.out.frz 0
      have z1 := Z1.out.cell 1
      have e1 := Z1.out.frz 1
      have z2 := Z1.out.cell 2
      have e2 := Z1.out.frz 2
      have zl := Z1.out.lt
      simp at z0 z1 z2
      have hne1 : ¬ (X = w.heap.size) := by omega
      have hne2 : ¬ (w.heap.size = X) := by omega
      go_wp2_with fail
      refine bodyPost_ret (v := .agg #[.slice (some ⟨g0, 0, none⟩) 8 8, .slice (some ⟨g1, 0, none⟩) 8 8, .slice (some ⟨g2, 0, none⟩) 8 8]) (by simp [results, Try.results63, go_sem, z0, z1, z2]) rfl (sigs_end HR.out R1.out (by omega) T1.out (S1.out.M 8 8 8) (fun b hb => by have := S1.out.fp b hb; omega) S1.out.small)
end
end Go.Proofs.Ytncinocpdeokgaa

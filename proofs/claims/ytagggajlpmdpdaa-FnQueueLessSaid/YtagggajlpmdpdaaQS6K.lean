/-
  l11Wake, the blocks' sizes kept.
-/
import Derived.Test.YtagggajlpmdpdaaQRoom
namespace Go.Proofs.Ytagggajlpmdpdaa
open Go.RowKit

section
variable {w : World}
set_option maxHeartbeats 4000000 in
set_option maxRecDepth 100000 in
theorem qWake_k {fp : List Nat} {x0 x1 : Value} {D : Qu} (k : Nat) (h : tyQueue.M w fp [x0, x1] D) (hk : k < D.1.length) :
    Calls Try.prog 83 #[.agg #[x0, x1], .int .i64 k] w fun e w' => e = .returned (.agg #[x0, x1]) ∧ tyQueue.M w' fp [x0, x1] (D.1.set k (wakT (tA D.1 k) D.2), D.2) ∧ FootK w w' fp := by
  obtain ⟨b, o, c, rfl, rfl, rfl, hb, hfz, hr, hn, hat⟩ := ownQ h hk
  obtain ⟨l, F⟩ := D
  dsimp only at hk hr hn hat ⊢
  have HR := Lib.hid hr
  obtain ⟨c0, c1, c2, c3⟩ := hat k hk
  have HFZ := Lib.hid hfz
  have f2 := hfz (o + k * 4 + 2)
  have f3 := hfz (o + k * 4 + 3)
  clear h hr hat hfz
  have q0 : (0 : Int) ≤ (k : Int) := by omega
  have q1 : (k : Int) < (l.length : Int) := by omega
  have hbs : ¬ (b = w.heap.size) := by omega
  have hbz : ¬ (b = w.heap.size + 1) := by omega
  have hsb : ¬ (w.heap.size = b) := by omega
  have hzb : ¬ (w.heap.size + 1 = b) := by omega
  have HWT := Lib.hid (show wakT (tA l k) F = if (tA l k).f3 = true then tA l k else ⟨(tA l k).f0, (tA l k).f1, max (tA l k).f2 F, true⟩ from rfl)
  obtain ⟨n, hL⟩ : ∃ n, l.length = n := ⟨_, rfl⟩
  rw [hL] at HR hk hn q1 ⊢
  have HL := Lib.hid hL
  clear hL
  obtain ⟨a, ha⟩ : ∃ a, tA l k = a := ⟨_, rfl⟩
  rw [ha] at c0 c1 c2 c3 HWT ⊢
  have HAE := Lib.hid ha
  clear ha
  obtain ⟨a0, a1, a2, a3⟩ := a
  dsimp only at c0 c1 c2 c3 HWT
  cases a3
  · rw [if_neg (fun h => by cases h)] at HWT
    have HR1 := Lib.hid (rowM_ready (x := true) HR.out HL.out hk)
    rw [HAE.out] at HR1
    have h1s : (w.setCell ⟨b, o + k * 4 + 3, none⟩ (.bool true)).heap.size = w.heap.size := World.size_setCell _ _ _
    have XQ := Lib.hid ((Box.new (w.setCell ⟨b, o + k * 4 + 3, none⟩ (.bool true)) #[.slice (some ⟨b, o, none⟩) n c, .int .i64 F] 25).alloc (.cells #[.slice none 0 0, .int .i64 0] 25))
    have XZ := Lib.hid (Box.new ((w.setCell ⟨b, o + k * 4 + 3, none⟩ (.bool true)).alloc (.cells #[.slice (some ⟨b, o, none⟩) n c, .int .i64 F] 25)) #[.slice none 0 0, .int .i64 0] 25)
    have HV := Lib.hid (show Below w.heap.size (w.setCell ⟨b, o + k * 4 + 3, none⟩ (.bool true)) (((w.setCell ⟨b, o + k * 4 + 3, none⟩ (.bool true)).alloc (.cells #[.slice (some ⟨b, o, none⟩) n c, .int .i64 F] 25)).alloc (.cells #[.slice none 0 0, .int .i64 0] 25)) from ((Below.refl _ _).alloc (by omega) _).alloc (by simp only [World.size_alloc]; omega) _)
    simp only [World.size_alloc, World.size_setCell] at XQ XZ
    have HR2 := Lib.hid (HR1.out.frame fun x hx => HV.out.block x (by rw [List.mem_singleton] at hx; subst hx; exact hb))
    have HF2 := Lib.hid (((FootK.refl w [b]).set (List.mem_singleton.2 rfl) (o + k * 4 + 3) (.bool true)).trans (FootK.of_below (by rw [h1s]; exact HV.out) [b]))
    go_enter Try.func83, Try.ntmps83
    go_wp2_with fail
    generalize (((w.setCell ⟨b, o + k * 4 + 3, none⟩ (.bool true)).alloc (.cells #[.slice (some ⟨b, o, none⟩) n c, .int .i64 F] 25)).alloc (.cells #[.slice none 0 0, .int .i64 0] 25)) = W1 at XQ XZ HR2 HF2 ⊢
    clear HV HR1 h1s
    have HB1 := Lib.hid (show b < W1.heap.size from Nat.lt_of_lt_of_le hb HF2.out.size)
    obtain ⟨b', o', e', _, hlt, hfz2, hc4⟩ := HR2.out (by omega)
    injection e' with e'
    injection e' with e1 e2
    subst e1 e2
    have HLS := Lib.hid (show (l.set k ⟨a0, a1, a2, true⟩).length = n by rw [List.length_set]; exact HL.out)
    have d2 : W1.drew.cell? ⟨b, o + k * 4 + 2, none⟩ = some (.int .i64 a2) := by
      have h5 := hc4 k hk 2 (by decide)
      have h6 : (l.set k ⟨a0, a1, a2, true⟩).getD k elTask.z = ⟨a0, a1, a2, true⟩ := (getD_setT l k k _ (by rw [HL.out]; exact hk)).trans (if_pos rfl)
      exact h5.trans (by rw [show (setR ⟨a0, a1, a2, false⟩ true : ETask) = ⟨a0, a1, a2, true⟩ from rfl, h6]; rfl)
    have HFZ2 := Lib.hid hfz2
    clear hc4 hfz2 hlt
    have g2 : ∀ i, W1.drew.frozen? ⟨b, i, none⟩ = false := HFZ2.out
    have hb1 : b < W1.drew.heap.size := HB1.out
    replace XQ := Lib.hid (show Box W1.drew _ _ _ from XQ.out)
    replace XZ := Lib.hid (show Box W1.drew _ _ _ from XZ.out)
    replace HR2 := Lib.hid (show RowM elTask W1.drew [b] (some ⟨b, o, none⟩) n _ from HR2.out)
    replace HF2 := Lib.hid (show FootK w W1.drew [b] from HF2.out.drew)
    clear HB1 HFZ2
    by_cases hlt : a2 < F
    · refine goAny_drew (z := 14) (S := fun w' => w'.cell? ⟨w.heap.size, 0, none⟩ = some (.slice (some ⟨b, o, none⟩) n c) ∧ w'.cell? ⟨w.heap.size, 1, none⟩ = some (.int .i64 F) ∧ w'.cell? ⟨b, o + k * 4 + 2, none⟩ = some (.int .i64 a2)) (by kernel_rfl) ⟨XQ.out.cell 0, XQ.out.cell 1, d2⟩ (fun hHeld => ?_)
      generalize W1.drew = W2 at XQ XZ HR2 HF2 d2 g2 hb1 hHeld ⊢
      refine goAny_take (i := 0) (v := ?va0) (by kernel_rfl) (by kernel_rfl) rfl (by kernel_rfl) (by kernel_rfl) (by kernel_rfl) (fun _ _ _ h => h) (Or.inl ⟨by rfl, ?hya0⟩) (by assumption) ?resta0
      case hya0 =>
        intro w hSw
        try dsimp only at hSw
        go_simp
        try with_reducible rfl
      simp only [Act.put, List.setIfInBounds_toArray, List.set_cons_zero, List.set_cons_succ, List.getElem_toArray, List.getElem_cons_zero]
      refine goAny_take (i := 1) (v := ?va1) (by kernel_rfl) (by kernel_rfl) rfl (by kernel_rfl) (by kernel_rfl) (by kernel_rfl) (fun _ _ _ h => h) (Or.inl ⟨by rfl, ?hya1⟩) (by assumption) ?resta1
      case hya1 =>
        intro w hSw
        try dsimp only at hSw
        go_simp
        try with_reducible rfl
      simp only [Act.put, List.setIfInBounds_toArray, List.set_cons_zero, List.set_cons_succ, List.getElem_toArray, List.getElem_cons_zero, List.getElem_cons_succ]
      refine goAny_take (i := 2) (v := ?va2) (by kernel_rfl) (by kernel_rfl) rfl (by kernel_rfl) (by kernel_rfl) (by kernel_rfl) (fun _ _ _ h => h) (Or.inl ⟨by rfl, ?hya2⟩) (by assumption) ?resta2
      case hya2 =>
        intro w hSw
        try dsimp only at hSw
        go_simp
        try with_reducible rfl
      simp only [Act.put, List.setIfInBounds_toArray, List.set_cons_zero, List.set_cons_succ, List.getElem_toArray, List.getElem_cons_zero, List.getElem_cons_succ]
      refine goAny_take (i := 3) (v := ?va3) (by kernel_rfl) (by kernel_rfl) rfl (by kernel_rfl) (by kernel_rfl) (by kernel_rfl) (fun _ _ _ h => h) (Or.inl ⟨by rfl, ?hya3⟩) (by assumption) ?resta3
      case hya3 =>
        intro w hSw
        try dsimp only at hSw
        go_simp
        try with_reducible rfl
      simp only [Act.put, List.setIfInBounds_toArray, List.set_cons_zero, List.set_cons_succ, List.getElem_toArray, List.getElem_cons_zero, List.getElem_cons_succ]
      refine goAny_take (i := 4) (v := ?va4) (by kernel_rfl) (by kernel_rfl) rfl (by kernel_rfl) (by kernel_rfl) (by kernel_rfl) (fun _ _ _ h => h) (Or.inl ⟨by rfl, ?hya4⟩) (by assumption) ?resta4
      case hya4 =>
        intro w hSw
        try dsimp only at hSw
        go_simp
        try with_reducible rfl
      simp only [Act.put, List.setIfInBounds_toArray, List.set_cons_zero, List.set_cons_succ, List.getElem_toArray, List.getElem_cons_zero, List.getElem_cons_succ]
      refine goAny_take (i := 5) (v := ?va5) (by kernel_rfl) (by kernel_rfl) rfl (by kernel_rfl) (by kernel_rfl) (by kernel_rfl) (fun _ _ _ h => h) (Or.inl ⟨by rfl, ?hya5⟩) (by assumption) ?resta5
      case hya5 =>
        intro w hSw
        try dsimp only at hSw
        go_simp
        try with_reducible rfl
      simp only [Act.put, List.setIfInBounds_toArray, List.set_cons_zero, List.set_cons_succ, List.getElem_toArray, List.getElem_cons_zero, List.getElem_cons_succ]
      refine goAny_take (i := 6) (v := ?va6) (by kernel_rfl) (by kernel_rfl) rfl (by kernel_rfl) (by kernel_rfl) (by kernel_rfl) (fun _ _ _ h => h) (Or.inl ⟨by rfl, ?hya6⟩) (by assumption) ?resta6
      case hya6 =>
        intro w hSw
        try dsimp only at hSw
        go_simp
        try with_reducible rfl
      simp only [Act.put, List.setIfInBounds_toArray, List.set_cons_zero, List.set_cons_succ, List.getElem_toArray, List.getElem_cons_zero, List.getElem_cons_succ]
      refine goAny_take (i := 7) (v := ?va7) (by kernel_rfl) (by kernel_rfl) rfl (by kernel_rfl) (by kernel_rfl) (by kernel_rfl) (fun _ _ _ h => h) (Or.inl ⟨by rfl, ?hya7⟩) (by assumption) ?resta7
      case hya7 =>
        intro w hSw
        try dsimp only at hSw
        go_simp
        try with_reducible rfl
      simp only [Act.put, List.setIfInBounds_toArray, List.set_cons_zero, List.set_cons_succ, List.getElem_toArray, List.getElem_cons_zero, List.getElem_cons_succ]
      refine goAny_take (i := 8) (v := ?va8) (by kernel_rfl) (by kernel_rfl) rfl (by kernel_rfl) (by kernel_rfl) (by kernel_rfl) (fun _ _ _ h => h) (Or.inl ⟨by rfl, ?hya8⟩) (by assumption) ?resta8
      case hya8 =>
        intro w hSw
        try dsimp only at hSw
        go_simp
        try with_reducible rfl
      simp only [Act.put, List.setIfInBounds_toArray, List.set_cons_zero, List.set_cons_succ, List.getElem_toArray, List.getElem_cons_zero, List.getElem_cons_succ]
      refine goAny_take (i := 9) (v := ?va9) (by kernel_rfl) (by kernel_rfl) rfl (by kernel_rfl) (by kernel_rfl) (by kernel_rfl) (fun _ _ _ h => h) (Or.inl ⟨by rfl, ?hya9⟩) (by assumption) ?resta9
      case hya9 =>
        intro w hSw
        try dsimp only at hSw
        go_simp
        try with_reducible rfl
      simp only [Act.put, List.setIfInBounds_toArray, List.set_cons_zero, List.set_cons_succ, List.getElem_toArray, List.getElem_cons_zero, List.getElem_cons_succ]
      refine goAny_take (i := 10) (v := ?va10) (by kernel_rfl) (by kernel_rfl) rfl (by kernel_rfl) (by kernel_rfl) (by kernel_rfl) (fun _ _ _ h => h) (Or.inl ⟨by rfl, ?hya10⟩) (by assumption) ?resta10
      case hya10 =>
        intro w hSw
        try dsimp only at hSw
        go_simp
        try with_reducible rfl
      simp only [Act.put, List.setIfInBounds_toArray, List.set_cons_zero, List.set_cons_succ, List.getElem_toArray, List.getElem_cons_zero, List.getElem_cons_succ]
      refine goAny_take (i := 11) (v := ?va11) (by kernel_rfl) (by kernel_rfl) rfl (by kernel_rfl) (by kernel_rfl) (by kernel_rfl) (fun _ _ _ h => h) (Or.inl ⟨by rfl, ?hya11⟩) (by assumption) ?resta11
      case hya11 =>
        intro w hSw
        try dsimp only at hSw
        go_simp
        try with_reducible rfl
      simp only [Act.put, List.setIfInBounds_toArray, List.set_cons_zero, List.set_cons_succ, List.getElem_toArray, List.getElem_cons_zero, List.getElem_cons_succ]
      refine goAny_take (i := 12) (v := ?va12) (by kernel_rfl) (by kernel_rfl) rfl (by kernel_rfl) (by kernel_rfl) (by kernel_rfl) (fun _ _ _ h => h) (Or.inl ⟨by rfl, ?hya12⟩) (by assumption) ?resta12
      case hya12 =>
        intro w hSw
        try dsimp only at hSw
        go_simp
        try with_reducible rfl
      simp only [Act.put, List.setIfInBounds_toArray, List.set_cons_zero, List.set_cons_succ, List.getElem_toArray, List.getElem_cons_zero, List.getElem_cons_succ]
      refine goAny_take (i := 13) (v := ?va13) (by kernel_rfl) (by kernel_rfl) rfl (by kernel_rfl) (by kernel_rfl) (by kernel_rfl) (fun _ _ _ h => h) (Or.inl ⟨by rfl, ?hya13⟩) (by assumption) ?resta13
      case hya13 =>
        intro w hSw
        try dsimp only at hSw
        go_simp
        try with_reducible rfl
      simp only [Act.put, List.setIfInBounds_toArray, List.set_cons_zero, List.set_cons_succ, List.getElem_toArray, List.getElem_cons_zero, List.getElem_cons_succ]
      refine goAny_last (by kernel_rfl) (by kernel_rfl) rfl (fun K hK => ?_)
      go_simp
      skip
      refine hK.out _ _ ?_
      clear hK K
      try simp only [Act.put, List.setIfInBounds_toArray, List.set_cons_zero, List.set_cons_succ, List.getElem_toArray, List.getElem_cons_zero, List.getElem_cons_succ]
      have HR3 := Lib.hid (rowM_cost (x := F) HR2.out HLS.out hk)
      have XQ3 := Lib.hid (XQ.out.other (a := ⟨b, o + k * 4 + 2, none⟩) hsb (.int .i64 F))
      have XZ3 := Lib.hid (XZ.out.other (a := ⟨b, o + k * 4 + 2, none⟩) hzb (.int .i64 F))
      have HF3 := Lib.hid (HF2.out.set (List.mem_singleton.2 rfl) (o + k * 4 + 2) (.int .i64 F))
      generalize (W2.setCell ⟨b, o + k * 4 + 2, none⟩ (.int .i64 F)) = W3 at HR3 XQ3 XZ3 HF3 ⊢
      have y0 := XQ3.out.cell 0
      have y1 := XQ3.out.cell 1
      have z0 := XZ3.out.cell 0
      have z1 := XZ3.out.cell 1
      have e0 := XZ3.out.frz 0
      have e1 := XZ3.out.frz 1
      have yl := XQ3.out.lt
      have zl := XZ3.out.lt
      simp at y0 y1 z0 z1
      clear f2 f3 c0 c1 c2 c3 d2 g2 hb1
      go_wp2_with fail

      refine bodyPost_ret (v := .agg #[.slice (some ⟨b, o, none⟩) n c, .int .i64 F]) (by simp [results, Try.results83, go_sem, z0, z1]) rfl ?_
      refine ⟨rfl, ?_, ?_⟩
      · have e9 : l.set k (wakT ⟨a0, a1, a2, false⟩ F) = (l.set k ⟨a0, a1, a2, true⟩).set k (setC (tA (l.set k ⟨a0, a1, a2, true⟩) k) F) := by
          rw [HWT.out, List.set_set, getD_setT l k k _ (by rw [HL.out]; exact hk), if_pos rfl]
          unfold setC
          congr 2
          exact Int.max_eq_right (by omega)
        rw [e9]
        exact tyQueue_Mmk (D := (_, F)) ⟨by rw [List.length_set]; exact HLS.out, hn, rowM_off (rowM_off HR3.out ⟨w.heap.size + 1, 0, none⟩ _ fun x hx => by rw [List.mem_singleton] at hx; subst hx; show x ≠ w.heap.size + 1; omega) ⟨w.heap.size + 1, 1, none⟩ _ fun x hx => by rw [List.mem_singleton] at hx; subst hx; show x ≠ w.heap.size + 1; omega⟩
      · exact (HF3.out.fresh (b := w.heap.size + 1) (i := 0) _ (Nat.le_succ _)).fresh (b := w.heap.size + 1) (i := 1) _ (Nat.le_succ _)
    · refine goAny_drew (z := 14) (S := fun w' => w'.cell? ⟨w.heap.size, 0, none⟩ = some (.slice (some ⟨b, o, none⟩) n c) ∧ w'.cell? ⟨w.heap.size, 1, none⟩ = some (.int .i64 F) ∧ w'.cell? ⟨b, o + k * 4 + 2, none⟩ = some (.int .i64 a2)) (by kernel_rfl) ⟨XQ.out.cell 0, XQ.out.cell 1, d2⟩ (fun hHeld => ?_)
      generalize W1.drew = W2 at XQ XZ HR2 HF2 d2 g2 hb1 hHeld ⊢
      refine goAny_take (i := 0) (v := ?vb0) (by kernel_rfl) (by kernel_rfl) rfl (by kernel_rfl) (by kernel_rfl) (by kernel_rfl) (fun _ _ _ h => h) (Or.inl ⟨by rfl, ?hyb0⟩) (by assumption) ?restb0
      case hyb0 =>
        intro w hSw
        try dsimp only at hSw
        go_simp
        try with_reducible rfl
      simp only [Act.put, List.setIfInBounds_toArray, List.set_cons_zero, List.set_cons_succ, List.getElem_toArray, List.getElem_cons_zero]
      refine goAny_take (i := 1) (v := ?vb1) (by kernel_rfl) (by kernel_rfl) rfl (by kernel_rfl) (by kernel_rfl) (by kernel_rfl) (fun _ _ _ h => h) (Or.inl ⟨by rfl, ?hyb1⟩) (by assumption) ?restb1
      case hyb1 =>
        intro w hSw
        try dsimp only at hSw
        go_simp
        try with_reducible rfl
      simp only [Act.put, List.setIfInBounds_toArray, List.set_cons_zero, List.set_cons_succ, List.getElem_toArray, List.getElem_cons_zero, List.getElem_cons_succ]
      refine goAny_take (i := 2) (v := ?vb2) (by kernel_rfl) (by kernel_rfl) rfl (by kernel_rfl) (by kernel_rfl) (by kernel_rfl) (fun _ _ _ h => h) (Or.inl ⟨by rfl, ?hyb2⟩) (by assumption) ?restb2
      case hyb2 =>
        intro w hSw
        try dsimp only at hSw
        go_simp
        try with_reducible rfl
      simp only [Act.put, List.setIfInBounds_toArray, List.set_cons_zero, List.set_cons_succ, List.getElem_toArray, List.getElem_cons_zero, List.getElem_cons_succ]
      refine goAny_take (i := 3) (v := ?vb3) (by kernel_rfl) (by kernel_rfl) rfl (by kernel_rfl) (by kernel_rfl) (by kernel_rfl) (fun _ _ _ h => h) (Or.inl ⟨by rfl, ?hyb3⟩) (by assumption) ?restb3
      case hyb3 =>
        intro w hSw
        try dsimp only at hSw
        go_simp
        try with_reducible rfl
      simp only [Act.put, List.setIfInBounds_toArray, List.set_cons_zero, List.set_cons_succ, List.getElem_toArray, List.getElem_cons_zero, List.getElem_cons_succ]
      refine goAny_take (i := 4) (v := ?vb4) (by kernel_rfl) (by kernel_rfl) rfl (by kernel_rfl) (by kernel_rfl) (by kernel_rfl) (fun _ _ _ h => h) (Or.inl ⟨by rfl, ?hyb4⟩) (by assumption) ?restb4
      case hyb4 =>
        intro w hSw
        try dsimp only at hSw
        go_simp
        try with_reducible rfl
      simp only [Act.put, List.setIfInBounds_toArray, List.set_cons_zero, List.set_cons_succ, List.getElem_toArray, List.getElem_cons_zero, List.getElem_cons_succ]
      refine goAny_take (i := 5) (v := ?vb5) (by kernel_rfl) (by kernel_rfl) rfl (by kernel_rfl) (by kernel_rfl) (by kernel_rfl) (fun _ _ _ h => h) (Or.inl ⟨by rfl, ?hyb5⟩) (by assumption) ?restb5
      case hyb5 =>
        intro w hSw
        try dsimp only at hSw
        go_simp
        try with_reducible rfl
      simp only [Act.put, List.setIfInBounds_toArray, List.set_cons_zero, List.set_cons_succ, List.getElem_toArray, List.getElem_cons_zero, List.getElem_cons_succ]
      refine goAny_take (i := 6) (v := ?vb6) (by kernel_rfl) (by kernel_rfl) rfl (by kernel_rfl) (by kernel_rfl) (by kernel_rfl) (fun _ _ _ h => h) (Or.inl ⟨by rfl, ?hyb6⟩) (by assumption) ?restb6
      case hyb6 =>
        intro w hSw
        try dsimp only at hSw
        go_simp
        try with_reducible rfl
      simp only [Act.put, List.setIfInBounds_toArray, List.set_cons_zero, List.set_cons_succ, List.getElem_toArray, List.getElem_cons_zero, List.getElem_cons_succ]
      refine goAny_take (i := 7) (v := ?vb7) (by kernel_rfl) (by kernel_rfl) rfl (by kernel_rfl) (by kernel_rfl) (by kernel_rfl) (fun _ _ _ h => h) (Or.inl ⟨by rfl, ?hyb7⟩) (by assumption) ?restb7
      case hyb7 =>
        intro w hSw
        try dsimp only at hSw
        go_simp
        try with_reducible rfl
      simp only [Act.put, List.setIfInBounds_toArray, List.set_cons_zero, List.set_cons_succ, List.getElem_toArray, List.getElem_cons_zero, List.getElem_cons_succ]
      refine goAny_take (i := 8) (v := ?vb8) (by kernel_rfl) (by kernel_rfl) rfl (by kernel_rfl) (by kernel_rfl) (by kernel_rfl) (fun _ _ _ h => h) (Or.inl ⟨by rfl, ?hyb8⟩) (by assumption) ?restb8
      case hyb8 =>
        intro w hSw
        try dsimp only at hSw
        go_simp
        try with_reducible rfl
      simp only [Act.put, List.setIfInBounds_toArray, List.set_cons_zero, List.set_cons_succ, List.getElem_toArray, List.getElem_cons_zero, List.getElem_cons_succ]
      refine goAny_take (i := 9) (v := ?vb9) (by kernel_rfl) (by kernel_rfl) rfl (by kernel_rfl) (by kernel_rfl) (by kernel_rfl) (fun _ _ _ h => h) (Or.inl ⟨by rfl, ?hyb9⟩) (by assumption) ?restb9
      case hyb9 =>
        intro w hSw
        try dsimp only at hSw
        go_simp
        try with_reducible rfl
      simp only [Act.put, List.setIfInBounds_toArray, List.set_cons_zero, List.set_cons_succ, List.getElem_toArray, List.getElem_cons_zero, List.getElem_cons_succ]
      refine goAny_take (i := 10) (v := ?vb10) (by kernel_rfl) (by kernel_rfl) rfl (by kernel_rfl) (by kernel_rfl) (by kernel_rfl) (fun _ _ _ h => h) (Or.inl ⟨by rfl, ?hyb10⟩) (by assumption) ?restb10
      case hyb10 =>
        intro w hSw
        try dsimp only at hSw
        go_simp
        try with_reducible rfl
      simp only [Act.put, List.setIfInBounds_toArray, List.set_cons_zero, List.set_cons_succ, List.getElem_toArray, List.getElem_cons_zero, List.getElem_cons_succ]
      refine goAny_take (i := 11) (v := ?vb11) (by kernel_rfl) (by kernel_rfl) rfl (by kernel_rfl) (by kernel_rfl) (by kernel_rfl) (fun _ _ _ h => h) (Or.inl ⟨by rfl, ?hyb11⟩) (by assumption) ?restb11
      case hyb11 =>
        intro w hSw
        try dsimp only at hSw
        go_simp
        try with_reducible rfl
      simp only [Act.put, List.setIfInBounds_toArray, List.set_cons_zero, List.set_cons_succ, List.getElem_toArray, List.getElem_cons_zero, List.getElem_cons_succ]
      refine goAny_take (i := 12) (v := ?vb12) (by kernel_rfl) (by kernel_rfl) rfl (by kernel_rfl) (by kernel_rfl) (by kernel_rfl) (fun _ _ _ h => h) (Or.inl ⟨by rfl, ?hyb12⟩) (by assumption) ?restb12
      case hyb12 =>
        intro w hSw
        try dsimp only at hSw
        go_simp
        try with_reducible rfl
      simp only [Act.put, List.setIfInBounds_toArray, List.set_cons_zero, List.set_cons_succ, List.getElem_toArray, List.getElem_cons_zero, List.getElem_cons_succ]
      refine goAny_take (i := 13) (v := ?vb13) (by kernel_rfl) (by kernel_rfl) rfl (by kernel_rfl) (by kernel_rfl) (by kernel_rfl) (fun _ _ _ h => h) (Or.inl ⟨by rfl, ?hyb13⟩) (by assumption) ?restb13
      case hyb13 =>
        intro w hSw
        try dsimp only at hSw
        go_simp
        try with_reducible rfl
      simp only [Act.put, List.setIfInBounds_toArray, List.set_cons_zero, List.set_cons_succ, List.getElem_toArray, List.getElem_cons_zero, List.getElem_cons_succ]
      refine goAny_last (by kernel_rfl) (by kernel_rfl) rfl (fun K hK => ?_)
      go_simp
      skip
      refine hK.out _ _ ?_
      clear hK K
      try simp only [Act.put, List.setIfInBounds_toArray, List.set_cons_zero, List.set_cons_succ, List.getElem_toArray, List.getElem_cons_zero, List.getElem_cons_succ]
      have HR3 := Lib.hid (rowM_cost (x := a2) HR2.out HLS.out hk)
      have XQ3 := Lib.hid (XQ.out.other (a := ⟨b, o + k * 4 + 2, none⟩) hsb (.int .i64 a2))
      have XZ3 := Lib.hid (XZ.out.other (a := ⟨b, o + k * 4 + 2, none⟩) hzb (.int .i64 a2))
      have HF3 := Lib.hid (HF2.out.set (List.mem_singleton.2 rfl) (o + k * 4 + 2) (.int .i64 a2))
      generalize (W2.setCell ⟨b, o + k * 4 + 2, none⟩ (.int .i64 a2)) = W3 at HR3 XQ3 XZ3 HF3 ⊢
      have y0 := XQ3.out.cell 0
      have y1 := XQ3.out.cell 1
      have z0 := XZ3.out.cell 0
      have z1 := XZ3.out.cell 1
      have e0 := XZ3.out.frz 0
      have e1 := XZ3.out.frz 1
      have yl := XQ3.out.lt
      have zl := XZ3.out.lt
      simp at y0 y1 z0 z1
      clear f2 f3 c0 c1 c2 c3 d2 g2 hb1
      go_wp2_with fail

      refine bodyPost_ret (v := .agg #[.slice (some ⟨b, o, none⟩) n c, .int .i64 F]) (by simp [results, Try.results83, go_sem, z0, z1]) rfl ?_
      refine ⟨rfl, ?_, ?_⟩
      · have e9 : l.set k (wakT ⟨a0, a1, a2, false⟩ F) = (l.set k ⟨a0, a1, a2, true⟩).set k (setC (tA (l.set k ⟨a0, a1, a2, true⟩) k) a2) := by
          rw [HWT.out, List.set_set, getD_setT l k k _ (by rw [HL.out]; exact hk), if_pos rfl]
          unfold setC
          congr 2
          exact Int.max_eq_left (by omega)
        rw [e9]
        exact tyQueue_Mmk (D := (_, F)) ⟨by rw [List.length_set]; exact HLS.out, hn, rowM_off (rowM_off HR3.out ⟨w.heap.size + 1, 0, none⟩ _ fun x hx => by rw [List.mem_singleton] at hx; subst hx; show x ≠ w.heap.size + 1; omega) ⟨w.heap.size + 1, 1, none⟩ _ fun x hx => by rw [List.mem_singleton] at hx; subst hx; show x ≠ w.heap.size + 1; omega⟩
      · exact (HF3.out.fresh (b := w.heap.size + 1) (i := 0) _ (Nat.le_succ _)).fresh (b := w.heap.size + 1) (i := 1) _ (Nat.le_succ _)
  · rw [if_pos rfl] at HWT
    have HSET := Lib.hid (show l.set k ⟨a0, a1, a2, true⟩ = l by rw [← HAE.out]; exact set_self l k tz)
    rw [HWT.out, HSET.out]
    go_enter Try.func83, Try.ntmps83
    go_wp2_with fail
    refine bodyPost_ret (v := .agg #[.slice (some ⟨b, o, none⟩) n c, .int .i64 F]) (by simp [results, Try.results83, go_sem]) rfl ⟨rfl, ?_, ?_⟩
    · exact tyQueue_Mmk (D := (l, F)) ⟨HL.out, hn, HR.out.frame fun x hx => by rw [List.mem_singleton.1 hx]; exact (show Below w.heap.size w ((w.alloc (.cells #[.slice (some ⟨b, o, none⟩) n c, .int .i64 F] 25)).alloc (.cells #[.slice (some ⟨b, o, none⟩) n c, .int .i64 F] 25)) from ((Below.refl _ _).alloc (Nat.le_refl _) _).alloc (by simp only [World.size_alloc]; omega) _).block b hb⟩
    · exact FootK.of_below (show Below w.heap.size w ((w.alloc (.cells #[.slice (some ⟨b, o, none⟩) n c, .int .i64 F] 25)).alloc (.cells #[.slice (some ⟨b, o, none⟩) n c, .int .i64 F] 25)) from ((Below.refl _ _).alloc (Nat.le_refl _) _).alloc (by simp only [World.size_alloc]; omega) _) _
end
end Go.Proofs.Ytagggajlpmdpdaa

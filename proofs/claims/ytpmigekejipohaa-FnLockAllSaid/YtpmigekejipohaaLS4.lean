/-
  The model's l12Copy: threads and a line of one's own.
-/
import Derived.Test.YtpmigekejipohaaLKit
import Derived.Test.YtpmigekejipohaaLCopy
namespace Go.Proofs.Ytpmigekejipohaa
open Go.RowKit

theorem OwnE.keep {α : Type} {E : El α} {t : TypeId} {w w' : World} {base g n c : Nat} {l : List α} (h : OwnE E t w base (.slice (some ⟨g, 0, none⟩) n c) l) (hb : w'.heap[g]? = w.heap[g]?) : OwnE E t w' base (.slice (some ⟨g, 0, none⟩) n c) l := by
  refine ⟨h.1, ?_⟩
  rcases h.2 with ⟨h2, _⟩ | ⟨g', cap, cur, e, hg, hhp, h3⟩
  · cases h2
  · have e1 : g = g' := by injection e with e1; injection e1 with e1; injection e1
    subst e1
    exact .inr ⟨g, cap, cur, e, hg, hb.trans hhp, h3⟩
theorem OwnE.low {α : Type} {E : El α} {t : TypeId} {w : World} {base base' : Nat} {v : Value} {l : List α} (h : OwnE E t w base v l) (hb : base' ≤ base) : OwnE E t w base' v l := by
  refine ⟨h.1, ?_⟩
  rcases h.2 with h2 | ⟨g, cap, cur, e, hg, h3⟩
  · exact .inl h2
  · exact .inr ⟨g, cap, cur, e, by omega, h3⟩
section
variable {w : World}
set_option maxHeartbeats 8000000 in
set_option maxRecDepth 100000 in
theorem l12Copy_any {hi : Nat} {x0 x1 x2 : Value} {D : Lk} (h : tyLock.R w hi [x0, x1, x2] D) (hs : smallLock D) :
    Calls Try.prog 63 #[.agg #[x0, x1, x2]] w fun e w' => ∃ g0 g1 c0 c1, e = .returned (.agg #[.int .i64 D.1, .slice (some ⟨g0, 0, none⟩) D.2.1.length c0, .slice (some ⟨g1, 0, none⟩) D.2.2.length c1]) ∧ OwnE elThread 41 w' (w.heap.size + 2) (.slice (some ⟨g0, 0, none⟩) D.2.1.length c0) D.2.1 ∧ OwnE elI 3 w' (w.heap.size + 2) (.slice (some ⟨g1, 0, none⟩) D.2.2.length c1) D.2.2 ∧ g0 ≠ g1 ∧ Below w.heap.size w w' := by
  obtain ⟨A, n, c, A2, n2, c2, hcs, ⟨hl, hn, hr⟩, ⟨hl2, hn2, hr2⟩⟩ := tyLock_R h
  simp only [List.cons.injEq, and_true] at hcs
  obtain ⟨rfl, rfl, rfl⟩ := hcs
  obtain ⟨W, l, L⟩ := D
  unfold smallLock at hs
  dsimp only at hl hr hl2 hr2 hs ⊢
  rw [hl, hl2] at hs
  obtain ⟨hs0, hs1⟩ := hs
  rw [hl, hl2]
  have HR0 := Lib.hid hr
  have HR1 := Lib.hid hr2
  have HL0 := Lib.hid hl
  have HL1 := Lib.hid hl2
  have one0 : ∀ a, ∀ u ∈ elThread.C a, u.oneCell' = true := by
    intro a u ha
    simp only [elThread, List.mem_cons, List.not_mem_nil, or_false] at ha
    rcases ha with rfl | rfl | rfl | rfl <;> rfl
  have one1 : ∀ a, ∀ u ∈ elI.C a, u.oneCell' = true := by
    intro a u ha
    rw [List.mem_singleton.1 ha]
    rfl
  clear h hr hr2 hl hl2 hn hn2
  obtain ⟨iT, hi0, hz0, hz1, hz2⟩ := infoThread
  have HT := Lib.hid hi0
  have HT0 := Lib.hid hz0
  have HT1 := Lib.hid hz1
  have HT2 := Lib.hid hz2
  clear hi0 hz0 hz1 hz2
  obtain ⟨iI, hi0, hz0, hz1, hz2⟩ := infoInt
  have HI := Lib.hid hi0
  have HI0 := Lib.hid hz0
  have HI1 := Lib.hid hz1
  have HI2 := Lib.hid hz2
  clear hi0 hz0 hz1 hz2
  have HX0 := Lib.hid ((Box.new w #[.int .i64 W, .slice A n c, .slice A2 n2 c2] 28).alloc (.cells #[.int .i64 0, .slice none 0 0, .slice none 0 0] 28))
  have HZ0 := Lib.hid (Box.new (w.alloc (.cells #[.int .i64 W, .slice A n c, .slice A2 n2 c2] 28)) #[.int .i64 0, .slice none 0 0, .slice none 0 0] 28)
  simp only [World.size_alloc] at HZ0
  have HB0 := Lib.hid (show Below w.heap.size w ((w.alloc (.cells #[.int .i64 W, .slice A n c, .slice A2 n2 c2] 28)).alloc (.cells #[.int .i64 0, .slice none 0 0, .slice none 0 0] 28)) from ((Below.refl _ _).alloc (Nat.le_refl _) _).alloc (by simp only [World.size_alloc]; omega) _)
  have hz0 : w.heap.size + 2 ≤ ((w.alloc (.cells #[.int .i64 W, .slice A n c, .slice A2 n2 c2] 28)).alloc (.cells #[.int .i64 0, .slice none 0 0, .slice none 0 0] 28)).heap.size := by simp only [World.size_alloc]; omega
  go_enter Try.func63, Try.ntmps63
  go_wp2_with fail
  generalize ((w.alloc (.cells #[.int .i64 W, .slice A n c, .slice A2 n2 c2] 28)).alloc (.cells #[.int .i64 0, .slice none 0 0, .slice none 0 0] 28)) = W0 at HX0 HZ0 HB0 hz0 ⊢
  have p0 := HX0.out.cell 0
  have p1 := HX0.out.cell 1
  have p2 := HX0.out.cell 2
  simp at p0 p1 p2
  refine wp_region_held_drew (S := fun w' => w'.cell? ⟨w.heap.size, 0, none⟩ = some (.int .i64 W) ∧ w'.cell? ⟨w.heap.size, 1, none⟩ = some (.slice A n c) ∧ w'.cell? ⟨w.heap.size, 2, none⟩ = some (.slice A2 n2 c2)) (by kernel_rfl) ⟨p0, p1, p2⟩ (fun hHeld => ?_)
  have HX1 := Lib.hid (show Box W0.drew w.heap.size #[.int .i64 W, .slice A n c, .slice A2 n2 c2] 28 from HX0.out)
  have HZ1 := Lib.hid (show Box W0.drew (w.heap.size + 1) #[.int .i64 0, .slice none 0 0, .slice none 0 0] 28 from HZ0.out)
  have HB1 := Lib.hid HB0.out.drew
  have hz1 : w.heap.size + 2 ≤ W0.drew.heap.size := hz0
  clear HX0 HZ0 HB0 hz0
  generalize W0.drew = W1 at hHeld HX1 HZ1 HB1 hz1 ⊢
  refine wpAnyH_take (i := 0) (v := ?vg1_0) rfl (by kernel_rfl) (by kernel_rfl) (by kernel_rfl) (fun _ _ _ h => h) (Or.inl ⟨by rfl, ?hyg1_0⟩) (by assumption) ?restg1_0
  case hyg1_0 =>
    intro w hSw
    try dsimp only at hSw
    go_simp
    try with_reducible rfl
  simp only [Act.put, List.setIfInBounds_toArray, List.getElem_toArray]
  refine wpAnyH_take (i := 1) (v := ?vg2_1) rfl (by kernel_rfl) (by kernel_rfl) (by kernel_rfl) (fun _ _ _ h => h) (Or.inl ⟨by rfl, ?hyg2_1⟩) (by assumption) ?restg2_1
  case hyg2_1 =>
    intro w hSw
    try dsimp only at hSw
    go_simp
    try with_reducible rfl
  try simp only [Act.put, List.setIfInBounds_toArray, List.set_cons_zero, List.set_cons_succ, List.getElem_toArray, List.getElem_cons_zero, List.getElem_cons_succ]
  refine wpAnyH_take (i := 3) (v := ?vg3_3) rfl (by kernel_rfl) (by kernel_rfl) (by kernel_rfl) (fun _ _ _ h => h) (Or.inl ⟨by rfl, ?hyg3_3⟩) (by assumption) ?restg3_3
  case hyg3_3 =>
    intro w hSw
    try dsimp only at hSw
    go_simp
    try with_reducible rfl
  try simp only [Act.put, List.setIfInBounds_toArray, List.set_cons_zero, List.set_cons_succ, List.getElem_toArray, List.getElem_cons_zero, List.getElem_cons_succ]
  refine wpAnyH_take (i := 4) (v := ?vg4_4) rfl (by kernel_rfl) (by kernel_rfl) (by kernel_rfl) (fun _ _ _ h => h) (Or.inl ⟨by rfl, ?hyg4_4⟩) (by assumption) ?restg4_4
  case hyg4_4 =>
    intro w hSw
    try dsimp only at hSw
    go_simp
    try with_reducible rfl
  try simp only [Act.put, List.setIfInBounds_toArray, List.set_cons_zero, List.set_cons_succ, List.getElem_toArray, List.getElem_cons_zero, List.getElem_cons_succ]
  refine wpAnyH_take (i := 7) (v := ?vg5_7) rfl (by kernel_rfl) (by kernel_rfl) (by kernel_rfl) (fun _ _ _ h => h) (Or.inl ⟨by rfl, ?hyg5_7⟩) (by assumption) ?restg5_7
  case hyg5_7 =>
    intro w hSw
    try dsimp only at hSw
    go_simp
    try with_reducible rfl
  try simp only [Act.put, List.setIfInBounds_toArray, List.set_cons_zero, List.set_cons_succ, List.getElem_toArray, List.getElem_cons_zero, List.getElem_cons_succ]
  refine wpAnyH_take (i := 8) (v := ?vg6_8) rfl (by kernel_rfl) (by kernel_rfl) (by kernel_rfl) (fun _ _ _ h => h) (Or.inl ⟨by rfl, ?hyg6_8⟩) (by assumption) ?restg6_8
  case hyg6_8 =>
    intro w hSw
    try dsimp only at hSw
    go_simp
    try with_reducible rfl
  try simp only [Act.put, List.setIfInBounds_toArray, List.set_cons_zero, List.set_cons_succ, List.getElem_toArray, List.getElem_cons_zero, List.getElem_cons_succ]
  refine wpAnyH_ready (rs := [2, 6]) (by kernel_rfl) (by simp) ?_
  refine (AllReadyH.cons rfl (fun K hK => ?_) (AllReadyH.cons rfl (fun K hK => ?_) AllReadyH.nil))
  · go_simp
    have HB2 := Lib.hid (HB1.out.alloc HB1.out.size (.cells #[] 41))
    have HX2 := Lib.hid (HX1.out.alloc (.cells #[] 41))
    have HZ2 := Lib.hid (HZ1.out.alloc (.cells #[] 41))
    have hz2 : W1.heap.size < (W1.alloc (.cells #[] 41)).heap.size := by rw [World.size_alloc]; omega
    have HA0_2 := Lib.hid (Box.new W1 #[] 41)
    obtain ⟨e0, he0⟩ : ∃ e0, W1.heap.size = e0 := ⟨_, rfl⟩
    rw [he0] at HA0_2 hz2
    simp only [he0]
    have hle0 : w.heap.size + 2 ≤ e0 := by omega
    generalize (W1.alloc (.cells #[] 41)) = W2 at HB2 HX2 HZ2 hz2 HA0_2 ⊢
    clear p0 p1 p2
    have p0 := HX2.out.cell 0
    have p1 := HX2.out.cell 1
    have p2 := HX2.out.cell 2
    simp at p0 p1 p2
    refine hK.out _ _ ⟨p0, p1, p2⟩ (fun hHeld => ?_)
    clear hK K
    try simp only [Act.put, List.setIfInBounds_toArray, List.set_cons_zero, List.set_cons_succ, List.getElem_toArray, List.getElem_cons_zero, List.getElem_cons_succ]
    refine wpAnyH_ready (rs := [5, 6]) (by kernel_rfl) (by simp) ?_
    refine (AllReadyH.cons rfl (fun K hK => ?_) (AllReadyH.cons rfl (fun K hK => ?_) AllReadyH.nil))
    · refine step_copyE rfl (.tmp 5) (.tmp 7) 25 rfl 41 iT (.agg #[.int .i64 0, .int .i64 0, .int .i64 0, .bool false]) 32 Try.underlying25 HT.out HT0.out HT1.out HT2.out rfl (by decide) one0 e0 n c A l rfl HA0_2.out rfl (HR0.out.wb HB2.out) HL0.out ?q7_3 ?q7_4 ?_
      case q7_3 => simp only [maxLen]; omega
      case q7_4 => omega
      intro g0 k0 W3 hown hg hga0 hgl0_3
      have hge0 := hown.lt.1
      have HO0_3 := Lib.hid (hown.low (show w.heap.size + 2 ≤ e0 by omega))
      have hsz3 := hg.size
      have HX3 := Lib.hid (show Box W3 w.heap.size _ 28 from (hg.block _ HX2.out.lt (by simp; omega)).trans HX2.out)
      have HZ3 := Lib.hid (show Box W3 (w.heap.size + 1) _ 28 from (hg.block _ HZ2.out.lt (by simp; omega)).trans HZ2.out)
      have HB3 := Lib.hid (HB2.out.grown hg HB2.out.size (fun k e => by injection e with e; omega))
      clear hown hg
      clear p0 p1 p2
      have p0 := HX3.out.cell 0
      have p1 := HX3.out.cell 1
      have p2 := HX3.out.cell 2
      simp at p0 p1 p2
      refine hK.out _ _ ⟨p0, p1, p2⟩ (fun hHeld => ?_)
      clear hK K
      try simp only [Act.put, List.setIfInBounds_toArray, List.set_cons_zero, List.set_cons_succ, List.getElem_toArray, List.getElem_cons_zero, List.getElem_cons_succ]
      refine wpAnyH_ready (rs := [6]) (by kernel_rfl) (by simp) ?_
      refine (AllReadyH.cons rfl (fun K hK => ?_) AllReadyH.nil)
      go_simp
      have HB4 := Lib.hid (HB3.out.alloc HB3.out.size (.cells #[] 3))
      have HX4 := Lib.hid (HX3.out.alloc (.cells #[] 3))
      have HZ4 := Lib.hid (HZ3.out.alloc (.cells #[] 3))
      have hz4 : W3.heap.size < (W3.alloc (.cells #[] 3)).heap.size := by rw [World.size_alloc]; omega
      have HA1_4 := Lib.hid (Box.new W3 #[] 3)
      have HO0_4 := Lib.hid (HO0_3.out.below (show Below W3.heap.size W3 (W3.alloc (.cells #[] 3)) from (Below.refl _ _).alloc (Nat.le_refl _) _))
      have hgl0_4 : g0 < (W3.alloc (.cells #[] 3)).heap.size := by omega
      obtain ⟨e1, he1⟩ : ∃ e1, W3.heap.size = e1 := ⟨_, rfl⟩
      rw [he1] at HA1_4 hz4
      simp only [he1]
      have hle1 : w.heap.size + 2 ≤ e1 := by omega
      generalize (W3.alloc (.cells #[] 3)) = W4 at HB4 HX4 HZ4 hz4 HA1_4 HO0_4 hgl0_4 ⊢
      clear p0 p1 p2
      have p0 := HX4.out.cell 0
      have p1 := HX4.out.cell 1
      have p2 := HX4.out.cell 2
      simp at p0 p1 p2
      refine hK.out _ _ ⟨p0, p1, p2⟩ (fun hHeld => ?_)
      clear hK K
      try simp only [Act.put, List.setIfInBounds_toArray, List.set_cons_zero, List.set_cons_succ, List.getElem_toArray, List.getElem_cons_zero, List.getElem_cons_succ]
      refine wpAnyH_ready (rs := [9]) (by kernel_rfl) (by simp) ?_
      refine (AllReadyH.cons rfl (fun K hK => ?_) AllReadyH.nil)
      refine step_copyE rfl (.tmp 9) (.tmp 11) 26 rfl 3 iI (.int .i64 0) 8 Try.underlying26 HI.out HI0.out HI1.out HI2.out rfl (by decide) one1 e1 n2 c2 A2 L rfl HA1_4.out rfl (HR1.out.wb HB4.out) HL1.out ?q8_3 ?q8_4 ?_
      case q8_3 => simp only [maxLen]; omega
      case q8_4 => omega
      intro g1 k1 W5 hown hg hga1 hgl1_5
      have hge1 := hown.lt.1
      have HO1_5 := Lib.hid (hown.low (show w.heap.size + 2 ≤ e1 by omega))
      have hsz5 := hg.size
      have HX5 := Lib.hid (show Box W5 w.heap.size _ 28 from (hg.block _ HX4.out.lt (by simp; omega)).trans HX4.out)
      have HZ5 := Lib.hid (show Box W5 (w.heap.size + 1) _ 28 from (hg.block _ HZ4.out.lt (by simp; omega)).trans HZ4.out)
      have HB5 := Lib.hid (HB4.out.grown hg HB4.out.size (fun k e => by injection e with e; omega))
      have HO0_5 := Lib.hid (HO0_4.out.keep (w' := W5) (hg.block _ hgl0_4 (by simp; omega)))
      have hgl0_5 : g0 < W5.heap.size := by omega
      clear hown hg
      clear p0 p1 p2
      have p0 := HX5.out.cell 0
      have p1 := HX5.out.cell 1
      have p2 := HX5.out.cell 2
      simp at p0 p1 p2
      refine hK.out _ _ ⟨p0, p1, p2⟩ (fun hHeld => ?_)
      clear hK K
      try simp only [Act.put, List.setIfInBounds_toArray, List.set_cons_zero, List.set_cons_succ, List.getElem_toArray, List.getElem_cons_zero, List.getElem_cons_succ]
      have z0 := HZ5.out.cell 0
      have z1 := HZ5.out.cell 1
      have z2 := HZ5.out.cell 2
      have y0 := HZ5.out.frz 0
      have y1 := HZ5.out.frz 1
      have y2 := HZ5.out.frz 2
      have zl := HZ5.out.lt
      simp at z0 z1 z2
      refine wpAnyH_take (i := 10) (v := ?vg9_10) rfl (by kernel_rfl) (by kernel_rfl) (by kernel_rfl) (fun _ _ _ h => h) (Or.inl ⟨by rfl, ?hyg9_10⟩) (by assumption) ?restg9_10
      case hyg9_10 =>
        intro w hSw
        try dsimp only at hSw
        go_simp
        try with_reducible rfl
      try simp only [Act.put, List.setIfInBounds_toArray, List.set_cons_zero, List.set_cons_succ, List.getElem_toArray, List.getElem_cons_zero, List.getElem_cons_succ]
      refine wpAnyH_ready (rs := [11]) (by kernel_rfl) (by simp) ?_
      refine (AllReadyH.cons rfl (fun K hK => ?_) AllReadyH.nil)
      go_simp
      have HE0 := Lib.hid (((HO0_5.out.other ⟨w.heap.size + 1, 0, none⟩ (.int .i64 W) (by show g0 ≠ w.heap.size + 1; omega)).other ⟨w.heap.size + 1, 1, none⟩ (.slice (some ⟨g0, 0, none⟩) n k0) (by show g0 ≠ w.heap.size + 1; omega)).other ⟨w.heap.size + 1, 2, none⟩ (.slice (some ⟨g1, 0, none⟩) n2 k1) (by show g0 ≠ w.heap.size + 1; omega))
      have HE1 := Lib.hid (((HO1_5.out.other ⟨w.heap.size + 1, 0, none⟩ (.int .i64 W) (by show g1 ≠ w.heap.size + 1; omega)).other ⟨w.heap.size + 1, 1, none⟩ (.slice (some ⟨g0, 0, none⟩) n k0) (by show g1 ≠ w.heap.size + 1; omega)).other ⟨w.heap.size + 1, 2, none⟩ (.slice (some ⟨g1, 0, none⟩) n2 k1) (by show g1 ≠ w.heap.size + 1; omega))
      have hng : g0 ≠ g1 := by omega
      have HEB := Lib.hid (((HB5.out.setCell (p := ⟨w.heap.size + 1, 0, none⟩) (by show w.heap.size ≤ w.heap.size + 1; omega) (.int .i64 W)).setCell (p := ⟨w.heap.size + 1, 1, none⟩) (by show w.heap.size ≤ w.heap.size + 1; omega) (.slice (some ⟨g0, 0, none⟩) n k0)).setCell (p := ⟨w.heap.size + 1, 2, none⟩) (by show w.heap.size ≤ w.heap.size + 1; omega) (.slice (some ⟨g1, 0, none⟩) n2 k1))
      have x0 := (HX5.out.other (a := ⟨w.heap.size + 1, 0, none⟩) (by show w.heap.size ≠ w.heap.size + 1; omega) (.int .i64 W))
      have x1 := (x0.other (a := ⟨w.heap.size + 1, 1, none⟩) (by show w.heap.size ≠ w.heap.size + 1; omega) (.slice (some ⟨g0, 0, none⟩) n k0))
      have x2 := (x1.other (a := ⟨w.heap.size + 1, 2, none⟩) (by show w.heap.size ≠ w.heap.size + 1; omega) (.slice (some ⟨g1, 0, none⟩) n2 k1))
      refine hK.out _ _ ⟨x2.cell 0, x2.cell 1, x2.cell 2⟩ (fun hHeld => ?_)
      clear hK K
      try simp only [Act.put, List.setIfInBounds_toArray, List.set_cons_zero, List.set_cons_succ, List.getElem_toArray, List.getElem_cons_zero, List.getElem_cons_succ]
      clear x0 x1 x2
      refine wpAnyH_done (by kernel_rfl) ?_ _
      go_wp2_with fail
      exact bodyPost_ret (v := .agg #[.int .i64 W, .slice (some ⟨g0, 0, none⟩) n k0, .slice (some ⟨g1, 0, none⟩) n2 k1]) (by simp [results, Try.results63, go_sem, z0, z1, z2]) rfl ⟨g0, g1, _, _, rfl, HE0.out, HE1.out, hng, HEB.out⟩
    · go_simp
      have HB3 := Lib.hid (HB2.out.alloc HB2.out.size (.cells #[] 3))
      have HX3 := Lib.hid (HX2.out.alloc (.cells #[] 3))
      have HZ3 := Lib.hid (HZ2.out.alloc (.cells #[] 3))
      have hz3 : W2.heap.size < (W2.alloc (.cells #[] 3)).heap.size := by rw [World.size_alloc]; omega
      have HA1_3 := Lib.hid (Box.new W2 #[] 3)
      have HA0_3 := Lib.hid (HA0_2.out.alloc (.cells #[] 3))
      obtain ⟨e1, he1⟩ : ∃ e1, W2.heap.size = e1 := ⟨_, rfl⟩
      rw [he1] at HA1_3 hz3
      simp only [he1]
      have hle1 : w.heap.size + 2 ≤ e1 := by omega
      have hne0 : e0 ≠ e1 := by omega
      generalize (W2.alloc (.cells #[] 3)) = W3 at HB3 HX3 HZ3 hz3 HA1_3 HA0_3 ⊢
      clear p0 p1 p2
      have p0 := HX3.out.cell 0
      have p1 := HX3.out.cell 1
      have p2 := HX3.out.cell 2
      simp at p0 p1 p2
      refine hK.out _ _ ⟨p0, p1, p2⟩ (fun hHeld => ?_)
      clear hK K
      try simp only [Act.put, List.setIfInBounds_toArray, List.set_cons_zero, List.set_cons_succ, List.getElem_toArray, List.getElem_cons_zero, List.getElem_cons_succ]
      refine wpAnyH_ready (rs := [5]) (by kernel_rfl) (by simp) ?_
      refine (AllReadyH.cons rfl (fun K hK => ?_) AllReadyH.nil)
      refine step_copyE rfl (.tmp 5) (.tmp 7) 25 rfl 41 iT (.agg #[.int .i64 0, .int .i64 0, .int .i64 0, .bool false]) 32 Try.underlying25 HT.out HT0.out HT1.out HT2.out rfl (by decide) one0 e0 n c A l rfl HA0_3.out rfl (HR0.out.wb HB3.out) HL0.out ?q10_3 ?q10_4 ?_
      case q10_3 => simp only [maxLen]; omega
      case q10_4 => omega
      intro g0 k0 W4 hown hg hga0 hgl0_4
      have hge0 := hown.lt.1
      have HO0_4 := Lib.hid (hown.low (show w.heap.size + 2 ≤ e0 by omega))
      have hsz4 := hg.size
      have HX4 := Lib.hid (show Box W4 w.heap.size _ 28 from (hg.block _ HX3.out.lt (by simp; omega)).trans HX3.out)
      have HZ4 := Lib.hid (show Box W4 (w.heap.size + 1) _ 28 from (hg.block _ HZ3.out.lt (by simp; omega)).trans HZ3.out)
      have HB4 := Lib.hid (HB3.out.grown hg HB3.out.size (fun k e => by injection e with e; omega))
      have HA1_4 := Lib.hid (show Box W4 e1 #[] 3 from (hg.block _ HA1_3.out.lt (by simp; omega)).trans HA1_3.out)
      have hel1 := HA1_4.out.lt
      have helo1 := HA1_3.out.lt
      clear hown hg
      clear p0 p1 p2
      have p0 := HX4.out.cell 0
      have p1 := HX4.out.cell 1
      have p2 := HX4.out.cell 2
      simp at p0 p1 p2
      refine hK.out _ _ ⟨p0, p1, p2⟩ (fun hHeld => ?_)
      clear hK K
      try simp only [Act.put, List.setIfInBounds_toArray, List.set_cons_zero, List.set_cons_succ, List.getElem_toArray, List.getElem_cons_zero, List.getElem_cons_succ]
      refine wpAnyH_ready (rs := [9]) (by kernel_rfl) (by simp) ?_
      refine (AllReadyH.cons rfl (fun K hK => ?_) AllReadyH.nil)
      refine step_copyE rfl (.tmp 9) (.tmp 11) 26 rfl 3 iI (.int .i64 0) 8 Try.underlying26 HI.out HI0.out HI1.out HI2.out rfl (by decide) one1 e1 n2 c2 A2 L rfl HA1_4.out rfl (HR1.out.wb HB4.out) HL1.out ?q11_3 ?q11_4 ?_
      case q11_3 => simp only [maxLen]; omega
      case q11_4 => omega
      intro g1 k1 W5 hown hg hga1 hgl1_5
      have hge1 := hown.lt.1
      have HO1_5 := Lib.hid (hown.low (show w.heap.size + 2 ≤ e1 by omega))
      have hsz5 := hg.size
      have HX5 := Lib.hid (show Box W5 w.heap.size _ 28 from (hg.block _ HX4.out.lt (by simp; omega)).trans HX4.out)
      have HZ5 := Lib.hid (show Box W5 (w.heap.size + 1) _ 28 from (hg.block _ HZ4.out.lt (by simp; omega)).trans HZ4.out)
      have HB5 := Lib.hid (HB4.out.grown hg HB4.out.size (fun k e => by injection e with e; omega))
      have HO0_5 := Lib.hid (HO0_4.out.keep (w' := W5) (hg.block _ hgl0_4 (by simp; omega)))
      have hgl0_5 : g0 < W5.heap.size := by omega
      clear hown hg
      clear p0 p1 p2
      have p0 := HX5.out.cell 0
      have p1 := HX5.out.cell 1
      have p2 := HX5.out.cell 2
      simp at p0 p1 p2
      refine hK.out _ _ ⟨p0, p1, p2⟩ (fun hHeld => ?_)
      clear hK K
      try simp only [Act.put, List.setIfInBounds_toArray, List.set_cons_zero, List.set_cons_succ, List.getElem_toArray, List.getElem_cons_zero, List.getElem_cons_succ]
      have z0 := HZ5.out.cell 0
      have z1 := HZ5.out.cell 1
      have z2 := HZ5.out.cell 2
      have y0 := HZ5.out.frz 0
      have y1 := HZ5.out.frz 1
      have y2 := HZ5.out.frz 2
      have zl := HZ5.out.lt
      simp at z0 z1 z2
      refine wpAnyH_take (i := 10) (v := ?vg12_10) rfl (by kernel_rfl) (by kernel_rfl) (by kernel_rfl) (fun _ _ _ h => h) (Or.inl ⟨by rfl, ?hyg12_10⟩) (by assumption) ?restg12_10
      case hyg12_10 =>
        intro w hSw
        try dsimp only at hSw
        go_simp
        try with_reducible rfl
      try simp only [Act.put, List.setIfInBounds_toArray, List.set_cons_zero, List.set_cons_succ, List.getElem_toArray, List.getElem_cons_zero, List.getElem_cons_succ]
      refine wpAnyH_ready (rs := [11]) (by kernel_rfl) (by simp) ?_
      refine (AllReadyH.cons rfl (fun K hK => ?_) AllReadyH.nil)
      go_simp
      have HE0 := Lib.hid (((HO0_5.out.other ⟨w.heap.size + 1, 0, none⟩ (.int .i64 W) (by show g0 ≠ w.heap.size + 1; omega)).other ⟨w.heap.size + 1, 1, none⟩ (.slice (some ⟨g0, 0, none⟩) n k0) (by show g0 ≠ w.heap.size + 1; omega)).other ⟨w.heap.size + 1, 2, none⟩ (.slice (some ⟨g1, 0, none⟩) n2 k1) (by show g0 ≠ w.heap.size + 1; omega))
      have HE1 := Lib.hid (((HO1_5.out.other ⟨w.heap.size + 1, 0, none⟩ (.int .i64 W) (by show g1 ≠ w.heap.size + 1; omega)).other ⟨w.heap.size + 1, 1, none⟩ (.slice (some ⟨g0, 0, none⟩) n k0) (by show g1 ≠ w.heap.size + 1; omega)).other ⟨w.heap.size + 1, 2, none⟩ (.slice (some ⟨g1, 0, none⟩) n2 k1) (by show g1 ≠ w.heap.size + 1; omega))
      have hng : g0 ≠ g1 := by omega
      have HEB := Lib.hid (((HB5.out.setCell (p := ⟨w.heap.size + 1, 0, none⟩) (by show w.heap.size ≤ w.heap.size + 1; omega) (.int .i64 W)).setCell (p := ⟨w.heap.size + 1, 1, none⟩) (by show w.heap.size ≤ w.heap.size + 1; omega) (.slice (some ⟨g0, 0, none⟩) n k0)).setCell (p := ⟨w.heap.size + 1, 2, none⟩) (by show w.heap.size ≤ w.heap.size + 1; omega) (.slice (some ⟨g1, 0, none⟩) n2 k1))
      have x0 := (HX5.out.other (a := ⟨w.heap.size + 1, 0, none⟩) (by show w.heap.size ≠ w.heap.size + 1; omega) (.int .i64 W))
      have x1 := (x0.other (a := ⟨w.heap.size + 1, 1, none⟩) (by show w.heap.size ≠ w.heap.size + 1; omega) (.slice (some ⟨g0, 0, none⟩) n k0))
      have x2 := (x1.other (a := ⟨w.heap.size + 1, 2, none⟩) (by show w.heap.size ≠ w.heap.size + 1; omega) (.slice (some ⟨g1, 0, none⟩) n2 k1))
      refine hK.out _ _ ⟨x2.cell 0, x2.cell 1, x2.cell 2⟩ (fun hHeld => ?_)
      clear hK K
      try simp only [Act.put, List.setIfInBounds_toArray, List.set_cons_zero, List.set_cons_succ, List.getElem_toArray, List.getElem_cons_zero, List.getElem_cons_succ]
      clear x0 x1 x2
      refine wpAnyH_done (by kernel_rfl) ?_ _
      go_wp2_with fail
      exact bodyPost_ret (v := .agg #[.int .i64 W, .slice (some ⟨g0, 0, none⟩) n k0, .slice (some ⟨g1, 0, none⟩) n2 k1]) (by simp [results, Try.results63, go_sem, z0, z1, z2]) rfl ⟨g0, g1, _, _, rfl, HE0.out, HE1.out, hng, HEB.out⟩
  · go_simp
    have HB2 := Lib.hid (HB1.out.alloc HB1.out.size (.cells #[] 3))
    have HX2 := Lib.hid (HX1.out.alloc (.cells #[] 3))
    have HZ2 := Lib.hid (HZ1.out.alloc (.cells #[] 3))
    have hz2 : W1.heap.size < (W1.alloc (.cells #[] 3)).heap.size := by rw [World.size_alloc]; omega
    have HA1_2 := Lib.hid (Box.new W1 #[] 3)
    obtain ⟨e1, he1⟩ : ∃ e1, W1.heap.size = e1 := ⟨_, rfl⟩
    rw [he1] at HA1_2 hz2
    simp only [he1]
    have hle1 : w.heap.size + 2 ≤ e1 := by omega
    generalize (W1.alloc (.cells #[] 3)) = W2 at HB2 HX2 HZ2 hz2 HA1_2 ⊢
    clear p0 p1 p2
    have p0 := HX2.out.cell 0
    have p1 := HX2.out.cell 1
    have p2 := HX2.out.cell 2
    simp at p0 p1 p2
    refine hK.out _ _ ⟨p0, p1, p2⟩ (fun hHeld => ?_)
    clear hK K
    try simp only [Act.put, List.setIfInBounds_toArray, List.set_cons_zero, List.set_cons_succ, List.getElem_toArray, List.getElem_cons_zero, List.getElem_cons_succ]
    refine wpAnyH_ready (rs := [2]) (by kernel_rfl) (by simp) ?_
    refine (AllReadyH.cons rfl (fun K hK => ?_) AllReadyH.nil)
    go_simp
    have HB3 := Lib.hid (HB2.out.alloc HB2.out.size (.cells #[] 41))
    have HX3 := Lib.hid (HX2.out.alloc (.cells #[] 41))
    have HZ3 := Lib.hid (HZ2.out.alloc (.cells #[] 41))
    have hz3 : W2.heap.size < (W2.alloc (.cells #[] 41)).heap.size := by rw [World.size_alloc]; omega
    have HA0_3 := Lib.hid (Box.new W2 #[] 41)
    have HA1_3 := Lib.hid (HA1_2.out.alloc (.cells #[] 41))
    obtain ⟨e0, he0⟩ : ∃ e0, W2.heap.size = e0 := ⟨_, rfl⟩
    rw [he0] at HA0_3 hz3
    simp only [he0]
    have hle0 : w.heap.size + 2 ≤ e0 := by omega
    have hne1 : e1 ≠ e0 := by omega
    generalize (W2.alloc (.cells #[] 41)) = W3 at HB3 HX3 HZ3 hz3 HA0_3 HA1_3 ⊢
    clear p0 p1 p2
    have p0 := HX3.out.cell 0
    have p1 := HX3.out.cell 1
    have p2 := HX3.out.cell 2
    simp at p0 p1 p2
    refine hK.out _ _ ⟨p0, p1, p2⟩ (fun hHeld => ?_)
    clear hK K
    try simp only [Act.put, List.setIfInBounds_toArray, List.set_cons_zero, List.set_cons_succ, List.getElem_toArray, List.getElem_cons_zero, List.getElem_cons_succ]
    refine wpAnyH_ready (rs := [5]) (by kernel_rfl) (by simp) ?_
    refine (AllReadyH.cons rfl (fun K hK => ?_) AllReadyH.nil)
    refine step_copyE rfl (.tmp 5) (.tmp 7) 25 rfl 41 iT (.agg #[.int .i64 0, .int .i64 0, .int .i64 0, .bool false]) 32 Try.underlying25 HT.out HT0.out HT1.out HT2.out rfl (by decide) one0 e0 n c A l rfl HA0_3.out rfl (HR0.out.wb HB3.out) HL0.out ?q13_3 ?q13_4 ?_
    case q13_3 => simp only [maxLen]; omega
    case q13_4 => omega
    intro g0 k0 W4 hown hg hga0 hgl0_4
    have hge0 := hown.lt.1
    have HO0_4 := Lib.hid (hown.low (show w.heap.size + 2 ≤ e0 by omega))
    have hsz4 := hg.size
    have HX4 := Lib.hid (show Box W4 w.heap.size _ 28 from (hg.block _ HX3.out.lt (by simp; omega)).trans HX3.out)
    have HZ4 := Lib.hid (show Box W4 (w.heap.size + 1) _ 28 from (hg.block _ HZ3.out.lt (by simp; omega)).trans HZ3.out)
    have HB4 := Lib.hid (HB3.out.grown hg HB3.out.size (fun k e => by injection e with e; omega))
    have HA1_4 := Lib.hid (show Box W4 e1 #[] 3 from (hg.block _ HA1_3.out.lt (by simp; omega)).trans HA1_3.out)
    have hel1 := HA1_4.out.lt
    have helo1 := HA1_3.out.lt
    clear hown hg
    clear p0 p1 p2
    have p0 := HX4.out.cell 0
    have p1 := HX4.out.cell 1
    have p2 := HX4.out.cell 2
    simp at p0 p1 p2
    refine hK.out _ _ ⟨p0, p1, p2⟩ (fun hHeld => ?_)
    clear hK K
    try simp only [Act.put, List.setIfInBounds_toArray, List.set_cons_zero, List.set_cons_succ, List.getElem_toArray, List.getElem_cons_zero, List.getElem_cons_succ]
    refine wpAnyH_ready (rs := [9]) (by kernel_rfl) (by simp) ?_
    refine (AllReadyH.cons rfl (fun K hK => ?_) AllReadyH.nil)
    refine step_copyE rfl (.tmp 9) (.tmp 11) 26 rfl 3 iI (.int .i64 0) 8 Try.underlying26 HI.out HI0.out HI1.out HI2.out rfl (by decide) one1 e1 n2 c2 A2 L rfl HA1_4.out rfl (HR1.out.wb HB4.out) HL1.out ?q14_3 ?q14_4 ?_
    case q14_3 => simp only [maxLen]; omega
    case q14_4 => omega
    intro g1 k1 W5 hown hg hga1 hgl1_5
    have hge1 := hown.lt.1
    have HO1_5 := Lib.hid (hown.low (show w.heap.size + 2 ≤ e1 by omega))
    have hsz5 := hg.size
    have HX5 := Lib.hid (show Box W5 w.heap.size _ 28 from (hg.block _ HX4.out.lt (by simp; omega)).trans HX4.out)
    have HZ5 := Lib.hid (show Box W5 (w.heap.size + 1) _ 28 from (hg.block _ HZ4.out.lt (by simp; omega)).trans HZ4.out)
    have HB5 := Lib.hid (HB4.out.grown hg HB4.out.size (fun k e => by injection e with e; omega))
    have HO0_5 := Lib.hid (HO0_4.out.keep (w' := W5) (hg.block _ hgl0_4 (by simp; omega)))
    have hgl0_5 : g0 < W5.heap.size := by omega
    clear hown hg
    clear p0 p1 p2
    have p0 := HX5.out.cell 0
    have p1 := HX5.out.cell 1
    have p2 := HX5.out.cell 2
    simp at p0 p1 p2
    refine hK.out _ _ ⟨p0, p1, p2⟩ (fun hHeld => ?_)
    clear hK K
    try simp only [Act.put, List.setIfInBounds_toArray, List.set_cons_zero, List.set_cons_succ, List.getElem_toArray, List.getElem_cons_zero, List.getElem_cons_succ]
    have z0 := HZ5.out.cell 0
    have z1 := HZ5.out.cell 1
    have z2 := HZ5.out.cell 2
    have y0 := HZ5.out.frz 0
    have y1 := HZ5.out.frz 1
    have y2 := HZ5.out.frz 2
    have zl := HZ5.out.lt
    simp at z0 z1 z2
    refine wpAnyH_take (i := 10) (v := ?vg15_10) rfl (by kernel_rfl) (by kernel_rfl) (by kernel_rfl) (fun _ _ _ h => h) (Or.inl ⟨by rfl, ?hyg15_10⟩) (by assumption) ?restg15_10
    case hyg15_10 =>
      intro w hSw
      try dsimp only at hSw
      go_simp
      try with_reducible rfl
    try simp only [Act.put, List.setIfInBounds_toArray, List.set_cons_zero, List.set_cons_succ, List.getElem_toArray, List.getElem_cons_zero, List.getElem_cons_succ]
    refine wpAnyH_ready (rs := [11]) (by kernel_rfl) (by simp) ?_
    refine (AllReadyH.cons rfl (fun K hK => ?_) AllReadyH.nil)
    go_simp
    have HE0 := Lib.hid (((HO0_5.out.other ⟨w.heap.size + 1, 0, none⟩ (.int .i64 W) (by show g0 ≠ w.heap.size + 1; omega)).other ⟨w.heap.size + 1, 1, none⟩ (.slice (some ⟨g0, 0, none⟩) n k0) (by show g0 ≠ w.heap.size + 1; omega)).other ⟨w.heap.size + 1, 2, none⟩ (.slice (some ⟨g1, 0, none⟩) n2 k1) (by show g0 ≠ w.heap.size + 1; omega))
    have HE1 := Lib.hid (((HO1_5.out.other ⟨w.heap.size + 1, 0, none⟩ (.int .i64 W) (by show g1 ≠ w.heap.size + 1; omega)).other ⟨w.heap.size + 1, 1, none⟩ (.slice (some ⟨g0, 0, none⟩) n k0) (by show g1 ≠ w.heap.size + 1; omega)).other ⟨w.heap.size + 1, 2, none⟩ (.slice (some ⟨g1, 0, none⟩) n2 k1) (by show g1 ≠ w.heap.size + 1; omega))
    have hng : g0 ≠ g1 := by omega
    have HEB := Lib.hid (((HB5.out.setCell (p := ⟨w.heap.size + 1, 0, none⟩) (by show w.heap.size ≤ w.heap.size + 1; omega) (.int .i64 W)).setCell (p := ⟨w.heap.size + 1, 1, none⟩) (by show w.heap.size ≤ w.heap.size + 1; omega) (.slice (some ⟨g0, 0, none⟩) n k0)).setCell (p := ⟨w.heap.size + 1, 2, none⟩) (by show w.heap.size ≤ w.heap.size + 1; omega) (.slice (some ⟨g1, 0, none⟩) n2 k1))
    have x0 := (HX5.out.other (a := ⟨w.heap.size + 1, 0, none⟩) (by show w.heap.size ≠ w.heap.size + 1; omega) (.int .i64 W))
    have x1 := (x0.other (a := ⟨w.heap.size + 1, 1, none⟩) (by show w.heap.size ≠ w.heap.size + 1; omega) (.slice (some ⟨g0, 0, none⟩) n k0))
    have x2 := (x1.other (a := ⟨w.heap.size + 1, 2, none⟩) (by show w.heap.size ≠ w.heap.size + 1; omega) (.slice (some ⟨g1, 0, none⟩) n2 k1))
    refine hK.out _ _ ⟨x2.cell 0, x2.cell 1, x2.cell 2⟩ (fun hHeld => ?_)
    clear hK K
    try simp only [Act.put, List.setIfInBounds_toArray, List.set_cons_zero, List.set_cons_succ, List.getElem_toArray, List.getElem_cons_zero, List.getElem_cons_succ]
    clear x0 x1 x2
    refine wpAnyH_done (by kernel_rfl) ?_ _
    go_wp2_with fail
    exact bodyPost_ret (v := .agg #[.int .i64 W, .slice (some ⟨g0, 0, none⟩) n k0, .slice (some ⟨g1, 0, none⟩) n2 k1]) (by simp [results, Try.results63, go_sem, z0, z1, z2]) rfl ⟨g0, g1, _, _, rfl, HE0.out, HE1.out, hng, HEB.out⟩
end
end Go.Proofs.Ytpmigekejipohaa

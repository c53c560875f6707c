/-
  Locks: the program's slices.Clone of threads and numbers, and copied.
-/
import Derived.Test.YtpmigekejipohaaLIc
import Derived.Test.YtpmigekejipohaaLCopy
import Derived.Lib.SliceRun
import Derived.Deep.RegionHeld3
namespace Go.Proofs.Ytpmigekejipohaa
open Go.RowKit

section
variable {α : Type} {E : El α} {t : TypeId} {w w' : World} {base base' : Nat} {v : Value} {l : List α}
theorem OwnE.framed (h : OwnE E t w base v l) (hb : ∀ g, v.ownBlock = some g → w'.heap[g]? = w.heap[g]?) : OwnE E t w' base v l := by
  refine ⟨h.1, ?_⟩
  rcases h.2 with h2 | ⟨g, cap, cur, e, hg, hhp, h3⟩
  · exact .inl h2
  · exact .inr ⟨g, cap, cur, e, hg, (hb g (by rw [e]; rfl)).trans hhp, h3⟩
theorem OwnE.off (h : OwnE E t w base v l) (p : Addr) (x : Value) (hne : ∀ g, v.ownBlock = some g → g ≠ p.block) : OwnE E t (w.setCell p x) base v l :=
  h.framed fun g hg => heap_setCell_other _ _ _ _ (hne g hg)
theorem OwnE.lower (h : OwnE E t w base v l) (hlo : base' ≤ base) : OwnE E t w base' v l := by
  refine ⟨h.1, ?_⟩
  rcases h.2 with h2 | ⟨g, cap, cur, e, hg, h3⟩
  · exact .inl h2
  · exact .inr ⟨g, cap, cur, e, by omega, h3⟩
theorem OwnE.ltv (h : OwnE E t w base v l) : ∀ g, v.ownBlock = some g → base ≤ g ∧ g < w.heap.size := World.ownsRow.lt h
theorem OwnE.nilv : OwnE E t w base (.slice none 0 0) [] := ⟨by simp, Or.inl ⟨rfl, rfl⟩⟩
/-- what such a value is -/
theorem OwnE.shape (h : OwnE E t w base v l) : ∃ A c, v = .slice A l.length c ∧ l.length ≤ c ∧ (0 < l.length → ∃ g, A = some ⟨g, 0, none⟩) := by
  rcases h.2 with ⟨h2, h3⟩ | ⟨g, cap, cur, e, _, _, h3⟩
  · exact ⟨none, 0, by rw [h2, h3], by omega, fun h0 => by omega⟩
  · exact ⟨_, cap, e, h3.1, fun _ => ⟨g, rfl⟩⟩
theorem OwnE.rowF {A : Option Addr} {n c : Nat} (h : OwnE E t w base (.slice A n c) l) : RowF E w w.heap.size A n l := by
  rcases h.2 with ⟨h2, h3⟩ | ⟨g, cap, cur, e, hg, _⟩
  · injection h2 with _ h4 _
    subst h4
    exact fun h0 => absurd h0 (Nat.lt_irrefl 0)
  · injection e with e1 e2 e3
    subst e1 e2 e3
    exact (OwnE.row h rfl).row fun b hb => by rw [List.mem_singleton] at hb; subst hb; exact (OwnE.lt h).2
end
theorem oneT' (a : EThread) : ∀ u ∈ elThread.C a, u.oneCell' = true := by
  intro u hu
  simp only [elThread, List.mem_cons, List.not_mem_nil, or_false] at hu
  rcases hu with rfl | rfl | rfl | rfl <;> rfl
theorem oneI' (a : Int) : ∀ u ∈ elI.C a, u.oneCell' = true := by
  intro u hu
  rw [List.mem_singleton.1 hu]
  rfl
section
variable {w : World}
set_option maxHeartbeats 1000000 in
theorem cloneI_own {hi n c : Nat} {A : Option Addr} {l : List Int} (hr : RowF elI w hi A n l) (hl : l.length = n) (hs : n ≤ 1048576) :
    Calls Try.prog 80 #[.slice A n c] w fun e w' => ∃ v, e = .returned v ∧ OwnE elI 3 w' w.heap.size v l ∧ Below w.heap.size w w' := by
  have HR := Lib.hid hr
  have HL := Lib.hid hl
  clear hr hl
  have hnil : ∀ (w : World) (a : Option Addr) (n c n' c' : Nat), (binOp .eql 26 (.slice a n c) (.slice none n' c')).run Try.prog w = .ok (.bool a.isNone) w := fun w a n c n' c' => Lib.run_eql_slice_nil w _ _ a n c n' c' Try.underlying26
  have B3 := Lib.hid (Box.new w #[] 3)
  have HB := Lib.hid (show Below w.heap.size w (w.alloc (.cells #[] 3)) from (Below.refl _ _).alloc (Nat.le_refl _) _)
  obtain ⟨i0, hi0, hz0, hz1, hz2⟩ := infoInt
  have HI := Lib.hid hi0
  have HZ0 := Lib.hid hz0
  have HZ1 := Lib.hid hz1
  have HZ2 := Lib.hid hz2
  clear hi0 hz0 hz1 hz2
  cases A with
  | none =>
    obtain rfl : n = 0 := by
      rcases Nat.eq_zero_or_pos n with h | h
      · exact h
      · obtain ⟨_, _, e, _⟩ := HR.out h
        cases e
    obtain rfl : l = [] := List.eq_nil_of_length_eq_zero HL.out
    go_enter Try.func80, Try.ntmps80
    go_wp2_with fail
    refine bodyPost_ret (v := .slice none 0 0) (by simp [results, Try.results80, go_sem]) rfl ⟨_, rfl, OwnE.nilv, Below.refl _ _⟩
  | some ad =>
    go_enter Try.func80, Try.ntmps80
    go_wp2_with (at_builtin
                 refine wpList_copyE rfl _ _ 26 rfl 3 i0 (.int .i64 0) 8 Try.underlying26 HI.out HZ0.out HZ1.out HZ2.out rfl (by decide) oneI' w.heap.size n c (some ad) l rfl B3.out rfl (HR.out.wb HB.out) HL.out (by simp only [maxLen]; omega) (by omega) ?_
                 intro g c' w1 hown hg _ _
                 have HO := Lib.hid hown
                 have HB1 := Lib.hid (HB.out.grown hg HB.out.size (fun k e => by injection e with e; omega))
                 clear hown hg)
    refine bodyPost_ret (v := .slice (some ⟨g, 0, none⟩) n c') (by simp [results, Try.results80, go_sem]) rfl ⟨_, rfl, HO.out, HB1.out⟩
set_option maxHeartbeats 1000000 in
theorem cloneT_own {hi n c : Nat} {A : Option Addr} {l : List EThread} (hr : RowF elThread w hi A n l) (hl : l.length = n) (hs : n ≤ 1048576) :
    Calls Try.prog 79 #[.slice A n c] w fun e w' => ∃ v, e = .returned v ∧ OwnE elThread 41 w' w.heap.size v l ∧ Below w.heap.size w w' := by
  have HR := Lib.hid hr
  have HL := Lib.hid hl
  clear hr hl
  have hnil : ∀ (w : World) (a : Option Addr) (n c n' c' : Nat), (binOp .eql 25 (.slice a n c) (.slice none n' c')).run Try.prog w = .ok (.bool a.isNone) w := fun w a n c n' c' => Lib.run_eql_slice_nil w _ _ a n c n' c' Try.underlying25
  have B3 := Lib.hid (Box.new w #[] 41)
  have HB := Lib.hid (show Below w.heap.size w (w.alloc (.cells #[] 41)) from (Below.refl _ _).alloc (Nat.le_refl _) _)
  obtain ⟨i0, hi0, hz0, hz1, hz2⟩ := infoThread
  have HI := Lib.hid hi0
  have HZ0 := Lib.hid hz0
  have HZ1 := Lib.hid hz1
  have HZ2 := Lib.hid hz2
  clear hi0 hz0 hz1 hz2
  cases A with
  | none =>
    obtain rfl : n = 0 := by
      rcases Nat.eq_zero_or_pos n with h | h
      · exact h
      · obtain ⟨_, _, e, _⟩ := HR.out h
        cases e
    obtain rfl : l = [] := List.eq_nil_of_length_eq_zero HL.out
    go_enter Try.func79, Try.ntmps79
    go_wp2_with fail
    refine bodyPost_ret (v := .slice none 0 0) (by simp [results, Try.results79, go_sem]) rfl ⟨_, rfl, OwnE.nilv, Below.refl _ _⟩
  | some ad =>
    go_enter Try.func79, Try.ntmps79
    go_wp2_with (at_builtin
                 refine wpList_copyE rfl _ _ 25 rfl 41 i0 (.agg #[.int .i64 0, .int .i64 0, .int .i64 0, .bool false]) 32 Try.underlying25 HI.out HZ0.out HZ1.out HZ2.out rfl (by decide) oneT' w.heap.size n c (some ad) l rfl B3.out rfl (HR.out.wb HB.out) HL.out (by simp only [maxLen]; omega) (by omega) ?_
                 intro g c' w1 hown hg _ _
                 have HO := Lib.hid hown
                 have HB1 := Lib.hid (HB.out.grown hg HB.out.size (fun k e => by injection e with e; omega))
                 clear hown hg)
    refine bodyPost_ret (v := .slice (some ⟨g, 0, none⟩) n c') (by simp [results, Try.results79, go_sem]) rfl ⟨_, rfl, HO.out, HB1.out⟩
/-- what copied answers -/
def CopR (w : World) (D : Lk) (e : Ending) (w' : World) : Prop :=
  ∃ A1 c1 A2 c2, e = .returned (.agg #[.int .i64 D.1, .slice A1 D.2.1.length c1, .slice A2 D.2.2.length c2]) ∧ OwnE elThread 41 w' (w.heap.size + 2) (.slice A1 D.2.1.length c1) D.2.1 ∧ OwnE elI 3 w' (w.heap.size + 2) (.slice A2 D.2.2.length c2) D.2.2 ∧
    (∀ a1 a2, A1 = some a1 → A2 = some a2 → a1.block ≠ a2.block) ∧ Below w.heap.size w w'
set_option maxHeartbeats 4000000 in
set_option maxRecDepth 100000 in
theorem copied_any {hi : Nat} {x0 x1 x2 : Value} {D : Lk} (h : tyLock.R w hi [x0, x1, x2] D) (hs : smallLock D) :
    Calls Try.prog 59 #[.agg #[x0, x1, x2]] w (CopR w D) := by
  obtain ⟨A, n, c, A2, n2, c2, hcs, ⟨hl, hn, hr⟩, ⟨hl2, _, hr2⟩⟩ := tyLock_R h
  simp only [List.cons.injEq, and_true] at hcs
  obtain ⟨rfl, rfl, rfl⟩ := hcs
  have HR := Lib.hid hr
  have HR2 := Lib.hid hr2
  have HL := Lib.hid hl
  have HL2 := Lib.hid hl2
  have m1 : n ≤ 1048576 := by have := hs.1; omega
  have m2 : n2 ≤ 1048576 := by have := hs.2; omega
  obtain ⟨W, hW⟩ : ∃ W, D.1 = W := ⟨_, rfl⟩
  have HW := Lib.hid hW
  rw [hW]
  clear h hr hr2 hl hl2 hn hs hW
  have X0 := Lib.hid ((Box.new w #[.int .i64 W, .slice A n c, .slice A2 n2 c2] 28).alloc (.cells #[.int .i64 0, .slice none 0 0, .slice none 0 0] 28))
  have Z0 := Lib.hid (Box.new (w.alloc (.cells #[.int .i64 W, .slice A n c, .slice A2 n2 c2] 28)) #[.int .i64 0, .slice none 0 0, .slice none 0 0] 28)
  simp only [World.size_alloc] at Z0
  have HB0 := Lib.hid (show Below w.heap.size w ((w.alloc (.cells #[.int .i64 W, .slice A n c, .slice A2 n2 c2] 28)).alloc (.cells #[.int .i64 0, .slice none 0 0, .slice none 0 0] 28)) from ((Below.refl _ _).alloc (Nat.le_refl _) _).alloc (by simp only [World.size_alloc]; omega) _)
  go_enter Try.func59, Try.ntmps59
  go_wp2_with fail
  have hsz : ((w.alloc (.cells #[.int .i64 W, .slice A n c, .slice A2 n2 c2] 28)).alloc (.cells #[.int .i64 0, .slice none 0 0, .slice none 0 0] 28)).heap.size = w.heap.size + 2 := by simp only [World.size_alloc]
  generalize ((w.alloc (.cells #[.int .i64 W, .slice A n c, .slice A2 n2 c2] 28)).alloc (.cells #[.int .i64 0, .slice none 0 0, .slice none 0 0] 28)) = W0 at X0 Z0 HB0 hsz ⊢
  have HSZ := Lib.hid hsz
  clear hsz
  have r0 := X0.out.cell 0
  have r1 := X0.out.cell 1
  have r2 := X0.out.cell 2
  simp at r0 r1 r2
  go_region_held3 (fun w' => w'.cell? ⟨w.heap.size, 0, none⟩ = some (.int .i64 W) ∧ w'.cell? ⟨w.heap.size, 1, none⟩ = some (.slice A n c) ∧ w'.cell? ⟨w.heap.size, 2, none⟩ = some (.slice A2 n2 c2))
    (first | with_reducible exact ⟨r0, r1, r2⟩ | go_keep)
    (first
      | (go_at_call 80
         refine (cloneI_own (HR2.out.wb HW1.out) HL2.out m2).mono ?_
         rintro e w2 ⟨v2, rfl, ho2, hb2⟩
         obtain ⟨B2, d2, rfl, _, _⟩ := ho2.shape
         rw [HL2.out] at ho2 ⊢
         have HO2 := Lib.hid ho2
         have HO1' := Lib.hid (HO1.out.below hb2)
         have HW2 := Lib.hid (HW1.out.trans (hb2.mono HW1.out.size))
         have X2 := Lib.hid (X1.out.below hb2 X1.out.lt)
         have Z2 := Lib.hid (Z1.out.below hb2 Z1.out.lt)
         clear ho2 hb2 r0 r1 r2
         have r0 := X2.out.cell 0
         have r1 := X2.out.cell 1
         have r2 := X2.out.cell 2
         simp at r0 r1 r2
         have z0 := Z2.out.cell 0
         have z1 := Z2.out.cell 1
         have z2 := Z2.out.cell 2
         have y0 := Z2.out.frz 0
         have y1 := Z2.out.frz 1
         have y2 := Z2.out.frz 2
         have zl := Z2.out.lt
         simp at z0 z1 z2)
      | (go_at_call 79
         refine (cloneT_own (HR.out.wb HB0.out.drew) HL.out m1).mono ?_
         rintro e w1 ⟨v1, rfl, ho1, hb1⟩
         obtain ⟨B1, d1, rfl, _, _⟩ := ho1.shape
         rw [HL.out] at ho1 ⊢
         have HO1 := Lib.hid ho1
         have HS1 := Lib.hid (show W0.heap.size ≤ w1.heap.size from hb1.size)
         have HW1 := Lib.hid (HB0.out.drew.trans (hb1.mono HB0.out.drew.size))
         have X1 := Lib.hid (Box.below (w := W0.drew) X0.out hb1 X0.out.lt)
         have Z1 := Lib.hid (Box.below (w := W0.drew) Z0.out hb1 Z0.out.lt)
         clear ho1 hb1 r0 r1 r2
         have r0 := X1.out.cell 0
         have r1 := X1.out.cell 1
         have r2 := X1.out.cell 2
         simp at r0 r1 r2))
  have hs0 := HSZ.out
  have hs1 := HS1.out
  have hd1 : ∀ a, B1 = some a → w.heap.size + 2 ≤ a.block ∧ a.block < w1.heap.size := fun a e => by
    have h := HO1.out.ltv a.block (by rw [e]; rfl)
    have h2 : W0.heap.size ≤ a.block := h.1
    omega
  have hd2 : ∀ a, B2 = some a → w1.heap.size ≤ a.block ∧ a.block < w2.heap.size := fun a e => HO2.out.ltv a.block (by rw [e]; rfl)
  have HD1 := Lib.hid hd1
  have HD2 := Lib.hid hd2
  have hob : ∀ (B : Option Addr) (n d g : Nat), (Value.slice B n d).ownBlock = some g → ∃ a, B = some a ∧ a.block = g := fun B n d g e => by
    cases B with
    | none => cases e
    | some a => exact ⟨a, rfl, by injection e⟩
  have HOB := Lib.hid hob
  clear hd1 hd2 hob
  go_wp2_with fail
  refine bodyPost_ret (v := .agg #[.int .i64 W, .slice B1 n d1, .slice B2 n2 d2]) (by simp [results, Try.results59, go_sem, z0, z1, z2]) rfl ⟨B1, d1, B2, d2, by rw [HW.out, HL.out, HL2.out], ?_, ?_, ?_, ?_⟩
  · rw [HL.out]
    refine (((OwnE.lower HO1'.out (by show w.heap.size + 2 ≤ W0.heap.size; omega)).off ⟨w.heap.size + 1, 0, none⟩ _ ?_).off ⟨w.heap.size + 1, 1, none⟩ _ ?_).off ⟨w.heap.size + 1, 2, none⟩ _ ?_
    all_goals
      intro g hg
      obtain ⟨a, e, rfl⟩ := HOB.out _ _ _ _ hg
      have := HD1.out a e
      show a.block ≠ w.heap.size + 1
      omega
  · rw [HL2.out]
    refine (((OwnE.lower HO2.out (by omega)).off ⟨w.heap.size + 1, 0, none⟩ _ ?_).off ⟨w.heap.size + 1, 1, none⟩ _ ?_).off ⟨w.heap.size + 1, 2, none⟩ _ ?_
    all_goals
      intro g hg
      obtain ⟨a, e, rfl⟩ := HOB.out _ _ _ _ hg
      have := HD2.out a e
      show a.block ≠ w.heap.size + 1
      omega
  · intro a1 a2 e1 e2 e
    have h1 := HD1.out a1 e1
    have h2 := HD2.out a2 e2
    omega
  · exact ((HW2.out.setCell (p := ⟨w.heap.size + 1, 0, none⟩) (by show w.heap.size ≤ w.heap.size + 1; omega) _).setCell (p := ⟨w.heap.size + 1, 1, none⟩) (by show w.heap.size ≤ w.heap.size + 1; omega) _).setCell (p := ⟨w.heap.size + 1, 2, none⟩) (by show w.heap.size ≤ w.heap.size + 1; omega) _
end
end Go.Proofs.Ytpmigekejipohaa

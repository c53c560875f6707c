/-
  The program's AreaOk and the methods of an area.
-/
import Derived.Test.YtphanhlaojpbiaaAImpl
import Derived.Test.YtphanhlaojpbiaaAPure3
import Derived.Deep.RegionHeld3
namespace Go.Proofs.Ytphanhlaojpbiaa
open Go.RowKit

section
variable {w : World}
theorem endI_any (a : Ar) (h : 0 ≤ a.f ∧ a.f ≤ 100 ∧ -100 ≤ a.m ∧ a.m ≤ 100) : Calls Try.prog 50 #[.agg #[.int .i64 a.f, .int .i64 a.m, .bool a.w, .bool a.s]] w fun e w' => e = .returned (.int .i64 (a.f + a.m)) ∧ Below w.heap.size w w' := by
  obtain ⟨f, m, u, v⟩ := a
  dsimp only at h ⊢
  have w1 : IntKind.i64.wrap (f + m) = f + m := IntWalk.i64_in _ (by omega)
  clear h
  go_enter Try.func50, Try.ntmps50
  go_wp2_with fail
  go_ret
  exact ⟨rfl, (Below.refl _ _).alloc (Nat.le_refl _) _⟩

/-- the part of an area from u on and below v, be there one or not -/
def partI (a : Ar) (u v : Int) : Ar := ⟨max a.f u, min (a.f + a.m) v - max a.f u, a.w, a.s⟩
/-- three boxes of areas in a row -/
theorem three_boxes (w : World) (c0 c1 c2 : Array Value) (t : TypeId) : Box (((w.alloc (.cells c0 t)).alloc (.cells c1 t)).alloc (.cells c2 t)) w.heap.size c0 t ∧ Box (((w.alloc (.cells c0 t)).alloc (.cells c1 t)).alloc (.cells c2 t)) (w.heap.size + 1) c1 t ∧
    Box (((w.alloc (.cells c0 t)).alloc (.cells c1 t)).alloc (.cells c2 t)) (w.heap.size + 1 + 1) c2 t ∧ Below w.heap.size w (((w.alloc (.cells c0 t)).alloc (.cells c1 t)).alloc (.cells c2 t)) := by
  refine ⟨((Box.new w c0 t).alloc _).alloc _, ?_, ?_, (((Below.refl _ _).alloc (Nat.le_refl _) _).alloc (by rw [World.size_alloc]; omega) _).alloc (by simp only [World.size_alloc]; omega) _⟩
  · have h := (Box.new (w.alloc (.cells c0 t)) c1 t).alloc (.cells c2 t)
    rw [World.size_alloc] at h
    exact h
  · have h := Box.new ((w.alloc (.cells c0 t)).alloc (.cells c1 t)) c2 t
    simp only [World.size_alloc] at h
    exact h

set_option maxHeartbeats 2000000 in
theorem within_any (a : Ar) (u v : Int) (h : 0 ≤ a.f ∧ a.f ≤ 100 ∧ -100 ≤ a.m ∧ a.m ≤ 100) (hu : -100 ≤ u ∧ u ≤ 100) (hv : -100 ≤ v ∧ v ≤ 100) :
    Calls Try.prog 56 #[.agg #[.int .i64 a.f, .int .i64 a.m, .bool a.w, .bool a.s], .int .i64 u, .int .i64 v] w fun e w' =>
      e = .returned (.agg #[.int .i64 (partI a u v).f, .int .i64 (partI a u v).m, .bool (partI a u v).w, .bool (partI a u v).s]) ∧ Below w.heap.size w w' := by
  have HE := Lib.hid (fun w => endI_any (w := w) a h)
  obtain ⟨f, m, y, z⟩ := a
  dsimp only at h HE ⊢
  unfold partI
  dsimp only
  generalize hF : max f u = F
  generalize hM : min (f + m) v = M
  have w1 : IntKind.i64.wrap (M - F) = M - F := IntWalk.i64_in _ (by omega)
  have hF' : (u ≤ f ∧ F = f) ∨ (f < u ∧ F = u) := by omega
  have hM' : (v ≤ f + m ∧ M = v) ∨ (f + m < v ∧ M = f + m) := by omega
  clear hF hM h hu hv
  rcases hF' with ⟨h1, rfl⟩ | ⟨h1, rfl⟩
  · rcases hM' with ⟨h2, rfl⟩ | ⟨h2, rfl⟩
    · go_enter Try.func56, Try.ntmps56
      go_wp2_with fail
      generalize hW : ((World.alloc _ _).alloc _).alloc _ = W
      have h3 := three_boxes w #[.int .i64 F, .int .i64 m, .bool y, .bool z] #[.int .i64 0, .int .i64 0, .bool false, .bool false] #[.int .i64 F, .int .i64 m, .bool y, .bool z] 24
      rw [hW] at h3
      clear hW
      have X3 := Lib.hid (show Box W.drew _ _ _ from h3.1)
      have X6 := Lib.hid (show Box W.drew _ _ _ from h3.2.1)
      have X7 := Lib.hid (show Box W.drew _ _ _ from h3.2.2.1)
      have HB := Lib.hid h3.2.2.2.drew
      clear h3
      have lx := X7.out.lt
      go_region_held3 (fun w' => w'.cell? ⟨w.heap.size, 0, none⟩ = some (.int .i64 F) ∧ w'.cell? ⟨w.heap.size, 1, none⟩ = some (.int .i64 m) ∧ w'.cell? ⟨w.heap.size, 2, none⟩ = some (.bool y) ∧ w'.cell? ⟨w.heap.size, 3, none⟩ = some (.bool z) ∧
          w'.cell? ⟨w.heap.size + 1 + 1, 0, none⟩ = some (.int .i64 F))
        (first | exact ⟨r0, r1, r2, r3, r4⟩ | exact ⟨(cell_off (by show w.heap.size + 1 + 1 ≠ w.heap.size; omega)).trans r0, (cell_off (by show w.heap.size + 1 + 1 ≠ w.heap.size; omega)).trans r1, (cell_off (by show w.heap.size + 1 + 1 ≠ w.heap.size; omega)).trans r2, (cell_off (by show w.heap.size + 1 + 1 ≠ w.heap.size; omega)).trans r3, (World.cell?_setCell_other _ _ _ _ (by simp)).trans r4⟩ | exact ⟨X3.out.cell 0, X3.out.cell 1, X3.out.cell 2, X3.out.cell 3, X7.out.cell 0⟩ | go_keep)
        (first
          | (go_at_call 50
             refine (HE.out _).mono ?_
             rintro e w5 ⟨rfl, hb5⟩
             have HB5 := Lib.hid (HB.out.trans (hb5.mono HB.out.size))
             have Y3 := Lib.hid (X3.out.below hb5 X3.out.lt)
             have Y6 := Lib.hid (X6.out.below hb5 X6.out.lt)
             have Y7 := Lib.hid (X7.out.below hb5 X7.out.lt)
             have r0 : w5.cell? ⟨w.heap.size, 0, none⟩ = some (.int .i64 F) := Y3.out.cell 0
             have r1 : w5.cell? ⟨w.heap.size, 1, none⟩ = some (.int .i64 m) := Y3.out.cell 1
             have r2 : w5.cell? ⟨w.heap.size, 2, none⟩ = some (.bool y) := Y3.out.cell 2
             have r3 : w5.cell? ⟨w.heap.size, 3, none⟩ = some (.bool z) := Y3.out.cell 3
             have r4 : w5.cell? ⟨w.heap.size + 1 + 1, 0, none⟩ = some (.int .i64 F) := Y7.out.cell 0
             have r5 : w5.cell? ⟨w.heap.size + 1 + 1, 1, none⟩ = some (.int .i64 m) := Y7.out.cell 1
             have r6 : w5.frozen? ⟨w.heap.size + 1 + 1, 1, none⟩ = false := Y7.out.frz 1
             clear hb5))
      have e1 : (if M < F + m then M else F + m) = M := by split <;> omega
      rw [e1, w1]
      have Z7 := Lib.hid (Y7.out.set 1 (.int .i64 (M - F)))
      have Z6 := Lib.hid (Y6.out.other (a := ⟨w.heap.size + 1 + 1, 1, none⟩) (by show w.heap.size + 1 ≠ w.heap.size + 1 + 1; omega) (.int .i64 (M - F)))
      have HBZ := Lib.hid (show Below w.heap.size w (w5.setCell ⟨w.heap.size + 1 + 1, 1, none⟩ (.int .i64 (M - F))) from HB5.out.setCell (by show w.heap.size ≤ w.heap.size + 1 + 1; omega) _)
      clear r0 r1 r2 r3 r4 r5 r6 e1 w1 lx
      generalize w5.setCell ⟨w.heap.size + 1 + 1, 1, none⟩ (.int .i64 (M - F)) = wz at Z7 Z6 HBZ ⊢
      have z0 := Z7.out.cell 0
      have z1 := Z7.out.cell 1
      have z2 := Z7.out.cell 2
      have z3 := Z7.out.cell 3
      have y0 := Z6.out.cell 0
      have y1 := Z6.out.cell 1
      have y2 := Z6.out.cell 2
      have y3 := Z6.out.cell 3
      have f0 := Z6.out.frz 0
      have f1 := Z6.out.frz 1
      have f2 := Z6.out.frz 2
      have f3 := Z6.out.frz 3
      simp at z0 z1 z2 z3 y0 y1 y2 y3
      go_wp2_with fail
      refine bodyPost_ret (v := .agg #[.int .i64 F, .int .i64 (M - F), .bool y, .bool z]) (by simp [results, Try.results56, go_sem, y0, y1, y2, y3]) rfl ⟨rfl, ?_⟩
      exact (((HBZ.out.setCell (by show w.heap.size ≤ w.heap.size + 1; omega) _).setCell (by show w.heap.size ≤ w.heap.size + 1; omega) _).setCell (by show w.heap.size ≤ w.heap.size + 1; omega) _).setCell (by show w.heap.size ≤ w.heap.size + 1; omega) _
    · go_enter Try.func56, Try.ntmps56
      go_wp2_with fail
      generalize hW : ((World.alloc _ _).alloc _).alloc _ = W
      have h3 := three_boxes w #[.int .i64 F, .int .i64 m, .bool y, .bool z] #[.int .i64 0, .int .i64 0, .bool false, .bool false] #[.int .i64 F, .int .i64 m, .bool y, .bool z] 24
      rw [hW] at h3
      clear hW
      have X3 := Lib.hid (show Box W.drew _ _ _ from h3.1)
      have X6 := Lib.hid (show Box W.drew _ _ _ from h3.2.1)
      have X7 := Lib.hid (show Box W.drew _ _ _ from h3.2.2.1)
      have HB := Lib.hid h3.2.2.2.drew
      clear h3
      have lx := X7.out.lt
      go_region_held3 (fun w' => w'.cell? ⟨w.heap.size, 0, none⟩ = some (.int .i64 F) ∧ w'.cell? ⟨w.heap.size, 1, none⟩ = some (.int .i64 m) ∧ w'.cell? ⟨w.heap.size, 2, none⟩ = some (.bool y) ∧ w'.cell? ⟨w.heap.size, 3, none⟩ = some (.bool z) ∧
          w'.cell? ⟨w.heap.size + 1 + 1, 0, none⟩ = some (.int .i64 F))
        (first | exact ⟨r0, r1, r2, r3, r4⟩ | exact ⟨(cell_off (by show w.heap.size + 1 + 1 ≠ w.heap.size; omega)).trans r0, (cell_off (by show w.heap.size + 1 + 1 ≠ w.heap.size; omega)).trans r1, (cell_off (by show w.heap.size + 1 + 1 ≠ w.heap.size; omega)).trans r2, (cell_off (by show w.heap.size + 1 + 1 ≠ w.heap.size; omega)).trans r3, (World.cell?_setCell_other _ _ _ _ (by simp)).trans r4⟩ | exact ⟨X3.out.cell 0, X3.out.cell 1, X3.out.cell 2, X3.out.cell 3, X7.out.cell 0⟩ | go_keep)
        (first
          | (go_at_call 50
             refine (HE.out _).mono ?_
             rintro e w5 ⟨rfl, hb5⟩
             have HB5 := Lib.hid (HB.out.trans (hb5.mono HB.out.size))
             have Y3 := Lib.hid (X3.out.below hb5 X3.out.lt)
             have Y6 := Lib.hid (X6.out.below hb5 X6.out.lt)
             have Y7 := Lib.hid (X7.out.below hb5 X7.out.lt)
             have r0 : w5.cell? ⟨w.heap.size, 0, none⟩ = some (.int .i64 F) := Y3.out.cell 0
             have r1 : w5.cell? ⟨w.heap.size, 1, none⟩ = some (.int .i64 m) := Y3.out.cell 1
             have r2 : w5.cell? ⟨w.heap.size, 2, none⟩ = some (.bool y) := Y3.out.cell 2
             have r3 : w5.cell? ⟨w.heap.size, 3, none⟩ = some (.bool z) := Y3.out.cell 3
             have r4 : w5.cell? ⟨w.heap.size + 1 + 1, 0, none⟩ = some (.int .i64 F) := Y7.out.cell 0
             have r5 : w5.cell? ⟨w.heap.size + 1 + 1, 1, none⟩ = some (.int .i64 m) := Y7.out.cell 1
             have r6 : w5.frozen? ⟨w.heap.size + 1 + 1, 1, none⟩ = false := Y7.out.frz 1
             clear hb5))
      have e1 : (if v < F + m then v else F + m) = (F + m) := by split <;> omega
      rw [e1, w1]
      have Z7 := Lib.hid (Y7.out.set 1 (.int .i64 ((F + m) - F)))
      have Z6 := Lib.hid (Y6.out.other (a := ⟨w.heap.size + 1 + 1, 1, none⟩) (by show w.heap.size + 1 ≠ w.heap.size + 1 + 1; omega) (.int .i64 ((F + m) - F)))
      have HBZ := Lib.hid (show Below w.heap.size w (w5.setCell ⟨w.heap.size + 1 + 1, 1, none⟩ (.int .i64 ((F + m) - F))) from HB5.out.setCell (by show w.heap.size ≤ w.heap.size + 1 + 1; omega) _)
      clear r0 r1 r2 r3 r4 r5 r6 e1 w1 lx
      generalize w5.setCell ⟨w.heap.size + 1 + 1, 1, none⟩ (.int .i64 ((F + m) - F)) = wz at Z7 Z6 HBZ ⊢
      have z0 := Z7.out.cell 0
      have z1 := Z7.out.cell 1
      have z2 := Z7.out.cell 2
      have z3 := Z7.out.cell 3
      have y0 := Z6.out.cell 0
      have y1 := Z6.out.cell 1
      have y2 := Z6.out.cell 2
      have y3 := Z6.out.cell 3
      have f0 := Z6.out.frz 0
      have f1 := Z6.out.frz 1
      have f2 := Z6.out.frz 2
      have f3 := Z6.out.frz 3
      simp at z0 z1 z2 z3 y0 y1 y2 y3
      go_wp2_with fail
      refine bodyPost_ret (v := .agg #[.int .i64 F, .int .i64 ((F + m) - F), .bool y, .bool z]) (by simp [results, Try.results56, go_sem, y0, y1, y2, y3]) rfl ⟨rfl, ?_⟩
      exact (((HBZ.out.setCell (by show w.heap.size ≤ w.heap.size + 1; omega) _).setCell (by show w.heap.size ≤ w.heap.size + 1; omega) _).setCell (by show w.heap.size ≤ w.heap.size + 1; omega) _).setCell (by show w.heap.size ≤ w.heap.size + 1; omega) _
  · rcases hM' with ⟨h2, rfl⟩ | ⟨h2, rfl⟩
    · go_enter Try.func56, Try.ntmps56
      go_wp2_with fail
      generalize hW : ((World.alloc _ _).alloc _).alloc _ = W
      have h3 := three_boxes w #[.int .i64 f, .int .i64 m, .bool y, .bool z] #[.int .i64 0, .int .i64 0, .bool false, .bool false] #[.int .i64 F, .int .i64 m, .bool y, .bool z] 24
      rw [hW] at h3
      clear hW
      have X3 := Lib.hid (show Box W.drew _ _ _ from h3.1)
      have X6 := Lib.hid (show Box W.drew _ _ _ from h3.2.1)
      have X7 := Lib.hid (show Box W.drew _ _ _ from h3.2.2.1)
      have HB := Lib.hid h3.2.2.2.drew
      clear h3
      have lx := X7.out.lt
      go_region_held3 (fun w' => w'.cell? ⟨w.heap.size, 0, none⟩ = some (.int .i64 f) ∧ w'.cell? ⟨w.heap.size, 1, none⟩ = some (.int .i64 m) ∧ w'.cell? ⟨w.heap.size, 2, none⟩ = some (.bool y) ∧ w'.cell? ⟨w.heap.size, 3, none⟩ = some (.bool z) ∧
          w'.cell? ⟨w.heap.size + 1 + 1, 0, none⟩ = some (.int .i64 F))
        (first | exact ⟨r0, r1, r2, r3, r4⟩ | exact ⟨(cell_off (by show w.heap.size + 1 + 1 ≠ w.heap.size; omega)).trans r0, (cell_off (by show w.heap.size + 1 + 1 ≠ w.heap.size; omega)).trans r1, (cell_off (by show w.heap.size + 1 + 1 ≠ w.heap.size; omega)).trans r2, (cell_off (by show w.heap.size + 1 + 1 ≠ w.heap.size; omega)).trans r3, (World.cell?_setCell_other _ _ _ _ (by simp)).trans r4⟩ | exact ⟨X3.out.cell 0, X3.out.cell 1, X3.out.cell 2, X3.out.cell 3, X7.out.cell 0⟩ | go_keep)
        (first
          | (go_at_call 50
             refine (HE.out _).mono ?_
             rintro e w5 ⟨rfl, hb5⟩
             have HB5 := Lib.hid (HB.out.trans (hb5.mono HB.out.size))
             have Y3 := Lib.hid (X3.out.below hb5 X3.out.lt)
             have Y6 := Lib.hid (X6.out.below hb5 X6.out.lt)
             have Y7 := Lib.hid (X7.out.below hb5 X7.out.lt)
             have r0 : w5.cell? ⟨w.heap.size, 0, none⟩ = some (.int .i64 f) := Y3.out.cell 0
             have r1 : w5.cell? ⟨w.heap.size, 1, none⟩ = some (.int .i64 m) := Y3.out.cell 1
             have r2 : w5.cell? ⟨w.heap.size, 2, none⟩ = some (.bool y) := Y3.out.cell 2
             have r3 : w5.cell? ⟨w.heap.size, 3, none⟩ = some (.bool z) := Y3.out.cell 3
             have r4 : w5.cell? ⟨w.heap.size + 1 + 1, 0, none⟩ = some (.int .i64 F) := Y7.out.cell 0
             have r5 : w5.cell? ⟨w.heap.size + 1 + 1, 1, none⟩ = some (.int .i64 m) := Y7.out.cell 1
             have r6 : w5.frozen? ⟨w.heap.size + 1 + 1, 1, none⟩ = false := Y7.out.frz 1
             clear hb5))
      have e1 : (if M < f + m then M else f + m) = M := by split <;> omega
      rw [e1, w1]
      have Z7 := Lib.hid (Y7.out.set 1 (.int .i64 (M - F)))
      have Z6 := Lib.hid (Y6.out.other (a := ⟨w.heap.size + 1 + 1, 1, none⟩) (by show w.heap.size + 1 ≠ w.heap.size + 1 + 1; omega) (.int .i64 (M - F)))
      have HBZ := Lib.hid (show Below w.heap.size w (w5.setCell ⟨w.heap.size + 1 + 1, 1, none⟩ (.int .i64 (M - F))) from HB5.out.setCell (by show w.heap.size ≤ w.heap.size + 1 + 1; omega) _)
      clear r0 r1 r2 r3 r4 r5 r6 e1 w1 lx
      generalize w5.setCell ⟨w.heap.size + 1 + 1, 1, none⟩ (.int .i64 (M - F)) = wz at Z7 Z6 HBZ ⊢
      have z0 := Z7.out.cell 0
      have z1 := Z7.out.cell 1
      have z2 := Z7.out.cell 2
      have z3 := Z7.out.cell 3
      have y0 := Z6.out.cell 0
      have y1 := Z6.out.cell 1
      have y2 := Z6.out.cell 2
      have y3 := Z6.out.cell 3
      have f0 := Z6.out.frz 0
      have f1 := Z6.out.frz 1
      have f2 := Z6.out.frz 2
      have f3 := Z6.out.frz 3
      simp at z0 z1 z2 z3 y0 y1 y2 y3
      go_wp2_with fail
      refine bodyPost_ret (v := .agg #[.int .i64 F, .int .i64 (M - F), .bool y, .bool z]) (by simp [results, Try.results56, go_sem, y0, y1, y2, y3]) rfl ⟨rfl, ?_⟩
      exact (((HBZ.out.setCell (by show w.heap.size ≤ w.heap.size + 1; omega) _).setCell (by show w.heap.size ≤ w.heap.size + 1; omega) _).setCell (by show w.heap.size ≤ w.heap.size + 1; omega) _).setCell (by show w.heap.size ≤ w.heap.size + 1; omega) _
    · go_enter Try.func56, Try.ntmps56
      go_wp2_with fail
      generalize hW : ((World.alloc _ _).alloc _).alloc _ = W
      have h3 := three_boxes w #[.int .i64 f, .int .i64 m, .bool y, .bool z] #[.int .i64 0, .int .i64 0, .bool false, .bool false] #[.int .i64 F, .int .i64 m, .bool y, .bool z] 24
      rw [hW] at h3
      clear hW
      have X3 := Lib.hid (show Box W.drew _ _ _ from h3.1)
      have X6 := Lib.hid (show Box W.drew _ _ _ from h3.2.1)
      have X7 := Lib.hid (show Box W.drew _ _ _ from h3.2.2.1)
      have HB := Lib.hid h3.2.2.2.drew
      clear h3
      have lx := X7.out.lt
      go_region_held3 (fun w' => w'.cell? ⟨w.heap.size, 0, none⟩ = some (.int .i64 f) ∧ w'.cell? ⟨w.heap.size, 1, none⟩ = some (.int .i64 m) ∧ w'.cell? ⟨w.heap.size, 2, none⟩ = some (.bool y) ∧ w'.cell? ⟨w.heap.size, 3, none⟩ = some (.bool z) ∧
          w'.cell? ⟨w.heap.size + 1 + 1, 0, none⟩ = some (.int .i64 F))
        (first | exact ⟨r0, r1, r2, r3, r4⟩ | exact ⟨(cell_off (by show w.heap.size + 1 + 1 ≠ w.heap.size; omega)).trans r0, (cell_off (by show w.heap.size + 1 + 1 ≠ w.heap.size; omega)).trans r1, (cell_off (by show w.heap.size + 1 + 1 ≠ w.heap.size; omega)).trans r2, (cell_off (by show w.heap.size + 1 + 1 ≠ w.heap.size; omega)).trans r3, (World.cell?_setCell_other _ _ _ _ (by simp)).trans r4⟩ | exact ⟨X3.out.cell 0, X3.out.cell 1, X3.out.cell 2, X3.out.cell 3, X7.out.cell 0⟩ | go_keep)
        (first
          | (go_at_call 50
             refine (HE.out _).mono ?_
             rintro e w5 ⟨rfl, hb5⟩
             have HB5 := Lib.hid (HB.out.trans (hb5.mono HB.out.size))
             have Y3 := Lib.hid (X3.out.below hb5 X3.out.lt)
             have Y6 := Lib.hid (X6.out.below hb5 X6.out.lt)
             have Y7 := Lib.hid (X7.out.below hb5 X7.out.lt)
             have r0 : w5.cell? ⟨w.heap.size, 0, none⟩ = some (.int .i64 f) := Y3.out.cell 0
             have r1 : w5.cell? ⟨w.heap.size, 1, none⟩ = some (.int .i64 m) := Y3.out.cell 1
             have r2 : w5.cell? ⟨w.heap.size, 2, none⟩ = some (.bool y) := Y3.out.cell 2
             have r3 : w5.cell? ⟨w.heap.size, 3, none⟩ = some (.bool z) := Y3.out.cell 3
             have r4 : w5.cell? ⟨w.heap.size + 1 + 1, 0, none⟩ = some (.int .i64 F) := Y7.out.cell 0
             have r5 : w5.cell? ⟨w.heap.size + 1 + 1, 1, none⟩ = some (.int .i64 m) := Y7.out.cell 1
             have r6 : w5.frozen? ⟨w.heap.size + 1 + 1, 1, none⟩ = false := Y7.out.frz 1
             clear hb5))
      have e1 : (if v < f + m then v else f + m) = (f + m) := by split <;> omega
      rw [e1, w1]
      have Z7 := Lib.hid (Y7.out.set 1 (.int .i64 ((f + m) - F)))
      have Z6 := Lib.hid (Y6.out.other (a := ⟨w.heap.size + 1 + 1, 1, none⟩) (by show w.heap.size + 1 ≠ w.heap.size + 1 + 1; omega) (.int .i64 ((f + m) - F)))
      have HBZ := Lib.hid (show Below w.heap.size w (w5.setCell ⟨w.heap.size + 1 + 1, 1, none⟩ (.int .i64 ((f + m) - F))) from HB5.out.setCell (by show w.heap.size ≤ w.heap.size + 1 + 1; omega) _)
      clear r0 r1 r2 r3 r4 r5 r6 e1 w1 lx
      generalize w5.setCell ⟨w.heap.size + 1 + 1, 1, none⟩ (.int .i64 ((f + m) - F)) = wz at Z7 Z6 HBZ ⊢
      have z0 := Z7.out.cell 0
      have z1 := Z7.out.cell 1
      have z2 := Z7.out.cell 2
      have z3 := Z7.out.cell 3
      have y0 := Z6.out.cell 0
      have y1 := Z6.out.cell 1
      have y2 := Z6.out.cell 2
      have y3 := Z6.out.cell 3
      have f0 := Z6.out.frz 0
      have f1 := Z6.out.frz 1
      have f2 := Z6.out.frz 2
      have f3 := Z6.out.frz 3
      simp at z0 z1 z2 z3 y0 y1 y2 y3
      go_wp2_with fail
      refine bodyPost_ret (v := .agg #[.int .i64 F, .int .i64 ((f + m) - F), .bool y, .bool z]) (by simp [results, Try.results56, go_sem, y0, y1, y2, y3]) rfl ⟨rfl, ?_⟩
      exact (((HBZ.out.setCell (by show w.heap.size ≤ w.heap.size + 1; omega) _).setCell (by show w.heap.size ≤ w.heap.size + 1; omega) _).setCell (by show w.heap.size ≤ w.heap.size + 1; omega) _).setCell (by show w.heap.size ≤ w.heap.size + 1; omega) _

set_option maxHeartbeats 2000000 in
theorem aokI_any (a : Ar) (hm : a.m ≤ 9223372036854775807) : Calls Try.prog 20 #[.agg #[.int .i64 a.f, .int .i64 a.m, .bool a.w, .bool a.s]] w fun e w' => e = .returned (.bool (okA a)) ∧ Below w.heap.size w w' := by
  obtain ⟨f, m, u, v⟩ := a
  dsimp only at hm ⊢
  have HW := Lib.hid (show Below w.heap.size w (w.alloc (.cells #[.int .i64 f, .int .i64 m, .bool u, .bool v] 24)) from (Below.refl _ _).alloc (Nat.le_refl _) _)
  by_cases h1 : 1 ≤ m
  · by_cases h2 : 0 ≤ f
    · have w1 : IntKind.i64.wrap (16 - m) = 16 - m := IntWalk.i64_in _ (by omega)
      by_cases h3 : f ≤ 16 - m
      · have e : okA ⟨f, m, u, v⟩ = true := by unfold okA inB; simp only [Bool.and_eq_true, decide_eq_true_eq]; omega
        rw [e]
        go_enter Try.func20, Try.ntmps20
        go_wp2_with fail
        go_ret
        exact ⟨rfl, HW.out⟩
      · have e : okA ⟨f, m, u, v⟩ = false := by unfold okA inB; dsimp only; rw [← Bool.not_eq_true, Bool.and_eq_true, decide_eq_true_eq, decide_eq_true_eq]; omega
        rw [e]
        go_enter Try.func20, Try.ntmps20
        go_wp2_with fail
        go_ret
        exact ⟨rfl, HW.out⟩
    · have e : okA ⟨f, m, u, v⟩ = false := by unfold okA inB; dsimp only; rw [← Bool.not_eq_true, Bool.and_eq_true, decide_eq_true_eq, decide_eq_true_eq]; omega
      rw [e]
      go_enter Try.func20, Try.ntmps20
      go_wp2_with fail
      go_ret
      exact ⟨rfl, HW.out⟩
  · have e : okA ⟨f, m, u, v⟩ = false := by unfold okA inB; dsimp only; rw [← Bool.not_eq_true, Bool.and_eq_true, decide_eq_true_eq, decide_eq_true_eq]; omega
    rw [e]
    go_enter Try.func20, Try.ntmps20
    go_wp2_with fail
    go_ret
    exact ⟨rfl, HW.out⟩
end
end Go.Proofs.Ytphanhlaojpbiaa

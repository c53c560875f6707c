/-
  The model's l5Copy.
-/
import Derived.Test.YtacndjbhlhbknaaUS1
import Derived.Test.YtacndjbhlhbknaaTCopy
namespace Go.Proofs.Ytacndjbhlhbknaa
open Go.RowKit

section
variable {w : World} {hi : Nat} {x0 x1 x2 : Value} {D : Cr}
set_option maxHeartbeats 1000000 in
theorem l5Copy_any (h : tyCred.R w hi [x0, x1, x2] D) (hs : smallCred D) :
    Calls Try.prog 60 #[.agg #[x0, x1, x2]] w fun e w' => ∃ y0 y1 y2 fp, e = .returned (.agg #[y0, y1, y2]) ∧ tyCred.M w' fp [y0, y1, y2] D ∧ (∀ b ∈ fp, w.heap.size ≤ b ∧ b < w'.heap.size) ∧ Below w.heap.size w w' := by
  obtain ⟨A, n, c, hcs, hl, hn, hr⟩ := tyCred_R h
  simp only [List.cons.injEq, and_true] at hcs
  obtain ⟨rfl, rfl, rfl⟩ := hcs
  unfold smallCred at hs
  rw [hl] at hs
  have HR := Lib.hid hr
  have HL := Lib.hid hl
  clear h hr hl hn
  obtain ⟨u, v, l⟩ := D
  dsimp only at HR HL ⊢
  by_cases hz : 0 < n
  · obtain ⟨b, o, rfl, hbh, hb0, _⟩ := HR.out hz
    obtain ⟨i0, hi0, hz0, hz1, hz2⟩ := infoInt
    have HI := Lib.hid hi0
    have HZ0 := Lib.hid hz0
    have HZ1 := Lib.hid hz1
    have HZ2 := Lib.hid hz2
    clear hi0 hz0 hz1 hz2
    have B1 := Lib.hid ((((Box.new w #[.int .i64 u, .int .i64 v, .slice (some ⟨b, o, none⟩) n c] 25).alloc (.cells #[.int .i64 0, .int .i64 0, .slice none 0 0] 25))).alloc (.cells #[] 3))
    have B2 := Lib.hid ((Box.new (w.alloc (.cells #[.int .i64 u, .int .i64 v, .slice (some ⟨b, o, none⟩) n c] 25)) #[.int .i64 0, .int .i64 0, .slice none 0 0] 25).alloc (.cells #[] 3))
    have B3 := Lib.hid (Box.new ((w.alloc (.cells #[.int .i64 u, .int .i64 v, .slice (some ⟨b, o, none⟩) n c] 25)).alloc (.cells #[.int .i64 0, .int .i64 0, .slice none 0 0] 25)) #[] 3)
    have HB := Lib.hid (show Below w.heap.size w (((w.alloc (.cells #[.int .i64 u, .int .i64 v, .slice (some ⟨b, o, none⟩) n c] 25)).alloc (.cells #[.int .i64 0, .int .i64 0, .slice none 0 0] 25)).alloc (.cells #[] 3)) from (((Below.refl _ _).alloc (Nat.le_refl _) _).alloc (by simp only [World.size_alloc]; omega) _).alloc (by simp only [World.size_alloc]; omega) _)
    simp only [World.size_alloc] at B2 B3
    go_enter Try.func60, Try.ntmps60
    go_wp2_with (at_builtin
                 refine wpList_append_lies _ rfl _ _ 23 rfl w.heap.size 3 i0 (.int .i64 0) 1 8 Try.underlying23 HI.out HZ0.out HZ1.out HZ2.out rfl (by decide) (.slice (some ⟨w.heap.size + 1 + 1, 0, none⟩) 0 0) 0 [] ?hs0 (own_empty' B3.out (by omega)) ⟨b, o, none⟩ n c (l.flatMap elI.C) ?hx0 ?hl0 ?hn0 ?h10 hz ?h63 ?hby ?hba _ rfl ?_
                 case hs0 => rfl
                 case hx0 => rfl
                 case hl0 => rw [flat_len, HL.out]; rfl
                 case hn0 => exact (HR.out.wb HB.out).news HL.out (by decide)
                 case h10 =>
                   intro q hq
                   obtain ⟨z, _, hz2⟩ := List.mem_flatMap.1 hq
                   rw [List.mem_singleton.1 hz2]
                   rfl
                 case h63 => simp only [maxLen]; omega
                 case hby => omega
                 case hba => exact HB.out.size
                 intro g cap w1 hown hg hat hlt
                 rw [Nat.zero_add, List.nil_append] at hown
                 rw [Nat.zero_add]
                 have HM := Lib.hid (RowM.of_owns hown HL.out)
                 have hge := (hown.lt g rfl).1
                 have hgg : w.heap.size + 1 < g := by
                   rcases hat with e | e
                   · simp [Value.ownBlock] at e; omega
                   · simp only [World.size_alloc] at e; omega
                 have B1g := Lib.hid (show Box w1 w.heap.size #[.int .i64 u, .int .i64 v, .slice (some ⟨b, o, none⟩) n c] 25 from (hg.block _ B1.out.lt (by simp [Value.ownBlock]; omega)).trans B1.out)
                 have B2g := Lib.hid (show Box w1 (w.heap.size + 1) #[.int .i64 0, .int .i64 0, .slice none 0 0] 25 from (hg.block _ B2.out.lt (by simp [Value.ownBlock])).trans B2.out)
                 have HB1 := Lib.hid (HB.out.grown hg HB.out.size (fun k e => by simp [Value.ownBlock] at e; omega))
                 clear hown hg hat
                 have p0 := B1g.out.cell 0
                 have p1 := B1g.out.cell 1
                 have p2 := B1g.out.cell 2
                 have p3 := B2g.out.cell 0
                 have p4 := B2g.out.cell 1
                 have p5 := B2g.out.cell 2
                 have f0 := B1g.out.frz 2
                 have f3 := B2g.out.frz 0
                 have f4 := B2g.out.frz 1
                 have f5 := B2g.out.frz 2
                 simp at p0 p1 p2 p3 p4 p5)
    refine bodyPost_ret (v := .agg #[.int .i64 u, .int .i64 v, .slice (some ⟨g, 0, none⟩) n cap]) (by simp [results, Try.results60, go_sem, p3, p4, p5]) rfl ⟨_, _, _, [g], rfl, ?_, ?_, ?_⟩
    · exact tyCred_Mmk (D := (u, v, l)) ⟨HL.out, hs, (((HM.out.off (by omega) _ _).off (by omega) _ _).off (by omega) _ _).off (by omega) _ _⟩
    · intro x hx
      rw [List.mem_singleton] at hx
      subst hx
      simp only [World.size_setCell]
      exact ⟨hge, hlt⟩
    · exact (((HB1.out.setCell (Nat.le_refl _) _).setCell (Nat.le_add_right _ _) _).setCell (Nat.le_add_right _ _) _).setCell (Nat.le_add_right _ _) _
  · obtain rfl : n = 0 := by omega
    cases A
    all_goals
      go_enter Try.func60, Try.ntmps60
      go_wp2_with fail
      refine bodyPost_ret (v := .agg #[.int .i64 u, .int .i64 v, .slice (some ⟨w.heap.size + 1 + 1, 0, none⟩) 0 0]) (by simp [results, Try.results60, go_sem]) rfl ⟨_, _, _, [], rfl, tyCred_Mmk (D := (u, v, l)) (f2 := []) ⟨HL.out, hs, fun h => absurd h (Nat.lt_irrefl 0)⟩, fun b h => absurd h List.not_mem_nil, ?_⟩
      exact (((Below.refl _ _).alloc (Nat.le_refl _) _).alloc (by simp only [World.size_alloc]; omega) _).alloc (by simp only [World.size_alloc]; omega) _
end
end Go.Proofs.Ytacndjbhlhbknaa

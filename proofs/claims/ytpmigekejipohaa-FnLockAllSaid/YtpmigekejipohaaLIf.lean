/-
  Locks: the program's doze.
-/
import Derived.Test.YtpmigekejipohaaLIe
import Derived.Deep.AppendLies
namespace Go.Proofs.Ytpmigekejipohaa
open Go.RowKit

/-- what doze makes of a lock -/
def dzD (D : Lk) (i : Nat) : Lk := if D.1 = 2 then putT D D.1 i ⟨3, (th D i).f1, (th D i).f2, true⟩ (D.2.2 ++ [(i : Int)]) else putT D D.1 i ⟨3, (th D i).f1, (th D i).f2, (th D i).f3⟩ D.2.2
section
variable {w w' : World} {D : Lk} {K g0 c0 c base i : Nat} {A : Option Addr}
/-- another line -/
theorem PL.turn (h : PL w D K g0 c0 A c base) (hK : w'.heap[K]? = w.heap[K]?) (hg : w'.heap[g0]? = w.heap[g0]?) {A' : Option Addr} {c' : Nat} {L' : List Int}
    (hl : OwnE elI 3 w' base (.slice A' L'.length c') L') (hna : ∀ a, A' = some a → a.block ≠ K ∧ a.block ≠ g0) : PL (w'.setCell ⟨K, 2, none⟩ (.slice A' L'.length c')) (D.1, D.2.1, L') K g0 c0 A' c' base where
  box := by
    have h1 : Box w' K _ _ := hK.trans h.box
    have h2 := h1.set 2 (.slice A' L'.length c')
    simp only [List.setIfInBounds_toArray, List.set_cons_zero, List.set_cons_succ] at h2
    exact h2
  row := rowM_offT (h.row.frame fun b hb => by rw [List.mem_singleton] at hb; subst hb; exact hg) ⟨K, 2, none⟩ _ fun e => h.kg e.symm
  line := hl.off ⟨K, 2, none⟩ _ fun g hg => by
    obtain ⟨a, e, rfl⟩ := ownB hg
    exact (hna a e).1
  kg := h.kg
  na := hna
set_option maxHeartbeats 4000000 in
set_option maxRecDepth 100000 in
theorem doze_any (h : PL w D K g0 c0 A c base) (hi : i < D.2.1.length) (hn4 : D.2.1.length ≤ 4) (hn2 : D.2.2.length ≤ 4) (hb : base ≤ w.heap.size) :
    Calls Try.prog 83 #[.pointer (some ⟨K, 0, none⟩), .int .i64 i] w (PlR w (dzD D i) K g0 c0 A base) := by
  have HP := Lib.hid h
  have HI := Lib.hid hi
  have HBS := Lib.hid hb
  have hC := h.cells hi
  obtain ⟨t, ht⟩ : ∃ t, th D i = t := ⟨_, rfl⟩
  have HTT := Lib.hid ht
  rw [ht] at hC
  obtain ⟨W, hW⟩ : ∃ W, D.1 = W := ⟨_, rfl⟩
  have HW := Lib.hid hW
  rw [hW] at hC
  obtain ⟨n, hn⟩ : ∃ n, D.2.1.length = n := ⟨_, rfl⟩
  obtain ⟨n2, hl2⟩ : ∃ n2, D.2.2.length = n2 := ⟨_, rfl⟩
  rw [hn, hl2] at hC
  have HN := Lib.hid hn
  have HL2 := Lib.hid hl2
  have hi1 : (i : Int) < n := by omega
  have hi2 : (0 : Int) ≤ i := by omega
  have HN2 := Lib.hid (show n2 ≤ 4 from by omega)
  have HN4 := Lib.hid (show n ≤ 4 from by omega)
  obtain ⟨p0, p1, p2, pf0, pf2, d0, d1, d2, d3, df0, df1, df2, df3, k1, k2, kl, gl⟩ := hC
  obtain ⟨t0, t1, t2, t3⟩ := t
  dsimp only at d0 d1 d2 d3
  unfold dzD
  by_cases h2 : D.1 = 2
  · rw [if_pos h2]
    obtain rfl : W = 2 := by rw [← HW.out]; exact h2
    obtain ⟨i0, hi0, hz0, hz1, hz2⟩ := infoInt
    have HIN := Lib.hid hi0
    have HZ0 := Lib.hid hz0
    have HZ1 := Lib.hid hz1
    have HZ2 := Lib.hid hz2
    have hP1 := h.fld3 hi (t := ⟨t0, t1, t2, t3⟩) ht true
    have hA1 := hP1.below (w' := (w.setCell ⟨g0, i * 4 + 3, none⟩ (.bool true)).alloc (.cells #[.int .i64 i] 3)) (by rw [List.length_set]; omega) ((Below.refl _ _).alloc (Nat.le_refl _) _)
    have hO1 := hA1.line
    rw [hl2] at hO1
    have HP2 := Lib.hid hA1
    have hC2 := hA1.cells (i := i) (by rw [List.length_set]; exact hi)
    rw [th_setS hi, hl2] at hC2
    have HC2 := Lib.hid hC2
    have HNA := Lib.hid (show ∀ b, (b = K ∨ b = g0) → some b ≠ (Value.slice A n2 c).ownBlock from fun b hb e => by
      obtain ⟨a, e1, e2⟩ := ownB e.symm
      have := h.na a e1
      rcases hb with rfl | rfl
      · exact this.1 e2
      · exact this.2 e2)
    clear hC2
    have HO := Lib.hid hO1
    have HF2 := Lib.hid (show Foot w ((w.setCell ⟨g0, i * 4 + 3, none⟩ (.bool true)).alloc (.cells #[.int .i64 i] 3)) (fpL K g0 A) from ((Foot.refl w _).set fpL_g _ _).trans (Foot.of_below ((Below.refl _ _).alloc (Nat.le_refl _) _) _))
    have HSZ := Lib.hid (show ((w.setCell ⟨g0, i * 4 + 3, none⟩ (.bool true)).alloc (.cells #[.int .i64 i] 3)).heap.size = w.heap.size + 1 from by rw [World.size_alloc, World.size_setCell])
    have HNW := Lib.hid (show Box ((w.setCell ⟨g0, i * 4 + 3, none⟩ (.bool true)).alloc (.cells #[.int .i64 i] 3)) w.heap.size #[.int .i64 i] 3 from by
      have h9 := Box.new (w.setCell ⟨g0, i * 4 + 3, none⟩ (.bool true)) #[.int .i64 i] 3
      rw [World.size_setCell] at h9
      exact h9)
    clear h hi ht h2 hW hi0 hz0 hz1 hz2 hP1 hA1 hO1 d1 d2 hn hl2 hn4 hn2
    go_enter Try.func83, Try.ntmps83
    go_wp2_with (at_builtin
                 refine wpList_append_lies _ rfl (.tmp 23) (.tmp 25) 26 rfl base 3 i0 (.int .i64 0) 1 8 Try.underlying26 HIN.out HZ0.out HZ1.out HZ2.out rfl (by decide) (.slice A n2 c) n2 (D.2.2.flatMap elI.C) ?hs ?hown ⟨w.heap.size, 0, none⟩ 1 1 [.int .i64 i] ?hx rfl ?hnews ?hone (by decide) ?h63 ?hby ?hba (w.heap.size + 1) ?hH ?_
                 case hs => rfl
                 case hown => unfold OwnE at HO; rw [HL2.out] at HO; exact HO.out
                 case hx => rfl
                 case hnews => exact World.news_of_block HNW.out
                 case hone => intro u hu; rw [List.mem_singleton.1 hu]; rfl
                 case h63 => have := HN2.out; simp only [maxLen]; omega
                 case hby => have := HN2.out; omega
                 case hba => have := HSZ.out; have := HBS.out; omega
                 case hH => exact HSZ.out
                 intro g cap w3 hown hg hat hlt
                 have HOW := Lib.hid hown
                 have HGR := Lib.hid hg
                 have HAT := Lib.hid hat
                 have hs3 := hg.size
                 rw [HSZ.out] at hs3
                 have hbK := hg.block K (by rw [HSZ.out]; omega) (HNA.out K (Or.inl rfl))
                 have hbG := hg.block g0 (by rw [HSZ.out]; omega) (HNA.out g0 (Or.inr rfl))
                 have HBK := Lib.hid hbK
                 have HBG := Lib.hid hbG
                 have x2 := (cell_of_block hbK 2).trans HC2.out.p2
                 have xf2 := (frozen_of_block hbK 2).trans HC2.out.pf2
                 have y0 := (cell_of_block hbG (i * 4)).trans HC2.out.d0
                 have yf0 := (frozen_of_block hbG (i * 4)).trans HC2.out.df0
                 have kl3 : K < w3.heap.size := by omega
                 have gl3 : g0 < w3.heap.size := by omega
                 clear hown hg hat hbK hbG)
    have hgk : g ≠ K ∧ g ≠ g0 := by
      rcases HAT.out with e | e
      · exact ⟨fun e2 => HNA.out g (Or.inl e2) e.symm, fun e2 => HNA.out g (Or.inr e2) e.symm⟩
      · omega
    refine bodyPost_end (results_none rfl _ _ _) rfl ⟨some ⟨g, 0, none⟩, cap, rfl, ?_, ?_, fun a' e => ?_⟩
    · have hL : (D.2.2 ++ [(i : Int)]).length = n2 + 1 := by rw [List.length_append, HL2.out]; rfl
      have h1 := HP2.out.turn (w' := w3) HBK.out HBG.out (A' := some ⟨g, 0, none⟩) (c' := cap) (L' := D.2.2 ++ [(i : Int)]) (by
        unfold OwnE
        rw [hL, List.flatMap_append]
        exact HOW.out) (fun a e => by injection e with e; subst e; exact hgk)
      have h2 := h1.fld0 (i := i) (t := ⟨t0, t1, t2, true⟩) (by dsimp only; rw [List.length_set]; exact HI.out) (th_setS (D := D) HI.out) 3
      dsimp only at h2
      rw [List.set_set, hL] at h2
      rw [HTT.out]
      exact h2
    · refine (Foot.set (b := g0) ?_ fpL_g _ _)
      refine (Foot.set (b := K) ?_ fpL_K _ _)
      refine foot_grown HF2.out HGR.out fun k e => ?_
      obtain ⟨a, rfl, rfl⟩ := ownB e
      exact Or.inl fpL_a
    · injection e with e
      subst e
      rcases HAT.out with e | e
      · obtain ⟨a, e1, e2⟩ := ownB e
        exact Or.inl ⟨a, e1, e2.symm⟩
      · right
        show w.heap.size ≤ g
        omega
  · rw [if_neg h2]
    have e2 : (W == 2) = false := by
      rw [HW.out] at h2
      simpa using h2
    clear h hi ht h2 hW d1 d2 d3 hn hl2 hn4 hn2
    go_enter Try.func83, Try.ntmps83
    go_wp2_with fail
    refine bodyPost_end (results_none rfl _ _ _) rfl ⟨A, c, rfl, ?_, (Foot.refl w _).set fpL_g _ _, fun a e => Or.inl ⟨a, e, rfl⟩⟩
    have h1 := HP.out.fld0 HI.out HTT.out 3
    rw [HTT.out]
    exact h1
end
end Go.Proofs.Ytpmigekejipohaa

/-
  The model's LockNew.
-/
import Derived.Test.YtpmigekejipohaaLKit
import Derived.Test.YtpmigekejipohaaLOwn
namespace Go.Proofs.Ytpmigekejipohaa
open Go.RowKit

section
variable {w : World}
theorem nilLock : tyLock.M w [] [.int .i64 0, .slice none 0 0, .slice none 0 0] lkZ :=
  tyLock_Mmk (D := lkZ) (f1 := []) (f2 := []) ⟨rfl, by omega, fun h => absurd h (Nat.lt_irrefl 0)⟩ ⟨rfl, by omega, fun h => absurd h (Nat.lt_irrefl 0)⟩ (fun _ h => absurd h List.not_mem_nil)
theorem nilSmallLk : smallLock lkZ := by unfold smallLock lkZ; simp
set_option maxHeartbeats 2000000 in
theorem lockNew_any : KNew 21 := by
  intro w n t
  have HN := Lib.hid (show newB n t = (inB n 1 4 && inB t 0 3) from rfl)
  have HZ := Lib.hid (Box.new w #[.int .i64 0, .slice none 0 0, .slice none 0 0] 28)
  have HB := Lib.hid (show Below w.heap.size w (w.alloc (.cells #[.int .i64 0, .slice none 0 0, .slice none 0 0] 28)) from (Below.refl _ _).alloc (Nat.le_refl _) _)
  cases h1 : inB n 1 4
  · have HF := Lib.hid (show newB n t = false by rw [HN.out, h1]; rfl)
    have HL := Lib.hid (show newL n t = lkZ by unfold newL; rw [HF.out]; rfl)
    have H1 := Lib.hid h1
    clear h1
    go_enter Try.func21, Try.ntmps21
    go_wp2_with fail
    refine (l6In_any n 1 4 _).mono ?_
    rintro e w1 ⟨rfl, rfl⟩
    rw [H1.out]
    go_wp2_with fail
    exact bodyPost_ret (v := .tuple #[.agg #[.int .i64 0, .slice none 0 0, .slice none 0 0], .bool false]) (by simp [results, Try.results21, go_sem]) rfl ⟨_, _, _, [], by rw [HF.out], by rw [HL.out]; exact nilLock, fun b h => absurd h List.not_mem_nil, by rw [HL.out]; exact nilSmallLk, HB.out⟩
  cases h2 : inB t 0 3
  · have HF := Lib.hid (show newB n t = false by rw [HN.out, h1, h2]; rfl)
    have HL := Lib.hid (show newL n t = lkZ by unfold newL; rw [HF.out]; rfl)
    have H1 := Lib.hid h1
    have H2 := Lib.hid h2
    clear h1 h2
    go_enter Try.func21, Try.ntmps21
    go_wp2_with fail
    refine (l6In_any n 1 4 _).mono ?_
    rintro e w1 ⟨rfl, rfl⟩
    rw [H1.out]
    go_wp2_with fail
    refine (l6In_any t 0 3 _).mono ?_
    rintro e w1 ⟨rfl, rfl⟩
    rw [H2.out]
    go_wp2_with fail
    exact bodyPost_ret (v := .tuple #[.agg #[.int .i64 0, .slice none 0 0, .slice none 0 0], .bool false]) (by simp [results, Try.results21, go_sem]) rfl ⟨_, _, _, [], by rw [HF.out], by rw [HL.out]; exact nilLock, fun b h => absurd h List.not_mem_nil, by rw [HL.out]; exact nilSmallLk, HB.out⟩
  have HF := Lib.hid (show newB n t = true by rw [HN.out, h1, h2]; rfl)
  have HL := Lib.hid (show newL n t = newLk n.toNat t by unfold newL; rw [if_pos HF.out])
  have H1 := Lib.hid h1
  have H2 := Lib.hid h2
  have hb1 := of_inB h1
  obtain ⟨m, hm⟩ : ∃ m : Nat, n = (m : Int) := ⟨n.toNat, by omega⟩
  subst hm
  have hm4 : m ≤ 4 := by omega
  rw [Int.toNat_natCast] at HL
  clear h1 h2 hb1 HN
  obtain ⟨i0, hi0, hz0, hz1, hz2⟩ := infoThread
  have HI := Lib.hid hi0
  have HZ0 := Lib.hid hz0
  have HZ1 := Lib.hid hz1
  have HZ2 := Lib.hid hz2
  clear hi0 hz0 hz1 hz2
  go_enter Try.func21, Try.ntmps21
  go_wp2_with fail
  refine (l6In_any m 1 4 _).mono ?_
  rintro e w1 ⟨rfl, rfl⟩
  rw [H1.out]
  go_wp2_with fail
  refine (l6In_any t 0 3 _).mono ?_
  rintro e w1 ⟨rfl, rfl⟩
  rw [H2.out]
  go_wp2_with fail
  have HBW := Lib.hid (show Below w.heap.size w ((((w.alloc (.cells #[.int .i64 0, .slice none 0 0, .slice none 0 0] 28)).alloc (.cells #[] 41)).alloc (.cells #[] 3)).alloc (.cells #[.int .i64 0, .slice (some ⟨w.heap.size + 1, 0, none⟩) 0 0, .slice (some ⟨w.heap.size + 2, 0, none⟩) 0 0] 28)) from ((((Below.refl _ _).alloc (Nat.le_refl _) _).alloc (by simp only [World.size_alloc]; omega) _).alloc (by simp only [World.size_alloc]; omega) _).alloc (by simp only [World.size_alloc]; omega) _)
  have HRW := Lib.hid (((Box.new w #[.int .i64 0, .slice none 0 0, .slice none 0 0] 28).alloc (.cells #[] 41)).alloc (.cells #[] 3) |>.alloc (.cells #[.int .i64 0, .slice (some ⟨w.heap.size + 1, 0, none⟩) 0 0, .slice (some ⟨w.heap.size + 2, 0, none⟩) 0 0] 28))
  have HTW := Lib.hid (((Box.new (w.alloc (.cells #[.int .i64 0, .slice none 0 0, .slice none 0 0] 28)) #[] 41).alloc (.cells #[] 3)).alloc (.cells #[.int .i64 0, .slice (some ⟨w.heap.size + 1, 0, none⟩) 0 0, .slice (some ⟨w.heap.size + 2, 0, none⟩) 0 0] 28))
  have HKW := Lib.hid (Box.new (((w.alloc (.cells #[.int .i64 0, .slice none 0 0, .slice none 0 0] 28)).alloc (.cells #[] 41)).alloc (.cells #[] 3)) #[.int .i64 0, .slice (some ⟨w.heap.size + 1, 0, none⟩) 0 0, .slice (some ⟨w.heap.size + 2, 0, none⟩) 0 0] 28)
  simp only [World.size_alloc] at HTW HKW
  have hsz : w.heap.size + 4 ≤ ((((w.alloc (.cells #[.int .i64 0, .slice none 0 0, .slice none 0 0] 28)).alloc (.cells #[] 41)).alloc (.cells #[] 3)).alloc (.cells #[.int .i64 0, .slice (some ⟨w.heap.size + 1, 0, none⟩) 0 0, .slice (some ⟨w.heap.size + 2, 0, none⟩) 0 0] 28)).heap.size := by simp only [World.size_alloc]; omega
  generalize (((w.alloc (.cells #[.int .i64 0, .slice none 0 0, .slice none 0 0] 28)).alloc (.cells #[] 41)).alloc (.cells #[] 3)).alloc (.cells #[.int .i64 0, .slice (some ⟨w.heap.size + 1, 0, none⟩) 0 0, .slice (some ⟨w.heap.size + 2, 0, none⟩) 0 0] 28) = W0 at HBW HRW HTW HKW hsz ⊢
  obtain ⟨v0, hv0⟩ : ∃ v0, w.heap.size = v0 := ⟨_, rfl⟩
  rw [hv0] at HBW HRW HTW HKW hsz
  simp only [hv0, Nat.add_assoc, Nat.reduceAdd]
  have HV0 := Lib.hid hv0
  clear hv0 HZ HB
  go_loopw [7] (fun i wr => ∃ k : Nat, k ≤ m ∧ i = .int .i64 k ∧ ∃ g cap, OwnE elThread 41 wr (v0 + 1) (.slice (some ⟨g, 0, none⟩) k cap) (List.replicate k ⟨0, 0, t, false⟩) ∧ (g = v0 + 1 ∨ v0 + 4 ≤ g) ∧ Box wr (v0 + 3) #[.int .i64 0, .slice (some ⟨g, 0, none⟩) k cap, .slice (some ⟨v0 + 2, 0, none⟩) 0 0] 28 ∧ Box wr v0 #[.int .i64 0, .slice none 0 0, .slice none 0 0] 28 ∧ Below v0 w wr ∧ v0 + 4 ≤ wr.heap.size) (fun i _ => m - (intOf i).toNat)
  case atStart => exact ⟨0, Nat.zero_le _, rfl, v0 + 1, 0, own_nil HTW.out (Nat.le_refl _), Or.inl rfl, HKW.out, HRW.out, HBW.out, hsz⟩
  case round =>
    obtain ⟨k, hk, rfl, g, cap, ho, hg4, hkb, hrb, hb, hs⟩ := hrel
    have HO := Lib.hid ho
    have HK := Lib.hid hkb
    have HR := Lib.hid hrb
    have HB := Lib.hid hb
    clear ho hkb hrb hb HBW HRW HTW HKW hsz
    have p0 := HK.out.cell 0
    have p1 := HK.out.cell 1
    have p2 := HK.out.cell 2
    have q0 := HK.out.frz 0
    have q1 := HK.out.frz 1
    have q2 := HK.out.frz 2
    have pl := HK.out.lt
    simp at p0 p1 p2
    by_cases hlt : k < m
    · have hk1 : (k : Int) < m := by omega
      have HLN := Lib.hid (show (List.replicate k (⟨0, 0, t, false⟩ : EThread)).length = k by simp)
      go_wp2_with (at_builtin
                   refine wpList_append_lies _ rfl _ _ 25 rfl (v0 + 1) 41 i0 (.agg #[.int .i64 0, .int .i64 0, .int .i64 0, .bool false]) 4 32 Try.underlying25 HI.out HZ0.out HZ1.out HZ2.out rfl (by decide) (.slice (some ⟨g, 0, none⟩) k cap) (List.replicate k (⟨0, 0, t, false⟩ : EThread)).length _ ?hs0 (HO.out.below ((Below.refl _ _).alloc (Nat.le_refl _) _)) ⟨wr.heap.size, 0, none⟩ 1 1 (elThread.C ⟨0, 0, t, false⟩) ?hx0 ?hl0 ?hn0 ?h10 (by omega) ?h63 ?hby ?hba _ rfl ?_
                   case hs0 => rfl
                   case hx0 => rfl
                   case hl0 => rfl
                   case hn0 => exact elem_new _ _ _ _ rfl
                   case h10 =>
                     intro u hu
                     simp only [elThread, List.mem_cons, List.not_mem_nil, or_false] at hu
                     rcases hu with rfl | rfl | rfl | rfl <;> rfl
                   case h63 => rw [HLN.out]; simp only [maxLen]; omega
                   case hby => rw [HLN.out]; omega
                   case hba => rw [World.size_alloc]; omega
                   intro g1 cap1 w1 hown hgr hat hlt1
                   rw [HLN.out] at hown
                   try rw [HLN.out]
                   have hoa := own_appE HO.out (by omega) (by rw [HLN.out]; exact hown) hgr
                   rw [← List.replicate_succ'] at hoa
                   have HO1 := Lib.hid hoa.1
                   have HB1 := Lib.hid (HB.out.trans (hoa.2.mono (by omega)))
                   have hs1 := hoa.2.size
                   have hge := hoa.1.lt.1
                   have HK1 := Lib.hid (show Box w1 (v0 + 3) _ 28 from (hgr.block _ (by rw [World.size_alloc]; omega) (by simp [Value.ownBlock]; omega)).trans (HK.out.alloc _))
                   have HR1 := Lib.hid (show Box w1 v0 _ 28 from (hgr.block _ (by rw [World.size_alloc]; omega) (by simp [Value.ownBlock]; omega)).trans (HR.out.alloc _))
                   have hg5 : g1 = v0 + 1 ∨ v0 + 4 ≤ g1 := by
                     rcases hat with e | e
                     · simp [Value.ownBlock] at e; omega
                     · rw [World.size_alloc] at e; omega
                   clear p0 p1 p2 q0 q1 q2 pl hown hgr hat hoa
                   have p0 := HK1.out.cell 0
                   have p1 := HK1.out.cell 1
                   have p2 := HK1.out.cell 2
                   have q0 := HK1.out.frz 0
                   have q1 := HK1.out.frz 1
                   have q2 := HK1.out.frz 2
                   have pl := HK1.out.lt
                   simp at p0 p1 p2)
      go_roundw
      case rel =>
        refine ⟨k + 1, by omega, by go_num, g1, cap1, HO1.out.other ⟨v0 + 3, 1, none⟩ (.slice (some ⟨g1, 0, none⟩) (k + 1) cap1) (by show g1 ≠ v0 + 3; omega), hg5, HK1.out.set 1 (.slice (some ⟨g1, 0, none⟩) (k + 1) cap1), HR1.out.other (a := ⟨v0 + 3, 1, none⟩) (by show v0 ≠ v0 + 3; omega) _, HB1.out.setCell (p := ⟨v0 + 3, 1, none⟩) (by show v0 ≤ v0 + 3; omega) _, ?_⟩
        rw [World.size_setCell]; omega
      case measure => simp [intOf]; omega
    · obtain rfl : k = m := by omega
      have z0 := HR.out.cell 0
      have z1 := HR.out.cell 1
      have z2 := HR.out.cell 2
      have y0 := HR.out.frz 0
      have y1 := HR.out.frz 1
      have y2 := HR.out.frz 2
      have zl := HR.out.lt
      simp at z0 z1 z2
      have hge := HO.out.lt
      go_wp2_with fail
      have HM := Lib.hid (HO.out.row (n := k) (by simp))
      refine bodyPost_ret (v := .tuple #[.agg #[.int .i64 0, .slice (some ⟨g, 0, none⟩) k cap, .slice (some ⟨v0 + 2, 0, none⟩) 0 0], .bool true]) (by simp [results, Try.results21, go_sem, z0, z1, z2]) rfl ⟨_, _, _, [g] ++ [], by rw [HF.out], ?_, ?_, ?_, ?_⟩
      · rw [HL.out]
        have hoff : ∀ (W : World) (i : Nat) (x : Value), RowM elThread W [g] (some ⟨g, 0, none⟩) k (List.replicate k ⟨0, 0, t, false⟩) → RowM elThread (W.setCell ⟨v0, i, none⟩ x) [g] (some ⟨g, 0, none⟩) k (List.replicate k ⟨0, 0, t, false⟩) := fun W i x h => h.off (by omega) i x
        exact tyLock_Mmk (D := newLk k t) (f1 := [g]) (f2 := []) ⟨by simp [newLk], by omega, hoff _ _ _ (hoff _ _ _ (hoff _ _ _ HM.out))⟩ ⟨rfl, by omega, fun h => absurd h (Nat.lt_irrefl 0)⟩ (fun _ _ h => absurd h List.not_mem_nil)
      · intro b hb2
        simp only [List.append_nil, List.mem_singleton] at hb2
        subst hb2
        rw [HV0.out]
        simp only [World.size_setCell]
        omega
      · rw [HL.out]; unfold smallLock newLk; simp; omega
      · rw [HV0.out]
        exact ((HB.out.setCell (p := ⟨v0, 0, none⟩) (Nat.le_refl _) _).setCell (p := ⟨v0, 1, none⟩) (Nat.le_refl _) _).setCell (p := ⟨v0, 2, none⟩) (Nat.le_refl _) _
end
end Go.Proofs.Ytpmigekejipohaa

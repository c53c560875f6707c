/-
  l11Add, its room told.
-/
import Derived.Test.YtagggajlpmdpdaaQRoom
namespace Go.Proofs.Ytagggajlpmdpdaa
open Go.RowKit

section
variable {w : World}
set_option maxHeartbeats 4000000 in
set_option maxRecDepth 100000 in
theorem qAdd_k {hi : Nat} {x0 x1 : Value} {D : Qu} (t : ETask) (h : tyQueue.R w hi [x0, x1] D) (hs : D.1.length ≤ 1000) :
    Calls Try.prog 71 #[.agg #[x0, x1], .agg #[.int .i64 t.f0, .int .i64 t.f1, .int .i64 t.f2, .bool t.f3]] w fun e w' => ∃ y0 y1 fp, e = .returned (.agg #[y0, y1]) ∧ tyQueue.M w' fp [y0, y1] (addL t D.1, D.2) ∧ (∀ b ∈ fp, w.heap.size ≤ b ∧ b < w'.heap.size) ∧ CapQ y0 ∧ RoomV w' w.heap.size y0 ∧ Below w.heap.size w w' := by
  obtain ⟨A, n, c, hcs, hl, hn, hr⟩ := tyQueue_R h
  simp only [List.cons.injEq, and_true] at hcs
  obtain ⟨rfl, rfl⟩ := hcs
  obtain ⟨l, F⟩ := D
  dsimp only at hl hr ⊢
  obtain ⟨i0, hi0, hz0, hz1, hz2⟩ := infoTask
  have HI := Lib.hid hi0
  have HZ0 := Lib.hid hz0
  have HZ1 := Lib.hid hz1
  have HZ2 := Lib.hid hz2
  clear hi0 hz0 hz1 hz2
  dsimp only at hs
  rw [hl] at hs
  have HR := Lib.hid (rowT hr)
  have HL := Lib.hid hl
  have HLEN := Lib.hid (addT_len l t)
  have HEND := Lib.hid (addT_end (t := t) hl)
  have HAL := Lib.hid (show (addL t l).length ≤ 1048576 by rw [addL_len, hl]; omega)
  clear h hr hl hn
  have XQ0 := Lib.hid (((Box.new w #[.slice A n c, .int .i64 F] 25).alloc (.cells #[.int .i64 t.f0, .int .i64 t.f1, .int .i64 t.f2, .bool t.f3] 42)).alloc (.cells #[.slice none 0 0, .int .i64 0] 25))
  have XT0 := Lib.hid ((Box.new (w.alloc (.cells #[.slice A n c, .int .i64 F] 25)) #[.int .i64 t.f0, .int .i64 t.f1, .int .i64 t.f2, .bool t.f3] 42).alloc (.cells #[.slice none 0 0, .int .i64 0] 25))
  have XZ0 := Lib.hid (Box.new ((w.alloc (.cells #[.slice A n c, .int .i64 F] 25)).alloc (.cells #[.int .i64 t.f0, .int .i64 t.f1, .int .i64 t.f2, .bool t.f3] 42)) #[.slice none 0 0, .int .i64 0] 25)
  have HB0 := Lib.hid (show Below w.heap.size w (((w.alloc (.cells #[.slice A n c, .int .i64 F] 25)).alloc (.cells #[.int .i64 t.f0, .int .i64 t.f1, .int .i64 t.f2, .bool t.f3] 42)).alloc (.cells #[.slice none 0 0, .int .i64 0] 25)) from (((Below.refl _ _).alloc (Nat.le_refl _) _).alloc (by simp only [World.size_alloc]; omega) _).alloc (by simp only [World.size_alloc]; omega) _)
  have hsz : (((w.alloc (.cells #[.slice A n c, .int .i64 F] 25)).alloc (.cells #[.int .i64 t.f0, .int .i64 t.f1, .int .i64 t.f2, .bool t.f3] 42)).alloc (.cells #[.slice none 0 0, .int .i64 0] 25)).heap.size = w.heap.size + 3 := by simp only [World.size_alloc]
  simp only [World.size_alloc] at XT0 XZ0
  go_enter Try.func71, Try.ntmps71
  go_wp2_with fail
  go_loopw [5, 6, 7] (fun out d i wr => ∃ k : Nat, k ≤ n ∧ i = .int .i64 k ∧ d = .bool (doneT l t k) ∧ OwnT wr (w.heap.size + 3) out (addT l t k) ∧ Box wr w.heap.size #[.slice A n c, .int .i64 F] 25 ∧ Box wr (w.heap.size + 1) #[.int .i64 t.f0, .int .i64 t.f1, .int .i64 t.f2, .bool t.f3] 42 ∧ Box wr (w.heap.size + 1 + 1) #[.slice none 0 0, .int .i64 0] 25 ∧ w.heap.size + 3 ≤ wr.heap.size ∧ Below w.heap.size w wr) (fun _ _ i _ => n - (intOf i).toNat)
  case atStart =>
    have h0 : OwnT ((((w.alloc (.cells #[.slice A n c, .int .i64 F] 25)).alloc (.cells #[.int .i64 t.f0, .int .i64 t.f1, .int .i64 t.f2, .bool t.f3] 42)).alloc (.cells #[.slice none 0 0, .int .i64 0] 25)).alloc (.cells #[] 42)) (((w.alloc (.cells #[.slice A n c, .int .i64 F] 25)).alloc (.cells #[.int .i64 t.f0, .int .i64 t.f1, .int .i64 t.f2, .bool t.f3] 42)).alloc (.cells #[.slice none 0 0, .int .i64 0] 25)).heap.size (.slice (some ⟨(((w.alloc (.cells #[.slice A n c, .int .i64 F] 25)).alloc (.cells #[.int .i64 t.f0, .int .i64 t.f1, .int .i64 t.f2, .bool t.f3] 42)).alloc (.cells #[.slice none 0 0, .int .i64 0] 25)).heap.size, 0, none⟩) 0 0) [] := World.ownsRow_lit (((w.alloc (.cells #[.slice A n c, .int .i64 F] 25)).alloc (.cells #[.int .i64 t.f0, .int .i64 t.f1, .int .i64 t.f2, .bool t.f3] 42)).alloc (.cells #[.slice none 0 0, .int .i64 0] 25)) #[] 0 (Nat.le_refl _) (by simp [maxLen]) rfl
    rw [hsz] at h0
    exact ⟨0, Nat.zero_le _, rfl, rfl, h0, XQ0.out.alloc _, XT0.out.alloc _, XZ0.out.alloc _, by rw [World.size_alloc, hsz]; omega, HB0.out.alloc HB0.out.size _⟩
  case round =>
    obtain ⟨k, hk, rfl, rfl, ho, hq, ht, hz, hsw, hb⟩ := hrel
    have HO1 := Lib.hid ho
    have XQ1 := Lib.hid hq
    have XT1 := Lib.hid ht
    have XZ1 := Lib.hid hz
    have HS1 := Lib.hid hsw
    have HB1 := Lib.hid hb
    clear ho hq ht hz hsw hb XQ0 XT0 XZ0 HB0 hsz
    have hlen := HLEN.out k
    by_cases hlt : k < n
    · obtain ⟨b, o, rfl, hb0, hc⟩ := HR.out (by omega)
      have hk1 : (k : Int) < n := by omega
      have hk2 : (0 : Int) ≤ k := by omega
      have hck := hc k hlt
      have HX := Lib.hid (show addT l t (k + 1) = addT l t k ++ ((if doneT l t k = false ∧ t.f0 < (tA l k).f0 then [t] else []) ++ [tA l k]) from rfl)
      have HD := Lib.hid (show doneT l t (k + 1) = (doneT l t k || decide (t.f0 < (tA l k).f0)) from rfl)
      generalize tA l k = e at hck HX HD
      have HE := Lib.hid hck
      clear hc hck
      obtain ⟨c0, c1, c2, c3⟩ := HE.out.below HB1.out hb0
      have p0 := XQ1.out.cell 0
      have p1 := XQ1.out.cell 1
      have x0 := XT1.out.cell 0
      have x1 := XT1.out.cell 1
      have x2 := XT1.out.cell 2
      have x3 := XT1.out.cell 3
      simp at p0 p1 x0 x1 x2 x3
      generalize doneT l t k = D at HX HD hlen ⊢
      generalize addT l t k = L at HX HO1 hlen
      cases D
      · by_cases hge : t.f0 < e.f0
        · rw [if_pos ⟨rfl, hge⟩] at HX
          rw [decide_eq_true hge] at HD
          have hlen := hlen.2 rfl
          go_wp2_with fail
          go_quiet (fail)
          go_wp2_with (first
            | (at_builtin
               refine wpList_append_own _ rfl _ _ 23 rfl (w.heap.size + 3) 42 i0 (.agg #[.int .i64 0, .int .i64 0, .int .i64 0, .bool false]) 4 32 Try.underlying23 HI.out HZ0.out HZ1.out HZ2.out rfl (by decide) _ _ _ rfl (OwnT.below HO4.out ((Below.refl _ _).alloc (Nat.le_refl _) _)) ⟨w4.heap.size, 0, none⟩ 1 1 (elTask.C e) rfl rfl ?c1z ?c2z ?c3z ?c4z ?c5z ?_
               case c1z => exact task_new _ e _
               case c2z => intro u hu; exact tkC_one [e] u (by simpa [tkC] using hu)
               case c3z => have := hlen; (try simp only [List.length_append, List.length_cons, List.length_nil]); simp only [maxLen]; omega
               case c4z => have := hlen; (try simp only [List.length_append, List.length_cons, List.length_nil]); omega
               case c5z => have := HS4.out; rw [World.size_alloc]; first | exact Nat.le_succ_of_le HS4.out | omega
               intro v5 w5 hown hg _
               have hoa := own_appT (HO4.out) HS4.out hown hg
               have HC5 := Lib.hid (hoa.2 : Below (w.heap.size + 3) w4 w5)
               have HB5 := Lib.hid (HB4.out.trans (HC5.out.mono (by omega)))
               have HO5 := Lib.hid hoa.1
               have HS5 := Lib.hid (Nat.le_trans HS4.out HC5.out.size)
               have XQ5 := Lib.hid (XQ4.out.below HC5.out (by omega))
               have XT5 := Lib.hid (XT4.out.below HC5.out (by omega))
               have XZ5 := Lib.hid (XZ4.out.below HC5.out (by omega))
               clear hown hg hoa)
            | (at_builtin
               refine wpList_append_own _ rfl _ _ 23 rfl (w.heap.size + 3) 42 i0 (.agg #[.int .i64 0, .int .i64 0, .int .i64 0, .bool false]) 4 32 Try.underlying23 HI.out HZ0.out HZ1.out HZ2.out rfl (by decide) _ _ _ rfl (OwnT.below HO1.out ((bel_drewN (Below.refl _ _) _).alloc (Nat.le_refl _) _)) ⟨wr.heap.size, 0, none⟩ 1 1 (elTask.C t) rfl rfl ?c1y ?c2y ?c3y ?c4y ?c5y ?_
               case c1y => exact task_new (wr.drewN _) t _
               case c2y => intro u hu; exact tkC_one [t] u (by simpa [tkC] using hu)
               case c3y => have := hlen; (try simp only [List.length_append, List.length_cons, List.length_nil]); simp only [maxLen]; omega
               case c4y => have := hlen; (try simp only [List.length_append, List.length_cons, List.length_nil]); omega
               case c5y => have := HS1.out; rw [World.size_alloc]; first | exact Nat.le_succ_of_le HS1.out | omega
               intro v4 w4 hown hg _
               have hoa := own_appT (HO1.out.below (bel_drewN (Below.refl _ _) _)) HS1.out hown hg
               have HC4 := Lib.hid ((bel_drewN (Below.refl _ _) _).trans hoa.2 : Below (w.heap.size + 3) wr w4)
               have HB4 := Lib.hid (HB1.out.trans (HC4.out.mono (by omega)))
               have HO4 := Lib.hid hoa.1
               have HS4 := Lib.hid (Nat.le_trans HS1.out HC4.out.size)
               have XQ4 := Lib.hid (XQ1.out.below HC4.out (by omega))
               have XT4 := Lib.hid (XT1.out.below HC4.out (by omega))
               have XZ4 := Lib.hid (XZ1.out.below HC4.out (by omega))
               clear hown hg hoa
               clear p0 p1 x0 x1 x2 x3 c0 c1 c2 c3
               have p0 := XQ4.out.cell 0
               have p1 := XQ4.out.cell 1
               have x0 := XT4.out.cell 0
               have x1 := XT4.out.cell 1
               have x2 := XT4.out.cell 2
               have x3 := XT4.out.cell 3
               simp at p0 p1 x0 x1 x2 x3
               obtain ⟨c0, c1, c2, c3⟩ := HE.out.below HB4.out hb0))
          go_roundw
          case rel => exact ⟨k + 1, by omega, by go_num, by rw [HD.out]; try simp, by rw [HX.out]; simpa using HO5.out, XQ5.out, XT5.out, XZ5.out, HS5.out, HB5.out⟩
          case measure => simp [intOf]; omega
        · rw [if_neg (fun g => hge g.2)] at HX
          rw [decide_eq_false hge] at HD
          have hlen := hlen.2 rfl
          have hge' : e.f0 ≤ t.f0 := by omega
          go_wp2_with fail
          go_quiet (fail)
          go_wp2_with (first
            | (at_builtin
               refine wpList_append_own _ rfl _ _ 23 rfl (w.heap.size + 3) 42 i0 (.agg #[.int .i64 0, .int .i64 0, .int .i64 0, .bool false]) 4 32 Try.underlying23 HI.out HZ0.out HZ1.out HZ2.out rfl (by decide) _ _ _ rfl (OwnT.below HO1.out ((bel_drewN (Below.refl _ _) _).alloc (Nat.le_refl _) _)) ⟨wr.heap.size, 0, none⟩ 1 1 (elTask.C e) rfl rfl ?c1y ?c2y ?c3y ?c4y ?c5y ?_
               case c1y => exact task_new (wr.drewN _) e _
               case c2y => intro u hu; exact tkC_one [e] u (by simpa [tkC] using hu)
               case c3y => have := hlen; (try simp only [List.length_append, List.length_cons, List.length_nil]); simp only [maxLen]; omega
               case c4y => have := hlen; (try simp only [List.length_append, List.length_cons, List.length_nil]); omega
               case c5y => have := HS1.out; rw [World.size_alloc]; first | exact Nat.le_succ_of_le HS1.out | omega
               intro v4 w4 hown hg _
               have hoa := own_appT (HO1.out.below (bel_drewN (Below.refl _ _) _)) HS1.out hown hg
               have HC4 := Lib.hid ((bel_drewN (Below.refl _ _) _).trans hoa.2 : Below (w.heap.size + 3) wr w4)
               have HB4 := Lib.hid (HB1.out.trans (HC4.out.mono (by omega)))
               have HO4 := Lib.hid hoa.1
               have HS4 := Lib.hid (Nat.le_trans HS1.out HC4.out.size)
               have XQ4 := Lib.hid (XQ1.out.below HC4.out (by omega))
               have XT4 := Lib.hid (XT1.out.below HC4.out (by omega))
               have XZ4 := Lib.hid (XZ1.out.below HC4.out (by omega))
               clear hown hg hoa))
          go_roundw
          case rel => exact ⟨k + 1, by omega, by go_num, by rw [HD.out]; try simp, by rw [HX.out]; simpa using HO4.out, XQ4.out, XT4.out, XZ4.out, HS4.out, HB4.out⟩
          case measure => simp [intOf]; omega
      · rw [if_neg (fun g => by cases g.1)] at HX
        rw [Bool.true_or] at HD
        have hlen := hlen.1
        go_wp2_with fail
        go_quiet (fail)
        go_wp2_with (first
          | (at_builtin
             refine wpList_append_own _ rfl _ _ 23 rfl (w.heap.size + 3) 42 i0 (.agg #[.int .i64 0, .int .i64 0, .int .i64 0, .bool false]) 4 32 Try.underlying23 HI.out HZ0.out HZ1.out HZ2.out rfl (by decide) _ _ _ rfl (OwnT.below HO1.out ((bel_drewN (Below.refl _ _) _).alloc (Nat.le_refl _) _)) ⟨wr.heap.size, 0, none⟩ 1 1 (elTask.C e) rfl rfl ?c1y ?c2y ?c3y ?c4y ?c5y ?_
             case c1y => exact task_new (wr.drewN _) e _
             case c2y => intro u hu; exact tkC_one [e] u (by simpa [tkC] using hu)
             case c3y => have := hlen; (try simp only [List.length_append, List.length_cons, List.length_nil]); simp only [maxLen]; omega
             case c4y => have := hlen; (try simp only [List.length_append, List.length_cons, List.length_nil]); omega
             case c5y => have := HS1.out; rw [World.size_alloc]; first | exact Nat.le_succ_of_le HS1.out | omega
             intro v4 w4 hown hg _
             have hoa := own_appT (HO1.out.below (bel_drewN (Below.refl _ _) _)) HS1.out hown hg
             have HC4 := Lib.hid ((bel_drewN (Below.refl _ _) _).trans hoa.2 : Below (w.heap.size + 3) wr w4)
             have HB4 := Lib.hid (HB1.out.trans (HC4.out.mono (by omega)))
             have HO4 := Lib.hid hoa.1
             have HS4 := Lib.hid (Nat.le_trans HS1.out HC4.out.size)
             have XQ4 := Lib.hid (XQ1.out.below HC4.out (by omega))
             have XT4 := Lib.hid (XT1.out.below HC4.out (by omega))
             have XZ4 := Lib.hid (XZ1.out.below HC4.out (by omega))
             clear hown hg hoa))
        go_roundw
        case rel => exact ⟨k + 1, by omega, by go_num, by rw [HD.out]; try simp, by rw [HX.out]; simpa using HO4.out, XQ4.out, XT4.out, XZ4.out, HS4.out, HB4.out⟩
        case measure => simp [intOf]; omega
    · obtain rfl : k = n := by omega
      have HV := Lib.hid (show addL t l = addT l t k ++ (if doneT l t k = true then [] else [t]) from HEND.out)
      have p0 := XQ1.out.cell 0
      have p1 := XQ1.out.cell 1
      have x0 := XT1.out.cell 0
      have x1 := XT1.out.cell 1
      have x2 := XT1.out.cell 2
      have x3 := XT1.out.cell 3
      simp at p0 p1 x0 x1 x2 x3
      generalize doneT l t k = D at HV hlen ⊢
      generalize addT l t k = L at HV HO1 hlen
      cases D
      · rw [if_neg Bool.false_ne_true] at HV
        have hlen := hlen.2 rfl
        go_wp2_with (first
          | (at_builtin
             refine wpList_append_own _ rfl _ _ 23 rfl (w.heap.size + 3) 42 i0 (.agg #[.int .i64 0, .int .i64 0, .int .i64 0, .bool false]) 4 32 Try.underlying23 HI.out HZ0.out HZ1.out HZ2.out rfl (by decide) _ _ _ rfl (OwnT.below HO1.out ((Below.refl _ _).alloc (Nat.le_refl _) _)) ⟨wr.heap.size, 0, none⟩ 1 1 (elTask.C t) rfl rfl ?c1y ?c2y ?c3y ?c4y ?c5y ?_
             case c1y => exact task_new _ t _
             case c2y => intro u hu; exact tkC_one [t] u (by simpa [tkC] using hu)
             case c3y => have := hlen; (try simp only [List.length_append, List.length_cons, List.length_nil]); simp only [maxLen]; omega
             case c4y => have := hlen; (try simp only [List.length_append, List.length_cons, List.length_nil]); omega
             case c5y => have := HS1.out; rw [World.size_alloc]; first | exact Nat.le_succ_of_le HS1.out | omega
             intro v4 w4 hown hg _
             have hoa := own_appT (HO1.out) HS1.out hown hg
             have HC4 := Lib.hid (hoa.2 : Below (w.heap.size + 3) wr w4)
             have HB4 := Lib.hid (HB1.out.trans (HC4.out.mono (by omega)))
             have HO4 := Lib.hid hoa.1
             have HS4 := Lib.hid (Nat.le_trans HS1.out HC4.out.size)
             have XQ4 := Lib.hid (XQ1.out.below HC4.out (by omega))
             have XT4 := Lib.hid (XT1.out.below HC4.out (by omega))
             have XZ4 := Lib.hid (XZ1.out.below HC4.out (by omega))
             clear hown hg hoa
             clear p0 p1 x0 x1 x2 x3
             have HRM := Lib.hid HO4.out.room
             obtain ⟨A', c', fp, hv, hcq, hm, hf⟩ := HO4.out.rowM
             rw [← HV.out] at hv hm hcq
             have HCQ := Lib.hid hcq
             have HM := Lib.hid hm
             have HF := Lib.hid hf
             subst hv
             clear hm hf hcq
             have z0 := XZ4.out.cell 0
             have z1 := XZ4.out.cell 1
             have q0 := XQ4.out.cell 0
             have q1 := XQ4.out.cell 1
             have f0 := XZ4.out.frz 0
             have f1 := XZ4.out.frz 1
             have g0 := XQ4.out.frz 0
             have g1 := XQ4.out.frz 1
             have zl := XZ4.out.lt
             have ql := XQ4.out.lt
             simp at z0 z1 q0 q1))
        refine bodyPost_ret (v := .agg #[.slice A' (addL t l).length c', .int .i64 F]) (by simp [results, Try.results71, go_sem, z0, z1]) rfl ?_
        first
          | refine ⟨.slice A' (addL t l).length c', .int .i64 F, fp, rfl, tyQueue_Mmk (D := (addL t l, F)) ⟨rfl, HAL.out, rowM_off (rowM_off (rowM_off HM.out ⟨w.heap.size, 0, none⟩ _ fun b hb => ?_) ⟨w.heap.size + 1 + 1, 0, none⟩ _ fun b hb => ?_) ⟨w.heap.size + 1 + 1, 1, none⟩ _ fun b hb => ?_⟩, fun b hb => ?_, capQ HCQ.out, ((((HRM.out.cell _ _ _).cell _ _ _).cell _ _ _).low (Nat.le_add_right _ _)), ((HB4.out.setCell (p := ⟨w.heap.size, 0, none⟩) (Nat.le_refl _) _).setCell (p := ⟨w.heap.size + 1 + 1, 0, none⟩) (by show w.heap.size ≤ w.heap.size + 1 + 1; omega) _).setCell (p := ⟨w.heap.size + 1 + 1, 1, none⟩) (by show w.heap.size ≤ w.heap.size + 1 + 1; omega) _⟩
          | refine ⟨.slice A' (addL t l).length c', .int .i64 F, rfl, fp, tyQueue_Mmk (D := (addL t l, F)) ⟨rfl, HAL.out, rowM_off (rowM_off (rowM_off HM.out ⟨w.heap.size, 0, none⟩ _ fun b hb => ?_) ⟨w.heap.size + 1 + 1, 0, none⟩ _ fun b hb => ?_) ⟨w.heap.size + 1 + 1, 1, none⟩ _ fun b hb => ?_⟩, fun b hb => ?_, capQ HCQ.out, ((((HRM.out.cell _ _ _).cell _ _ _).cell _ _ _).low (Nat.le_add_right _ _)), ((HB4.out.setCell (p := ⟨w.heap.size, 0, none⟩) (Nat.le_refl _) _).setCell (p := ⟨w.heap.size + 1 + 1, 0, none⟩) (by show w.heap.size ≤ w.heap.size + 1 + 1; omega) _).setCell (p := ⟨w.heap.size + 1 + 1, 1, none⟩) (by show w.heap.size ≤ w.heap.size + 1 + 1; omega) _⟩
        · have := HF.out b hb; show b ≠ w.heap.size; omega
        · have := HF.out b hb; show b ≠ w.heap.size + 1 + 1; omega
        · have := HF.out b hb; show b ≠ w.heap.size + 1 + 1; omega
        · have := HF.out b hb; simp only [World.size_setCell]; omega
      · rw [if_pos rfl, List.append_nil] at HV
        clear p0 p1 x0 x1 x2 x3
        have HRM := Lib.hid HO1.out.room
        obtain ⟨A', c', fp, hv, hcq, hm, hf⟩ := HO1.out.rowM
        rw [← HV.out] at hv hm hcq
        have HCQ := Lib.hid hcq
        have HM := Lib.hid hm
        have HF := Lib.hid hf
        subst hv
        clear hm hf hcq
        have z0 := XZ1.out.cell 0
        have z1 := XZ1.out.cell 1
        have q0 := XQ1.out.cell 0
        have q1 := XQ1.out.cell 1
        have f0 := XZ1.out.frz 0
        have f1 := XZ1.out.frz 1
        have g0 := XQ1.out.frz 0
        have g1 := XQ1.out.frz 1
        have zl := XZ1.out.lt
        have ql := XQ1.out.lt
        simp at z0 z1 q0 q1
        go_wp2_with fail
        refine bodyPost_ret (v := .agg #[.slice A' (addL t l).length c', .int .i64 F]) (by simp [results, Try.results71, go_sem, z0, z1]) rfl ?_
        first
          | refine ⟨.slice A' (addL t l).length c', .int .i64 F, fp, rfl, tyQueue_Mmk (D := (addL t l, F)) ⟨rfl, HAL.out, rowM_off (rowM_off (rowM_off HM.out ⟨w.heap.size, 0, none⟩ _ fun b hb => ?_) ⟨w.heap.size + 1 + 1, 0, none⟩ _ fun b hb => ?_) ⟨w.heap.size + 1 + 1, 1, none⟩ _ fun b hb => ?_⟩, fun b hb => ?_, capQ HCQ.out, ((((HRM.out.cell _ _ _).cell _ _ _).cell _ _ _).low (Nat.le_add_right _ _)), ((HB1.out.setCell (p := ⟨w.heap.size, 0, none⟩) (Nat.le_refl _) _).setCell (p := ⟨w.heap.size + 1 + 1, 0, none⟩) (by show w.heap.size ≤ w.heap.size + 1 + 1; omega) _).setCell (p := ⟨w.heap.size + 1 + 1, 1, none⟩) (by show w.heap.size ≤ w.heap.size + 1 + 1; omega) _⟩
          | refine ⟨.slice A' (addL t l).length c', .int .i64 F, rfl, fp, tyQueue_Mmk (D := (addL t l, F)) ⟨rfl, HAL.out, rowM_off (rowM_off (rowM_off HM.out ⟨w.heap.size, 0, none⟩ _ fun b hb => ?_) ⟨w.heap.size + 1 + 1, 0, none⟩ _ fun b hb => ?_) ⟨w.heap.size + 1 + 1, 1, none⟩ _ fun b hb => ?_⟩, fun b hb => ?_, capQ HCQ.out, ((((HRM.out.cell _ _ _).cell _ _ _).cell _ _ _).low (Nat.le_add_right _ _)), ((HB1.out.setCell (p := ⟨w.heap.size, 0, none⟩) (Nat.le_refl _) _).setCell (p := ⟨w.heap.size + 1 + 1, 0, none⟩) (by show w.heap.size ≤ w.heap.size + 1 + 1; omega) _).setCell (p := ⟨w.heap.size + 1 + 1, 1, none⟩) (by show w.heap.size ≤ w.heap.size + 1 + 1; omega) _⟩
        · have := HF.out b hb; show b ≠ w.heap.size; omega
        · have := HF.out b hb; show b ≠ w.heap.size + 1 + 1; omega
        · have := HF.out b hb; show b ≠ w.heap.size + 1 + 1; omega
        · have := HF.out b hb; simp only [World.size_setCell]; omega
end
end Go.Proofs.Ytagggajlpmdpdaa

/-
  Queues: the program's QueueTick, QueueAdd, QueueRun.
-/
import Derived.Test.YtagggajlpmdpdaaQI3
import Derived.Test.YtagggajlpmdpdaaReg2
import Derived.Test.YtagggajlpmdpdaaQSB

namespace Go.Proofs.Ytagggajlpmdpdaa
open Go.RowKit

theorem hasB_qB {D : Qu} {id : Int} (h : hasB D id = true) : qB D = true := by
  unfold hasB at h
  exact ((Bool.and_eq_true _ _).mp h).1
theorem tik_ok' {D : Qu} (h : qB D = true) (k : Nat) (hk : k < D.1.length) : TikOk (tA D.1 k) := by
  have h1 := tok_iff.1 ((qB_iff.1 h).1 k hk).1
  exact ⟨h1.2.1, h1.2.2.1.1, h1.2.2.1.2⟩
/-- what a tick answers -/
def TikR (w : World) (o : Option (Qu × Int)) (e : Ending) (w' : World) : Prop :=
  ∃ y0 y1 fp, e = .returned (.tuple #[.agg #[y0, y1], .int .i64 (match o with | none => -1 | some r => r.2), .bool o.isSome]) ∧ tyQueue.M w' fp [y0, y1] (match o with | none => qZ | some r => r.1) ∧ (∀ b ∈ fp, w.heap.size ≤ b ∧ b < w'.heap.size) ∧ smallQueue (match o with | none => qZ | some r => r.1) ∧ CapQ y0 ∧ Below w.heap.size w w'
set_option maxHeartbeats 4000000 in
set_option maxRecDepth 100000 in
theorem queueTikI : QTikM 38 := by
  intro w hi x0 x1 D h hs hcq
  have HR0 := Lib.hid h
  obtain ⟨A, n, c, hcs, hl, hn, hr⟩ := tyQueue_R h
  simp only [List.cons.injEq, and_true] at hcs
  obtain ⟨rfl, rfl⟩ := hcs
  have HSM := Lib.hid hs
  obtain ⟨F, hF⟩ : ∃ F, D.2 = F := ⟨_, rfl⟩
  rw [hF] at HR0 ⊢
  have X1 := Lib.hid ((Box.new w #[.slice A n c, .int .i64 F] 25).alloc (.cells #[.slice none 0 0, .int .i64 0] 25))
  have Z1 := Lib.hid (Box.new (w.alloc (.cells #[.slice A n c, .int .i64 F] 25)) #[.slice none 0 0, .int .i64 0] 25)
  simp only [World.size_alloc] at Z1
  have HB1 := Lib.hid (show Below w.heap.size w ((w.alloc (.cells #[.slice A n c, .int .i64 F] 25)).alloc (.cells #[.slice none 0 0, .int .i64 0] 25)) from ((Below.refl _ _).alloc (Nat.le_refl _) _).alloc (by simp only [World.size_alloc]; omega) _)
  have HT1 := Lib.hid (Ty.below_w HR0.out HB1.out)
  clear h hl hn hr hs hF hcq
  obtain ⟨o, ho⟩ : ∃ o, tikO D = o := ⟨_, rfl⟩
  unfold tikI tikD
  rw [ho]
  suffices hsuf : Calls Try.prog 38 #[.agg #[.slice A n c, .int .i64 F]] w (TikR w o) from hsuf
  have HO := Lib.hid ho
  obtain ⟨r, hr⟩ : ∃ r, nxtR D = r := ⟨_, rfl⟩
  have HRR := Lib.hid hr
  obtain ⟨b, hb⟩ : ∃ b, hasB D r = b := ⟨_, rfl⟩
  have HBB := Lib.hid hb
  obtain ⟨D', hD'⟩ : ∃ D', withD D r tikT = D' := ⟨_, rfl⟩
  have HD' := Lib.hid hD'
  obtain ⟨F', hF'⟩ : ∃ F', D'.2 = F' := ⟨_, rfl⟩
  have HF' := Lib.hid hF'
  clear ho hr hb hD' hF'
  go_enter Try.func38, Try.ntmps38
  go_wp2_with fail
  generalize ((w.alloc (.cells #[.slice A n c, .int .i64 F] 25)).alloc (.cells #[.slice none 0 0, .int .i64 0] 25)) = W0 at X1 Z1 HB1 HT1 ⊢
  refine (queueNxtI HT1.out).mono ?_
  rw [HRR.out]
  rintro e w1 ⟨rfl, hb1⟩
  have HB2 := Lib.hid (HB1.out.trans (hb1.mono HB1.out.size))
  have X2 := Lib.hid (X1.out.below hb1 X1.out.lt)
  have Z2 := Lib.hid (Z1.out.below hb1 Z1.out.lt)
  have HT2 := Lib.hid (Ty.below_w HT1.out hb1)
  clear hb1 X1 Z1 HT1 HB1
  have x0 := X2.out.cell 0
  have x1 := X2.out.cell 1
  have xl := X2.out.lt
  simp at x0 x1
  go_wp2_with fail
  refine (queueWith_any r HT2.out HSM.out (fun fp _ => chTik _ fp) (fun hq k hk _ => tik_ok' hq k hk)).mono ?_
  rintro e w2 ⟨A', m, c', fp, rfl, hq⟩
  rw [HD'.out] at hq
  rw [HD'.out, HBB.out, HF'.out]
  have HQ := Lib.hid (hq.up HB2.out)
  have HB3 := Lib.hid (HB2.out.trans (hq.below.mono HB2.out.size))
  have HFP := Lib.hid (fun b (hm : b ∈ fp) => (show w.heap.size + 1 < b ∧ b < w2.heap.size from by have := hq.own b hm; have := Z2.out.lt; omega))
  have Z3 := Lib.hid (Z2.out.below hq.below Z2.out.lt)
  have HLM := Lib.hid hq.len
  have HMS := Lib.hid hq.small
  have HCP := Lib.hid hq.cap
  clear hq X2 Z2 HT2 HB2 x0 x1 xl
  have XN4 := Lib.hid (Box.new w2 #[.slice A' m c', .int .i64 F'] 25)
  have Z4 := Lib.hid (Z3.out.alloc (.cells #[.slice A' m c', .int .i64 F'] 25))
  have HB4 := Lib.hid (HB3.out.alloc HB3.out.size (.cells #[.slice A' m c', .int .i64 F'] 25))
  have HM4 := Lib.hid (HQ.out.row.frame (w' := w2.alloc (.cells #[.slice A' m c', .int .i64 F'] 25)) fun b hb => heap_alloc_old _ _ (HFP.out b hb).2)
  have HSZ4 := Lib.hid (show (w2.alloc (.cells #[.slice A' m c', .int .i64 F'] 25)).heap.size = w2.heap.size + 1 from by simp)
  have HWZ := Lib.hid (Z3.out.lt)
  clear Z3 HB3
  cases b
  · obtain rfl : o = none := by rw [← HO.out]; exact tik_bad (by rw [HRR.out]; exact HBB.out)
    have z0 := Z4.out.cell 0
    have z1 := Z4.out.cell 1
    have y0 := Z4.out.frz 0
    have y1 := Z4.out.frz 1
    have zl := Z4.out.lt
    simp at z0 z1 y0 y1
    go_wp2_with fail
    refine bodyPost_ret (v := .tuple #[.agg #[.slice none 0 0, .int .i64 0], .int .i64 (-1), .bool false]) (by simp [results, Try.results38, go_sem, z0, z1]) rfl ⟨.slice none 0 0, .int .i64 0, [], rfl, ?_⟩
    have hq := QM.zero ((HB4.out.setCell (p := ⟨w.heap.size + 1, 0, none⟩) (by show w.heap.size ≤ w.heap.size + 1; omega) (.slice none 0 0)).setCell (p := ⟨w.heap.size + 1, 1, none⟩) (by show w.heap.size ≤ w.heap.size + 1; omega) (.int .i64 0))
    exact ⟨hq.ty, hq.own, hq.sm, capQ hq.cap, hq.below⟩
  obtain ⟨b2, hb2⟩ : ∃ b2, qB D' = b2 := ⟨_, rfl⟩
  have HB5 := Lib.hid hb2
  have HYES := Lib.hid (tik_yesP (D := D) (by rw [HRR.out]; exact HBB.out) (D' := D') (by rw [← HD'.out, HRR.out]; exact if_pos HBB.out))
  clear hb2
  have HT4 := Lib.hid (show tyQueue.R (w2.alloc (.cells #[.slice A' m c', .int .i64 F'] 25)) (w2.heap.size + 1) [.slice A' m c', .int .i64 F'] D' from by
    rw [← HF'.out]
    rw [← HF'.out] at HM4
    exact tyQueue.mr (tyQueue_Mmk ⟨HLM.out, HMS.out, HM4.out⟩) fun b hb => by have := HFP.out b hb; omega)
  go_wp2_with fail
  generalize w2.alloc (.cells #[.slice A' m c', .int .i64 F'] 25) = W3 at XN4 Z4 HB4 HM4 HSZ4 HT4 ⊢
  refine (queueOkI HT4.out).mono ?_
  rw [HB5.out]
  rintro e w4 ⟨rfl, hb4⟩
  have HBX := Lib.hid (HB4.out.trans (hb4.mono HB4.out.size))
  replace XN4 := Lib.hid (XN4.out.below hb4 XN4.out.lt)
  replace Z4 := Lib.hid (Z4.out.below hb4 Z4.out.lt)
  replace HM4 := Lib.hid (HM4.out.frame (w' := w4) fun b hb => hb4.block b (by have := HFP.out b hb; have := HSZ4.out; omega))
  have HS4 := Lib.hid (show w2.heap.size < w4.heap.size from by have := hb4.size; have := HSZ4.out; omega)
  clear hb4 HT4 HB4 HSZ4
  have k0 := XN4.out.cell 0
  have k1 := XN4.out.cell 1
  have kl := XN4.out.lt
  have z0 := Z4.out.cell 0
  have z1 := Z4.out.cell 1
  have y0 := Z4.out.frz 0
  have y1 := Z4.out.frz 1
  have zl := Z4.out.lt
  simp at k0 k1 z0 z1
  cases b2
  · obtain rfl : o = none := by rw [← HO.out]; exact HYES.out.1 HB5.out
    go_wp2_with fail
    refine bodyPost_ret (v := .tuple #[.agg #[.slice none 0 0, .int .i64 0], .int .i64 (-1), .bool false]) (by simp [results, Try.results38, go_sem, z0, z1]) rfl ⟨.slice none 0 0, .int .i64 0, [], rfl, ?_⟩
    have hq := QM.zero ((HBX.out.setCell (p := ⟨w.heap.size + 1, 0, none⟩) (by show w.heap.size ≤ w.heap.size + 1; omega) (.slice none 0 0)).setCell (p := ⟨w.heap.size + 1, 1, none⟩) (by show w.heap.size ≤ w.heap.size + 1; omega) (.int .i64 0))
    exact ⟨hq.ty, hq.own, hq.sm, capQ hq.cap, hq.below⟩
  · obtain ⟨t, ht⟩ : ∃ t, tA (lineL D'.1) 0 = t := ⟨_, rfl⟩
    have HTT := Lib.hid ht
    have HLINE := Lib.hid (HYES.out.2 HB5.out).1
    obtain ⟨M, hM⟩ : ∃ M, max F' t.f2 = M := ⟨_, rfl⟩
    have HMM := Lib.hid hM
    obtain rfl : o = some ((D'.1, M), r) := by rw [← HO.out, (HYES.out.2 HB5.out).2, HF'.out, HTT.out, HMM.out, HRR.out]
    have H6 := Lib.hid (show m ≤ 6 from by rw [← HLM.out]; exact (qB_iff.1 HB5.out).2.1)
    have HRD := Lib.hid (show RowF elTask w4.drew w4.heap.size A' m D'.1 from (HM4.out.row fun b hb => by have := HFP.out b hb; have := HS4.out; omega).frame fun _ _ => rfl)
    clear ht hM HYES HD' HO
    clear k0 k1 kl z0 z1 y0 y1 zl
    go_wp2_with fail
    refine goAny_drew (z := 9) (S := fun w' => w'.cell? ⟨w2.heap.size, 0, none⟩ = some (.slice A' m c') ∧ w'.cell? ⟨w2.heap.size, 1, none⟩ = some (.int .i64 F')) (by kernel_rfl) ⟨XN4.out.cell 0, XN4.out.cell 1⟩ (fun hHeld => ?_)
    generalize hwd : w4.drew = w4d at hHeld ⊢
    subst hwd
    refine goAny_take (i := 0) (v := ?vt0) (by kernel_rfl) (by kernel_rfl) rfl (by kernel_rfl) (by kernel_rfl) (by kernel_rfl) (fun _ _ _ h => h) (Or.inl ⟨by rfl, ?hyt0⟩) (by assumption) ?restt0
    case hyt0 =>
      intro w hSw
      try dsimp only at hSw
      go_simp
      try with_reducible rfl
    simp only [Act.put, List.setIfInBounds_toArray, List.set_cons_zero, List.set_cons_succ, List.getElem_toArray, List.getElem_cons_zero]
    refine goAny_take (i := 1) (v := ?vt1) (by kernel_rfl) (by kernel_rfl) rfl (by kernel_rfl) (by kernel_rfl) (by kernel_rfl) (fun _ _ _ h => h) (Or.inl ⟨by rfl, ?hyt1⟩) (by assumption) ?restt1
    case hyt1 =>
      intro w hSw
      try dsimp only at hSw
      go_simp
      try with_reducible rfl
    simp only [Act.put, List.setIfInBounds_toArray, List.set_cons_zero, List.set_cons_succ, List.getElem_toArray, List.getElem_cons_zero, List.getElem_cons_succ]
    refine goAny_take (i := 2) (v := ?vt2) (by kernel_rfl) (by kernel_rfl) rfl (by kernel_rfl) (by kernel_rfl) (by kernel_rfl) (fun _ _ _ h => h) (Or.inl ⟨by rfl, ?hyt2⟩) (by assumption) ?restt2
    case hyt2 =>
      intro w hSw
      try dsimp only at hSw
      go_simp
      try with_reducible rfl
    simp only [Act.put, List.setIfInBounds_toArray, List.set_cons_zero, List.set_cons_succ, List.getElem_toArray, List.getElem_cons_zero, List.getElem_cons_succ]
    refine goAny_step (i := 3) (by kernel_rfl) rfl (fun K hK => ?_)
    go_simp
    refine (line_any HRD.out HLM.out H6.out).mono ?_
    rintro e w5 ⟨A2, m2, c2, rfl, hl2, hm26, hm2, hb5⟩
    have HB5 := Lib.hid ((Below.refl _ w4).drew.trans hb5)
    have HLL := Lib.hid hl2
    have HT2 := Lib.hid (rowT hm2)
    have HM26 := Lib.hid hm26
    have HN2 := Lib.hid (show 0 < m2 from by rw [← hl2]; exact HLINE.out)
    have XN5 := Lib.hid (XN4.out.below HB5.out XN4.out.lt)
    have Z5 := Lib.hid (Z4.out.below HB5.out Z4.out.lt)
    clear hl2 hm2 hb5 hm26
    obtain ⟨b2, o2, rfl, hb2, hcc⟩ := HT2.out HN2.out
    obtain ⟨c0, c1, c2', c3⟩ := hcc 0 HN2.out
    clear hcc
    simp only [Nat.zero_mul, Nat.add_zero] at c0 c1 c2' c3
    rw [HTT.out] at c0 c1 c2' c3
    have hm1 : (0 : Int) < m2 := by have := HN2.out; omega
    have hm0 : 0 < m2 := HN2.out
    have k0 := XN5.out.cell 0
    have k1 := XN5.out.cell 1
    have q1 := XN5.out.frz 1
    have kl := XN5.out.lt
    simp at k0 k1
    refine hK.out _ _ ?_ (fun hHeld => ?_)
    · exact ⟨XN5.out.cell 0, XN5.out.cell 1⟩
    clear hK K
    try simp only [Act.put, List.setIfInBounds_toArray, List.set_cons_zero, List.set_cons_succ, List.getElem_toArray, List.getElem_cons_zero, List.getElem_cons_succ]
    refine goAny_step (i := 4) (by kernel_rfl) rfl (fun K hK => ?_)
    go_simp
    skip
    refine hK.out _ _ ?_ (fun hHeld => ?_)
    · exact hHeld
    clear hK K
    try simp only [Act.put, List.setIfInBounds_toArray, List.set_cons_zero, List.set_cons_succ, List.getElem_toArray, List.getElem_cons_zero, List.getElem_cons_succ]
    refine goAny_step (i := 5) (by kernel_rfl) rfl (fun K hK => ?_)
    go_simp
    skip
    refine hK.out _ _ ?_ (fun hHeld => ?_)
    · exact hHeld
    clear hK K
    try simp only [Act.put, List.setIfInBounds_toArray, List.set_cons_zero, List.set_cons_succ, List.getElem_toArray, List.getElem_cons_zero, List.getElem_cons_succ]
    refine goAny_step (i := 6) (by kernel_rfl) rfl (fun K hK => ?_)
    go_simp
    skip
    refine hK.out _ _ ?_ (fun hHeld => ?_)
    · exact hHeld
    clear hK K
    try simp only [Act.put, List.setIfInBounds_toArray, List.set_cons_zero, List.set_cons_succ, List.getElem_toArray, List.getElem_cons_zero, List.getElem_cons_succ]
    refine goAny_take (i := 7) (v := ?vt7) (by kernel_rfl) (by kernel_rfl) rfl (by kernel_rfl) (by kernel_rfl) (by kernel_rfl) (fun _ _ _ h => h) (Or.inl ⟨by rfl, ?hyt7⟩) (by assumption) ?restt7
    case hyt7 =>
      intro w hSw
      try dsimp only at hSw
      go_simp
      try with_reducible rfl
    simp only [Act.put, List.setIfInBounds_toArray, List.set_cons_zero, List.set_cons_succ, List.getElem_toArray, List.getElem_cons_zero, List.getElem_cons_succ]
    refine goAny_take (i := 8) (v := ?vt8) (by kernel_rfl) (by kernel_rfl) rfl (by kernel_rfl) (by kernel_rfl) (by kernel_rfl) (fun _ _ _ h => h) (Or.inl ⟨by rfl, ?hyt8⟩) (by assumption) ?restt8
    case hyt8 =>
      intro w hSw
      try dsimp only at hSw
      go_simp
      try with_reducible rfl
    simp only [Act.put, List.setIfInBounds_toArray, List.set_cons_zero, List.set_cons_succ, List.getElem_toArray, List.getElem_cons_zero, List.getElem_cons_succ]
    refine goAny_last (by kernel_rfl) (by kernel_rfl) rfl (fun K hK => ?_)
    go_simp
    skip
    refine hK.out _ _ ?_
    clear hK K
    try simp only [Act.put, List.setIfInBounds_toArray, List.set_cons_zero, List.set_cons_succ, List.getElem_toArray, List.getElem_cons_zero, List.getElem_cons_succ]
    have hMM : (if F' < t.f2 then t.f2 else F') = M := by
      rw [← HMM.out]
      split <;> omega
    rw [hMM]
    clear hMM c0 c1 c2' c3 k0 k1 kl q1 hm1 hm0
    have HS5 := Lib.hid (show w4.heap.size ≤ w5.heap.size from HB5.out.size)
    have hb5 : Below w4.heap.size w4 w5 := HB5.out
    have hQ : QM w w5 A' m c' fp (D'.1, M) := ⟨HLM.out, HCP.out, HMS.out, HM4.out.frame fun b hb => hb5.block b (by have := HFP.out b hb; have := HS4.out; omega), fun b hb => by have := HFP.out b hb; have := HS4.out; have := HS5.out; omega, HBX.out.trans (hb5.mono HBX.out.size)⟩
    have HQ6 := Lib.hid (hQ.cell (X := w2.heap.size) (by have := HWZ.out; omega) (fun hm => by have := HFP.out _ hm; omega) 1 (.int .i64 M))
    have XN6 := Lib.hid (XN5.out.set 1 (.int .i64 M))
    have Z6 := Lib.hid (Z5.out.other (a := ⟨w2.heap.size, 1, none⟩) (by have := HWZ.out; show w.heap.size + 1 ≠ w2.heap.size; omega) (.int .i64 M))
    clear hb5 hQ
    generalize w5.setCell ⟨w2.heap.size, 1, none⟩ (.int .i64 M) = w6 at HQ6 XN6 Z6 ⊢
    have k0 := XN6.out.cell 0
    have k1 := XN6.out.cell 1
    have kl := XN6.out.lt
    have z0 := Z6.out.cell 0
    have z1 := Z6.out.cell 1
    have y0 := Z6.out.frz 0
    have y1 := Z6.out.frz 1
    have zl := Z6.out.lt
    simp at k0 k1 z0 z1
    go_wp2_with fail
    refine bodyPost_ret (v := .tuple #[.agg #[.slice A' m c', .int .i64 M], .int .i64 r, .bool true]) (by simp [results, Try.results38, go_sem, z0, z1]) rfl ⟨.slice A' m c', .int .i64 M, fp, rfl, ?_⟩
    have hq := (HQ6.out.cell (X := w.heap.size + 1) (by omega) (fun hm => by have := HFP.out _ hm; omega) 0 (.slice A' m c')).cell (X := w.heap.size + 1) (by omega) (fun hm => by have := HFP.out _ hm; omega) 1 (.int .i64 M)
    exact ⟨hq.ty, hq.own, hq.sm, capQ hq.cap, hq.below⟩
end Go.Proofs.Ytagggajlpmdpdaa

namespace Go.Proofs.Ytagggajlpmdpdaa
open Go.RowKit

theorem own_ne {w : World} {base X : Nat} {v : Value} {l : List ETask} {cs : Array Value} (h : OwnT w base v l) (hX : Box w X cs 25) : ∀ k, v.ownBlock = some k → k ≠ X := by
  rcases h.2 with ⟨rfl, _⟩ | ⟨g, cap, cur, rfl, _, hhp, _⟩
  · intro k e; cases e
  · intro k e hk
    have e2 : g = k := by simpa [Value.ownBlock] using e
    subst e2 hk
    have h2 := hhp.symm.trans hX
    injection h2 with h2
    injection h2 with _ h3 _
    exact absurd h3 (by decide)
theorem OwnT.off {w : World} {base : Nat} {v : Value} {l : List ETask} (h : OwnT w base v l) {a : Addr} (ha : ∀ k, v.ownBlock = some k → k ≠ a.block) (u : Value) : OwnT (w.setCell a u) base v l := by
  refine ⟨h.1, ?_⟩
  rcases h.2 with h2 | ⟨g, cap, cur, e, hg, hhp, h3⟩
  · exact .inl h2
  · exact .inr ⟨g, cap, cur, e, hg, (heap_setCell_other _ _ _ _ (ha g (by rw [e]; simp [Value.ownBlock]))).trans hhp, h3⟩
/-- one task is appended; another block stands -/
theorem box_grown {w w' : World} {row : Option Nat} {X : Nat} {cs : Array Value} {t : TypeId} (hX : Box w X cs t) (hg : w.grownBy w' row) (hne : ∀ k, row = some k → k ≠ X) : Box w' X cs t :=
  (hg.block X hX.lt fun e => hne X e.symm rfl).trans hX
/-- what QueueAdd answers -/
def AddR (w : World) (ok : Bool) (D' : Qu) (e : Ending) (w' : World) : Prop :=
  ∃ y0 y1 fp, e = .returned (.tuple #[.agg #[y0, y1], .bool ok]) ∧ tyQueue.M w' fp [y0, y1] D' ∧ (∀ b ∈ fp, w.heap.size ≤ b ∧ b < w'.heap.size) ∧ smallQueue D' ∧ CapQ y0 ∧ Below w.heap.size w w'
theorem AddR.zero {w w' : World} {X : Nat} (hb : Below w.heap.size w w') (hX : w.heap.size ≤ X) : AddR w false qZ (.returned (.tuple #[.agg #[.slice none 0 0, .int .i64 0], .bool false])) ((w'.setCell ⟨X, 0, none⟩ (.slice none 0 0)).setCell ⟨X, 1, none⟩ (.int .i64 0)) := by
  have hq := QM.zero ((hb.setCell (p := ⟨X, 0, none⟩) hX (.slice none 0 0)).setCell (p := ⟨X, 1, none⟩) hX (.int .i64 0))
  exact ⟨.slice none 0 0, .int .i64 0, [], rfl, hq.ty, hq.own, hq.sm, capQ hq.cap, hq.below⟩
set_option maxHeartbeats 4000000 in
set_option maxRecDepth 100000 in
theorem queueAddI : QAddM 29 := by
  intro w hi x0 x1 D id wt h hs hcq
  have HR0 := Lib.hid h
  obtain ⟨A, n, c, hcs, hl, hn, hr⟩ := tyQueue_R h
  simp only [List.cons.injEq, and_true] at hcs
  obtain ⟨rfl, rfl⟩ := hcs
  have HSM := Lib.hid hs
  have HL := Lib.hid hl
  obtain ⟨F, hF⟩ : ∃ F, D.2 = F := ⟨_, rfl⟩
  have HF := Lib.hid hF
  rw [hF] at HR0 ⊢
  have X1 := Lib.hid (((Box.new w #[.slice A n c, .int .i64 F] 25).alloc (.cells #[.slice none 0 0, .int .i64 0] 25)).alloc (.cells #[.int .i64 id, .int .i64 wt, .int .i64 F, .bool true] 42))
  have Z1 := Lib.hid ((Box.new (w.alloc (.cells #[.slice A n c, .int .i64 F] 25)) #[.slice none 0 0, .int .i64 0] 25).alloc (.cells #[.int .i64 id, .int .i64 wt, .int .i64 F, .bool true] 42))
  have T1 := Lib.hid (Box.new ((w.alloc (.cells #[.slice A n c, .int .i64 F] 25)).alloc (.cells #[.slice none 0 0, .int .i64 0] 25)) #[.int .i64 id, .int .i64 wt, .int .i64 F, .bool true] 42)
  simp only [World.size_alloc] at Z1 T1
  have HB1 := Lib.hid (show Below w.heap.size w (((w.alloc (.cells #[.slice A n c, .int .i64 F] 25)).alloc (.cells #[.slice none 0 0, .int .i64 0] 25)).alloc (.cells #[.int .i64 id, .int .i64 wt, .int .i64 F, .bool true] 42)) from (((Below.refl _ _).alloc (Nat.le_refl _) _).alloc (by simp only [World.size_alloc]; omega) _).alloc (by simp only [World.size_alloc]; omega) _)
  have HT1 := Lib.hid (Ty.below_w HR0.out HB1.out)
  have HR1 := Lib.hid (hr.wb HB1.out)
  clear h hl hn hr hs hF hcq
  obtain ⟨D', hD'⟩ : ∃ D', addD D id wt = D' := ⟨_, rfl⟩
  obtain ⟨g, hg⟩ : ∃ g, addB D id wt = g := ⟨_, rfl⟩
  rw [hD', hg]
  suffices hsuf : Calls Try.prog 29 #[.agg #[.slice A n c, .int .i64 F], .int .i64 id, .int .i64 wt] w (AddR w g D') from hsuf
  have HD' := Lib.hid hD'
  have HG := Lib.hid hg
  have HNO := Lib.hid (fun (h : addB D id wt = false) => (show g = false ∧ D' = qZ from ⟨by rw [← HG.out]; exact h, by rw [← HD'.out]; exact add_off h⟩))
  obtain ⟨a, ha⟩ : ∃ a, qB D = a := ⟨_, rfl⟩
  have HA := Lib.hid ha
  obtain ⟨k, hk⟩ : ∃ k, tokB ⟨id, wt, F, true⟩ F = k := ⟨_, rfl⟩
  have HK := Lib.hid hk
  obtain ⟨b, hb⟩ : ∃ b, hasN D.1 id = b := ⟨_, rfl⟩
  have HH := Lib.hid hb
  clear ha hD' hg hk hb
  go_enter Try.func29, Try.ntmps29
  go_wp2_with fail
  generalize (((w.alloc (.cells #[.slice A n c, .int .i64 F] 25)).alloc (.cells #[.slice none 0 0, .int .i64 0] 25)).alloc (.cells #[.int .i64 id, .int .i64 wt, .int .i64 F, .bool true] 42)) = W0 at X1 Z1 T1 HB1 HT1 HR1 ⊢
  refine (queueOkI HT1.out).mono ?_
  rw [HA.out]
  rintro e w1 ⟨rfl, hb1⟩
  have HB2 := Lib.hid (HB1.out.trans (hb1.mono HB1.out.size))
  have X2 := Lib.hid (X1.out.below hb1 X1.out.lt)
  have Z2 := Lib.hid (Z1.out.below hb1 Z1.out.lt)
  have T2 := Lib.hid (T1.out.below hb1 T1.out.lt)
  have HT2 := Lib.hid (Ty.below_w HT1.out hb1)
  have HR2 := Lib.hid (HR1.out.wb hb1)
  clear hb1 X1 Z1 T1 HT1 HR1 HB1
  have x0 := X2.out.cell 0
  have x1 := X2.out.cell 1
  have xl := X2.out.lt
  have z0 := Z2.out.cell 0
  have z1 := Z2.out.cell 1
  have y0 := Z2.out.frz 0
  have y1 := Z2.out.frz 1
  have zl := Z2.out.lt
  have t0 := T2.out.cell 0
  have t1 := T2.out.cell 1
  have t2 := T2.out.cell 2
  have t3 := T2.out.cell 3
  have tl := T2.out.lt
  simp at x0 x1 z0 z1 t0 t1 t2 t3
  cases a
  · obtain ⟨rfl, rfl⟩ := HNO.out (add_no (Or.inl HA.out))
    go_wp2_with fail
    refine bodyPost_ret (v := .tuple #[.agg #[.slice none 0 0, .int .i64 0], .bool false]) (by simp [results, Try.results29, go_sem, z0, z1]) rfl (AddR.zero HB2.out (by omega))
  have H6 := Lib.hid (show n ≤ 6 from by rw [← HL.out]; exact (qB_iff.1 HA.out).2.1)
  have HOK := Lib.hid (show ∀ W : World, Calls Try.prog 64 #[.agg #[.int .i64 id, .int .i64 wt, .int .i64 F, .bool true], .int .i64 F] W fun e w' => e = .returned (.bool k) ∧ Below W.heap.size W w' from fun W => by
    have h := ok_any ⟨id, wt, F, true⟩ F W
    rw [HK.out] at h
    exact h)
  go_wp2_with fail
  refine (HOK.out _).mono ?_
  rintro e w2 ⟨rfl, hb1⟩
  have HB3 := Lib.hid (HB2.out.trans (hb1.mono HB2.out.size))
  have X3 := Lib.hid (X2.out.below hb1 X2.out.lt)
  have Z3 := Lib.hid (Z2.out.below hb1 Z2.out.lt)
  have T3 := Lib.hid (T2.out.below hb1 T2.out.lt)
  have HT3 := Lib.hid (Ty.below_w HT2.out hb1)
  have HR3 := Lib.hid (HR2.out.wb hb1)
  clear hb1 X2 Z2 T2 HT2 HR2 HB2 x0 x1 xl z0 z1 y0 y1 zl t0 t1 t2 t3 tl
  have x0 := X3.out.cell 0
  have x1 := X3.out.cell 1
  have xl := X3.out.lt
  have z0 := Z3.out.cell 0
  have z1 := Z3.out.cell 1
  have y0 := Z3.out.frz 0
  have y1 := Z3.out.frz 1
  have zl := Z3.out.lt
  simp at x0 x1 z0 z1
  cases k
  · obtain ⟨rfl, rfl⟩ := HNO.out (add_no (Or.inr (Or.inl (by rw [HF.out]; exact HK.out))))
    go_wp2_with fail
    refine bodyPost_ret (v := .tuple #[.agg #[.slice none 0 0, .int .i64 0], .bool false]) (by simp [results, Try.results29, go_sem, z0, z1]) rfl (AddR.zero HB3.out (by omega))
  by_cases h6 : n = 6
  · obtain ⟨rfl, rfl⟩ := HNO.out (add_no (Or.inr (Or.inr (Or.inl (by rw [HL.out]; exact h6)))))
    have e6 : ((n : Int) == 6) = true := by simp only [beq_iff_eq]; omega
    have H6' := Lib.hid h6
    clear h6
    go_wp2_with fail
    refine bodyPost_ret (v := .tuple #[.agg #[.slice none 0 0, .int .i64 0], .bool false]) (by simp [results, Try.results29, go_sem, z0, z1]) rfl (AddR.zero HB3.out (by omega))
  have e6 : ((n : Int) == 6) = false := by simp only [beq_eq_false_iff_ne, ne_eq]; omega
  have H5 := Lib.hid (show n + 1 ≤ 6 from by have := H6.out; omega)
  have H6' := Lib.hid h6
  clear h6
  go_wp2_with fail
  refine (has_q id HT3.out HSM.out).mono ?_
  rw [HH.out]
  rintro e w3 ⟨rfl, hb1⟩
  have HB4 := Lib.hid (HB3.out.trans (hb1.mono HB3.out.size))
  have X4 := Lib.hid (X3.out.below hb1 X3.out.lt)
  have Z4 := Lib.hid (Z3.out.below hb1 Z3.out.lt)
  have T4 := Lib.hid (T3.out.below hb1 T3.out.lt)
  have HR4 := Lib.hid (HR3.out.wb hb1)
  clear hb1 X3 Z3 T3 HT3 HR3 HB3 x0 x1 xl z0 z1 y0 y1 zl
  have x0 := X4.out.cell 0
  have x1 := X4.out.cell 1
  have xl := X4.out.lt
  have z0 := Z4.out.cell 0
  have z1 := Z4.out.cell 1
  have y0 := Z4.out.frz 0
  have y1 := Z4.out.frz 1
  have zl := Z4.out.lt
  simp at x0 x1 z0 z1
  cases b
  case true =>
    obtain ⟨rfl, rfl⟩ := HNO.out (add_no (Or.inr (Or.inr (Or.inr HH.out))))
    go_wp2_with fail
    refine bodyPost_ret (v := .tuple #[.agg #[.slice none 0 0, .int .i64 0], .bool false]) (by simp [results, Try.results29, go_sem, z0, z1]) rfl (AddR.zero HB4.out (by omega))
  have HYES := Lib.hid (add_yes (D := D) (id := id) (wt := wt) HA.out (by rw [HF.out]; exact HK.out) (by rw [HL.out]; exact H6'.out) HH.out)
  rw [HF.out] at HYES
  obtain rfl : g = true := by rw [← HG.out]; exact HYES.out.1
  obtain rfl : D' = (srt ltN (D.1 ++ [⟨id, wt, F, true⟩]), F) := by rw [← HD'.out]; exact HYES.out.2
  clear HYES HNO HG HD'
  obtain ⟨i0, hi0, hz0, hz1, hz2⟩ := infoTask
  have HI := Lib.hid hi0
  have HZ0 := Lib.hid hz0
  have HZ1 := Lib.hid hz1
  have HZ2 := Lib.hid hz2
  clear hi0 hz0 hz1 hz2
  go_wp2_with fail
  refine (copied_any HR4.out HL.out (by have := H6.out; omega)).mono ?_
  rintro e w5 ⟨v, rfl, ho5, hb1⟩
  obtain ⟨A', c', rfl, hc'⟩ := ho5.shape HL.out
  have HB6 := Lib.hid ((HB4.out.trans (hb1.mono HB4.out.size)).alloc (by have := HB4.out.size; have := hb1.size; omega) (.cells #[.slice A' n c', .int .i64 F] 25))
  have X6 := Lib.hid (Box.new w5 #[.slice A' n c', .int .i64 F] 25)
  have Z6 := Lib.hid ((Z4.out.below hb1 Z4.out.lt).alloc (.cells #[.slice A' n c', .int .i64 F] 25))
  have T6 := Lib.hid ((T4.out.below hb1 T4.out.lt).alloc (.cells #[.slice A' n c', .int .i64 F] 25))
  have HO6 := Lib.hid (ho5.below ((Below.refl _ w5).alloc (Nat.le_refl _) (.cells #[.slice A' n c', .int .i64 F] 25)))
  have HS6 := Lib.hid (show w3.heap.size ≤ (w5.alloc (.cells #[.slice A' n c', .int .i64 F] 25)).heap.size from by have := hb1.size; simp only [World.size_alloc]; omega)
  have HS3 := Lib.hid (show w.heap.size + 2 < w3.heap.size from T4.out.lt)
  have HW5 := Lib.hid (show w3.heap.size ≤ w5.heap.size from hb1.size)
  clear hb1 ho5 X4 Z4 T4 HR4 HB4 x0 x1 xl z0 z1 y0 y1 zl
  have x0 := X6.out.cell 0
  have xl := X6.out.lt
  have t0 := T6.out.cell 0
  have t1 := T6.out.cell 1
  have t2 := T6.out.cell 2
  have t3 := T6.out.cell 3
  have tl := T6.out.lt
  simp at x0 t0 t1 t2 t3
  go_wp2_with (at_builtin
               refine wpList_append_own _ rfl _ _ 23 rfl w3.heap.size 42 i0 (.agg #[.int .i64 0, .int .i64 0, .int .i64 0, .bool false]) 4 32 Try.underlying23 HI.out HZ0.out HZ1.out HZ2.out rfl (by decide) _ _ _ rfl (OwnT.below HO6.out ((Below.refl _ _).alloc (Nat.le_refl _) _)) ⟨w5.heap.size + 1, 0, none⟩ 1 1 (elTask.C ⟨id, wt, F, true⟩) rfl rfl ?c1 ?c2 ?c3 ?c4 ?c5 ?_
               case c1 => exact (show w5.heap.size + 1 = (w5.alloc (.cells #[.slice A' n c', .int .i64 F] 25)).heap.size by simp) ▸ task_new (w5.alloc (.cells #[.slice A' n c', .int .i64 F] 25)) ⟨id, wt, F, true⟩ _
               case c2 => intro u hu; exact tkC_one [⟨id, wt, F, true⟩] u (by simpa [tkC] using hu)
               case c3 => have := HL.out; have := H6.out; simp only [maxLen]; omega
               case c4 => have := HL.out; have := H6.out; omega
               case c5 => have := HS6.out; rw [World.size_alloc]; omega
               intro v7 w7 hown hg _
               have hoa := own_appT (a := ⟨id, wt, F, true⟩) HO6.out HS6.out hown hg
               obtain ⟨A3, c3, rfl, hc3⟩ := hoa.1.shape (n := n + 1) (by rw [List.length_append, HL.out]; rfl)
               have X7 := Lib.hid (box_grown (X6.out.alloc _) hg (own_ne HO6.out X6.out))
               have Z7 := Lib.hid (Z6.out.below hoa.2 (by have := HS3.out; omega))
               have HB7 := Lib.hid (HB6.out.trans (hoa.2.mono (by have := HS3.out; omega)))
               have HO7 := Lib.hid hoa.1
               have HS7 := Lib.hid (show w3.heap.size ≤ w7.heap.size from Nat.le_trans HS6.out hoa.2.size)
               clear hown hg hoa
               have k0 := X7.out.cell 0
               have k1 := X7.out.cell 1
               have q0 := X7.out.frz 0
               have kl := X7.out.lt
               simp at k0 k1)
  have HO8 := Lib.hid (HO7.out.off (a := ⟨w5.heap.size, 0, none⟩) (own_ne HO7.out X7.out) (.slice A3 (n + 1) c3))
  have Z8 := Lib.hid (Z7.out.other (a := ⟨w5.heap.size, 0, none⟩) (by have := xl; have := HS3.out; have := HW5.out; show w.heap.size + 1 ≠ w5.heap.size; omega) (.slice A3 (n + 1) c3))
  have HB8 := Lib.hid (HB7.out.setCell (p := ⟨w5.heap.size, 0, none⟩) (by have := HS3.out; have := HW5.out; show w.heap.size ≤ w5.heap.size; omega) (.slice A3 (n + 1) c3))
  have HL8 := Lib.hid (show (D.1 ++ [(⟨id, wt, F, true⟩ : ETask)]).length = n + 1 from by rw [List.length_append, HL.out]; rfl)
  generalize w7.setCell ⟨w5.heap.size, 0, none⟩ (.slice A3 (n + 1) c3) = w8 at HO8 Z8 HB8 ⊢
  obtain ⟨A4, c4, fp4, hv4, _, hm4, hf4⟩ := HO8.out.out HL8.out
  simp only [Value.slice.injEq] at hv4
  obtain ⟨rfl, -, rfl⟩ := hv4
  have HR8 := Lib.hid (hm4.row (hi := w8.heap.size) fun b hb => (hf4 b hb).2)
  clear hm4 hf4
  have zl8 := Z8.out.lt
  refine (inOrder_any ordId HR8.out HL8.out H5.out).mono ?_
  rintro e w9 ⟨A5, m5, c5, fp5, rfl, hl5, hc5, hm5, hf5, hb9⟩
  rw [ltF_id] at hl5 hm5
  have HQ := Lib.hid (show QM w8 w9 A5 m5 c5 fp5 (srt ltN (D.1 ++ [⟨id, wt, F, true⟩]), F) from ⟨hl5, hc5, by rw [srt_len, HL8.out] at hl5; have := H5.out; omega, hm5, hf5, hb9⟩)
  have Z9 := Lib.hid (Z8.out.below hb9 zl8)
  clear hl5 hc5 hm5 hf5 hb9 k0 k1 q0 kl t0 t1 t2 t3 x0 xl tl
  have z0 := Z9.out.cell 0
  have z1 := Z9.out.cell 1
  have y0 := Z9.out.frz 0
  have y1 := Z9.out.frz 1
  have zl := Z9.out.lt
  simp at z0 z1
  go_wp2_with fail
  refine bodyPost_ret (v := .tuple #[.agg #[.slice A5 m5 c5, .int .i64 F], .bool true]) (by simp [results, Try.results29, go_sem, z0, z1]) rfl ⟨.slice A5 m5 c5, .int .i64 F, fp5, rfl, ?_⟩
  have hq := HQ.out.res HB8.out (show w.heap.size ≤ w.heap.size + 1 by omega) zl8 (.slice A5 m5 c5) (.int .i64 F)
  exact ⟨hq.ty, hq.own, hq.sm, capQ hq.cap, hq.below⟩
end Go.Proofs.Ytagggajlpmdpdaa

namespace Go.Proofs.Ytagggajlpmdpdaa
open Go.RowKit

/-- what QueueRun answers -/
def RunM (w : World) (D : Qu) (m : Int) (e : Ending) (w' : World) : Prop :=
  ∃ y0 y1 fp A n c fi, e = .returned (.tuple #[.agg #[y0, y1], .slice A n c, .bool (runQ D m).isSome]) ∧ tyQueue.M w' fp [y0, y1] (runD D m) ∧ (∀ b ∈ fp, w.heap.size ≤ b ∧ b < w'.heap.size) ∧ smallQueue (runD D m) ∧ CapQ y0 ∧
    RowM elI w' fi A n (runI D m) ∧ (∀ b ∈ fi, w.heap.size ≤ b ∧ b < w'.heap.size ∧ b ∉ fp) ∧ (runI D m).length = n ∧ n ≤ 1000 ∧ Below w.heap.size w w'
theorem RunM.zero {w w' : World} {D : Qu} {m : Int} {X : Nat} (hr : runQ D m = none) (hb : Below w.heap.size w w') (hX : w.heap.size ≤ X) :
    RunM w D m (.returned (.tuple #[.agg #[.slice none 0 0, .int .i64 0], .slice none 0 0, .bool false])) ((w'.setCell ⟨X, 0, none⟩ (.slice none 0 0)).setCell ⟨X, 1, none⟩ (.int .i64 0)) := by
  have hq := QM.zero ((hb.setCell (p := ⟨X, 0, none⟩) hX (.slice none 0 0)).setCell (p := ⟨X, 1, none⟩) hX (.int .i64 0))
  have h1 : runD D m = qZ := by unfold runD; rw [hr]
  have h2 : runI D m = [] := by unfold runI; rw [hr]
  refine ⟨.slice none 0 0, .int .i64 0, [], none, 0, 0, [], by rw [hr]; rfl, ?_, hq.own, ?_, capQ hq.cap, ?_, fun b h => absurd h List.not_mem_nil, ?_, by decide, hq.below⟩
  · rw [h1]; exact hq.ty
  · rw [h1]; exact hq.sm
  · intro h; exact absurd h (Nat.lt_irrefl 0)
  · rw [h2]; rfl
/-- behind k ticks: the queue in the box N, the numbers in a row of their own -/
def RunRel (w : World) (D : Qu) (N k : Nat) (ids : Value) (wr : World) : Prop :=
  ∃ (Dk : Qu) (L : List Int) (Aq : Option Addr) (nq cq : Nat) (fp : List Nat) (g cap : Nat),
    ids = .slice (some ⟨g, 0, none⟩) k cap ∧ runO D k = some (Dk, L) ∧ wr.ownsRow (N + 1) 3 1 (.slice (some ⟨g, 0, none⟩) k cap) k (L.flatMap elI.C) ∧ Box wr N #[.slice Aq nq cq, .int .i64 Dk.2] 25 ∧
    Box wr (w.heap.size + 1) #[.slice none 0 0, .int .i64 0] 25 ∧ QM w wr Aq nq cq fp Dk ∧ ∀ b ∈ fp, w.heap.size + 1 < b ∧ b ≠ N ∧ b ≠ g
theorem flatI (L : List Int) : (L.flatMap elI.C).length = L.length := by rw [flat_len]; exact Nat.mul_one _
set_option maxHeartbeats 4000000 in
set_option maxRecDepth 100000 in
theorem queueRunI : QRunM 26 := by
  intro w hi x0 x1 D m h hs hcq
  have HR0 := Lib.hid h
  obtain ⟨A, n, c, hcs, hl, hn, hr⟩ := tyQueue_R h
  simp only [List.cons.injEq, and_true] at hcs
  obtain ⟨rfl, rfl⟩ := hcs
  have HSM := Lib.hid hs
  have HSN := Lib.hid (show n ≤ 1048576 by unfold smallQueue at hs; omega)
  have HL := Lib.hid hl
  obtain ⟨F, hF⟩ : ∃ F, D.2 = F := ⟨_, rfl⟩
  have HF := Lib.hid hF
  rw [hF] at HR0 ⊢
  suffices hsuf : Calls Try.prog 26 #[.agg #[.slice A n c, .int .i64 F], .int .i64 m] w (RunM w D m) from hsuf
  have X1 := Lib.hid ((Box.new w #[.slice A n c, .int .i64 F] 25).alloc (.cells #[.slice none 0 0, .int .i64 0] 25))
  have Z1 := Lib.hid (Box.new (w.alloc (.cells #[.slice A n c, .int .i64 F] 25)) #[.slice none 0 0, .int .i64 0] 25)
  simp only [World.size_alloc] at Z1
  have HB1 := Lib.hid (show Below w.heap.size w ((w.alloc (.cells #[.slice A n c, .int .i64 F] 25)).alloc (.cells #[.slice none 0 0, .int .i64 0] 25)) from ((Below.refl _ _).alloc (Nat.le_refl _) _).alloc (by simp only [World.size_alloc]; omega) _)
  have HT1 := Lib.hid (Ty.below_w HR0.out HB1.out)
  have HR1 := Lib.hid (hr.wb HB1.out)
  clear h hl hn hr hs hF hcq
  have HRQ := Lib.hid (show runQ D m = if (qB D && inB m 0 1000) = true then runO D m.toNat else none from rfl)
  obtain ⟨a, ha⟩ : ∃ a, qB D = a := ⟨_, rfl⟩
  have HA := Lib.hid ha
  clear ha
  by_cases hm0 : m < 0
  · have HNO := Lib.hid (show runQ D m = none from by rw [HRQ.out, inB_not (by omega), Bool.and_false]; rfl)
    go_enter Try.func26, Try.ntmps26
    go_wp2_with fail
    generalize ((w.alloc (.cells #[.slice A n c, .int .i64 F] 25)).alloc (.cells #[.slice none 0 0, .int .i64 0] 25)) = W0 at X1 Z1 HB1 HT1 HR1 ⊢
    refine (queueOkI HT1.out).mono ?_
    rw [HA.out]
    rintro e w1 ⟨rfl, hb1⟩
    have HB2 := Lib.hid (HB1.out.trans (hb1.mono HB1.out.size))
    have Z2 := Lib.hid (Z1.out.below hb1 Z1.out.lt)
    clear hb1 X1 Z1 HT1 HR1 HB1
    have z0 := Z2.out.cell 0
    have z1 := Z2.out.cell 1
    have y0 := Z2.out.frz 0
    have y1 := Z2.out.frz 1
    have zl := Z2.out.lt
    simp at z0 z1
    cases a
    all_goals
      go_wp2_with fail
      refine bodyPost_ret (v := .tuple #[.agg #[.slice none 0 0, .int .i64 0], .slice none 0 0, .bool false]) (by simp [results, Try.results26, go_sem, z0, z1]) rfl (RunM.zero HNO.out HB2.out (by omega))
  by_cases hm1 : 1000 < m
  · have HNO := Lib.hid (show runQ D m = none from by rw [HRQ.out, inB_not (by omega), Bool.and_false]; rfl)
    go_enter Try.func26, Try.ntmps26
    go_wp2_with fail
    generalize ((w.alloc (.cells #[.slice A n c, .int .i64 F] 25)).alloc (.cells #[.slice none 0 0, .int .i64 0] 25)) = W0 at X1 Z1 HB1 HT1 HR1 ⊢
    refine (queueOkI HT1.out).mono ?_
    rw [HA.out]
    rintro e w1 ⟨rfl, hb1⟩
    have HB2 := Lib.hid (HB1.out.trans (hb1.mono HB1.out.size))
    have Z2 := Lib.hid (Z1.out.below hb1 Z1.out.lt)
    clear hb1 X1 Z1 HT1 HR1 HB1
    have z0 := Z2.out.cell 0
    have z1 := Z2.out.cell 1
    have y0 := Z2.out.frz 0
    have y1 := Z2.out.frz 1
    have zl := Z2.out.lt
    simp at z0 z1
    cases a
    all_goals
      go_wp2_with fail
      refine bodyPost_ret (v := .tuple #[.agg #[.slice none 0 0, .int .i64 0], .slice none 0 0, .bool false]) (by simp [results, Try.results26, go_sem, z0, z1]) rfl (RunM.zero HNO.out HB2.out (by omega))
  obtain ⟨M, rfl⟩ : ∃ M : Nat, m = M := ⟨m.toNat, by omega⟩
  have HM10 := Lib.hid (show M ≤ 1000 from by omega)
  have hM0 : ¬ ((M : Int) < 0) := by omega
  have hM1 : ¬ (1000 < (M : Int)) := by omega
  have hM2 : ¬ (1000 < M) := by omega
  clear hm0 hm1
  go_enter Try.func26, Try.ntmps26
  go_wp2_with fail
  generalize ((w.alloc (.cells #[.slice A n c, .int .i64 F] 25)).alloc (.cells #[.slice none 0 0, .int .i64 0] 25)) = W0 at X1 Z1 HB1 HT1 HR1 ⊢
  refine (queueOkI HT1.out).mono ?_
  rw [HA.out]
  rintro e w1 ⟨rfl, hb1⟩
  have HB2 := Lib.hid (HB1.out.trans (hb1.mono HB1.out.size))
  have X2 := Lib.hid (X1.out.below hb1 X1.out.lt)
  have Z2 := Lib.hid (Z1.out.below hb1 Z1.out.lt)
  have HR2 := Lib.hid (HR1.out.wb hb1)
  clear hb1 X1 Z1 HT1 HR1 HB1
  have x0 := X2.out.cell 0
  have x1 := X2.out.cell 1
  have xl := X2.out.lt
  have z0 := Z2.out.cell 0
  have z1 := Z2.out.cell 1
  have y0 := Z2.out.frz 0
  have y1 := Z2.out.frz 1
  have zl := Z2.out.lt
  simp at x0 x1 z0 z1
  cases a
  · have HNO := Lib.hid (show runQ D M = none from by rw [HRQ.out, HA.out, Bool.false_and]; rfl)
    go_wp2_with fail
    refine bodyPost_ret (v := .tuple #[.agg #[.slice none 0 0, .int .i64 0], .slice none 0 0, .bool false]) (by simp [results, Try.results26, go_sem, z0, z1]) rfl (RunM.zero HNO.out HB2.out (by omega))
  have HRN := Lib.hid (show runQ D M = runO D M from by rw [HRQ.out, HA.out, inB_of (by have := HM10.out; omega), Int.toNat_natCast]; rfl)
  clear HRQ
  obtain ⟨i0, hi0, hz0, hz1, hz2⟩ := infoInt
  have HI := Lib.hid hi0
  have HZ0 := Lib.hid hz0
  have HZ1 := Lib.hid hz1
  have HZ2 := Lib.hid hz2
  clear hi0 hz0 hz1 hz2
  go_wp2_with fail
  refine (copied_any HR2.out HL.out HSN.out).mono ?_
  rintro e w2 ⟨v, rfl, ho1, hb1⟩
  obtain ⟨A', c', fp, rfl, hc', hm1, hfp⟩ := ho1.out HL.out
  have HS1 := Lib.hid (show w.heap.size + 1 < w1.heap.size ∧ w1.heap.size ≤ w2.heap.size from ⟨Z2.out.lt, hb1.size⟩)
  have HREL := Lib.hid (show RunRel w D w2.heap.size 0 (.slice (some ⟨w2.heap.size + 1, 0, none⟩) 0 0) ((w2.alloc (.cells #[.slice A' n c', .int .i64 F] 25)).alloc (.cells #[] 3)) from by
    refine ⟨D, [], A', n, c', fp, w2.heap.size + 1, 0, rfl, rfl, ?_, ?_, ((Z2.out.below hb1 Z2.out.lt).alloc _).alloc _, ⟨HL.out, hc', HSN.out, ?_, ?_, ?_⟩, ?_⟩
    · have e1 : (w2.alloc (.cells #[.slice A' n c', .int .i64 F] 25)).heap.size = w2.heap.size + 1 := by simp
      have h1 := Box.new (w2.alloc (.cells #[.slice A' n c', .int .i64 F] 25)) #[] 3
      rw [e1] at h1
      exact own_empty' h1 (Nat.le_refl _)
    · rw [HF.out]
      exact (Box.new w2 #[.slice A' n c', .int .i64 F] 25).alloc _
    · exact (hm1.frame (w' := w2.alloc (.cells #[.slice A' n c', .int .i64 F] 25)) fun b hb => heap_alloc_old _ _ (hfp b hb).2).frame fun b hb => heap_alloc_old _ _ (by have := hfp b hb; simp only [World.size_alloc]; omega)
    · intro b hb
      have := hfp b hb
      have := HS1.out
      simp only [World.size_alloc]
      omega
    · exact ((HB2.out.trans (hb1.mono HB2.out.size)).alloc (by have := HS1.out; omega) _).alloc (by have := HS1.out; simp only [World.size_alloc]; omega) _
    · intro b hb
      have := hfp b hb
      have := HS1.out
      omega)
  clear hb1 ho1 hm1 hfp hc' X2 Z2 HR2 HB2 x0 x1 xl z0 z1 y0 y1 zl
  have HN := Lib.hid (show w.heap.size + 1 < w2.heap.size from by have := HS1.out; omega)
  go_wp2_with fail
  generalize ((w2.alloc (.cells #[.slice A' n c', .int .i64 F] 25)).alloc (.cells #[] 3)) = W4 at HREL ⊢
  generalize w2.heap.size = N at HREL HN HS1 ⊢
  go_loopw [8, 28] (fun ids i wr => ∃ k : Nat, k ≤ M ∧ i = .int .i64 k ∧ RunRel w D N k ids wr) (fun _ i _ => M - (intOf i).toNat)
  case atStart => exact ⟨0, Nat.zero_le _, rfl, HREL.out⟩
  case round =>
    obtain ⟨k, hk, rfl, Dk, L, Aq, nq, cq, fp, g, cap, rfl, hrun, hown, hX, hZ, hQ, hfp⟩ := hrel
    have HRUN := Lib.hid hrun
    have HOWN := Lib.hid hown
    have HX := Lib.hid hX
    have HZ := Lib.hid hZ
    have HQ := Lib.hid hQ
    have HFP := Lib.hid hfp
    have HRK := Lib.hid (run_ok HA.out hrun)
    clear hrun hown hX hZ hQ hfp HREL
    obtain ⟨Fk, hFk⟩ : ∃ Fk, Dk.2 = Fk := ⟨_, rfl⟩
    have HFK := Lib.hid hFk
    rw [hFk] at HX
    clear hFk
    have x0 := HX.out.cell 0
    have x1 := HX.out.cell 1
    have xl := HX.out.lt
    have z0 := HZ.out.cell 0
    have z1 := HZ.out.cell 1
    have y0 := HZ.out.frz 0
    have y1 := HZ.out.frz 1
    have zl := HZ.out.lt
    simp at x0 x1 z0 z1
    by_cases hlt : k < M
    · have hk1 : (k : Int) < M := by omega
      have hk2 : (0 : Int) ≤ k := by omega
      obtain ⟨o, ho⟩ : ∃ o, tikO Dk = o := ⟨_, rfl⟩
      have HNEXT := Lib.hid (run_tik HA.out HRUN.out)
      dsimp only at HNEXT
      rw [ho] at HNEXT
      have HTK := Lib.hid (show Calls Try.prog 38 #[.agg #[.slice Aq nq cq, .int .i64 Fk]] wr (TikR wr o) from by
        have hr := tyQueue.mr (hi := wr.heap.size) HQ.out.ty fun b hb => (HQ.out.own b hb).2
        rw [HFK.out] at hr
        have h := queueTikI hr HQ.out.sm (capQ HQ.out.cap)
        unfold tikI tikD at h
        rw [ho] at h
        exact h)
      clear ho
      go_wp2_with fail
      refine HTK.out.mono ?_
      rintro e w5 ⟨y0', y1', fp5, rfl, hm5, hf5, hs5, hc5, hb5⟩
      obtain ⟨A5, n5, c5, f5, hcs5, rfl, hl5, hn5, hr5⟩ := tyQueue_M hm5
      simp only [List.cons.injEq, and_true] at hcs5
      obtain ⟨rfl, rfl⟩ := hcs5
      have HB5 := Lib.hid hb5
      have HF5 := Lib.hid hf5
      have HL5 := Lib.hid hl5
      have HN5 := Lib.hid hn5
      have HR5 := Lib.hid hr5
      have HC5 := Lib.hid (capQ_le hc5)
      clear hm5 hf5 hs5 hc5 hb5 hl5 hn5 hr5 x0 x1 xl z0 z1 y0 y1 zl
      cases o with
      | none =>
        have HNO := Lib.hid (show runQ D M = none from by rw [HRN.out]; exact run_none (k := k + 1) HNEXT.out (by omega))
        have HB6 := Lib.hid (show Below w.heap.size w (w5.alloc (.cells #[.slice A5 n5 c5, .int .i64 qZ.2] 25)) from (HQ.out.below.trans (HB5.out.mono HQ.out.below.size)).alloc (Nat.le_trans HQ.out.below.size HB5.out.size) _)
        have Z6 := Lib.hid ((HZ.out.below HB5.out HZ.out.lt).alloc (.cells #[.slice A5 n5 c5, .int .i64 qZ.2] 25))
        have z0 := Z6.out.cell 0
        have z1 := Z6.out.cell 1
        have y0 := Z6.out.frz 0
        have y1 := Z6.out.frz 1
        have zl := Z6.out.lt
        simp at z0 z1 y0 y1
        go_wp2_with fail
        refine bodyPost_ret (v := .tuple #[.agg #[.slice none 0 0, .int .i64 0], .slice none 0 0, .bool false]) (by simp [results, Try.results26, go_sem, z0, z1]) rfl (RunM.zero HNO.out HB6.out (by omega))
      | some r =>
        obtain ⟨D5, id⟩ := r
        dsimp only at HL5 HR5 HNEXT ⊢
        obtain ⟨F5, hF5⟩ : ∃ F5, D5.2 = F5 := ⟨_, rfl⟩
        have HF5' := Lib.hid hF5
        rw [hF5]
        clear hF5
        have HS5 := Lib.hid (show N < wr.heap.size ∧ wr.heap.size ≤ w5.heap.size ∧ g < wr.heap.size ∧ N + 1 ≤ g from ⟨HX.out.lt, HB5.out.size, (World.ownsRow.lt HOWN.out g rfl).2, (World.ownsRow.lt HOWN.out g rfl).1⟩)
        have X6 := Lib.hid ((HX.out.below HB5.out HX.out.lt).alloc (.cells #[.slice A5 n5 c5, .int .i64 F5] 25))
        have Z6 := Lib.hid ((HZ.out.below HB5.out HZ.out.lt).alloc (.cells #[.slice A5 n5 c5, .int .i64 F5] 25))
        have B6 := Lib.hid (Box.new w5 #[.slice A5 n5 c5, .int .i64 F5] 25)
        have O6 := Lib.hid (own_keep (own_keep HOWN.out HB5.out) ((Below.refl _ w5).alloc (Nat.le_refl _) (.cells #[.slice A5 n5 c5, .int .i64 F5] 25)))
        have R6 := Lib.hid (HR5.out.frame (w' := w5.alloc (.cells #[.slice A5 n5 c5, .int .i64 F5] 25)) fun b hb => heap_alloc_old _ _ (HF5.out b hb).2)
        have HB6 := Lib.hid (show Below w.heap.size w (w5.alloc (.cells #[.slice A5 n5 c5, .int .i64 F5] 25)) from (HQ.out.below.trans (HB5.out.mono HQ.out.below.size)).alloc (Nat.le_trans HQ.out.below.size HB5.out.size) _)
        have HS6 := Lib.hid (show (w5.alloc (.cells #[.slice A5 n5 c5, .int .i64 F5] 25)).heap.size = w5.heap.size + 1 from by simp)
        go_wp2_with fail
        generalize w5.alloc (.cells #[.slice A5 n5 c5, .int .i64 F5] 25) = W6 at X6 Z6 B6 O6 R6 HB6 HS6 ⊢
        replace X6 := Lib.hid (show Box W6.drew _ _ _ from X6.out)
        replace Z6 := Lib.hid (show Box W6.drew _ _ _ from Z6.out)
        replace B6 := Lib.hid (show Box W6.drew _ _ _ from B6.out)
        replace O6 := Lib.hid (show W6.drew.ownsRow _ _ _ _ _ _ from own_keep O6.out (Below.refl _ W6).drew)
        replace R6 := Lib.hid (rowM_drew R6.out)
        replace HB6 := Lib.hid HB6.out.drew
        replace HS6 := Lib.hid (show W6.drew.heap.size = w5.heap.size + 1 from HS6.out)
        refine goAny_drew (z := 6) (S := fun w' => w'.cell? ⟨w5.heap.size, 0, none⟩ = some (.slice A5 n5 c5) ∧ w'.cell? ⟨w5.heap.size, 1, none⟩ = some (.int .i64 F5)) (by kernel_rfl) ⟨B6.out.cell 0, B6.out.cell 1⟩ (fun hHeld => ?_)
        generalize W6.drew = W7 at X6 Z6 B6 O6 R6 HB6 HS6 hHeld ⊢
        refine goAny_take (i := 0) (v := ?vu0) (by kernel_rfl) (by kernel_rfl) rfl (by kernel_rfl) (by kernel_rfl) (by kernel_rfl) (fun _ _ _ h => h) (Or.inl ⟨by rfl, ?hyu0⟩) (by assumption) ?restu0
        case hyu0 =>
          intro w hSw
          try dsimp only at hSw
          go_simp
          try with_reducible rfl
        simp only [Act.put, List.setIfInBounds_toArray, List.set_cons_zero, List.set_cons_succ, List.getElem_toArray, List.getElem_cons_zero]
        refine goAny_take (i := 1) (v := ?vu1) (by kernel_rfl) (by kernel_rfl) rfl (by kernel_rfl) (by kernel_rfl) (by kernel_rfl) (fun _ _ _ h => h) (Or.inl ⟨by rfl, ?hyu1⟩) (by assumption) ?restu1
        case hyu1 =>
          intro w hSw
          try dsimp only at hSw
          go_simp
          try with_reducible rfl
        simp only [Act.put, List.setIfInBounds_toArray, List.set_cons_zero, List.set_cons_succ, List.getElem_toArray, List.getElem_cons_zero, List.getElem_cons_succ]
        refine goAny_take (i := 2) (v := ?vu2) (by kernel_rfl) (by kernel_rfl) rfl (by kernel_rfl) (by kernel_rfl) (by kernel_rfl) (fun _ _ _ h => h) (Or.inl ⟨by rfl, ?hyu2⟩) (by assumption) ?restu2
        case hyu2 =>
          intro w hSw
          try dsimp only at hSw
          go_simp
          try with_reducible rfl
        simp only [Act.put, List.setIfInBounds_toArray, List.set_cons_zero, List.set_cons_succ, List.getElem_toArray, List.getElem_cons_zero, List.getElem_cons_succ]
        refine goAny_step (i := 3) (by kernel_rfl) rfl (fun K hK => ?_)
        go_simp
        have X8 := Lib.hid (X6.out.alloc (.cells #[.int .i64 id] 3))
        have Z8 := Lib.hid (Z6.out.alloc (.cells #[.int .i64 id] 3))
        have B8 := Lib.hid (B6.out.alloc (.cells #[.int .i64 id] 3))
        have T8 := Lib.hid (Box.new W7 #[.int .i64 id] 3)
        have O8 := Lib.hid (own_keep O6.out ((Below.refl _ W7).alloc (Nat.le_refl _) (.cells #[.int .i64 id] 3)))
        have R8 := Lib.hid (R6.out.frame (w' := W7.alloc (.cells #[.int .i64 id] 3)) fun b hb => heap_alloc_old _ _ (by have := HF5.out b hb; have := HS6.out; omega))
        have HB8 := Lib.hid (HB6.out.alloc HB6.out.size (.cells #[.int .i64 id] 3))
        have HS8 := Lib.hid (show (W7.alloc (.cells #[.int .i64 id] 3)).heap.size = w5.heap.size + 2 from by rw [World.size_alloc, HS6.out])
        rw [HS6.out] at T8
        try rw [HS6.out]
        generalize W7.alloc (.cells #[.int .i64 id] 3) = W8 at X8 Z8 B8 T8 O8 R8 HB8 HS8 ⊢
        refine hK.out _ _ ?_ (fun hHeld => ?_)
        · exact ⟨B8.out.cell 0, B8.out.cell 1⟩
        clear hK K
        try simp only [Act.put, List.setIfInBounds_toArray, List.set_cons_zero, List.set_cons_succ, List.getElem_toArray, List.getElem_cons_zero, List.getElem_cons_succ]
        refine goAny_step (i := 4) (by kernel_rfl) rfl (fun K hK => ?_)
        refine step_append_lies _ rfl (.tmp 40) (.tmp 42) 28 rfl (N + 1) 3 i0 (.int .i64 0) 1 8 Try.underlying28 HI.out HZ0.out HZ1.out HZ2.out rfl (by decide) (.slice (some ⟨g, 0, none⟩) k cap) k (L.flatMap elI.C) rfl O8.out ⟨w5.heap.size + 1, 0, none⟩ 1 1 [.int .i64 id] rfl rfl ?q1 ?q2 (by omega) ?q3 ?q4 ?q5 _ rfl ?_
        case q1 => exact World.news_of_block T8.out
        case q2 => intro u hu; rw [List.mem_singleton.1 hu]; rfl
        case q3 => have := HM10.out; simp only [maxLen]; omega
        case q4 => have := HM10.out; omega
        case q5 => have := HS8.out; have := HS5.out; omega
        intro g9 cap9 w9 hown hg hat hlt9
        have hgw : ∀ b, b < w5.heap.size + 2 → b ≠ g → w9.heap[b]? = W8.heap[b]? := fun b hb hne => hg.block b (by rw [HS8.out]; exact hb) (by simp [Value.ownBlock]; omega)
        have O9 := Lib.hid hown
        have HG9 := Lib.hid (show g9 = g ∨ g9 = w5.heap.size + 2 from by
          rcases hat with h | h
          · left; simpa [Value.ownBlock] using h.symm
          · right; rw [h, HS8.out])
        have X9 := Lib.hid (show Box w9 N _ 25 from (hgw N (by have := HS5.out; omega) (by have := HS5.out; omega)).trans X8.out)
        have Z9 := Lib.hid (show Box w9 (w.heap.size + 1) _ 25 from (hgw _ (by have := HS5.out; have := HN.out; omega) (by have := HS5.out; have := HN.out; omega)).trans Z8.out)
        have B9 := Lib.hid (show Box w9 w5.heap.size _ 25 from (hgw _ (by omega) (by have := HS5.out; omega)).trans B8.out)
        have R9 := Lib.hid (R8.out.frame (w' := w9) fun b hb => hgw b (by have := HF5.out b hb; omega) (by have := HF5.out b hb; have := HS5.out; omega))
        have HB9 := Lib.hid (HB8.out.grown hg HB8.out.size (fun b e => by have := HS5.out; have := HN.out; simp [Value.ownBlock] at e; omega))
        have HS9 := Lib.hid (show w5.heap.size + 2 ≤ w9.heap.size ∧ g9 < w9.heap.size from ⟨by have := hg.size; rw [HS8.out] at this; exact this, hlt9⟩)
        clear hown hg hat hgw hlt9
        have k0 := X9.out.cell 0
        have k1 := X9.out.cell 1
        have e0 := X9.out.frz 0
        have e1 := X9.out.frz 1
        have kl := X9.out.lt
        have hne : ¬ (w5.heap.size = N) := by have := HS5.out; omega
        have hne2 : ¬ (N = w5.heap.size) := by have := HS5.out; omega
        simp at k0 k1
        refine hK.out _ _ ?_ (fun hHeld => ?_)
        · exact ⟨B9.out.cell 0, B9.out.cell 1⟩
        clear hK K
        try simp only [Act.put, List.setIfInBounds_toArray, List.set_cons_zero, List.set_cons_succ, List.getElem_toArray, List.getElem_cons_zero, List.getElem_cons_succ]
        refine goAny_step (i := 5) (by kernel_rfl) rfl (fun K hK => ?_)
        go_simp
        skip
        refine hK.out _ _ ?_ (fun hHeld => ?_)
        · exact ⟨(cell_off (show N ≠ w5.heap.size from hne2)).trans ((cell_off (show N ≠ w5.heap.size from hne2)).trans (B9.out.cell 0)), (cell_off (show N ≠ w5.heap.size from hne2)).trans ((cell_off (show N ≠ w5.heap.size from hne2)).trans (B9.out.cell 1))⟩
        clear hK K
        try simp only [Act.put, List.setIfInBounds_toArray, List.set_cons_zero, List.set_cons_succ, List.getElem_toArray, List.getElem_cons_zero, List.getElem_cons_succ]
        refine goAny_last (by kernel_rfl) (by kernel_rfl) rfl (fun K hK => ?_)
        go_simp
        skip
        refine hK.out _ _ ?_
        clear hK K
        try simp only [Act.put, List.setIfInBounds_toArray, List.set_cons_zero, List.set_cons_succ, List.getElem_toArray, List.getElem_cons_zero, List.getElem_cons_succ]
        have XA := Lib.hid ((X9.out.set 0 (.slice A5 n5 c5)).set 1 (.int .i64 F5))
        simp only [List.setIfInBounds_toArray, List.set_cons_zero, List.set_cons_succ] at XA
        have ZA := Lib.hid ((Z9.out.other (a := ⟨N, 0, none⟩) (by have := HN.out; show w.heap.size + 1 ≠ N; omega) (.slice A5 n5 c5)).other (a := ⟨N, 1, none⟩) (by have := HN.out; show w.heap.size + 1 ≠ N; omega) (.int .i64 F5))
        have OA := Lib.hid (own_off (own_off O9.out (a := ⟨N, 0, none⟩) (Nat.lt_succ_self N) (.slice A5 n5 c5)) (a := ⟨N, 1, none⟩) (Nat.lt_succ_self N) (.int .i64 F5))
        have hfw : ∀ b ∈ f5, N < b ∧ b < w5.heap.size := fun b hb => by have := HF5.out b hb; have := HS5.out; omega
        have QA := Lib.hid (show QM w ((w9.setCell ⟨N, 0, none⟩ (.slice A5 n5 c5)).setCell ⟨N, 1, none⟩ (.int .i64 F5)) A5 n5 c5 f5 D5 from
          ⟨HL5.out, HC5.out, HN5.out, rowM_off (rowM_off R9.out ⟨N, 0, none⟩ _ fun b hb => by have := hfw b hb; show b ≠ N; omega) ⟨N, 1, none⟩ _ fun b hb => by have := hfw b hb; show b ≠ N; omega,
            fun b hb => by have := hfw b hb; have := HN.out; have := HS9.out; simp only [World.size_setCell]; omega,
            (HB9.out.setCell (p := ⟨N, 0, none⟩) (by have := HN.out; show w.heap.size ≤ N; omega) _).setCell (p := ⟨N, 1, none⟩) (by have := HN.out; show w.heap.size ≤ N; omega) _⟩)
        have FA := Lib.hid (show ∀ b ∈ f5, w.heap.size + 1 < b ∧ b ≠ N ∧ b ≠ g9 from fun b hb => by
          have := HF5.out b hb
          have := HS5.out
          have := HN.out
          have := HG9.out
          omega)
        have HFL := Lib.hid (show (L ++ [id]).flatMap elI.C = L.flatMap elI.C ++ [Value.int .i64 id] from by rw [List.flatMap_append]; rfl)
        clear hfw k0 k1 e0 e1 kl
        generalize (w9.setCell ⟨N, 0, none⟩ (.slice A5 n5 c5)).setCell ⟨N, 1, none⟩ (.int .i64 F5) = wA at XA ZA OA QA ⊢
        go_wp2_with fail
        go_roundw
        case rel => exact ⟨k + 1, by omega, by go_num, D5, L ++ [id], A5, n5, c5, f5, g9, cap9, rfl, HNEXT.out, by rw [HFL.out]; exact OA.out, by rw [HF5'.out]; exact XA.out, ZA.out, QA.out, FA.out⟩
        case measure => simp [intOf]; omega
    · obtain rfl : k = M := by omega
      have hk1 : ¬ ((k : Int) < k) := by omega
      have HV := Lib.hid (show runQ D k = some (Dk, L) from by rw [HRN.out]; exact HRUN.out)
      have HGB := Lib.hid (World.ownsRow.lt HOWN.out g rfl)
      go_wp2_with fail
      refine bodyPost_ret (v := .tuple #[.agg #[.slice Aq nq cq, .int .i64 Fk], .slice (some ⟨g, 0, none⟩) k cap, .bool true]) (by simp [results, Try.results26, go_sem, z0, z1]) rfl ?_
      have hq := (HQ.out.cell (X := w.heap.size + 1) (by omega) (fun hm => by have := HFP.out _ hm; omega) 0 (.slice Aq nq cq)).cell (X := w.heap.size + 1) (by omega) (fun hm => by have := HFP.out _ hm; omega) 1 (.int .i64 Fk)
      have hty := hq.ty
      rw [HFK.out] at hty
      have how := own_off (own_off HOWN.out (a := ⟨w.heap.size + 1, 0, none⟩) (by have := HN.out; show w.heap.size + 1 < N + 1; omega) (.slice Aq nq cq)) (a := ⟨w.heap.size + 1, 1, none⟩) (by have := HN.out; show w.heap.size + 1 < N + 1; omega) (.int .i64 Fk)
      have e1 : runD D k = Dk := by unfold runD; rw [HV.out]
      have e2 : runI D k = L := by unfold runI; rw [HV.out]
      refine ⟨.slice Aq nq cq, .int .i64 Fk, fp, some ⟨g, 0, none⟩, k, cap, [g], by rw [HV.out]; rfl, by rw [e1]; exact hty, hq.own, by rw [e1]; exact hq.sm, capQ hq.cap, by rw [e2]; exact RowM.of_owns (E := elI) how HRK.out.2.1, ?_, by rw [e2]; exact HRK.out.2.1, HM10.out, hq.below⟩
      intro b hb
      rw [List.mem_singleton] at hb
      subst hb
      refine ⟨by have := HGB.out; have := HN.out; omega, by have := HGB.out; simp only [World.size_setCell]; omega, fun hm => (HFP.out b hm).2.2 rfl⟩
end Go.Proofs.Ytagggajlpmdpdaa

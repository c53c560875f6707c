/-
  The model's l11Less.
-/
import Derived.Test.YtagggajlpmdpdaaQS3
import Derived.Test.YtagggajlpmdpdaaReg2
namespace Go.Proofs.Ytagggajlpmdpdaa
open Go.RowKit

theorem rowF_take {w : World} {hi : Nat} {A : Option Addr} {n k : Nat} {l : List ETask} (h : RowF elTask w hi A n l) (hk : k ≤ n) : RowF elTask w hi A k (l.take k) := fun hn => by
  obtain ⟨b, o, e, h1, h2, h3⟩ := h (by omega)
  refine ⟨b, o, e, h1, h2, fun j hj r hr => ?_⟩
  rw [h3 j (by omega) r hr]
  simp only [List.getD_eq_getElem?_getD, List.getElem?_take, if_pos hj]
theorem rowF_drop {w : World} {hi b o n j : Nat} {l : List ETask} (h : RowF elTask w hi (some ⟨b, o, none⟩) n l) : RowF elTask w hi (some ⟨b, o + j * 4, none⟩) (n - j) (l.drop j) := fun hn => by
  obtain ⟨b2, o2, e, h1, h2, h3⟩ := h (by omega)
  injection e with e
  injection e with e1 e2
  subst e1
  subst e2
  refine ⟨b, o + j * 4, rfl, h1, h2, fun i hi r hr => ?_⟩
  have h4 := h3 (j + i) (by omega) r hr
  rw [show o + j * 4 + i * elTask.K + r = o + (j + i) * elTask.K + r from by show o + j * 4 + i * 4 + r = o + (j + i) * 4 + r; omega, h4]
  simp only [List.getD_eq_getElem?_getD, List.getElem?_drop]

section
variable {w : World}
theorem tkC_app (a b : List ETask) : tkC (a ++ b) = tkC a ++ tkC b := List.flatMap_append
theorem own_len {w : World} {base g cap k : Nat} {l : List ETask} (h : w.ownsRow base 42 4 (.slice (some ⟨g, 0, none⟩) k cap) k (tkC l)) (_hl : l.length = k) : w.ownsRow base 42 4 (.slice (some ⟨g, 0, none⟩) k cap) k (tkC l) := h
theorem own_end {w : World} {base g cap k : Nat} {l : List ETask} {xs : List Value} (h : w.ownsRow base 42 4 (.slice (some ⟨g, 0, none⟩) k cap) k xs) (hx : xs = tkC l) (hl : l.length = k) :
    ∃ fp, RowM elTask w fp (some ⟨g, 0, none⟩) l.length l ∧ ∀ b ∈ fp, base ≤ b ∧ b < w.heap.size := by
  subst hx
  subst hl
  refine ⟨[g], RowM.of_owns (E := elTask) h rfl, fun b hb => ?_⟩
  rw [List.mem_singleton] at hb
  subst hb
  exact World.ownsRow.lt h b rfl
set_option maxHeartbeats 4000000 in
set_option maxRecDepth 100000 in
theorem qLess_any {hi : Nat} {x0 x1 : Value} {D : Qu} (k : Nat) (h : tyQueue.R w hi [x0, x1] D) (hcq : CapQ x0) (hk : k < D.1.length) (hs : D.1.length ≤ 1000) :
    Calls Try.prog 75 #[.agg #[x0, x1], .int .i64 k] w fun e w' => ∃ y0 y1 fp, e = .returned (.agg #[y0, y1]) ∧ tyQueue.M w' fp [y0, y1] (D.1.eraseIdx k, D.2) ∧ (∀ b ∈ fp, w.heap.size ≤ b ∧ b < w'.heap.size) ∧ CapQ y0 ∧ Below w.heap.size w w' := by
  obtain ⟨A, n, c, hcs, hl, hn, hr⟩ := tyQueue_R h
  simp only [List.cons.injEq, and_true] at hcs
  obtain ⟨rfl, rfl⟩ := hcs
  obtain ⟨l, F⟩ := D
  dsimp only at hl hr ⊢
  obtain ⟨i0, hi0, hz0, hz1, hz2⟩ := infoTask
  have HI := Lib.hid hi0
  have HZ0 := Lib.hid hz0
  have HZ1 := Lib.hid hz1
  have HZ2 := Lib.hid hz2
  clear hi0 hz0 hz1 hz2
  dsimp only at hs hk
  rw [hl] at hs hk
  have hnc := capQ_le hcq
  obtain ⟨b, o, rfl, hbh, hb0, _⟩ := hr (by omega)
  have HR := Lib.hid hr
  have HL := Lib.hid hl
  have HER := Lib.hid (show l.take k ++ l.drop (k + 1) = l.eraseIdx k from (List.eraseIdx_eq_take_drop_succ l k).symm)
  have HEL := Lib.hid (show (l.eraseIdx k).length ≤ 1048576 by rw [List.length_eraseIdx]; split <;> omega)
  have HTL := Lib.hid (show (l.take k).length = k by rw [List.length_take]; omega)
  have HDL := Lib.hid (show (l.drop (k + 1)).length = n - (k + 1) by rw [List.length_drop, hl])
  generalize l.eraseIdx k = E at HER HEL ⊢
  clear h hr hl hn hcq
  have X1 := Lib.hid ((Box.new w #[.slice (some ⟨b, o, none⟩) n c, .int .i64 F] 25).alloc (.cells #[.slice none 0 0, .int .i64 0] 25))
  have Z1 := Lib.hid (Box.new (w.alloc (.cells #[.slice (some ⟨b, o, none⟩) n c, .int .i64 F] 25)) #[.slice none 0 0, .int .i64 0] 25)
  simp only [World.size_alloc] at Z1
  have HB1 := Lib.hid (show Below w.heap.size w ((w.alloc (.cells #[.slice (some ⟨b, o, none⟩) n c, .int .i64 F] 25)).alloc (.cells #[.slice none 0 0, .int .i64 0] 25)) from ((Below.refl _ _).alloc (Nat.le_refl _) _).alloc (by simp only [World.size_alloc]; omega) _)
  have q0 : (0 : Int) ≤ (k : Int) := by omega
  have q1 : (k : Int) ≤ (n : Int) := by omega
  have q2 : (k : Int) ≤ (c : Int) := by omega
  have q3 : IntKind.i64.wrap ((k : Int) + 1) = (k : Int) + 1 := IntWalk.i64_in _ (by omega)
  have q4 : (0 : Int) ≤ (k : Int) + 1 := by omega
  have q5 : (k : Int) + 1 ≤ (n : Int) := by omega
  have q6 : (n : Int) ≤ (c : Int) := by omega
  by_cases hf : 0 < k
  · by_cases hl2 : k + 1 < n
    · have q7 : ¬ (c = k + 1) := by omega
      go_enter Try.func75, Try.ntmps75
      go_wp2_with fail
      generalize ((w.alloc (.cells #[.slice (some ⟨b, o, none⟩) n c, .int .i64 F] 25)).alloc (.cells #[.slice none 0 0, .int .i64 0] 25)) = W0 at X1 Z1 HB1 ⊢
      replace HB1 := Lib.hid HB1.out.drew
      replace X1 := Lib.hid (show Box W0.drew _ _ _ from X1.out)
      replace Z1 := Lib.hid (show Box W0.drew _ _ _ from Z1.out)
      refine goAny_drew (z := 13) (S := fun w' => w'.cell? ⟨w.heap.size, 0, none⟩ = some (.slice (some ⟨b, o, none⟩) n c) ∧ w'.cell? ⟨w.heap.size, 1, none⟩ = some (.int .i64 F)) (by kernel_rfl) ⟨X1.out.cell 0, X1.out.cell 1⟩ (fun hHeld => ?_)
      generalize W0.drew = W1 at X1 Z1 HB1 hHeld ⊢
      refine goAny_take (i := 1) (v := ?va1) (by kernel_rfl) (by kernel_rfl) rfl (by kernel_rfl) (by kernel_rfl) (by kernel_rfl) (fun _ _ _ h => h) (Or.inl ⟨by rfl, ?hya1⟩) (by assumption) ?resta1
      case hya1 =>
        intro w hSw
        try dsimp only at hSw
        go_simp
        try with_reducible rfl
      simp only [Act.put, List.setIfInBounds_toArray, List.set_cons_zero, List.set_cons_succ, List.getElem_toArray, List.getElem_cons_zero, List.getElem_cons_succ]
      refine goAny_take (i := 2) (v := ?va2) (by kernel_rfl) (by kernel_rfl) rfl (by kernel_rfl) (by kernel_rfl) (by kernel_rfl) (fun _ _ _ h => h) (Or.inl ⟨by rfl, ?hya2⟩) (by assumption) ?resta2
      case hya2 =>
        intro w hSw
        try dsimp only at hSw
        go_simp
        try with_reducible rfl
      simp only [Act.put, List.setIfInBounds_toArray, List.set_cons_zero, List.set_cons_succ, List.getElem_toArray, List.getElem_cons_zero, List.getElem_cons_succ]
      refine goAny_take (i := 3) (v := ?va3) (by kernel_rfl) (by kernel_rfl) rfl (by kernel_rfl) (by kernel_rfl) (by kernel_rfl) (fun _ _ _ h => h) (Or.inl ⟨by rfl, ?hya3⟩) (by assumption) ?resta3
      case hya3 =>
        intro w hSw
        try dsimp only at hSw
        go_simp
        try with_reducible rfl
      simp only [Act.put, List.setIfInBounds_toArray, List.set_cons_zero, List.set_cons_succ, List.getElem_toArray, List.getElem_cons_zero, List.getElem_cons_succ]
      refine goAny_take (i := 4) (v := ?va4) (by kernel_rfl) (by kernel_rfl) rfl (by kernel_rfl) (by kernel_rfl) (by kernel_rfl) (fun _ _ _ h => h) (Or.inl ⟨by rfl, ?hya4⟩) (by assumption) ?resta4
      case hya4 =>
        intro w hSw
        try dsimp only at hSw
        go_simp
        try with_reducible rfl
      simp only [Act.put, List.setIfInBounds_toArray, List.set_cons_zero, List.set_cons_succ, List.getElem_toArray, List.getElem_cons_zero, List.getElem_cons_succ]
      refine goAny_take (i := 6) (v := ?va6) (by kernel_rfl) (by kernel_rfl) rfl (by kernel_rfl) (by kernel_rfl) (by kernel_rfl) (fun _ _ _ h => h) (Or.inl ⟨by rfl, ?hya6⟩) (by assumption) ?resta6
      case hya6 =>
        intro w hSw
        try dsimp only at hSw
        go_simp
        try with_reducible rfl
      simp only [Act.put, List.setIfInBounds_toArray, List.set_cons_zero, List.set_cons_succ, List.getElem_toArray, List.getElem_cons_zero, List.getElem_cons_succ]
      refine goAny_take (i := 7) (v := ?va7) (by kernel_rfl) (by kernel_rfl) rfl (by kernel_rfl) (by kernel_rfl) (by kernel_rfl) (fun _ _ _ h => h) (Or.inl ⟨by rfl, ?hya7⟩) (by assumption) ?resta7
      case hya7 =>
        intro w hSw
        try dsimp only at hSw
        go_simp
        try with_reducible rfl
      simp only [Act.put, List.setIfInBounds_toArray, List.set_cons_zero, List.set_cons_succ, List.getElem_toArray, List.getElem_cons_zero, List.getElem_cons_succ]
      refine goAny_take (i := 8) (v := ?va8) (by kernel_rfl) (by kernel_rfl) rfl (by kernel_rfl) (by kernel_rfl) (by kernel_rfl) (fun _ _ _ h => h) (Or.inl ⟨by rfl, ?hya8⟩) (by assumption) ?resta8
      case hya8 =>
        intro w hSw
        try dsimp only at hSw
        go_simp
        try with_reducible rfl
      simp only [Act.put, List.setIfInBounds_toArray, List.set_cons_zero, List.set_cons_succ, List.getElem_toArray, List.getElem_cons_zero, List.getElem_cons_succ]
      refine goAny_take (i := 9) (v := ?va9) (by kernel_rfl) (by kernel_rfl) rfl (by kernel_rfl) (by kernel_rfl) (by kernel_rfl) (fun _ _ _ h => h) (Or.inl ⟨by rfl, ?hya9⟩) (by assumption) ?resta9
      case hya9 =>
        intro w hSw
        try dsimp only at hSw
        go_simp
        try with_reducible rfl
      simp only [Act.put, List.setIfInBounds_toArray, List.set_cons_zero, List.set_cons_succ, List.getElem_toArray, List.getElem_cons_zero, List.getElem_cons_succ]
      refine goAny_take (i := 10) (v := ?va10) (by kernel_rfl) (by kernel_rfl) rfl (by kernel_rfl) (by kernel_rfl) (by kernel_rfl) (fun _ _ _ h => h) (Or.inl ⟨by rfl, ?hya10⟩) (by assumption) ?resta10
      case hya10 =>
        intro w hSw
        try dsimp only at hSw
        go_simp
        try with_reducible rfl
      simp only [Act.put, List.setIfInBounds_toArray, List.set_cons_zero, List.set_cons_succ, List.getElem_toArray, List.getElem_cons_zero, List.getElem_cons_succ]
      refine goAny_step (i := 0) (by kernel_rfl) rfl (fun K hK => ?_)
      go_simp
      have HB2 := Lib.hid (HB1.out.alloc HB1.out.size (.cells #[] 42))
      have X2 := Lib.hid (X1.out.alloc (.cells #[] 42))
      have Z2 := Lib.hid (Z1.out.alloc (.cells #[] 42))
      have N2 := Lib.hid (Box.new W1 #[] 42)
      have hN : w.heap.size + 1 < W1.heap.size := Z1.out.lt
      generalize W1.heap.size = N at N2 hN ⊢
      generalize W1.alloc (.cells #[] 42) = W2 at HB2 X2 Z2 N2 ⊢
      have HO2 := Lib.hid (show OwnT W2 (w.heap.size + 2) (.slice (some ⟨N, 0, none⟩) 0 0) [] from own_empty' N2.out (by omega))
      refine hK.out _ _ ?_ (fun hHeld => ?_)
      · exact ⟨X2.out.cell 0, X2.out.cell 1⟩
      clear hK K
      try simp only [Act.put, List.setIfInBounds_toArray, List.set_cons_zero, List.set_cons_succ, List.getElem_toArray, List.getElem_cons_zero, List.getElem_cons_succ]
      refine goAny_step (i := 5) (by kernel_rfl) rfl (fun K hK => ?_)
      refine step_append_lies _ rfl (.tmp 5) (.tmp 9) 23 rfl (w.heap.size + 2) 42 i0 (.agg #[.int .i64 0, .int .i64 0, .int .i64 0, .bool false]) 4 32 Try.underlying23 HI.out HZ0.out HZ1.out HZ2.out rfl (by decide) (.slice (some ⟨N, 0, none⟩) 0 0) 0 (tkC (([] : List ETask))) rfl (HO2.out) ⟨b, o, none⟩ k c (tkC (l.take k)) rfl (by rw [tkC_len, HTL.out]) ?q1 ?q2 (by omega) ?q3 ?q4 ?q5 _ rfl ?_
      case q1 => exact (rowF_take HR.out (by omega) |>.wb HB2.out).news HTL.out (by decide)
      case q2 => exact tkC_one _
      case q3 => simp only [maxLen]; omega
      case q4 => omega
      case q5 => have := HB2.out.size; have := Z2.out.lt; omega
      intro g3 cap3 w3 hown hg hat hlt3
      have hge3 := (hown.lt g3 rfl).1
      have hcq3 : k ≤ cap3 := by have := own_capT hown; omega
      have HO3 := Lib.hid (hown)
      have X3 := Lib.hid (show Box w3 w.heap.size _ 25 from (hg.block _ X2.out.lt (by simp [Value.ownBlock]; omega)).trans X2.out)
      have Z3 := Lib.hid (show Box w3 (w.heap.size + 1) _ 25 from (hg.block _ Z2.out.lt (by simp [Value.ownBlock]; omega)).trans Z2.out)
      have HB3 := Lib.hid (HB2.out.grown hg HB2.out.size (fun k e => by simp [Value.ownBlock] at e; omega))
      clear hown hg hat
      rw [Nat.zero_add, show tkC ([] : List ETask) = [] from rfl, List.nil_append] at HO3
      try rw [Nat.zero_add]
      refine hK.out _ _ ?_ (fun hHeld => ?_)
      · exact ⟨X3.out.cell 0, X3.out.cell 1⟩
      clear hK K
      try simp only [Act.put, List.setIfInBounds_toArray, List.set_cons_zero, List.set_cons_succ, List.getElem_toArray, List.getElem_cons_zero, List.getElem_cons_succ]
      refine goAny_step (i := 11) (by kernel_rfl) rfl (fun K hK => ?_)
      refine step_append_lies _ rfl (.tmp 10) (.tmp 15) 23 rfl (w.heap.size + 2) 42 i0 (.agg #[.int .i64 0, .int .i64 0, .int .i64 0, .bool false]) 4 32 Try.underlying23 HI.out HZ0.out HZ1.out HZ2.out rfl (by decide) (.slice (some ⟨g3, 0, none⟩) k cap3) k (tkC (l.take k)) rfl (own_len HO3.out HTL.out) ⟨b, o + (k + 1) * 4, none⟩ (n - (k + 1)) (c - (k + 1)) (tkC (l.drop (k + 1))) rfl (by rw [tkC_len, HDL.out]) ?q1 ?q2 (by omega) ?q3 ?q4 ?q5 _ rfl ?_
      case q1 => exact (rowF_drop (j := k + 1) HR.out |>.wb HB3.out).news HDL.out (by decide)
      case q2 => exact tkC_one _
      case q3 => simp only [maxLen]; omega
      case q4 => omega
      case q5 => have := HB3.out.size; have := Z3.out.lt; omega
      intro g4 cap4 w4 hown hg hat hlt4
      have hge4 := (hown.lt g4 rfl).1
      have hcq4 : k + (n - (k + 1)) ≤ cap4 := by have := own_capT hown; omega
      have HO4 := Lib.hid (hown)
      have X4 := Lib.hid (show Box w4 w.heap.size _ 25 from (hg.block _ X3.out.lt (by simp [Value.ownBlock]; omega)).trans X3.out)
      have Z4 := Lib.hid (show Box w4 (w.heap.size + 1) _ 25 from (hg.block _ Z3.out.lt (by simp [Value.ownBlock]; omega)).trans Z3.out)
      have HB4 := Lib.hid (HB3.out.grown hg HB3.out.size (fun k e => by simp [Value.ownBlock] at e; omega))
      clear hown hg hat
      have HM := Lib.hid (own_end (l := E) HO4.out (by rw [← HER.out, tkC_app]) (by rw [← HER.out, List.length_append, HTL.out, HDL.out]))
      have HLE := Lib.hid (show E.length = k + (n - (k + 1)) by rw [← HER.out, List.length_append, HTL.out, HDL.out] <;> omega)
      have z0 := Z4.out.cell 0
      have z1 := Z4.out.cell 1
      have x0 := X4.out.cell 0
      have x1 := X4.out.cell 1
      have e0 := Z4.out.frz 0
      have e1 := Z4.out.frz 1
      have f0 := X4.out.frz 0
      have zl := Z4.out.lt
      have xl := X4.out.lt
      simp at z0 z1 x0 x1
      refine hK.out _ _ ?_ (fun hHeld => ?_)
      · exact ⟨X4.out.cell 0, X4.out.cell 1⟩
      clear hK K
      try simp only [Act.put, List.setIfInBounds_toArray, List.set_cons_zero, List.set_cons_succ, List.getElem_toArray, List.getElem_cons_zero, List.getElem_cons_succ]
      refine goAny_take (i := 12) (v := ?va12) (by kernel_rfl) (by kernel_rfl) rfl (by kernel_rfl) (by kernel_rfl) (by kernel_rfl) (fun _ _ _ h => h) (Or.inl ⟨by rfl, ?hya12⟩) (by assumption) ?resta12
      case hya12 =>
        intro w hSw
        try dsimp only at hSw
        go_simp
        try with_reducible rfl
      simp only [Act.put, List.setIfInBounds_toArray, List.set_cons_zero, List.set_cons_succ, List.getElem_toArray, List.getElem_cons_zero, List.getElem_cons_succ]
      refine goAny_last (by kernel_rfl) (by kernel_rfl) rfl (fun K hK => ?_)
      go_simp
      try rw [← HLE.out]
      refine hK.out _ _ ?_
      clear hK K
      try simp only [Act.put, List.setIfInBounds_toArray, List.set_cons_zero, List.set_cons_succ, List.getElem_toArray, List.getElem_cons_zero, List.getElem_cons_succ]
      go_wp2_with fail
      refine bodyPost_ret (v := .agg #[.slice (some ⟨g4, 0, none⟩) E.length cap4, .int .i64 F]) (by simp [results, Try.results75, go_sem, z0, z1]) rfl ?_
      refine ⟨.slice (some ⟨g4, 0, none⟩) E.length cap4, .int .i64 F, HM.out.choose, rfl, tyQueue_Mmk (D := (E, F)) ⟨rfl, HEL.out, rowM_off (rowM_off (rowM_off HM.out.choose_spec.1 ⟨w.heap.size, 0, none⟩ _ fun b hb => ?_) ⟨w.heap.size + 1, 0, none⟩ _ fun b hb => ?_) ⟨w.heap.size + 1, 1, none⟩ _ fun b hb => ?_⟩, fun b hb => ?_, capQ (by have := hcq4; have h := HER.out; rw [← h, List.length_append, HTL.out, HDL.out]; omega), ((HB4.out.setCell (p := ⟨w.heap.size, 0, none⟩) (Nat.le_refl _) _).setCell (p := ⟨w.heap.size + 1, 0, none⟩) (Nat.le_add_right _ _) _).setCell (p := ⟨w.heap.size + 1, 1, none⟩) (Nat.le_add_right _ _) _⟩
      · have := HM.out.choose_spec.2 b hb; show b ≠ w.heap.size; omega
      · have := HM.out.choose_spec.2 b hb; show b ≠ w.heap.size + 1; omega
      · have := HM.out.choose_spec.2 b hb; show b ≠ w.heap.size + 1; omega
      · have := HM.out.choose_spec.2 b hb; simp only [World.size_setCell]; omega
    · have q8 : n - (k + 1) = 0 := by omega
      by_cases q7 : c = k + 1
      · subst q7
        have q9 : (k : Int) ≤ (k : Int) + 1 := by omega
        go_enter Try.func75, Try.ntmps75
        go_wp2_with fail
        generalize ((w.alloc (.cells #[.slice (some ⟨b, o, none⟩) n (k + 1), .int .i64 F] 25)).alloc (.cells #[.slice none 0 0, .int .i64 0] 25)) = W0 at X1 Z1 HB1 ⊢
        replace HB1 := Lib.hid HB1.out.drew
        replace X1 := Lib.hid (show Box W0.drew _ _ _ from X1.out)
        replace Z1 := Lib.hid (show Box W0.drew _ _ _ from Z1.out)
        refine goAny_drew (z := 13) (S := fun w' => w'.cell? ⟨w.heap.size, 0, none⟩ = some (.slice (some ⟨b, o, none⟩) n (k + 1)) ∧ w'.cell? ⟨w.heap.size, 1, none⟩ = some (.int .i64 F)) (by kernel_rfl) ⟨X1.out.cell 0, X1.out.cell 1⟩ (fun hHeld => ?_)
        generalize W0.drew = W1 at X1 Z1 HB1 hHeld ⊢
        refine goAny_take (i := 1) (v := ?vb1) (by kernel_rfl) (by kernel_rfl) rfl (by kernel_rfl) (by kernel_rfl) (by kernel_rfl) (fun _ _ _ h => h) (Or.inl ⟨by rfl, ?hyb1⟩) (by assumption) ?restb1
        case hyb1 =>
          intro w hSw
          try dsimp only at hSw
          go_simp
          try with_reducible rfl
        simp only [Act.put, List.setIfInBounds_toArray, List.set_cons_zero, List.set_cons_succ, List.getElem_toArray, List.getElem_cons_zero, List.getElem_cons_succ]
        refine goAny_take (i := 2) (v := ?vb2) (by kernel_rfl) (by kernel_rfl) rfl (by kernel_rfl) (by kernel_rfl) (by kernel_rfl) (fun _ _ _ h => h) (Or.inl ⟨by rfl, ?hyb2⟩) (by assumption) ?restb2
        case hyb2 =>
          intro w hSw
          try dsimp only at hSw
          go_simp
          try with_reducible rfl
        simp only [Act.put, List.setIfInBounds_toArray, List.set_cons_zero, List.set_cons_succ, List.getElem_toArray, List.getElem_cons_zero, List.getElem_cons_succ]
        refine goAny_take (i := 3) (v := ?vb3) (by kernel_rfl) (by kernel_rfl) rfl (by kernel_rfl) (by kernel_rfl) (by kernel_rfl) (fun _ _ _ h => h) (Or.inl ⟨by rfl, ?hyb3⟩) (by assumption) ?restb3
        case hyb3 =>
          intro w hSw
          try dsimp only at hSw
          go_simp
          try with_reducible rfl
        simp only [Act.put, List.setIfInBounds_toArray, List.set_cons_zero, List.set_cons_succ, List.getElem_toArray, List.getElem_cons_zero, List.getElem_cons_succ]
        refine goAny_take (i := 4) (v := ?vb4) (by kernel_rfl) (by kernel_rfl) rfl (by kernel_rfl) (by kernel_rfl) (by kernel_rfl) (fun _ _ _ h => h) (Or.inl ⟨by rfl, ?hyb4⟩) (by assumption) ?restb4
        case hyb4 =>
          intro w hSw
          try dsimp only at hSw
          go_simp
          try with_reducible rfl
        simp only [Act.put, List.setIfInBounds_toArray, List.set_cons_zero, List.set_cons_succ, List.getElem_toArray, List.getElem_cons_zero, List.getElem_cons_succ]
        refine goAny_take (i := 6) (v := ?vb6) (by kernel_rfl) (by kernel_rfl) rfl (by kernel_rfl) (by kernel_rfl) (by kernel_rfl) (fun _ _ _ h => h) (Or.inl ⟨by rfl, ?hyb6⟩) (by assumption) ?restb6
        case hyb6 =>
          intro w hSw
          try dsimp only at hSw
          go_simp
          try with_reducible rfl
        simp only [Act.put, List.setIfInBounds_toArray, List.set_cons_zero, List.set_cons_succ, List.getElem_toArray, List.getElem_cons_zero, List.getElem_cons_succ]
        refine goAny_take (i := 7) (v := ?vb7) (by kernel_rfl) (by kernel_rfl) rfl (by kernel_rfl) (by kernel_rfl) (by kernel_rfl) (fun _ _ _ h => h) (Or.inl ⟨by rfl, ?hyb7⟩) (by assumption) ?restb7
        case hyb7 =>
          intro w hSw
          try dsimp only at hSw
          go_simp
          try with_reducible rfl
        simp only [Act.put, List.setIfInBounds_toArray, List.set_cons_zero, List.set_cons_succ, List.getElem_toArray, List.getElem_cons_zero, List.getElem_cons_succ]
        refine goAny_take (i := 8) (v := ?vb8) (by kernel_rfl) (by kernel_rfl) rfl (by kernel_rfl) (by kernel_rfl) (by kernel_rfl) (fun _ _ _ h => h) (Or.inl ⟨by rfl, ?hyb8⟩) (by assumption) ?restb8
        case hyb8 =>
          intro w hSw
          try dsimp only at hSw
          go_simp
          try with_reducible rfl
        simp only [Act.put, List.setIfInBounds_toArray, List.set_cons_zero, List.set_cons_succ, List.getElem_toArray, List.getElem_cons_zero, List.getElem_cons_succ]
        refine goAny_take (i := 9) (v := ?vb9) (by kernel_rfl) (by kernel_rfl) rfl (by kernel_rfl) (by kernel_rfl) (by kernel_rfl) (fun _ _ _ h => h) (Or.inl ⟨by rfl, ?hyb9⟩) (by assumption) ?restb9
        case hyb9 =>
          intro w hSw
          try dsimp only at hSw
          go_simp
          try with_reducible rfl
        simp only [Act.put, List.setIfInBounds_toArray, List.set_cons_zero, List.set_cons_succ, List.getElem_toArray, List.getElem_cons_zero, List.getElem_cons_succ]
        refine goAny_take (i := 10) (v := ?vb10) (by kernel_rfl) (by kernel_rfl) rfl (by kernel_rfl) (by kernel_rfl) (by kernel_rfl) (fun _ _ _ h => h) (Or.inl ⟨by rfl, ?hyb10⟩) (by assumption) ?restb10
        case hyb10 =>
          intro w hSw
          try dsimp only at hSw
          go_simp
          try with_reducible rfl
        simp only [Act.put, List.setIfInBounds_toArray, List.set_cons_zero, List.set_cons_succ, List.getElem_toArray, List.getElem_cons_zero, List.getElem_cons_succ]
        refine goAny_step (i := 0) (by kernel_rfl) rfl (fun K hK => ?_)
        go_simp
        have HB2 := Lib.hid (HB1.out.alloc HB1.out.size (.cells #[] 42))
        have X2 := Lib.hid (X1.out.alloc (.cells #[] 42))
        have Z2 := Lib.hid (Z1.out.alloc (.cells #[] 42))
        have N2 := Lib.hid (Box.new W1 #[] 42)
        have hN : w.heap.size + 1 < W1.heap.size := Z1.out.lt
        generalize W1.heap.size = N at N2 hN ⊢
        generalize W1.alloc (.cells #[] 42) = W2 at HB2 X2 Z2 N2 ⊢
        have HO2 := Lib.hid (show OwnT W2 (w.heap.size + 2) (.slice (some ⟨N, 0, none⟩) 0 0) [] from own_empty' N2.out (by omega))
        refine hK.out _ _ ?_ (fun hHeld => ?_)
        · exact ⟨X2.out.cell 0, X2.out.cell 1⟩
        clear hK K
        try simp only [Act.put, List.setIfInBounds_toArray, List.set_cons_zero, List.set_cons_succ, List.getElem_toArray, List.getElem_cons_zero, List.getElem_cons_succ]
        refine goAny_step (i := 5) (by kernel_rfl) rfl (fun K hK => ?_)
        refine step_append_lies _ rfl (.tmp 5) (.tmp 9) 23 rfl (w.heap.size + 2) 42 i0 (.agg #[.int .i64 0, .int .i64 0, .int .i64 0, .bool false]) 4 32 Try.underlying23 HI.out HZ0.out HZ1.out HZ2.out rfl (by decide) (.slice (some ⟨N, 0, none⟩) 0 0) 0 (tkC (([] : List ETask))) rfl (HO2.out) ⟨b, o, none⟩ k (k + 1) (tkC (l.take k)) rfl (by rw [tkC_len, HTL.out]) ?q1 ?q2 (by omega) ?q3 ?q4 ?q5 _ rfl ?_
        case q1 => exact (rowF_take HR.out (by omega) |>.wb HB2.out).news HTL.out (by decide)
        case q2 => exact tkC_one _
        case q3 => simp only [maxLen]; omega
        case q4 => omega
        case q5 => have := HB2.out.size; have := Z2.out.lt; omega
        intro g3 cap3 w3 hown hg hat hlt3
        have hge3 := (hown.lt g3 rfl).1
        have hcq3 : k ≤ cap3 := by have := own_capT hown; omega
        have HO3 := Lib.hid (hown)
        have X3 := Lib.hid (show Box w3 w.heap.size _ 25 from (hg.block _ X2.out.lt (by simp [Value.ownBlock]; omega)).trans X2.out)
        have Z3 := Lib.hid (show Box w3 (w.heap.size + 1) _ 25 from (hg.block _ Z2.out.lt (by simp [Value.ownBlock]; omega)).trans Z2.out)
        have HB3 := Lib.hid (HB2.out.grown hg HB2.out.size (fun k e => by simp [Value.ownBlock] at e; omega))
        clear hown hg hat
        rw [Nat.zero_add, show tkC ([] : List ETask) = [] from rfl, List.nil_append] at HO3
        try rw [Nat.zero_add]
        have HM := Lib.hid (own_end (l := E) HO3.out (by rw [← HER.out, show l.drop (k + 1) = [] from List.eq_nil_of_length_eq_zero (by rw [HDL.out]; omega), List.append_nil]) (by rw [← HER.out, List.length_append, HTL.out, HDL.out]; omega))
        have HLE := Lib.hid (show E.length = k by rw [← HER.out, List.length_append, HTL.out, HDL.out] <;> omega)
        have z0 := Z3.out.cell 0
        have z1 := Z3.out.cell 1
        have x0 := X3.out.cell 0
        have x1 := X3.out.cell 1
        have e0 := Z3.out.frz 0
        have e1 := Z3.out.frz 1
        have f0 := X3.out.frz 0
        have zl := Z3.out.lt
        have xl := X3.out.lt
        simp at z0 z1 x0 x1
        refine hK.out _ _ ?_ (fun hHeld => ?_)
        · exact ⟨X3.out.cell 0, X3.out.cell 1⟩
        clear hK K
        try simp only [Act.put, List.setIfInBounds_toArray, List.set_cons_zero, List.set_cons_succ, List.getElem_toArray, List.getElem_cons_zero, List.getElem_cons_succ]
        refine goAny_take (i := 11) (v := ?vb11) (by kernel_rfl) (by kernel_rfl) rfl (by kernel_rfl) (by kernel_rfl) (by kernel_rfl) (fun _ _ _ h => h) (Or.inl ⟨by rfl, ?hyb11⟩) (by assumption) ?restb11
        case hyb11 =>
          intro w hSw
          try dsimp only at hSw
          go_simp
          try with_reducible rfl
        simp only [Act.put, List.setIfInBounds_toArray, List.set_cons_zero, List.set_cons_succ, List.getElem_toArray, List.getElem_cons_zero, List.getElem_cons_succ]
        refine goAny_take (i := 12) (v := ?vb12) (by kernel_rfl) (by kernel_rfl) rfl (by kernel_rfl) (by kernel_rfl) (by kernel_rfl) (fun _ _ _ h => h) (Or.inl ⟨by rfl, ?hyb12⟩) (by assumption) ?restb12
        case hyb12 =>
          intro w hSw
          try dsimp only at hSw
          go_simp
          try with_reducible rfl
        simp only [Act.put, List.setIfInBounds_toArray, List.set_cons_zero, List.set_cons_succ, List.getElem_toArray, List.getElem_cons_zero, List.getElem_cons_succ]
        refine goAny_last (by kernel_rfl) (by kernel_rfl) rfl (fun K hK => ?_)
        go_simp
        try rw [← HLE.out]
        refine hK.out _ _ ?_
        clear hK K
        try simp only [Act.put, List.setIfInBounds_toArray, List.set_cons_zero, List.set_cons_succ, List.getElem_toArray, List.getElem_cons_zero, List.getElem_cons_succ]
        go_wp2_with fail
        refine bodyPost_ret (v := .agg #[.slice (some ⟨g3, 0, none⟩) E.length cap3, .int .i64 F]) (by simp [results, Try.results75, go_sem, z0, z1]) rfl ?_
        refine ⟨.slice (some ⟨g3, 0, none⟩) E.length cap3, .int .i64 F, HM.out.choose, rfl, tyQueue_Mmk (D := (E, F)) ⟨rfl, HEL.out, rowM_off (rowM_off (rowM_off HM.out.choose_spec.1 ⟨w.heap.size, 0, none⟩ _ fun b hb => ?_) ⟨w.heap.size + 1, 0, none⟩ _ fun b hb => ?_) ⟨w.heap.size + 1, 1, none⟩ _ fun b hb => ?_⟩, fun b hb => ?_, capQ (by have := hcq3; have h := HER.out; rw [← h, List.length_append, HTL.out, HDL.out]; omega), ((HB3.out.setCell (p := ⟨w.heap.size, 0, none⟩) (Nat.le_refl _) _).setCell (p := ⟨w.heap.size + 1, 0, none⟩) (Nat.le_add_right _ _) _).setCell (p := ⟨w.heap.size + 1, 1, none⟩) (Nat.le_add_right _ _) _⟩
        · have := HM.out.choose_spec.2 b hb; show b ≠ w.heap.size; omega
        · have := HM.out.choose_spec.2 b hb; show b ≠ w.heap.size + 1; omega
        · have := HM.out.choose_spec.2 b hb; show b ≠ w.heap.size + 1; omega
        · have := HM.out.choose_spec.2 b hb; simp only [World.size_setCell]; omega
      · go_enter Try.func75, Try.ntmps75
        go_wp2_with fail
        generalize ((w.alloc (.cells #[.slice (some ⟨b, o, none⟩) n c, .int .i64 F] 25)).alloc (.cells #[.slice none 0 0, .int .i64 0] 25)) = W0 at X1 Z1 HB1 ⊢
        replace HB1 := Lib.hid HB1.out.drew
        replace X1 := Lib.hid (show Box W0.drew _ _ _ from X1.out)
        replace Z1 := Lib.hid (show Box W0.drew _ _ _ from Z1.out)
        refine goAny_drew (z := 13) (S := fun w' => w'.cell? ⟨w.heap.size, 0, none⟩ = some (.slice (some ⟨b, o, none⟩) n c) ∧ w'.cell? ⟨w.heap.size, 1, none⟩ = some (.int .i64 F)) (by kernel_rfl) ⟨X1.out.cell 0, X1.out.cell 1⟩ (fun hHeld => ?_)
        generalize W0.drew = W1 at X1 Z1 HB1 hHeld ⊢
        refine goAny_take (i := 1) (v := ?vc1) (by kernel_rfl) (by kernel_rfl) rfl (by kernel_rfl) (by kernel_rfl) (by kernel_rfl) (fun _ _ _ h => h) (Or.inl ⟨by rfl, ?hyc1⟩) (by assumption) ?restc1
        case hyc1 =>
          intro w hSw
          try dsimp only at hSw
          go_simp
          try with_reducible rfl
        simp only [Act.put, List.setIfInBounds_toArray, List.set_cons_zero, List.set_cons_succ, List.getElem_toArray, List.getElem_cons_zero, List.getElem_cons_succ]
        refine goAny_take (i := 2) (v := ?vc2) (by kernel_rfl) (by kernel_rfl) rfl (by kernel_rfl) (by kernel_rfl) (by kernel_rfl) (fun _ _ _ h => h) (Or.inl ⟨by rfl, ?hyc2⟩) (by assumption) ?restc2
        case hyc2 =>
          intro w hSw
          try dsimp only at hSw
          go_simp
          try with_reducible rfl
        simp only [Act.put, List.setIfInBounds_toArray, List.set_cons_zero, List.set_cons_succ, List.getElem_toArray, List.getElem_cons_zero, List.getElem_cons_succ]
        refine goAny_take (i := 3) (v := ?vc3) (by kernel_rfl) (by kernel_rfl) rfl (by kernel_rfl) (by kernel_rfl) (by kernel_rfl) (fun _ _ _ h => h) (Or.inl ⟨by rfl, ?hyc3⟩) (by assumption) ?restc3
        case hyc3 =>
          intro w hSw
          try dsimp only at hSw
          go_simp
          try with_reducible rfl
        simp only [Act.put, List.setIfInBounds_toArray, List.set_cons_zero, List.set_cons_succ, List.getElem_toArray, List.getElem_cons_zero, List.getElem_cons_succ]
        refine goAny_take (i := 4) (v := ?vc4) (by kernel_rfl) (by kernel_rfl) rfl (by kernel_rfl) (by kernel_rfl) (by kernel_rfl) (fun _ _ _ h => h) (Or.inl ⟨by rfl, ?hyc4⟩) (by assumption) ?restc4
        case hyc4 =>
          intro w hSw
          try dsimp only at hSw
          go_simp
          try with_reducible rfl
        simp only [Act.put, List.setIfInBounds_toArray, List.set_cons_zero, List.set_cons_succ, List.getElem_toArray, List.getElem_cons_zero, List.getElem_cons_succ]
        refine goAny_take (i := 6) (v := ?vc6) (by kernel_rfl) (by kernel_rfl) rfl (by kernel_rfl) (by kernel_rfl) (by kernel_rfl) (fun _ _ _ h => h) (Or.inl ⟨by rfl, ?hyc6⟩) (by assumption) ?restc6
        case hyc6 =>
          intro w hSw
          try dsimp only at hSw
          go_simp
          try with_reducible rfl
        simp only [Act.put, List.setIfInBounds_toArray, List.set_cons_zero, List.set_cons_succ, List.getElem_toArray, List.getElem_cons_zero, List.getElem_cons_succ]
        refine goAny_take (i := 7) (v := ?vc7) (by kernel_rfl) (by kernel_rfl) rfl (by kernel_rfl) (by kernel_rfl) (by kernel_rfl) (fun _ _ _ h => h) (Or.inl ⟨by rfl, ?hyc7⟩) (by assumption) ?restc7
        case hyc7 =>
          intro w hSw
          try dsimp only at hSw
          go_simp
          try with_reducible rfl
        simp only [Act.put, List.setIfInBounds_toArray, List.set_cons_zero, List.set_cons_succ, List.getElem_toArray, List.getElem_cons_zero, List.getElem_cons_succ]
        refine goAny_take (i := 8) (v := ?vc8) (by kernel_rfl) (by kernel_rfl) rfl (by kernel_rfl) (by kernel_rfl) (by kernel_rfl) (fun _ _ _ h => h) (Or.inl ⟨by rfl, ?hyc8⟩) (by assumption) ?restc8
        case hyc8 =>
          intro w hSw
          try dsimp only at hSw
          go_simp
          try with_reducible rfl
        simp only [Act.put, List.setIfInBounds_toArray, List.set_cons_zero, List.set_cons_succ, List.getElem_toArray, List.getElem_cons_zero, List.getElem_cons_succ]
        refine goAny_take (i := 9) (v := ?vc9) (by kernel_rfl) (by kernel_rfl) rfl (by kernel_rfl) (by kernel_rfl) (by kernel_rfl) (fun _ _ _ h => h) (Or.inl ⟨by rfl, ?hyc9⟩) (by assumption) ?restc9
        case hyc9 =>
          intro w hSw
          try dsimp only at hSw
          go_simp
          try with_reducible rfl
        simp only [Act.put, List.setIfInBounds_toArray, List.set_cons_zero, List.set_cons_succ, List.getElem_toArray, List.getElem_cons_zero, List.getElem_cons_succ]
        refine goAny_take (i := 10) (v := ?vc10) (by kernel_rfl) (by kernel_rfl) rfl (by kernel_rfl) (by kernel_rfl) (by kernel_rfl) (fun _ _ _ h => h) (Or.inl ⟨by rfl, ?hyc10⟩) (by assumption) ?restc10
        case hyc10 =>
          intro w hSw
          try dsimp only at hSw
          go_simp
          try with_reducible rfl
        simp only [Act.put, List.setIfInBounds_toArray, List.set_cons_zero, List.set_cons_succ, List.getElem_toArray, List.getElem_cons_zero, List.getElem_cons_succ]
        refine goAny_step (i := 0) (by kernel_rfl) rfl (fun K hK => ?_)
        go_simp
        have HB2 := Lib.hid (HB1.out.alloc HB1.out.size (.cells #[] 42))
        have X2 := Lib.hid (X1.out.alloc (.cells #[] 42))
        have Z2 := Lib.hid (Z1.out.alloc (.cells #[] 42))
        have N2 := Lib.hid (Box.new W1 #[] 42)
        have hN : w.heap.size + 1 < W1.heap.size := Z1.out.lt
        generalize W1.heap.size = N at N2 hN ⊢
        generalize W1.alloc (.cells #[] 42) = W2 at HB2 X2 Z2 N2 ⊢
        have HO2 := Lib.hid (show OwnT W2 (w.heap.size + 2) (.slice (some ⟨N, 0, none⟩) 0 0) [] from own_empty' N2.out (by omega))
        refine hK.out _ _ ?_ (fun hHeld => ?_)
        · exact ⟨X2.out.cell 0, X2.out.cell 1⟩
        clear hK K
        try simp only [Act.put, List.setIfInBounds_toArray, List.set_cons_zero, List.set_cons_succ, List.getElem_toArray, List.getElem_cons_zero, List.getElem_cons_succ]
        refine goAny_step (i := 5) (by kernel_rfl) rfl (fun K hK => ?_)
        refine step_append_lies _ rfl (.tmp 5) (.tmp 9) 23 rfl (w.heap.size + 2) 42 i0 (.agg #[.int .i64 0, .int .i64 0, .int .i64 0, .bool false]) 4 32 Try.underlying23 HI.out HZ0.out HZ1.out HZ2.out rfl (by decide) (.slice (some ⟨N, 0, none⟩) 0 0) 0 (tkC (([] : List ETask))) rfl (HO2.out) ⟨b, o, none⟩ k c (tkC (l.take k)) rfl (by rw [tkC_len, HTL.out]) ?q1 ?q2 (by omega) ?q3 ?q4 ?q5 _ rfl ?_
        case q1 => exact (rowF_take HR.out (by omega) |>.wb HB2.out).news HTL.out (by decide)
        case q2 => exact tkC_one _
        case q3 => simp only [maxLen]; omega
        case q4 => omega
        case q5 => have := HB2.out.size; have := Z2.out.lt; omega
        intro g3 cap3 w3 hown hg hat hlt3
        have hge3 := (hown.lt g3 rfl).1
        have hcq3 : k ≤ cap3 := by have := own_capT hown; omega
        have HO3 := Lib.hid (hown)
        have X3 := Lib.hid (show Box w3 w.heap.size _ 25 from (hg.block _ X2.out.lt (by simp [Value.ownBlock]; omega)).trans X2.out)
        have Z3 := Lib.hid (show Box w3 (w.heap.size + 1) _ 25 from (hg.block _ Z2.out.lt (by simp [Value.ownBlock]; omega)).trans Z2.out)
        have HB3 := Lib.hid (HB2.out.grown hg HB2.out.size (fun k e => by simp [Value.ownBlock] at e; omega))
        clear hown hg hat
        rw [Nat.zero_add, show tkC ([] : List ETask) = [] from rfl, List.nil_append] at HO3
        try rw [Nat.zero_add]
        have HM := Lib.hid (own_end (l := E) HO3.out (by rw [← HER.out, show l.drop (k + 1) = [] from List.eq_nil_of_length_eq_zero (by rw [HDL.out]; omega), List.append_nil]) (by rw [← HER.out, List.length_append, HTL.out, HDL.out]; omega))
        have HLE := Lib.hid (show E.length = k by rw [← HER.out, List.length_append, HTL.out, HDL.out] <;> omega)
        have z0 := Z3.out.cell 0
        have z1 := Z3.out.cell 1
        have x0 := X3.out.cell 0
        have x1 := X3.out.cell 1
        have e0 := Z3.out.frz 0
        have e1 := Z3.out.frz 1
        have f0 := X3.out.frz 0
        have zl := Z3.out.lt
        have xl := X3.out.lt
        simp at z0 z1 x0 x1
        refine hK.out _ _ ?_ (fun hHeld => ?_)
        · exact ⟨X3.out.cell 0, X3.out.cell 1⟩
        clear hK K
        try simp only [Act.put, List.setIfInBounds_toArray, List.set_cons_zero, List.set_cons_succ, List.getElem_toArray, List.getElem_cons_zero, List.getElem_cons_succ]
        refine goAny_take (i := 11) (v := ?vc11) (by kernel_rfl) (by kernel_rfl) rfl (by kernel_rfl) (by kernel_rfl) (by kernel_rfl) (fun _ _ _ h => h) (Or.inl ⟨by rfl, ?hyc11⟩) (by assumption) ?restc11
        case hyc11 =>
          intro w hSw
          try dsimp only at hSw
          go_simp
          try with_reducible rfl
        simp only [Act.put, List.setIfInBounds_toArray, List.set_cons_zero, List.set_cons_succ, List.getElem_toArray, List.getElem_cons_zero, List.getElem_cons_succ]
        refine goAny_take (i := 12) (v := ?vc12) (by kernel_rfl) (by kernel_rfl) rfl (by kernel_rfl) (by kernel_rfl) (by kernel_rfl) (fun _ _ _ h => h) (Or.inl ⟨by rfl, ?hyc12⟩) (by assumption) ?restc12
        case hyc12 =>
          intro w hSw
          try dsimp only at hSw
          go_simp
          try with_reducible rfl
        simp only [Act.put, List.setIfInBounds_toArray, List.set_cons_zero, List.set_cons_succ, List.getElem_toArray, List.getElem_cons_zero, List.getElem_cons_succ]
        refine goAny_last (by kernel_rfl) (by kernel_rfl) rfl (fun K hK => ?_)
        go_simp
        try rw [← HLE.out]
        refine hK.out _ _ ?_
        clear hK K
        try simp only [Act.put, List.setIfInBounds_toArray, List.set_cons_zero, List.set_cons_succ, List.getElem_toArray, List.getElem_cons_zero, List.getElem_cons_succ]
        go_wp2_with fail
        refine bodyPost_ret (v := .agg #[.slice (some ⟨g3, 0, none⟩) E.length cap3, .int .i64 F]) (by simp [results, Try.results75, go_sem, z0, z1]) rfl ?_
        refine ⟨.slice (some ⟨g3, 0, none⟩) E.length cap3, .int .i64 F, HM.out.choose, rfl, tyQueue_Mmk (D := (E, F)) ⟨rfl, HEL.out, rowM_off (rowM_off (rowM_off HM.out.choose_spec.1 ⟨w.heap.size, 0, none⟩ _ fun b hb => ?_) ⟨w.heap.size + 1, 0, none⟩ _ fun b hb => ?_) ⟨w.heap.size + 1, 1, none⟩ _ fun b hb => ?_⟩, fun b hb => ?_, capQ (by have := hcq3; have h := HER.out; rw [← h, List.length_append, HTL.out, HDL.out]; omega), ((HB3.out.setCell (p := ⟨w.heap.size, 0, none⟩) (Nat.le_refl _) _).setCell (p := ⟨w.heap.size + 1, 0, none⟩) (Nat.le_add_right _ _) _).setCell (p := ⟨w.heap.size + 1, 1, none⟩) (Nat.le_add_right _ _) _⟩
        · have := HM.out.choose_spec.2 b hb; show b ≠ w.heap.size; omega
        · have := HM.out.choose_spec.2 b hb; show b ≠ w.heap.size + 1; omega
        · have := HM.out.choose_spec.2 b hb; show b ≠ w.heap.size + 1; omega
        · have := HM.out.choose_spec.2 b hb; simp only [World.size_setCell]; omega
  · obtain rfl : k = 0 := by omega
    have q3' : IntKind.i64.wrap 1 = 1 := by decide
    have q5' : (1 : Int) ≤ (n : Int) := by omega
    have HER := Lib.hid (show l.take 0 ++ l.drop 1 = E from HER.out)
    have HDL := Lib.hid (show (l.drop 1).length = n - 1 from HDL.out)
    clear q0 q1 q2 q3 q4 q5 hk
    by_cases hl2 : 1 < n
    · have q7 : ¬ (c = 1) := by omega
      go_enter Try.func75, Try.ntmps75
      go_wp2_with fail
      generalize ((w.alloc (.cells #[.slice (some ⟨b, o, none⟩) n c, .int .i64 F] 25)).alloc (.cells #[.slice none 0 0, .int .i64 0] 25)) = W0 at X1 Z1 HB1 ⊢
      replace HB1 := Lib.hid HB1.out.drew
      replace X1 := Lib.hid (show Box W0.drew _ _ _ from X1.out)
      replace Z1 := Lib.hid (show Box W0.drew _ _ _ from Z1.out)
      refine goAny_drew (z := 13) (S := fun w' => w'.cell? ⟨w.heap.size, 0, none⟩ = some (.slice (some ⟨b, o, none⟩) n c) ∧ w'.cell? ⟨w.heap.size, 1, none⟩ = some (.int .i64 F)) (by kernel_rfl) ⟨X1.out.cell 0, X1.out.cell 1⟩ (fun hHeld => ?_)
      generalize W0.drew = W1 at X1 Z1 HB1 hHeld ⊢
      refine goAny_take (i := 1) (v := ?vd1) (by kernel_rfl) (by kernel_rfl) rfl (by kernel_rfl) (by kernel_rfl) (by kernel_rfl) (fun _ _ _ h => h) (Or.inl ⟨by rfl, ?hyd1⟩) (by assumption) ?restd1
      case hyd1 =>
        intro w hSw
        try dsimp only at hSw
        go_simp
        try with_reducible rfl
      simp only [Act.put, List.setIfInBounds_toArray, List.set_cons_zero, List.set_cons_succ, List.getElem_toArray, List.getElem_cons_zero, List.getElem_cons_succ]
      refine goAny_take (i := 2) (v := ?vd2) (by kernel_rfl) (by kernel_rfl) rfl (by kernel_rfl) (by kernel_rfl) (by kernel_rfl) (fun _ _ _ h => h) (Or.inl ⟨by rfl, ?hyd2⟩) (by assumption) ?restd2
      case hyd2 =>
        intro w hSw
        try dsimp only at hSw
        go_simp
        try with_reducible rfl
      simp only [Act.put, List.setIfInBounds_toArray, List.set_cons_zero, List.set_cons_succ, List.getElem_toArray, List.getElem_cons_zero, List.getElem_cons_succ]
      refine goAny_take (i := 3) (v := ?vd3) (by kernel_rfl) (by kernel_rfl) rfl (by kernel_rfl) (by kernel_rfl) (by kernel_rfl) (fun _ _ _ h => h) (Or.inl ⟨by rfl, ?hyd3⟩) (by assumption) ?restd3
      case hyd3 =>
        intro w hSw
        try dsimp only at hSw
        go_simp
        try with_reducible rfl
      simp only [Act.put, List.setIfInBounds_toArray, List.set_cons_zero, List.set_cons_succ, List.getElem_toArray, List.getElem_cons_zero, List.getElem_cons_succ]
      refine goAny_take (i := 4) (v := ?vd4) (by kernel_rfl) (by kernel_rfl) rfl (by kernel_rfl) (by kernel_rfl) (by kernel_rfl) (fun _ _ _ h => h) (Or.inl ⟨by rfl, ?hyd4⟩) (by assumption) ?restd4
      case hyd4 =>
        intro w hSw
        try dsimp only at hSw
        go_simp
        try with_reducible rfl
      simp only [Act.put, List.setIfInBounds_toArray, List.set_cons_zero, List.set_cons_succ, List.getElem_toArray, List.getElem_cons_zero, List.getElem_cons_succ]
      refine goAny_take (i := 6) (v := ?vd6) (by kernel_rfl) (by kernel_rfl) rfl (by kernel_rfl) (by kernel_rfl) (by kernel_rfl) (fun _ _ _ h => h) (Or.inl ⟨by rfl, ?hyd6⟩) (by assumption) ?restd6
      case hyd6 =>
        intro w hSw
        try dsimp only at hSw
        go_simp
        try with_reducible rfl
      simp only [Act.put, List.setIfInBounds_toArray, List.set_cons_zero, List.set_cons_succ, List.getElem_toArray, List.getElem_cons_zero, List.getElem_cons_succ]
      refine goAny_take (i := 7) (v := ?vd7) (by kernel_rfl) (by kernel_rfl) rfl (by kernel_rfl) (by kernel_rfl) (by kernel_rfl) (fun _ _ _ h => h) (Or.inl ⟨by rfl, ?hyd7⟩) (by assumption) ?restd7
      case hyd7 =>
        intro w hSw
        try dsimp only at hSw
        go_simp
        try with_reducible rfl
      simp only [Act.put, List.setIfInBounds_toArray, List.set_cons_zero, List.set_cons_succ, List.getElem_toArray, List.getElem_cons_zero, List.getElem_cons_succ]
      refine goAny_take (i := 8) (v := ?vd8) (by kernel_rfl) (by kernel_rfl) rfl (by kernel_rfl) (by kernel_rfl) (by kernel_rfl) (fun _ _ _ h => h) (Or.inl ⟨by rfl, ?hyd8⟩) (by assumption) ?restd8
      case hyd8 =>
        intro w hSw
        try dsimp only at hSw
        go_simp
        try with_reducible rfl
      simp only [Act.put, List.setIfInBounds_toArray, List.set_cons_zero, List.set_cons_succ, List.getElem_toArray, List.getElem_cons_zero, List.getElem_cons_succ]
      refine goAny_take (i := 9) (v := ?vd9) (by kernel_rfl) (by kernel_rfl) rfl (by kernel_rfl) (by kernel_rfl) (by kernel_rfl) (fun _ _ _ h => h) (Or.inl ⟨by rfl, ?hyd9⟩) (by assumption) ?restd9
      case hyd9 =>
        intro w hSw
        try dsimp only at hSw
        go_simp
        try with_reducible rfl
      simp only [Act.put, List.setIfInBounds_toArray, List.set_cons_zero, List.set_cons_succ, List.getElem_toArray, List.getElem_cons_zero, List.getElem_cons_succ]
      refine goAny_take (i := 10) (v := ?vd10) (by kernel_rfl) (by kernel_rfl) rfl (by kernel_rfl) (by kernel_rfl) (by kernel_rfl) (fun _ _ _ h => h) (Or.inl ⟨by rfl, ?hyd10⟩) (by assumption) ?restd10
      case hyd10 =>
        intro w hSw
        try dsimp only at hSw
        go_simp
        try with_reducible rfl
      simp only [Act.put, List.setIfInBounds_toArray, List.set_cons_zero, List.set_cons_succ, List.getElem_toArray, List.getElem_cons_zero, List.getElem_cons_succ]
      refine goAny_step (i := 0) (by kernel_rfl) rfl (fun K hK => ?_)
      go_simp
      have HB2 := Lib.hid (HB1.out.alloc HB1.out.size (.cells #[] 42))
      have X2 := Lib.hid (X1.out.alloc (.cells #[] 42))
      have Z2 := Lib.hid (Z1.out.alloc (.cells #[] 42))
      have N2 := Lib.hid (Box.new W1 #[] 42)
      have hN : w.heap.size + 1 < W1.heap.size := Z1.out.lt
      generalize W1.heap.size = N at N2 hN ⊢
      generalize W1.alloc (.cells #[] 42) = W2 at HB2 X2 Z2 N2 ⊢
      have HO2 := Lib.hid (show OwnT W2 (w.heap.size + 2) (.slice (some ⟨N, 0, none⟩) 0 0) [] from own_empty' N2.out (by omega))
      refine hK.out _ _ ?_ (fun hHeld => ?_)
      · exact ⟨X2.out.cell 0, X2.out.cell 1⟩
      clear hK K
      try simp only [Act.put, List.setIfInBounds_toArray, List.set_cons_zero, List.set_cons_succ, List.getElem_toArray, List.getElem_cons_zero, List.getElem_cons_succ]
      refine goAny_take (i := 5) (v := ?vd5) (by kernel_rfl) (by kernel_rfl) rfl (by kernel_rfl) (by kernel_rfl) (by kernel_rfl) (fun _ _ _ h => h) (Or.inl ⟨by rfl, ?hyd5⟩) (by assumption) ?restd5
      case hyd5 =>
        intro w hSw
        try dsimp only at hSw
        go_simp
        try with_reducible rfl
      simp only [Act.put, List.setIfInBounds_toArray, List.set_cons_zero, List.set_cons_succ, List.getElem_toArray, List.getElem_cons_zero, List.getElem_cons_succ]
      refine goAny_step (i := 11) (by kernel_rfl) rfl (fun K hK => ?_)
      refine step_append_lies _ rfl (.tmp 10) (.tmp 15) 23 rfl (w.heap.size + 2) 42 i0 (.agg #[.int .i64 0, .int .i64 0, .int .i64 0, .bool false]) 4 32 Try.underlying23 HI.out HZ0.out HZ1.out HZ2.out rfl (by decide) (.slice (some ⟨N, 0, none⟩) 0 0) 0 (tkC (([] : List ETask))) rfl (HO2.out) ⟨b, o + 4, none⟩ (n - 1) (c - 1) (tkC (l.drop 1)) rfl (by rw [tkC_len, HDL.out]) ?q1 ?q2 (by omega) ?q3 ?q4 ?q5 _ rfl ?_
      case q1 => exact (rowF_drop (j := 0 + 1) HR.out |>.wb HB2.out).news HDL.out (by decide)
      case q2 => exact tkC_one _
      case q3 => simp only [maxLen]; omega
      case q4 => omega
      case q5 => have := HB2.out.size; have := Z2.out.lt; omega
      intro g4 cap4 w4 hown hg hat hlt4
      have hge4 := (hown.lt g4 rfl).1
      have hcq4 : (n - 1) ≤ cap4 := by have := own_capT hown; omega
      have HO4 := Lib.hid (hown)
      have X4 := Lib.hid (show Box w4 w.heap.size _ 25 from (hg.block _ X2.out.lt (by simp [Value.ownBlock]; omega)).trans X2.out)
      have Z4 := Lib.hid (show Box w4 (w.heap.size + 1) _ 25 from (hg.block _ Z2.out.lt (by simp [Value.ownBlock]; omega)).trans Z2.out)
      have HB4 := Lib.hid (HB2.out.grown hg HB2.out.size (fun k e => by simp [Value.ownBlock] at e; omega))
      clear hown hg hat
      have HM := Lib.hid (own_end (l := E) HO4.out (by rw [← HER.out, show l.take 0 = [] by rfl]; rfl) (by rw [← HER.out, List.length_append, HTL.out, HDL.out]))
      have HLE := Lib.hid (show E.length = n - 1 by rw [← HER.out, List.length_append, HTL.out, HDL.out] <;> omega)
      have z0 := Z4.out.cell 0
      have z1 := Z4.out.cell 1
      have x0 := X4.out.cell 0
      have x1 := X4.out.cell 1
      have e0 := Z4.out.frz 0
      have e1 := Z4.out.frz 1
      have f0 := X4.out.frz 0
      have zl := Z4.out.lt
      have xl := X4.out.lt
      simp at z0 z1 x0 x1
      refine hK.out _ _ ?_ (fun hHeld => ?_)
      · exact ⟨X4.out.cell 0, X4.out.cell 1⟩
      clear hK K
      try simp only [Act.put, List.setIfInBounds_toArray, List.set_cons_zero, List.set_cons_succ, List.getElem_toArray, List.getElem_cons_zero, List.getElem_cons_succ]
      refine goAny_take (i := 12) (v := ?vd12) (by kernel_rfl) (by kernel_rfl) rfl (by kernel_rfl) (by kernel_rfl) (by kernel_rfl) (fun _ _ _ h => h) (Or.inl ⟨by rfl, ?hyd12⟩) (by assumption) ?restd12
      case hyd12 =>
        intro w hSw
        try dsimp only at hSw
        go_simp
        try with_reducible rfl
      simp only [Act.put, List.setIfInBounds_toArray, List.set_cons_zero, List.set_cons_succ, List.getElem_toArray, List.getElem_cons_zero, List.getElem_cons_succ]
      refine goAny_last (by kernel_rfl) (by kernel_rfl) rfl (fun K hK => ?_)
      go_simp
      try rw [← HLE.out]
      refine hK.out _ _ ?_
      clear hK K
      try simp only [Act.put, List.setIfInBounds_toArray, List.set_cons_zero, List.set_cons_succ, List.getElem_toArray, List.getElem_cons_zero, List.getElem_cons_succ]
      go_wp2_with fail
      refine bodyPost_ret (v := .agg #[.slice (some ⟨g4, 0, none⟩) E.length cap4, .int .i64 F]) (by simp [results, Try.results75, go_sem, z0, z1]) rfl ?_
      refine ⟨.slice (some ⟨g4, 0, none⟩) E.length cap4, .int .i64 F, HM.out.choose, rfl, tyQueue_Mmk (D := (E, F)) ⟨rfl, HEL.out, rowM_off (rowM_off (rowM_off HM.out.choose_spec.1 ⟨w.heap.size, 0, none⟩ _ fun b hb => ?_) ⟨w.heap.size + 1, 0, none⟩ _ fun b hb => ?_) ⟨w.heap.size + 1, 1, none⟩ _ fun b hb => ?_⟩, fun b hb => ?_, capQ (by have := hcq4; have h := HER.out; rw [← h, List.length_append, HTL.out, HDL.out]; omega), ((HB4.out.setCell (p := ⟨w.heap.size, 0, none⟩) (Nat.le_refl _) _).setCell (p := ⟨w.heap.size + 1, 0, none⟩) (Nat.le_add_right _ _) _).setCell (p := ⟨w.heap.size + 1, 1, none⟩) (Nat.le_add_right _ _) _⟩
      · have := HM.out.choose_spec.2 b hb; show b ≠ w.heap.size; omega
      · have := HM.out.choose_spec.2 b hb; show b ≠ w.heap.size + 1; omega
      · have := HM.out.choose_spec.2 b hb; show b ≠ w.heap.size + 1; omega
      · have := HM.out.choose_spec.2 b hb; simp only [World.size_setCell]; omega
    · have q8 : n - 1 = 0 := by omega
      by_cases q7 : c = 1
      · subst q7
        go_enter Try.func75, Try.ntmps75
        go_wp2_with fail
        generalize ((w.alloc (.cells #[.slice (some ⟨b, o, none⟩) n 1, .int .i64 F] 25)).alloc (.cells #[.slice none 0 0, .int .i64 0] 25)) = W0 at X1 Z1 HB1 ⊢
        replace HB1 := Lib.hid HB1.out.drew
        replace X1 := Lib.hid (show Box W0.drew _ _ _ from X1.out)
        replace Z1 := Lib.hid (show Box W0.drew _ _ _ from Z1.out)
        refine goAny_drew (z := 13) (S := fun w' => w'.cell? ⟨w.heap.size, 0, none⟩ = some (.slice (some ⟨b, o, none⟩) n 1) ∧ w'.cell? ⟨w.heap.size, 1, none⟩ = some (.int .i64 F)) (by kernel_rfl) ⟨X1.out.cell 0, X1.out.cell 1⟩ (fun hHeld => ?_)
        generalize W0.drew = W1 at X1 Z1 HB1 hHeld ⊢
        refine goAny_take (i := 1) (v := ?ve1) (by kernel_rfl) (by kernel_rfl) rfl (by kernel_rfl) (by kernel_rfl) (by kernel_rfl) (fun _ _ _ h => h) (Or.inl ⟨by rfl, ?hye1⟩) (by assumption) ?reste1
        case hye1 =>
          intro w hSw
          try dsimp only at hSw
          go_simp
          try with_reducible rfl
        simp only [Act.put, List.setIfInBounds_toArray, List.set_cons_zero, List.set_cons_succ, List.getElem_toArray, List.getElem_cons_zero, List.getElem_cons_succ]
        refine goAny_take (i := 2) (v := ?ve2) (by kernel_rfl) (by kernel_rfl) rfl (by kernel_rfl) (by kernel_rfl) (by kernel_rfl) (fun _ _ _ h => h) (Or.inl ⟨by rfl, ?hye2⟩) (by assumption) ?reste2
        case hye2 =>
          intro w hSw
          try dsimp only at hSw
          go_simp
          try with_reducible rfl
        simp only [Act.put, List.setIfInBounds_toArray, List.set_cons_zero, List.set_cons_succ, List.getElem_toArray, List.getElem_cons_zero, List.getElem_cons_succ]
        refine goAny_take (i := 3) (v := ?ve3) (by kernel_rfl) (by kernel_rfl) rfl (by kernel_rfl) (by kernel_rfl) (by kernel_rfl) (fun _ _ _ h => h) (Or.inl ⟨by rfl, ?hye3⟩) (by assumption) ?reste3
        case hye3 =>
          intro w hSw
          try dsimp only at hSw
          go_simp
          try with_reducible rfl
        simp only [Act.put, List.setIfInBounds_toArray, List.set_cons_zero, List.set_cons_succ, List.getElem_toArray, List.getElem_cons_zero, List.getElem_cons_succ]
        refine goAny_take (i := 4) (v := ?ve4) (by kernel_rfl) (by kernel_rfl) rfl (by kernel_rfl) (by kernel_rfl) (by kernel_rfl) (fun _ _ _ h => h) (Or.inl ⟨by rfl, ?hye4⟩) (by assumption) ?reste4
        case hye4 =>
          intro w hSw
          try dsimp only at hSw
          go_simp
          try with_reducible rfl
        simp only [Act.put, List.setIfInBounds_toArray, List.set_cons_zero, List.set_cons_succ, List.getElem_toArray, List.getElem_cons_zero, List.getElem_cons_succ]
        refine goAny_take (i := 6) (v := ?ve6) (by kernel_rfl) (by kernel_rfl) rfl (by kernel_rfl) (by kernel_rfl) (by kernel_rfl) (fun _ _ _ h => h) (Or.inl ⟨by rfl, ?hye6⟩) (by assumption) ?reste6
        case hye6 =>
          intro w hSw
          try dsimp only at hSw
          go_simp
          try with_reducible rfl
        simp only [Act.put, List.setIfInBounds_toArray, List.set_cons_zero, List.set_cons_succ, List.getElem_toArray, List.getElem_cons_zero, List.getElem_cons_succ]
        refine goAny_take (i := 7) (v := ?ve7) (by kernel_rfl) (by kernel_rfl) rfl (by kernel_rfl) (by kernel_rfl) (by kernel_rfl) (fun _ _ _ h => h) (Or.inl ⟨by rfl, ?hye7⟩) (by assumption) ?reste7
        case hye7 =>
          intro w hSw
          try dsimp only at hSw
          go_simp
          try with_reducible rfl
        simp only [Act.put, List.setIfInBounds_toArray, List.set_cons_zero, List.set_cons_succ, List.getElem_toArray, List.getElem_cons_zero, List.getElem_cons_succ]
        refine goAny_take (i := 8) (v := ?ve8) (by kernel_rfl) (by kernel_rfl) rfl (by kernel_rfl) (by kernel_rfl) (by kernel_rfl) (fun _ _ _ h => h) (Or.inl ⟨by rfl, ?hye8⟩) (by assumption) ?reste8
        case hye8 =>
          intro w hSw
          try dsimp only at hSw
          go_simp
          try with_reducible rfl
        simp only [Act.put, List.setIfInBounds_toArray, List.set_cons_zero, List.set_cons_succ, List.getElem_toArray, List.getElem_cons_zero, List.getElem_cons_succ]
        refine goAny_take (i := 9) (v := ?ve9) (by kernel_rfl) (by kernel_rfl) rfl (by kernel_rfl) (by kernel_rfl) (by kernel_rfl) (fun _ _ _ h => h) (Or.inl ⟨by rfl, ?hye9⟩) (by assumption) ?reste9
        case hye9 =>
          intro w hSw
          try dsimp only at hSw
          go_simp
          try with_reducible rfl
        simp only [Act.put, List.setIfInBounds_toArray, List.set_cons_zero, List.set_cons_succ, List.getElem_toArray, List.getElem_cons_zero, List.getElem_cons_succ]
        refine goAny_take (i := 10) (v := ?ve10) (by kernel_rfl) (by kernel_rfl) rfl (by kernel_rfl) (by kernel_rfl) (by kernel_rfl) (fun _ _ _ h => h) (Or.inl ⟨by rfl, ?hye10⟩) (by assumption) ?reste10
        case hye10 =>
          intro w hSw
          try dsimp only at hSw
          go_simp
          try with_reducible rfl
        simp only [Act.put, List.setIfInBounds_toArray, List.set_cons_zero, List.set_cons_succ, List.getElem_toArray, List.getElem_cons_zero, List.getElem_cons_succ]
        refine goAny_step (i := 0) (by kernel_rfl) rfl (fun K hK => ?_)
        go_simp
        have HB2 := Lib.hid (HB1.out.alloc HB1.out.size (.cells #[] 42))
        have X2 := Lib.hid (X1.out.alloc (.cells #[] 42))
        have Z2 := Lib.hid (Z1.out.alloc (.cells #[] 42))
        have N2 := Lib.hid (Box.new W1 #[] 42)
        have hN : w.heap.size + 1 < W1.heap.size := Z1.out.lt
        generalize W1.heap.size = N at N2 hN ⊢
        generalize W1.alloc (.cells #[] 42) = W2 at HB2 X2 Z2 N2 ⊢
        have HO2 := Lib.hid (show OwnT W2 (w.heap.size + 2) (.slice (some ⟨N, 0, none⟩) 0 0) [] from own_empty' N2.out (by omega))
        skip
        have HLE := Lib.hid (show E.length = 0 by rw [← HER.out, List.length_append, HTL.out, HDL.out] <;> omega)
        have z0 := Z2.out.cell 0
        have z1 := Z2.out.cell 1
        have x0 := X2.out.cell 0
        have x1 := X2.out.cell 1
        have e0 := Z2.out.frz 0
        have e1 := Z2.out.frz 1
        have f0 := X2.out.frz 0
        have zl := Z2.out.lt
        have xl := X2.out.lt
        simp at z0 z1 x0 x1
        refine hK.out _ _ ?_ (fun hHeld => ?_)
        · exact ⟨X2.out.cell 0, X2.out.cell 1⟩
        clear hK K
        try simp only [Act.put, List.setIfInBounds_toArray, List.set_cons_zero, List.set_cons_succ, List.getElem_toArray, List.getElem_cons_zero, List.getElem_cons_succ]
        refine goAny_take (i := 5) (v := ?ve5) (by kernel_rfl) (by kernel_rfl) rfl (by kernel_rfl) (by kernel_rfl) (by kernel_rfl) (fun _ _ _ h => h) (Or.inl ⟨by rfl, ?hye5⟩) (by assumption) ?reste5
        case hye5 =>
          intro w hSw
          try dsimp only at hSw
          go_simp
          try with_reducible rfl
        simp only [Act.put, List.setIfInBounds_toArray, List.set_cons_zero, List.set_cons_succ, List.getElem_toArray, List.getElem_cons_zero, List.getElem_cons_succ]
        refine goAny_take (i := 11) (v := ?ve11) (by kernel_rfl) (by kernel_rfl) rfl (by kernel_rfl) (by kernel_rfl) (by kernel_rfl) (fun _ _ _ h => h) (Or.inl ⟨by rfl, ?hye11⟩) (by assumption) ?reste11
        case hye11 =>
          intro w hSw
          try dsimp only at hSw
          go_simp
          try with_reducible rfl
        simp only [Act.put, List.setIfInBounds_toArray, List.set_cons_zero, List.set_cons_succ, List.getElem_toArray, List.getElem_cons_zero, List.getElem_cons_succ]
        refine goAny_take (i := 12) (v := ?ve12) (by kernel_rfl) (by kernel_rfl) rfl (by kernel_rfl) (by kernel_rfl) (by kernel_rfl) (fun _ _ _ h => h) (Or.inl ⟨by rfl, ?hye12⟩) (by assumption) ?reste12
        case hye12 =>
          intro w hSw
          try dsimp only at hSw
          go_simp
          try with_reducible rfl
        simp only [Act.put, List.setIfInBounds_toArray, List.set_cons_zero, List.set_cons_succ, List.getElem_toArray, List.getElem_cons_zero, List.getElem_cons_succ]
        refine goAny_last (by kernel_rfl) (by kernel_rfl) rfl (fun K hK => ?_)
        go_simp
        skip
        refine hK.out _ _ ?_
        clear hK K
        try simp only [Act.put, List.setIfInBounds_toArray, List.set_cons_zero, List.set_cons_succ, List.getElem_toArray, List.getElem_cons_zero, List.getElem_cons_succ]
        go_wp2_with fail
        refine bodyPost_ret (v := .agg #[.slice (some ⟨N, 0, none⟩) 0 0, .int .i64 F]) (by simp [results, Try.results75, go_sem, z0, z1]) rfl ?_
        exact ⟨_, _, [], rfl, tyQueue_Mmk (D := (E, F)) (f0 := []) ⟨HLE.out, Nat.zero_le _, fun h => absurd h (Nat.lt_irrefl 0)⟩, fun b h => absurd h List.not_mem_nil, capQ (Nat.le_refl _), ((HB2.out.setCell (p := ⟨w.heap.size, 0, none⟩) (Nat.le_refl _) _).setCell (p := ⟨w.heap.size + 1, 0, none⟩) (Nat.le_add_right _ _) _).setCell (p := ⟨w.heap.size + 1, 1, none⟩) (Nat.le_add_right _ _) _⟩
      · go_enter Try.func75, Try.ntmps75
        go_wp2_with fail
        generalize ((w.alloc (.cells #[.slice (some ⟨b, o, none⟩) n c, .int .i64 F] 25)).alloc (.cells #[.slice none 0 0, .int .i64 0] 25)) = W0 at X1 Z1 HB1 ⊢
        replace HB1 := Lib.hid HB1.out.drew
        replace X1 := Lib.hid (show Box W0.drew _ _ _ from X1.out)
        replace Z1 := Lib.hid (show Box W0.drew _ _ _ from Z1.out)
        refine goAny_drew (z := 13) (S := fun w' => w'.cell? ⟨w.heap.size, 0, none⟩ = some (.slice (some ⟨b, o, none⟩) n c) ∧ w'.cell? ⟨w.heap.size, 1, none⟩ = some (.int .i64 F)) (by kernel_rfl) ⟨X1.out.cell 0, X1.out.cell 1⟩ (fun hHeld => ?_)
        generalize W0.drew = W1 at X1 Z1 HB1 hHeld ⊢
        refine goAny_take (i := 1) (v := ?vf1) (by kernel_rfl) (by kernel_rfl) rfl (by kernel_rfl) (by kernel_rfl) (by kernel_rfl) (fun _ _ _ h => h) (Or.inl ⟨by rfl, ?hyf1⟩) (by assumption) ?restf1
        case hyf1 =>
          intro w hSw
          try dsimp only at hSw
          go_simp
          try with_reducible rfl
        simp only [Act.put, List.setIfInBounds_toArray, List.set_cons_zero, List.set_cons_succ, List.getElem_toArray, List.getElem_cons_zero, List.getElem_cons_succ]
        refine goAny_take (i := 2) (v := ?vf2) (by kernel_rfl) (by kernel_rfl) rfl (by kernel_rfl) (by kernel_rfl) (by kernel_rfl) (fun _ _ _ h => h) (Or.inl ⟨by rfl, ?hyf2⟩) (by assumption) ?restf2
        case hyf2 =>
          intro w hSw
          try dsimp only at hSw
          go_simp
          try with_reducible rfl
        simp only [Act.put, List.setIfInBounds_toArray, List.set_cons_zero, List.set_cons_succ, List.getElem_toArray, List.getElem_cons_zero, List.getElem_cons_succ]
        refine goAny_take (i := 3) (v := ?vf3) (by kernel_rfl) (by kernel_rfl) rfl (by kernel_rfl) (by kernel_rfl) (by kernel_rfl) (fun _ _ _ h => h) (Or.inl ⟨by rfl, ?hyf3⟩) (by assumption) ?restf3
        case hyf3 =>
          intro w hSw
          try dsimp only at hSw
          go_simp
          try with_reducible rfl
        simp only [Act.put, List.setIfInBounds_toArray, List.set_cons_zero, List.set_cons_succ, List.getElem_toArray, List.getElem_cons_zero, List.getElem_cons_succ]
        refine goAny_take (i := 4) (v := ?vf4) (by kernel_rfl) (by kernel_rfl) rfl (by kernel_rfl) (by kernel_rfl) (by kernel_rfl) (fun _ _ _ h => h) (Or.inl ⟨by rfl, ?hyf4⟩) (by assumption) ?restf4
        case hyf4 =>
          intro w hSw
          try dsimp only at hSw
          go_simp
          try with_reducible rfl
        simp only [Act.put, List.setIfInBounds_toArray, List.set_cons_zero, List.set_cons_succ, List.getElem_toArray, List.getElem_cons_zero, List.getElem_cons_succ]
        refine goAny_take (i := 6) (v := ?vf6) (by kernel_rfl) (by kernel_rfl) rfl (by kernel_rfl) (by kernel_rfl) (by kernel_rfl) (fun _ _ _ h => h) (Or.inl ⟨by rfl, ?hyf6⟩) (by assumption) ?restf6
        case hyf6 =>
          intro w hSw
          try dsimp only at hSw
          go_simp
          try with_reducible rfl
        simp only [Act.put, List.setIfInBounds_toArray, List.set_cons_zero, List.set_cons_succ, List.getElem_toArray, List.getElem_cons_zero, List.getElem_cons_succ]
        refine goAny_take (i := 7) (v := ?vf7) (by kernel_rfl) (by kernel_rfl) rfl (by kernel_rfl) (by kernel_rfl) (by kernel_rfl) (fun _ _ _ h => h) (Or.inl ⟨by rfl, ?hyf7⟩) (by assumption) ?restf7
        case hyf7 =>
          intro w hSw
          try dsimp only at hSw
          go_simp
          try with_reducible rfl
        simp only [Act.put, List.setIfInBounds_toArray, List.set_cons_zero, List.set_cons_succ, List.getElem_toArray, List.getElem_cons_zero, List.getElem_cons_succ]
        refine goAny_take (i := 8) (v := ?vf8) (by kernel_rfl) (by kernel_rfl) rfl (by kernel_rfl) (by kernel_rfl) (by kernel_rfl) (fun _ _ _ h => h) (Or.inl ⟨by rfl, ?hyf8⟩) (by assumption) ?restf8
        case hyf8 =>
          intro w hSw
          try dsimp only at hSw
          go_simp
          try with_reducible rfl
        simp only [Act.put, List.setIfInBounds_toArray, List.set_cons_zero, List.set_cons_succ, List.getElem_toArray, List.getElem_cons_zero, List.getElem_cons_succ]
        refine goAny_take (i := 9) (v := ?vf9) (by kernel_rfl) (by kernel_rfl) rfl (by kernel_rfl) (by kernel_rfl) (by kernel_rfl) (fun _ _ _ h => h) (Or.inl ⟨by rfl, ?hyf9⟩) (by assumption) ?restf9
        case hyf9 =>
          intro w hSw
          try dsimp only at hSw
          go_simp
          try with_reducible rfl
        simp only [Act.put, List.setIfInBounds_toArray, List.set_cons_zero, List.set_cons_succ, List.getElem_toArray, List.getElem_cons_zero, List.getElem_cons_succ]
        refine goAny_take (i := 10) (v := ?vf10) (by kernel_rfl) (by kernel_rfl) rfl (by kernel_rfl) (by kernel_rfl) (by kernel_rfl) (fun _ _ _ h => h) (Or.inl ⟨by rfl, ?hyf10⟩) (by assumption) ?restf10
        case hyf10 =>
          intro w hSw
          try dsimp only at hSw
          go_simp
          try with_reducible rfl
        simp only [Act.put, List.setIfInBounds_toArray, List.set_cons_zero, List.set_cons_succ, List.getElem_toArray, List.getElem_cons_zero, List.getElem_cons_succ]
        refine goAny_step (i := 0) (by kernel_rfl) rfl (fun K hK => ?_)
        go_simp
        have HB2 := Lib.hid (HB1.out.alloc HB1.out.size (.cells #[] 42))
        have X2 := Lib.hid (X1.out.alloc (.cells #[] 42))
        have Z2 := Lib.hid (Z1.out.alloc (.cells #[] 42))
        have N2 := Lib.hid (Box.new W1 #[] 42)
        have hN : w.heap.size + 1 < W1.heap.size := Z1.out.lt
        generalize W1.heap.size = N at N2 hN ⊢
        generalize W1.alloc (.cells #[] 42) = W2 at HB2 X2 Z2 N2 ⊢
        have HO2 := Lib.hid (show OwnT W2 (w.heap.size + 2) (.slice (some ⟨N, 0, none⟩) 0 0) [] from own_empty' N2.out (by omega))
        skip
        have HLE := Lib.hid (show E.length = 0 by rw [← HER.out, List.length_append, HTL.out, HDL.out] <;> omega)
        have z0 := Z2.out.cell 0
        have z1 := Z2.out.cell 1
        have x0 := X2.out.cell 0
        have x1 := X2.out.cell 1
        have e0 := Z2.out.frz 0
        have e1 := Z2.out.frz 1
        have f0 := X2.out.frz 0
        have zl := Z2.out.lt
        have xl := X2.out.lt
        simp at z0 z1 x0 x1
        refine hK.out _ _ ?_ (fun hHeld => ?_)
        · exact ⟨X2.out.cell 0, X2.out.cell 1⟩
        clear hK K
        try simp only [Act.put, List.setIfInBounds_toArray, List.set_cons_zero, List.set_cons_succ, List.getElem_toArray, List.getElem_cons_zero, List.getElem_cons_succ]
        refine goAny_take (i := 5) (v := ?vf5) (by kernel_rfl) (by kernel_rfl) rfl (by kernel_rfl) (by kernel_rfl) (by kernel_rfl) (fun _ _ _ h => h) (Or.inl ⟨by rfl, ?hyf5⟩) (by assumption) ?restf5
        case hyf5 =>
          intro w hSw
          try dsimp only at hSw
          go_simp
          try with_reducible rfl
        simp only [Act.put, List.setIfInBounds_toArray, List.set_cons_zero, List.set_cons_succ, List.getElem_toArray, List.getElem_cons_zero, List.getElem_cons_succ]
        refine goAny_take (i := 11) (v := ?vf11) (by kernel_rfl) (by kernel_rfl) rfl (by kernel_rfl) (by kernel_rfl) (by kernel_rfl) (fun _ _ _ h => h) (Or.inl ⟨by rfl, ?hyf11⟩) (by assumption) ?restf11
        case hyf11 =>
          intro w hSw
          try dsimp only at hSw
          go_simp
          try with_reducible rfl
        simp only [Act.put, List.setIfInBounds_toArray, List.set_cons_zero, List.set_cons_succ, List.getElem_toArray, List.getElem_cons_zero, List.getElem_cons_succ]
        refine goAny_take (i := 12) (v := ?vf12) (by kernel_rfl) (by kernel_rfl) rfl (by kernel_rfl) (by kernel_rfl) (by kernel_rfl) (fun _ _ _ h => h) (Or.inl ⟨by rfl, ?hyf12⟩) (by assumption) ?restf12
        case hyf12 =>
          intro w hSw
          try dsimp only at hSw
          go_simp
          try with_reducible rfl
        simp only [Act.put, List.setIfInBounds_toArray, List.set_cons_zero, List.set_cons_succ, List.getElem_toArray, List.getElem_cons_zero, List.getElem_cons_succ]
        refine goAny_last (by kernel_rfl) (by kernel_rfl) rfl (fun K hK => ?_)
        go_simp
        skip
        refine hK.out _ _ ?_
        clear hK K
        try simp only [Act.put, List.setIfInBounds_toArray, List.set_cons_zero, List.set_cons_succ, List.getElem_toArray, List.getElem_cons_zero, List.getElem_cons_succ]
        go_wp2_with fail
        refine bodyPost_ret (v := .agg #[.slice (some ⟨N, 0, none⟩) 0 0, .int .i64 F]) (by simp [results, Try.results75, go_sem, z0, z1]) rfl ?_
        exact ⟨_, _, [], rfl, tyQueue_Mmk (D := (E, F)) (f0 := []) ⟨HLE.out, Nat.zero_le _, fun h => absurd h (Nat.lt_irrefl 0)⟩, fun b h => absurd h List.not_mem_nil, capQ (Nat.le_refl _), ((HB2.out.setCell (p := ⟨w.heap.size, 0, none⟩) (Nat.le_refl _) _).setCell (p := ⟨w.heap.size + 1, 0, none⟩) (Nat.le_add_right _ _) _).setCell (p := ⟨w.heap.size + 1, 1, none⟩) (Nat.le_add_right _ _) _⟩
end
end Go.Proofs.Ytagggajlpmdpdaa

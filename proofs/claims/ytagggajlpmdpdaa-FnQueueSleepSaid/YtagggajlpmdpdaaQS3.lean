/-
  Tasks in a row of the call's own; the model's l11Copy.
-/
import Derived.Test.YtagggajlpmdpdaaQKit
import Derived.Test.YtagggajlpmdpdaaTCopy
namespace Go.Proofs.Ytagggajlpmdpdaa
open Go.RowKit

theorem rowM_off {α : Type} {E : El α} {w : World} {A : Option Addr} {n : Nat} {l : List α} {fp : List Nat} (h : RowM E w fp A n l) (a : Addr) (v : Value) (hne : ∀ b ∈ fp, b ≠ a.block) : RowM E (w.setCell a v) fp A n l :=
  h.frame fun b hb => heap_setCell_other _ _ _ _ (hne b hb)
abbrev tkC (l : List ETask) : List Value := l.flatMap elTask.C
theorem tkC_len (l : List ETask) : (tkC l).length = l.length * 4 := flat_len elTask l
theorem tkC_one (l : List ETask) : ∀ u ∈ tkC l, u.oneCell' = true := by
  intro u hu
  obtain ⟨a, _, ha⟩ := List.mem_flatMap.1 hu
  simp only [elTask, List.mem_cons, List.not_mem_nil, or_false] at ha
  rcases ha with rfl | rfl | rfl | rfl <;> rfl
theorem own_capT {w : World} {base size g n cap : Nat} {t : TypeId} {xs : List Value} (h : w.ownsRow base t size (.slice (some ⟨g, 0, none⟩) n cap) n xs) : n ≤ cap := by
  rcases h.2 with ⟨_, h2⟩ | ⟨g', cap', cur, e, h3⟩
  · omega
  · injection e with _ _ e3
    subst e3
    exact h3.2.2.1
theorem capQ {A : Option Addr} {n c : Nat} (h : n ≤ c) : CapQ (.slice A n c) := fun _ _ _ e => by injection e with _ e2 e3; omega
theorem capQ_le {A : Option Addr} {n c : Nat} (h : CapQ (.slice A n c)) : n ≤ c := h _ _ _ rfl
/-- tasks in a row of the call's own -/
def OwnT (w : World) (base : Nat) (v : Value) (l : List ETask) : Prop := w.ownsRow base 42 4 v l.length (tkC l)
theorem OwnT.below {w w' : World} {base : Nat} {v : Value} {l : List ETask} (h : OwnT w base v l) (hb : Below w.heap.size w w') : OwnT w' base v l := by
  refine ⟨h.1, ?_⟩
  rcases h.2 with h2 | ⟨g, cap, cur, e, hg, hhp, h3⟩
  · exact .inl h2
  · obtain ⟨hlt, _⟩ := Array.getElem?_eq_some_iff.1 hhp
    exact .inr ⟨g, cap, cur, e, hg, (hb.block g hlt).trans hhp, h3⟩
theorem OwnT.low {w : World} {base base' : Nat} {v : Value} {l : List ETask} (h : OwnT w base v l) (hb : base' ≤ base) : OwnT w base' v l := by
  refine ⟨h.1, ?_⟩
  rcases h.2 with h2 | ⟨g, cap, cur, e, hg, h3⟩
  · exact .inl h2
  · exact .inr ⟨g, cap, cur, e, by omega, h3⟩
theorem OwnT.rowM {w : World} {base : Nat} {v : Value} {l : List ETask} (h : OwnT w base v l) : ∃ A c fp, v = .slice A l.length c ∧ l.length ≤ c ∧ RowM elTask w fp A l.length l ∧ ∀ b ∈ fp, base ≤ b ∧ b < w.heap.size := by
  rcases h.2 with ⟨rfl, h0⟩ | ⟨g, cap, cur, rfl, h3⟩
  · exact ⟨none, 0, [], by rw [h0], by omega, fun hn => by omega, fun b hb => absurd hb List.not_mem_nil⟩
  · refine ⟨some ⟨g, 0, none⟩, cap, [g], rfl, own_capT h, RowM.of_owns (E := elTask) h rfl, fun b hb => ?_⟩
    rw [List.mem_singleton] at hb
    subst hb
    exact World.ownsRow.lt h b rfl
/-- one task, laid in a block of its own ahead of an append -/
theorem task_new (w : World) (a : ETask) (t : TypeId) : ∀ j u, (elTask.C a)[j]? = some u → (w.alloc (.cells #[.int .i64 a.f0, .int .i64 a.f1, .int .i64 a.f2, .bool a.f3] t)).cell? ((⟨w.heap.size, 0, none⟩ : Addr).add j) = some u := fun j u hj => by
  rw [add_plain, Nat.zero_add, (Box.new w _ t).cell, ← hj]
  show (elTask.C a).toArray[j]? = (elTask.C a)[j]?
  rw [List.getElem?_toArray]
/-- one task is appended -/
theorem own_appT {u w' : World} {base : Nat} {out v' : Value} {L : List ETask} {a : ETask} (ho : OwnT u base out L) (hbase : base ≤ u.heap.size) (hown : w'.ownsRow base 42 4 v' (L.length + 1) (tkC L ++ elTask.C a))
    (hg : (u.alloc (.cells #[.int .i64 a.f0, .int .i64 a.f1, .int .i64 a.f2, .bool a.f3] 42)).grownBy w' out.ownBlock) : OwnT w' base v' (L ++ [a]) ∧ Below base u w' := by
  refine ⟨?_, ((Below.refl _ _).alloc hbase _).grown hg (by rw [World.size_alloc]; omega) (fun k e => (World.ownsRow.lt ho k e).1)⟩
  unfold OwnT
  rw [List.length_append]
  have e : tkC (L ++ [a]) = tkC L ++ elTask.C a := by simp [tkC]
  rw [e]
  exact hown

section
variable {w : World}
set_option maxHeartbeats 2000000 in
theorem qCopy_any {hi : Nat} {x0 x1 : Value} {D : Qu} (h : tyQueue.R w hi [x0, x1] D) (hs : smallQueue D) :
    Calls Try.prog 72 #[.agg #[x0, x1]] w fun e w' => ∃ y0 y1 fp, e = .returned (.agg #[y0, y1]) ∧ tyQueue.M w' fp [y0, y1] D ∧ (∀ b ∈ fp, w.heap.size ≤ b ∧ b < w'.heap.size) ∧ CapQ y0 ∧ Below w.heap.size w w' := by
  obtain ⟨A, n, c, hcs, hl, hn, hr⟩ := tyQueue_R h
  simp only [List.cons.injEq, and_true] at hcs
  obtain ⟨rfl, rfl⟩ := hcs
  obtain ⟨l, F⟩ := D
  dsimp only at hl hr ⊢
  unfold smallQueue at hs
  dsimp only at hs
  rw [hl] at hs
  have HR := Lib.hid hr
  have HL := Lib.hid hl
  clear h hr hl hn
  have X1 := Lib.hid ((Box.new w #[.slice A n c, .int .i64 F] 25).alloc (.cells #[.slice none 0 0, .int .i64 0] 25))
  have Z1 := Lib.hid (Box.new (w.alloc (.cells #[.slice A n c, .int .i64 F] 25)) #[.slice none 0 0, .int .i64 0] 25)
  simp only [World.size_alloc] at Z1
  have HB1 := Lib.hid (show Below w.heap.size w ((w.alloc (.cells #[.slice A n c, .int .i64 F] 25)).alloc (.cells #[.slice none 0 0, .int .i64 0] 25)) from ((Below.refl _ _).alloc (Nat.le_refl _) _).alloc (by simp only [World.size_alloc]; omega) _)
  by_cases hz : 0 < n
  · obtain ⟨b, o, rfl, hbh, hb0, _⟩ := HR.out hz
    obtain ⟨i0, hi0, hz0, hz1, hz2⟩ := infoTask
    have HI := Lib.hid hi0
    have HZ0 := Lib.hid hz0
    have HZ1 := Lib.hid hz1
    have HZ2 := Lib.hid hz2
    clear hi0 hz0 hz1 hz2
    go_enter Try.func72, Try.ntmps72
    go_wp2_with fail
    generalize ((w.alloc (.cells #[.slice (some ⟨b, o, none⟩) n c, .int .i64 F] 25)).alloc (.cells #[.slice none 0 0, .int .i64 0] 25)) = W0 at X1 Z1 HB1 ⊢
    replace HB1 := Lib.hid HB1.out.drew
    replace X1 := Lib.hid (show Box W0.drew _ _ _ from X1.out)
    replace Z1 := Lib.hid (show Box W0.drew _ _ _ from Z1.out)
    refine wp_region_held_drew (S := fun w' => w'.cell? ⟨w.heap.size, 0, none⟩ = some (.slice (some ⟨b, o, none⟩) n c) ∧ w'.cell? ⟨w.heap.size, 1, none⟩ = some (.int .i64 F)) (by kernel_rfl) ⟨X1.out.cell 0, X1.out.cell 1⟩ (fun hHeld => ?_)
    generalize W0.drew = W1 at X1 Z1 HB1 hHeld ⊢
    refine wpAnyH_take (i := 1) (v := ?vc1) rfl (by kernel_rfl) (by kernel_rfl) (by kernel_rfl) (fun _ _ _ h => h) (Or.inl ⟨by rfl, ?hyc1⟩) (by assumption) ?restc1
    case hyc1 =>
      intro w hSw
      try dsimp only at hSw
      go_simp
      try with_reducible rfl
    simp only [Act.put, List.setIfInBounds_toArray, List.set_cons_zero, List.set_cons_succ, List.getElem_toArray, List.getElem_cons_zero, List.getElem_cons_succ]
    refine wpAnyH_take (i := 2) (v := ?vc2) rfl (by kernel_rfl) (by kernel_rfl) (by kernel_rfl) (fun _ _ _ h => h) (Or.inl ⟨by rfl, ?hyc2⟩) (by assumption) ?restc2
    case hyc2 =>
      intro w hSw
      try dsimp only at hSw
      go_simp
      try with_reducible rfl
    simp only [Act.put, List.setIfInBounds_toArray, List.set_cons_zero, List.set_cons_succ, List.getElem_toArray, List.getElem_cons_zero, List.getElem_cons_succ]
    refine wpAnyH_take (i := 4) (v := ?vc4) rfl (by kernel_rfl) (by kernel_rfl) (by kernel_rfl) (fun _ _ _ h => h) (Or.inl ⟨by rfl, ?hyc4⟩) (by assumption) ?restc4
    case hyc4 =>
      intro w hSw
      try dsimp only at hSw
      go_simp
      try with_reducible rfl
    simp only [Act.put, List.setIfInBounds_toArray, List.set_cons_zero, List.set_cons_succ, List.getElem_toArray, List.getElem_cons_zero, List.getElem_cons_succ]
    refine wpAnyH_take (i := 5) (v := ?vc5) rfl (by kernel_rfl) (by kernel_rfl) (by kernel_rfl) (fun _ _ _ h => h) (Or.inl ⟨by rfl, ?hyc5⟩) (by assumption) ?restc5
    case hyc5 =>
      intro w hSw
      try dsimp only at hSw
      go_simp
      try with_reducible rfl
    simp only [Act.put, List.setIfInBounds_toArray, List.set_cons_zero, List.set_cons_succ, List.getElem_toArray, List.getElem_cons_zero, List.getElem_cons_succ]
    refine wpAnyH_ready (rs := [0]) (by kernel_rfl) (by simp) ?_
    refine AllReadyH.cons rfl (fun K hK => ?_) AllReadyH.nil
    go_simp
    have HB2 := Lib.hid (HB1.out.alloc HB1.out.size (.cells #[] 42))
    have X2 := Lib.hid (X1.out.alloc (.cells #[] 42))
    have Z2 := Lib.hid (Z1.out.alloc (.cells #[] 42))
    have N2 := Lib.hid (Box.new W1 #[] 42)
    have hN : w.heap.size + 1 < W1.heap.size := Z1.out.lt
    generalize W1.heap.size = N at N2 hN ⊢
    generalize W1.alloc (.cells #[] 42) = W2 at HB2 X2 Z2 N2 ⊢
    refine hK.out _ _ ?_ (fun hHeld => ?_)
    · exact ⟨X2.out.cell 0, X2.out.cell 1⟩
    clear hK K
    try simp only [Act.put, List.setIfInBounds_toArray, List.set_cons_zero, List.set_cons_succ, List.getElem_toArray, List.getElem_cons_zero, List.getElem_cons_succ]
    refine wpAnyH_ready (rs := [3]) (by kernel_rfl) (by simp) ?_
    refine AllReadyH.cons rfl (fun K hK => ?_) AllReadyH.nil
    refine step_append_lies _ rfl (.tmp 3) (.tmp 5) 23 rfl (w.heap.size + 2) 42 i0 (.agg #[.int .i64 0, .int .i64 0, .int .i64 0, .bool false]) 4 32 Try.underlying23 HI.out HZ0.out HZ1.out HZ2.out rfl (by decide) (.slice (some ⟨N, 0, none⟩) 0 0) 0 [] rfl (own_empty' N2.out (by omega)) ⟨b, o, none⟩ n c (tkC l) rfl (by rw [tkC_len, HL.out]) ?q1 ?q2 (by omega) ?q3 ?q4 ?q5 _ rfl ?_
    case q1 => exact (HR.out.wb HB2.out).news HL.out (by decide)
    case q2 => exact tkC_one l
    case q3 => simp only [maxLen]; omega
    case q4 => omega
    case q5 => have := N2.out.lt; omega
    intro g cap w3 hown hg hat hlt
    rw [Nat.zero_add, List.nil_append] at hown
    try rw [Nat.zero_add]
    have HM3 := Lib.hid (RowM.of_owns (E := elTask) hown HL.out)
    have hge := (hown.lt g rfl).1
    have hcq := own_capT hown
    have X3 := Lib.hid (show Box w3 w.heap.size _ 25 from (hg.block _ X2.out.lt (by simp [Value.ownBlock]; omega)).trans X2.out)
    have Z3 := Lib.hid (show Box w3 (w.heap.size + 1) _ 25 from (hg.block _ Z2.out.lt (by simp [Value.ownBlock]; omega)).trans Z2.out)
    have HB3 := Lib.hid (HB2.out.grown hg HB2.out.size (fun k e => by simp [Value.ownBlock] at e; omega))
    clear hown hg hat
    have z0 := Z3.out.cell 0
    have z1 := Z3.out.cell 1
    have e0 := Z3.out.frz 0
    have e1 := Z3.out.frz 1
    have zl := Z3.out.lt
    simp at z0 z1
    refine hK.out _ _ ?_ (fun hHeld => ?_)
    · exact ⟨X3.out.cell 0, X3.out.cell 1⟩
    clear hK K
    try simp only [Act.put, List.setIfInBounds_toArray, List.set_cons_zero, List.set_cons_succ, List.getElem_toArray, List.getElem_cons_zero, List.getElem_cons_succ]
    refine wpAnyH_take (i := 6) (v := ?vc6) rfl (by kernel_rfl) (by kernel_rfl) (by kernel_rfl) (fun _ _ _ h => h) (Or.inl ⟨by rfl, ?hyc6⟩) (by assumption) ?restc6
    case hyc6 =>
      intro w hSw
      try dsimp only at hSw
      go_simp
      try with_reducible rfl
    simp only [Act.put, List.setIfInBounds_toArray, List.set_cons_zero, List.set_cons_succ, List.getElem_toArray, List.getElem_cons_zero, List.getElem_cons_succ]
    refine wpAnyH_ready (rs := [7]) (by kernel_rfl) (by simp) ?_
    refine AllReadyH.cons rfl (fun K hK => ?_) AllReadyH.nil
    go_simp
    have y1 := ((X3.out.other (a := ⟨w.heap.size + 1, 0, none⟩) (by show w.heap.size ≠ w.heap.size + 1; omega) (.slice (some ⟨g, 0, none⟩) n cap)).other (a := ⟨w.heap.size + 1, 1, none⟩) (by show w.heap.size ≠ w.heap.size + 1; omega) (.int .i64 F))
    refine hK.out _ _ ?_ (fun hHeld => ?_)
    · exact ⟨y1.cell 0, y1.cell 1⟩
    clear hK K
    try simp only [Act.put, List.setIfInBounds_toArray, List.set_cons_zero, List.set_cons_succ, List.getElem_toArray, List.getElem_cons_zero, List.getElem_cons_succ]
    refine wpAnyH_done (by kernel_rfl) ?_ _
    clear y1
    go_wp2_with fail
    refine bodyPost_ret (v := .agg #[.slice (some ⟨g, 0, none⟩) n cap, .int .i64 F]) (by simp [results, Try.results72, go_sem, z0, z1]) rfl ⟨_, _, [g], rfl, tyQueue_Mmk (D := (l, F)) ⟨HL.out, hs, (HM3.out.off (by omega) _ _).off (by omega) _ _⟩, fun x hx => ?_, capQ hcq, (HB3.out.setCell (Nat.le_add_right _ _) _).setCell (Nat.le_add_right _ _) _⟩
    rw [List.mem_singleton] at hx
    subst hx
    simp only [World.size_setCell]
    exact ⟨by omega, hlt⟩
  · obtain rfl : n = 0 := by omega
    cases A
    · go_enter Try.func72, Try.ntmps72
      go_wp2_with fail
      generalize ((w.alloc (.cells #[.slice none 0 c, .int .i64 F] 25)).alloc (.cells #[.slice none 0 0, .int .i64 0] 25)) = W0 at X1 Z1 HB1 ⊢
      replace HB1 := Lib.hid HB1.out.drew
      replace X1 := Lib.hid (show Box W0.drew _ _ _ from X1.out)
      replace Z1 := Lib.hid (show Box W0.drew _ _ _ from Z1.out)
      refine wp_region_held_drew (S := fun w' => w'.cell? ⟨w.heap.size, 0, none⟩ = some (.slice none 0 c) ∧ w'.cell? ⟨w.heap.size, 1, none⟩ = some (.int .i64 F)) (by kernel_rfl) ⟨X1.out.cell 0, X1.out.cell 1⟩ (fun hHeld => ?_)
      generalize W0.drew = W1 at X1 Z1 HB1 hHeld ⊢
      refine wpAnyH_take (i := 1) (v := ?vd1) rfl (by kernel_rfl) (by kernel_rfl) (by kernel_rfl) (fun _ _ _ h => h) (Or.inl ⟨by rfl, ?hyd1⟩) (by assumption) ?restd1
      case hyd1 =>
        intro w hSw
        try dsimp only at hSw
        go_simp
        try with_reducible rfl
      simp only [Act.put, List.setIfInBounds_toArray, List.set_cons_zero, List.set_cons_succ, List.getElem_toArray, List.getElem_cons_zero, List.getElem_cons_succ]
      refine wpAnyH_take (i := 2) (v := ?vd2) rfl (by kernel_rfl) (by kernel_rfl) (by kernel_rfl) (fun _ _ _ h => h) (Or.inl ⟨by rfl, ?hyd2⟩) (by assumption) ?restd2
      case hyd2 =>
        intro w hSw
        try dsimp only at hSw
        go_simp
        try with_reducible rfl
      simp only [Act.put, List.setIfInBounds_toArray, List.set_cons_zero, List.set_cons_succ, List.getElem_toArray, List.getElem_cons_zero, List.getElem_cons_succ]
      refine wpAnyH_take (i := 4) (v := ?vd4) rfl (by kernel_rfl) (by kernel_rfl) (by kernel_rfl) (fun _ _ _ h => h) (Or.inl ⟨by rfl, ?hyd4⟩) (by assumption) ?restd4
      case hyd4 =>
        intro w hSw
        try dsimp only at hSw
        go_simp
        try with_reducible rfl
      simp only [Act.put, List.setIfInBounds_toArray, List.set_cons_zero, List.set_cons_succ, List.getElem_toArray, List.getElem_cons_zero, List.getElem_cons_succ]
      refine wpAnyH_take (i := 5) (v := ?vd5) rfl (by kernel_rfl) (by kernel_rfl) (by kernel_rfl) (fun _ _ _ h => h) (Or.inl ⟨by rfl, ?hyd5⟩) (by assumption) ?restd5
      case hyd5 =>
        intro w hSw
        try dsimp only at hSw
        go_simp
        try with_reducible rfl
      simp only [Act.put, List.setIfInBounds_toArray, List.set_cons_zero, List.set_cons_succ, List.getElem_toArray, List.getElem_cons_zero, List.getElem_cons_succ]
      refine wpAnyH_ready (rs := [0]) (by kernel_rfl) (by simp) ?_
      refine AllReadyH.cons rfl (fun K hK => ?_) AllReadyH.nil
      go_simp
      have HB2 := Lib.hid (HB1.out.alloc HB1.out.size (.cells #[] 42))
      have X2 := Lib.hid (X1.out.alloc (.cells #[] 42))
      have Z2 := Lib.hid (Z1.out.alloc (.cells #[] 42))
      have hN : w.heap.size + 1 < W1.heap.size := Z1.out.lt
      generalize W1.heap.size = N at hN ⊢
      generalize W1.alloc (.cells #[] 42) = W2 at HB2 X2 Z2 ⊢
      have z0 := Z2.out.cell 0
      have z1 := Z2.out.cell 1
      have e0 := Z2.out.frz 0
      have e1 := Z2.out.frz 1
      have zl := Z2.out.lt
      simp at z0 z1
      refine hK.out _ _ ?_ (fun hHeld => ?_)
      · exact ⟨X2.out.cell 0, X2.out.cell 1⟩
      clear hK K
      try simp only [Act.put, List.setIfInBounds_toArray, List.set_cons_zero, List.set_cons_succ, List.getElem_toArray, List.getElem_cons_zero, List.getElem_cons_succ]
      refine wpAnyH_take (i := 3) (v := ?vd3) rfl (by kernel_rfl) (by kernel_rfl) (by kernel_rfl) (fun _ _ _ h => h) (Or.inl ⟨by rfl, ?hyd3⟩) (by assumption) ?restd3
      case hyd3 =>
        intro w hSw
        try dsimp only at hSw
        go_simp
        try with_reducible rfl
      simp only [Act.put, List.setIfInBounds_toArray, List.set_cons_zero, List.set_cons_succ, List.getElem_toArray, List.getElem_cons_zero, List.getElem_cons_succ]
      refine wpAnyH_take (i := 6) (v := ?vd6) rfl (by kernel_rfl) (by kernel_rfl) (by kernel_rfl) (fun _ _ _ h => h) (Or.inl ⟨by rfl, ?hyd6⟩) (by assumption) ?restd6
      case hyd6 =>
        intro w hSw
        try dsimp only at hSw
        go_simp
        try with_reducible rfl
      simp only [Act.put, List.setIfInBounds_toArray, List.set_cons_zero, List.set_cons_succ, List.getElem_toArray, List.getElem_cons_zero, List.getElem_cons_succ]
      refine wpAnyH_ready (rs := [7]) (by kernel_rfl) (by simp) ?_
      refine AllReadyH.cons rfl (fun K hK => ?_) AllReadyH.nil
      go_simp
      have y1 := ((X2.out.other (a := ⟨w.heap.size + 1, 0, none⟩) (by show w.heap.size ≠ w.heap.size + 1; omega) (.slice (some ⟨N, 0, none⟩) 0 0)).other (a := ⟨w.heap.size + 1, 1, none⟩) (by show w.heap.size ≠ w.heap.size + 1; omega) (.int .i64 F))
      refine hK.out _ _ ?_ (fun hHeld => ?_)
      · exact ⟨y1.cell 0, y1.cell 1⟩
      clear hK K
      try simp only [Act.put, List.setIfInBounds_toArray, List.set_cons_zero, List.set_cons_succ, List.getElem_toArray, List.getElem_cons_zero, List.getElem_cons_succ]
      refine wpAnyH_done (by kernel_rfl) ?_ _
      clear y1
      go_wp2_with fail
      refine bodyPost_ret (v := .agg #[.slice (some ⟨N, 0, none⟩) 0 0, .int .i64 F]) (by simp [results, Try.results72, go_sem, z0, z1]) rfl ⟨_, _, [], rfl, tyQueue_Mmk (D := (l, F)) (f0 := []) ⟨HL.out, hs, fun h => absurd h (Nat.lt_irrefl 0)⟩, fun b h => absurd h List.not_mem_nil, capQ (Nat.le_refl _), (HB2.out.setCell (Nat.le_add_right _ _) _).setCell (Nat.le_add_right _ _) _⟩
    · rename_i v
      go_enter Try.func72, Try.ntmps72
      go_wp2_with fail
      generalize ((w.alloc (.cells #[.slice (some v) 0 c, .int .i64 F] 25)).alloc (.cells #[.slice none 0 0, .int .i64 0] 25)) = W0 at X1 Z1 HB1 ⊢
      replace HB1 := Lib.hid HB1.out.drew
      replace X1 := Lib.hid (show Box W0.drew _ _ _ from X1.out)
      replace Z1 := Lib.hid (show Box W0.drew _ _ _ from Z1.out)
      refine wp_region_held_drew (S := fun w' => w'.cell? ⟨w.heap.size, 0, none⟩ = some (.slice (some v) 0 c) ∧ w'.cell? ⟨w.heap.size, 1, none⟩ = some (.int .i64 F)) (by kernel_rfl) ⟨X1.out.cell 0, X1.out.cell 1⟩ (fun hHeld => ?_)
      generalize W0.drew = W1 at X1 Z1 HB1 hHeld ⊢
      refine wpAnyH_take (i := 1) (v := ?ve1) rfl (by kernel_rfl) (by kernel_rfl) (by kernel_rfl) (fun _ _ _ h => h) (Or.inl ⟨by rfl, ?hye1⟩) (by assumption) ?reste1
      case hye1 =>
        intro w hSw
        try dsimp only at hSw
        go_simp
        try with_reducible rfl
      simp only [Act.put, List.setIfInBounds_toArray, List.set_cons_zero, List.set_cons_succ, List.getElem_toArray, List.getElem_cons_zero, List.getElem_cons_succ]
      refine wpAnyH_take (i := 2) (v := ?ve2) rfl (by kernel_rfl) (by kernel_rfl) (by kernel_rfl) (fun _ _ _ h => h) (Or.inl ⟨by rfl, ?hye2⟩) (by assumption) ?reste2
      case hye2 =>
        intro w hSw
        try dsimp only at hSw
        go_simp
        try with_reducible rfl
      simp only [Act.put, List.setIfInBounds_toArray, List.set_cons_zero, List.set_cons_succ, List.getElem_toArray, List.getElem_cons_zero, List.getElem_cons_succ]
      refine wpAnyH_take (i := 4) (v := ?ve4) rfl (by kernel_rfl) (by kernel_rfl) (by kernel_rfl) (fun _ _ _ h => h) (Or.inl ⟨by rfl, ?hye4⟩) (by assumption) ?reste4
      case hye4 =>
        intro w hSw
        try dsimp only at hSw
        go_simp
        try with_reducible rfl
      simp only [Act.put, List.setIfInBounds_toArray, List.set_cons_zero, List.set_cons_succ, List.getElem_toArray, List.getElem_cons_zero, List.getElem_cons_succ]
      refine wpAnyH_take (i := 5) (v := ?ve5) rfl (by kernel_rfl) (by kernel_rfl) (by kernel_rfl) (fun _ _ _ h => h) (Or.inl ⟨by rfl, ?hye5⟩) (by assumption) ?reste5
      case hye5 =>
        intro w hSw
        try dsimp only at hSw
        go_simp
        try with_reducible rfl
      simp only [Act.put, List.setIfInBounds_toArray, List.set_cons_zero, List.set_cons_succ, List.getElem_toArray, List.getElem_cons_zero, List.getElem_cons_succ]
      refine wpAnyH_ready (rs := [0]) (by kernel_rfl) (by simp) ?_
      refine AllReadyH.cons rfl (fun K hK => ?_) AllReadyH.nil
      go_simp
      have HB2 := Lib.hid (HB1.out.alloc HB1.out.size (.cells #[] 42))
      have X2 := Lib.hid (X1.out.alloc (.cells #[] 42))
      have Z2 := Lib.hid (Z1.out.alloc (.cells #[] 42))
      have hN : w.heap.size + 1 < W1.heap.size := Z1.out.lt
      generalize W1.heap.size = N at hN ⊢
      generalize W1.alloc (.cells #[] 42) = W2 at HB2 X2 Z2 ⊢
      have z0 := Z2.out.cell 0
      have z1 := Z2.out.cell 1
      have e0 := Z2.out.frz 0
      have e1 := Z2.out.frz 1
      have zl := Z2.out.lt
      simp at z0 z1
      refine hK.out _ _ ?_ (fun hHeld => ?_)
      · exact ⟨X2.out.cell 0, X2.out.cell 1⟩
      clear hK K
      try simp only [Act.put, List.setIfInBounds_toArray, List.set_cons_zero, List.set_cons_succ, List.getElem_toArray, List.getElem_cons_zero, List.getElem_cons_succ]
      refine wpAnyH_take (i := 3) (v := ?ve3) rfl (by kernel_rfl) (by kernel_rfl) (by kernel_rfl) (fun _ _ _ h => h) (Or.inl ⟨by rfl, ?hye3⟩) (by assumption) ?reste3
      case hye3 =>
        intro w hSw
        try dsimp only at hSw
        go_simp
        try with_reducible rfl
      simp only [Act.put, List.setIfInBounds_toArray, List.set_cons_zero, List.set_cons_succ, List.getElem_toArray, List.getElem_cons_zero, List.getElem_cons_succ]
      refine wpAnyH_take (i := 6) (v := ?ve6) rfl (by kernel_rfl) (by kernel_rfl) (by kernel_rfl) (fun _ _ _ h => h) (Or.inl ⟨by rfl, ?hye6⟩) (by assumption) ?reste6
      case hye6 =>
        intro w hSw
        try dsimp only at hSw
        go_simp
        try with_reducible rfl
      simp only [Act.put, List.setIfInBounds_toArray, List.set_cons_zero, List.set_cons_succ, List.getElem_toArray, List.getElem_cons_zero, List.getElem_cons_succ]
      refine wpAnyH_ready (rs := [7]) (by kernel_rfl) (by simp) ?_
      refine AllReadyH.cons rfl (fun K hK => ?_) AllReadyH.nil
      go_simp
      have y1 := ((X2.out.other (a := ⟨w.heap.size + 1, 0, none⟩) (by show w.heap.size ≠ w.heap.size + 1; omega) (.slice (some ⟨N, 0, none⟩) 0 0)).other (a := ⟨w.heap.size + 1, 1, none⟩) (by show w.heap.size ≠ w.heap.size + 1; omega) (.int .i64 F))
      refine hK.out _ _ ?_ (fun hHeld => ?_)
      · exact ⟨y1.cell 0, y1.cell 1⟩
      clear hK K
      try simp only [Act.put, List.setIfInBounds_toArray, List.set_cons_zero, List.set_cons_succ, List.getElem_toArray, List.getElem_cons_zero, List.getElem_cons_succ]
      refine wpAnyH_done (by kernel_rfl) ?_ _
      clear y1
      go_wp2_with fail
      refine bodyPost_ret (v := .agg #[.slice (some ⟨N, 0, none⟩) 0 0, .int .i64 F]) (by simp [results, Try.results72, go_sem, z0, z1]) rfl ⟨_, _, [], rfl, tyQueue_Mmk (D := (l, F)) (f0 := []) ⟨HL.out, hs, fun h => absurd h (Nat.lt_irrefl 0)⟩, fun b h => absurd h List.not_mem_nil, capQ (Nat.le_refl _), (HB2.out.setCell (Nat.le_add_right _ _) _).setCell (Nat.le_add_right _ _) _⟩
end
end Go.Proofs.Ytagggajlpmdpdaa

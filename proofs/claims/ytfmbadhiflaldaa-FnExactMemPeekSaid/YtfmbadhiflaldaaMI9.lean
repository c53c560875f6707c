/-
  Linked memory: the program's memLinked.
-/
import Derived.Test.YtfmbadhiflaldaaMI8
namespace Go.Proofs.Ytfmbadhiflaldaa
open Go.RowKit
set_option maxRecDepth 100000

section
variable {D : EMem}
theorem alone_iff {m : Nat} {l : List Nat} (hl : ∀ c ∈ l, c < 80) : owdB (lnkS D m 80) l = true ↔ AloneV D l := by
  unfold owdB AloneV
  rw [Bool.or_eq_true, Bool.or_eq_true, decide_eq_true_iff, Bool.not_eq_true', Bool.not_eq_true', List.any_eq_false, List.any_eq_false]
  refine or_congr Iff.rfl (or_congr ?_ ?_)
  · refine forall_congr' fun c => forall_congr' fun hc => ?_
    show ¬ (decide (c < 80) && (scD D c).f2) = true ↔ (scD D c).f2 = false
    rw [decide_eq_true (hl c hc), Bool.true_and, Bool.not_eq_true]
  · refine forall_congr' fun c => forall_congr' fun hc => ?_
    show ¬ (!(decide (c < 80) && shaC D c)) = true ↔ shaC D c = true
    rw [decide_eq_true (hl c hc), Bool.true_and]
    cases shaC D c <;> simp
theorem told_iff : (∀ p, p < 24 → ((tolL D 80 p).length : Int) = refD D p) ∧ (∀ p, p < 24 → AloneV D (tolL D 80 p)) ↔ ToldV (lnkS D 5 80) 0 D.1.2 12 ∧ ToldV (lnkS D 5 80) 12 D.2.1.2 12 := by
  have hl : ∀ p c, c ∈ tolL D 80 p → c < 80 := fun p c h => tol_lt h
  constructor
  · rintro ⟨h1, h2⟩
    constructor
    · intro j hj
      have a := h1 (0 + j) (by omega)
      unfold refD at a
      rw [if_pos (by omega), Nat.zero_add] at a
      rw [Nat.zero_add]
      exact ⟨a, (alone_iff (hl j)).2 (h2 j (by omega))⟩
    · intro j hj
      have a := h1 (12 + j) (by omega)
      unfold refD at a
      rw [if_neg (by omega), show 12 + j - 12 = j by omega] at a
      exact ⟨a, (alone_iff (hl _)).2 (h2 (12 + j) (by omega))⟩
  · rintro ⟨h1, h2⟩
    constructor
    · intro p hp
      unfold refD
      by_cases h : p < 12
      · rw [if_pos h]
        have a := (h1 p h).1
        rw [Nat.zero_add] at a
        exact a
      · rw [if_neg h]
        have a := (h2 (p - 12) (by omega)).1
        rw [show 12 + (p - 12) = p by omega] at a
        exact a
    · intro p hp
      by_cases h : p < 12
      · have a := (h1 p h).2
        rw [Nat.zero_add] at a
        exact (alone_iff (hl p)).1 a
      · have a := (h2 (p - 12) (by omega)).2
        rw [show 12 + (p - 12) = p by omega] at a
        exact (alone_iff (hl p)).1 a
theorem Filled.ex {w w' : World} {L p0 : Nat} {kd : Int} {ts : List ByteArray} (h : Filled w w' L p0 kd ts 12) (hc : ∀ i, i < 427 → ∃ v, w.cell? ⟨L, i, none⟩ = some v) : ∀ i, i < 427 → ∃ v, w'.cell? ⟨L, i, none⟩ = some v := fun i hi => by
  by_cases h1 : i < 4 * p0 ∨ 4 * (p0 + 12) ≤ i
  · rw [h.old i h1]; exact hc i hi
  · obtain ⟨a, b, c, d⟩ := h.new (i / 4 - p0) (by omega)
    rcases (by omega : i % 4 = 0 ∨ i % 4 = 1 ∨ i % 4 = 2 ∨ i % 4 = 3) with e | e | e | e
    · exact ⟨_, by rw [show i = 4 * (p0 + (i / 4 - p0)) by omega]; exact a⟩
    · exact ⟨_, by rw [show i = 4 * (p0 + (i / 4 - p0)) + 1 by omega]; exact b⟩
    · exact ⟨_, by rw [show i = 4 * (p0 + (i / 4 - p0)) + 2 by omega]; exact c⟩
    · exact ⟨_, by rw [show i = 4 * (p0 + (i / 4 - p0)) + 3 by omega]; exact d⟩
/-- linked memory before any slot is linked -/
structure RawW (D : EMem) (w : World) (L : Nat) : Prop where
  frz : ∀ i, w.frozen? ⟨L, i, none⟩ = false
  pl : ∀ p, p < 24 → w.cell? ⟨L, 4 * p, none⟩ = some (.int .i64 (knd p)) ∧ w.cell? ⟨L, 4 * p + 1, none⟩ = some (.int .i64 (plc p)) ∧ w.cell? ⟨L, 4 * p + 2, none⟩ = some (.string (txtD D p)) ∧ w.cell? ⟨L, 4 * p + 3, none⟩ = some (.slice none 0 0)
  up : ∀ i, 96 ≤ i → w.cell? ⟨L, i, none⟩ = (hZ D.2.2.2)[i]?
theorem raw_of {w w1 w2 : World} {L : Nat} (hz : ∀ i, w.cell? ⟨L, i, none⟩ = (hZ D.2.2.2)[i]?) (h1 : Filled w w1 L 0 1 D.1.1 12) (h2 : Filled w1 w2 L 12 2 D.2.1.1 12) : RawW D w2 L where
  frz := h2.frz
  pl := fun p hp => by
    by_cases h : p < 12
    · obtain ⟨a, b, c, d⟩ := h1.new p h
      rw [Nat.zero_add] at a b c d
      rw [h2.old _ (Or.inl (by omega)), h2.old _ (Or.inl (by omega)), h2.old _ (Or.inl (by omega)), h2.old _ (Or.inl (by omega))]
      unfold knd plc txtD
      rw [if_pos h, if_pos h, Nat.mod_eq_of_lt h]
      exact ⟨a, b, c, d⟩
    · obtain ⟨a, b, c, d⟩ := h2.new (p - 12) (by omega)
      rw [show 12 + (p - 12) = p by omega] at a b c d
      unfold knd plc txtD
      rw [if_neg h, if_neg h, show p % 12 = p - 12 by omega]
      exact ⟨a, b, c, d⟩
  up := fun i hi => by rw [h2.old _ (Or.inr (by omega)), h1.old _ (Or.inr (by omega))]; exact hz i
/-- what memLinked answers -/
def LkR (w : World) (D : EMem) (e : Ending) (w' : World) : Prop :=
  ∃ b ptr, e = .returned (.tuple #[ptr, .bool b]) ∧ (b = true ↔ MemV D) ∧ (b = true → ∃ L V AV, ptr = .pointer (some ⟨L, 0, none⟩) ∧ LW w' L w.heap.size (lnkS D 5 80) V AV) ∧ Below w.heap.size w w'
def fokB (D : List ByteArray × List Int) : Bool := okPg D.1 D.2 && decide (D.1.length = 12)
theorem fok_iff {D : List ByteArray × List Int} : fokB D = true ↔ okPg D.1 D.2 = true ∧ D.2.length = 12 := by
  unfold fokB
  rw [Bool.and_eq_true, decide_eq_true_iff]
  constructor
  · rintro ⟨h1, h2⟩; exact ⟨h1, by unfold okPg at h1; have := (of_decide_eq_true h1).1; omega⟩
  · rintro ⟨h1, h2⟩; exact ⟨h1, by unfold okPg at h1; have := (of_decide_eq_true h1).1; omega⟩
set_option maxHeartbeats 8000000 in
theorem memLinked_any {w : World} {hi : Nat} {x0 x1 x2 x3 x4 x5 : Value} (h : tyMem.R w hi [x0, x1, x2, x3, x4, x5] D) (hw : wfMem D) (hT : ∀ s ∈ D.2.2.1, TopE s.2.1) :
    Calls Try.prog 46 #[.agg #[x0, x1, x2, x3, x4, x5]] w (LkR w D) := by
  have h0 := tyMem.rlt h
  obtain ⟨hi0, hhi⟩ : ∃ hi0, min hi w.heap.size = hi0 := ⟨_, rfl⟩
  have hhs : hi0 ≤ w.heap.size := by omega
  rw [hhi] at h0
  clear h hhi
  have hR := tyMem_R h0
  obtain ⟨hr, hsw, hsp, rfl⟩ := hR
  obtain ⟨A0, n0, c0, B0, m0, d0, e0⟩ := tyPages_sh hr
  simp only [List.cons.injEq, and_true] at e0
  obtain ⟨rfl, rfl⟩ := e0
  obtain ⟨A1, n1, c1, B1, m1, d1, e0⟩ := tyPages_sh hsw
  simp only [List.cons.injEq, and_true] at e0
  obtain ⟨rfl, rfl⟩ := e0
  obtain ⟨A2, n2, c2, e0, hl5, hm5, hr5⟩ := hsp
  simp only [List.cons.injEq, and_true] at e0
  obtain rfl := e0
  obtain ⟨hd, hhd⟩ : ∃ hd, D.2.2.2 = hd := ⟨_, rfl⟩
  rw [hhd]
  have HHD := Lib.hid hhd
  have HS := Lib.hid hhs
  have HR := Lib.hid hr
  have HSW := Lib.hid hsw
  have HL5 := Lib.hid hl5
  have HM5 := Lib.hid hm5
  have HR5 := Lib.hid hr5
  have HW := Lib.hid hw
  have HT := Lib.hid hT
  have m5 : n2 ≤ 9223372036854775807 := hm5
  obtain ⟨f1, hf1⟩ : ∃ f1, fokB D.1 = f1 := ⟨_, rfl⟩
  obtain ⟨f2, hf2⟩ : ∃ f2, fokB D.2.1 = f2 := ⟨_, rfl⟩
  have HF1 := Lib.hid hf1
  have HF2 := Lib.hid hf2
  clear hhd hr hsw hl5 hm5 hr5 hw hT h0 hf1 hf2
  have HX0 := Lib.hid ((Box.new w #[.slice A0 n0 c0, .slice B0 m0 d0, .slice A1 n1 c1, .slice B1 m1 d1, .slice A2 n2 c2, .int .i64 hd] 29).alloc (.cells (hZ hd) 90))
  have HZ0 := Lib.hid (Box.new (w.alloc (.cells #[.slice A0 n0 c0, .slice B0 m0 d0, .slice A1 n1 c1, .slice B1 m1 d1, .slice A2 n2 c2, .int .i64 hd] 29)) (hZ hd) 90)
  have HB0 := Lib.hid (show Below w.heap.size w ((w.alloc (.cells #[.slice A0 n0 c0, .slice B0 m0 d0, .slice A1 n1 c1, .slice B1 m1 d1, .slice A2 n2 c2, .int .i64 hd] 29)).alloc (.cells (hZ hd) 90)) from ((Below.refl _ _).alloc (Nat.le_refl _) _).alloc (by rw [World.size_alloc]; omega) _)
  simp only [World.size_alloc] at HZ0
  go_enter Try.func46, Try.ntmps46
  go_upto_region 2 with (refine wpList_build rfl 90 [(3, .tmp 8)] rfl [(3, .int .i64 hd)] (hZ hd) rfl (built_hand hd) ?_)
  generalize (w.alloc (.cells #[.slice A0 n0 c0, .slice B0 m0 d0, .slice A1 n1 c1, .slice B1 m1 d1, .slice A2 n2 c2, .int .i64 hd] 29)).alloc (.cells (hZ hd) 90) = w1 at HX0 HZ0 HB0 ⊢
  obtain ⟨L, hL⟩ : ∃ L, w.heap.size + 1 = L := ⟨_, rfl⟩
  rw [hL] at HZ0 ⊢
  have HL := Lib.hid hL
  have hML : ¬ w.heap.size = L := by omega
  have hLM : ¬ L = w.heap.size := by omega
  have x0 := HX0.out.cell 0
  have x1 := HX0.out.cell 1
  have x2 := HX0.out.cell 2
  have x3 := HX0.out.cell 3
  have x4 := HX0.out.cell 4
  have x5 := HX0.out.cell 5
  have xl := HX0.out.lt
  simp at x0 x1 x2 x3 x4 x5
  have hc1 := Lib.hid (show Calls Try.prog 89 #[.slice (some ⟨L, 0, none⟩) 12 12, .int .i64 1, .agg #[.slice A0 n0 c0, .slice B0 m0 d0]] w1.drew (FillR w1.drew L 0 1 D.1) from
    fill_any (p0 := 0) (Ty.rb HR.out (HB0.out.mono HS.out).drew) HW.out.1 (by have := HS.out; omega) HZ0.out.lt (fun i => HZ0.out.frz i) (fun i hi => ⟨_, by
      show w1.cell? ⟨L, i, none⟩ = _
      rw [HZ0.out.cell i, Array.getElem?_eq_getElem (by rw [hZ_size]; exact hi)]⟩) (by decide) 1)
  have HSZ := Lib.hid (show hi0 ≤ L from by have := HS.out; omega)
  clear hL
  go_cut [28] (fun v wx => v = .bool (!(f1 && f2)) ∧ Foot w1 wx [L] ∧ ((f1 && f2) = true → RawW D wx L))
  case first =>
    cases f1
    case false =>
      refine wp_region_held_drew (S := fun w' => w'.cell? ⟨w.heap.size, 0, none⟩ = some (.slice A0 n0 c0) ∧ w'.cell? ⟨w.heap.size, 1, none⟩ = some (.slice B0 m0 d0) ∧ w'.cell? ⟨w.heap.size, 2, none⟩ = some (.slice A1 n1 c1) ∧ w'.cell? ⟨w.heap.size, 3, none⟩ = some (.slice B1 m1 d1)) (by kernel_rfl) ⟨x0, x1, x2, x3⟩ (fun hHeld => ?_)
      refine wpAnyH_take (i := 0) (v := ?vr0) rfl (by kernel_rfl) (by kernel_rfl) (by kernel_rfl) (fun _ _ _ h => h) (Or.inl ⟨by rfl, ?hyr0⟩) (by assumption) ?restr0
      case hyr0 =>
        intro w hSw
        try dsimp only at hSw
        go_simp
        try with_reducible rfl
      simp only [Act.put, List.setIfInBounds_toArray, List.set_cons_zero, List.set_cons_succ, List.getElem_toArray, List.getElem_cons_zero]
      refine wpAnyH_take (i := 1) (v := ?vr1) rfl (by kernel_rfl) (by kernel_rfl) (by kernel_rfl) (fun _ _ _ h => h) (Or.inl ⟨by rfl, ?hyr1⟩) (by assumption) ?restr1
      case hyr1 =>
        intro w hSw
        try dsimp only at hSw
        go_simp
        try with_reducible rfl
      simp only [Act.put, List.setIfInBounds_toArray, List.set_cons_zero, List.set_cons_succ, List.getElem_toArray, List.getElem_cons_zero, List.getElem_cons_succ]
      refine wpAnyH_take (i := 2) (v := ?vr2) rfl (by kernel_rfl) (by kernel_rfl) (by kernel_rfl) (fun _ _ _ h => h) (Or.inl ⟨by rfl, ?hyr2⟩) (by assumption) ?restr2
      case hyr2 =>
        intro w hSw
        try dsimp only at hSw
        go_simp
        try with_reducible rfl
      simp only [Act.put, List.setIfInBounds_toArray, List.set_cons_zero, List.set_cons_succ, List.getElem_toArray, List.getElem_cons_zero, List.getElem_cons_succ]
      refine wpAnyH_take (i := 3) (v := ?vr3) rfl (by kernel_rfl) (by kernel_rfl) (by kernel_rfl) (fun _ _ _ h => h) (Or.inl ⟨by rfl, ?hyr3⟩) (by assumption) ?restr3
      case hyr3 =>
        intro w hSw
        try dsimp only at hSw
        go_simp
        try with_reducible rfl
      simp only [Act.put, List.setIfInBounds_toArray, List.set_cons_zero, List.set_cons_succ, List.getElem_toArray, List.getElem_cons_zero, List.getElem_cons_succ]
      refine wpAnyH_take (i := 4) (v := ?vr4) rfl (by kernel_rfl) (by kernel_rfl) (by kernel_rfl) (fun _ _ _ h => h) (Or.inl ⟨by rfl, ?hyr4⟩) (by assumption) ?restr4
      case hyr4 =>
        intro w hSw
        try dsimp only at hSw
        go_simp
        try with_reducible rfl
      simp only [Act.put, List.setIfInBounds_toArray, List.set_cons_zero, List.set_cons_succ, List.getElem_toArray, List.getElem_cons_zero, List.getElem_cons_succ]
      refine wpAnyH_take (i := 5) (v := ?vr5) rfl (by kernel_rfl) (by kernel_rfl) (by kernel_rfl) (fun _ _ _ h => h) (Or.inl ⟨by rfl, ?hyr5⟩) (by assumption) ?restr5
      case hyr5 =>
        intro w hSw
        try dsimp only at hSw
        go_simp
        try with_reducible rfl
      simp only [Act.put, List.setIfInBounds_toArray, List.set_cons_zero, List.set_cons_succ, List.getElem_toArray, List.getElem_cons_zero, List.getElem_cons_succ]
      refine wpAnyH_ready (rs := [6]) (by kernel_rfl) (by simp) ?_
      refine AllReadyH.cons rfl (fun K hK => ?_) AllReadyH.nil
      go_simp
      refine hc1.out.mono ?_
      rintro e va ⟨he, hfo, _⟩
      rw [show (okPg D.1.1 D.1.2 && decide (D.1.1.length = 12)) = false from HF1.out] at he
      subst he
      have HFO := Lib.hid hfo
      have hXa := hfo.box (show Box w1.drew w.heap.size _ _ from HX0.out) (by rw [List.mem_singleton]; exact hML)
      have K0 := Lib.hid (hXa.cell 0)
      have K1 := Lib.hid (hXa.cell 1)
      have K2 := Lib.hid (hXa.cell 2)
      have K3 := Lib.hid (hXa.cell 3)
      clear hfo hXa
      refine hK.out _ _ ?_ (fun hHeld => ?_)
      · exact ⟨K0.out, K1.out, K2.out, K3.out⟩
      clear hK K
      try simp only [Act.put, List.setIfInBounds_toArray, List.set_cons_zero, List.set_cons_succ, List.getElem_toArray, List.getElem_cons_zero, List.getElem_cons_succ]
      refine wpAnyH_take (i := 7) (v := ?vr7) rfl (by kernel_rfl) (by kernel_rfl) (by kernel_rfl) (fun _ _ _ h => h) (Or.inl ⟨by rfl, ?hyr7⟩) (by assumption) ?restr7
      case hyr7 =>
        intro w hSw
        try dsimp only at hSw
        go_simp
        try with_reducible rfl
      simp only [Act.put, List.setIfInBounds_toArray, List.set_cons_zero, List.set_cons_succ, List.getElem_toArray, List.getElem_cons_zero, List.getElem_cons_succ]
      refine wpAnyH_take (i := 8) (v := ?vr8) rfl (by kernel_rfl) (by kernel_rfl) (by kernel_rfl) (fun _ _ _ h => h) (Or.inl ⟨by rfl, ?hyr8⟩) (by assumption) ?restr8
      case hyr8 =>
        intro w hSw
        try dsimp only at hSw
        go_simp
        try with_reducible rfl
      simp only [Act.put, List.setIfInBounds_toArray, List.set_cons_zero, List.set_cons_succ, List.getElem_toArray, List.getElem_cons_zero, List.getElem_cons_succ]
      refine wpAnyH_drop (fuel := 1) [9, 10, 11, 12, 13, 14, 15, 16] [20, 21, 22, 23, 24, 25, 26, 27] #[true, true, true, true, true, true, true, true, true, true, true, true, true, true, true, true, true, false] (by kernel_rfl) (fun d _ _ _ _ h => by cases d <;> exact h) (by assumption) (by kernel_rfl) (by kernel_rfl) (by kernel_rfl) ?_
      simp only [putsU, Act.put, List.setIfInBounds_toArray, List.set_cons_zero, List.set_cons_succ]
      refine wpAnyH_take (i := 17) (v := ?vr17) rfl (by kernel_rfl) (by kernel_rfl) (by kernel_rfl) (fun _ _ _ h => h) (Or.inl ⟨by rfl, ?hyr17⟩) (by assumption) ?restr17
      case hyr17 =>
        intro w hSw
        try dsimp only at hSw
        go_simp
        try with_reducible rfl
      simp only [Act.put, List.setIfInBounds_toArray, List.set_cons_zero, List.set_cons_succ, List.getElem_toArray, List.getElem_cons_zero, List.getElem_cons_succ]
      refine wpAnyH_done (by kernel_rfl) ?_ _
      go_wp2_with fail
      go_meet
      exact ⟨rfl, (Foot.of_below (Below.refl w1.heap.size w1).drew _).trans HFO.out, fun e => (by cases e)⟩
    cases f2
    all_goals
      go_region_held3 (fun w' => w'.cell? ⟨w.heap.size, 0, none⟩ = some (.slice A0 n0 c0) ∧ w'.cell? ⟨w.heap.size, 1, none⟩ = some (.slice B0 m0 d0) ∧ w'.cell? ⟨w.heap.size, 2, none⟩ = some (.slice A1 n1 c1) ∧ w'.cell? ⟨w.heap.size, 3, none⟩ = some (.slice B1 m1 d1))
        (first | exact ⟨J0.out, J1.out, J2.out, J3.out⟩ | exact ⟨K0.out, K1.out, K2.out, K3.out⟩ | exact ⟨x0, x1, x2, x3⟩)
        (first
          | (go_at_call 89
             refine hc2.out.mono ?_
             rintro e vb ⟨he2, hfo2, hfi2⟩
             first | rw [show (okPg D.2.1.1 D.2.1.2 && decide (D.2.1.1.length = 12)) = false from HF2.out] at he2 | rw [show (okPg D.2.1.1 D.2.1.2 && decide (D.2.1.1.length = 12)) = true from HF2.out] at he2
             subst he2
             have HFO2 := Lib.hid hfo2
             have HFI2 := Lib.hid hfi2
             have hXb := hfo2.box HXA.out (by rw [List.mem_singleton]; exact hML)
             have J0 := Lib.hid (hXb.cell 0)
             have J1 := Lib.hid (hXb.cell 1)
             have J2 := Lib.hid (hXb.cell 2)
             have J3 := Lib.hid (hXb.cell 3)
             clear hfo2 hfi2 hXb)
          | (go_at_call 89
             refine hc1.out.mono ?_
             rintro e va ⟨he, hfo, hfi⟩
             rw [show (okPg D.1.1 D.1.2 && decide (D.1.1.length = 12)) = true from HF1.out] at he
             subst he
             have HFO := Lib.hid hfo
             have HFI := Lib.hid (hfi HF1.out)
             have HXA := Lib.hid (hfo.box (show Box w1.drew w.heap.size _ _ from HX0.out) (by rw [List.mem_singleton]; exact hML))
             have hc2 := Lib.hid (show Calls Try.prog 89 #[.slice (some ⟨L, 48, none⟩) 12 12, .int .i64 2, .agg #[.slice A1 n1 c1, .slice B1 m1 d1]] va (FillR va L 12 2 D.2.1) from
               fill_any (p0 := 12) (Ty.rb (Ty.rb HSW.out (HB0.out.mono HS.out).drew) (hfo.below (Nat.le_trans HS.out HB0.out.size) (fun b hb => by rw [List.mem_singleton] at hb; rw [hb]; exact HSZ.out))) HW.out.2.1 HSZ.out (Nat.lt_of_lt_of_le HZ0.out.lt hfo.size) HFI.out.frz (HFI.out.ex (fun i hi => ⟨_, by
                 show w1.cell? ⟨L, i, none⟩ = _
                 rw [HZ0.out.cell i, Array.getElem?_eq_getElem (by rw [hZ_size]; exact hi)]⟩)) (by decide) 2)
             have K0 := Lib.hid (HXA.out.cell 0)
             have K1 := Lib.hid (HXA.out.cell 1)
             have K2 := Lib.hid (HXA.out.cell 2)
             have K3 := Lib.hid (HXA.out.cell 3)
             clear hfo hfi))
      go_wp2_with fail
      go_meet
      first
        | exact ⟨rfl, ((Foot.of_below (Below.refl w1.heap.size w1).drew _).trans HFO.out).trans HFO2.out, fun _ => raw_of (fun i => by rw [HHD.out]; exact HZ0.out.cell i) HFI.out (HFI2.out HF2.out)⟩
        | exact ⟨rfl, ((Foot.of_below (Below.refl w1.heap.size w1).drew _).trans HFO.out).trans HFO2.out, fun e => (by cases e)⟩
  case rest =>
  obtain ⟨rfl, hfo, hraw⟩ := hcut
  rename World => w2
  have HX2 := Lib.hid (hfo.box HX0.out (by rw [List.mem_singleton]; exact hML))
  have HB2 := Lib.hid (HB0.out.trans (hfo.below HB0.out.size (fun b hb => by rw [List.mem_singleton] at hb; have := HL.out; omega)))
  have HL2 := Lib.hid (show L < w2.heap.size from Nat.lt_of_lt_of_le HZ0.out.lt hfo.size)
  have HRAW := Lib.hid hraw
  clear hfo hraw x0 x1 x2 x3 x4 x5 xl HX0 HZ0 HB0 hc1
  have x4 := HX2.out.cell 4
  have x5 := HX2.out.cell 5
  have xl := HX2.out.lt
  simp at x4 x5
  cases hff : f1 && f2
  case false =>
    have HN := Lib.hid (show ¬ MemV D from fun hv => by
      have h1 := fok_iff.2 hv.ram
      have h2 := fok_iff.2 hv.swap
      rw [← HF1.out, ← HF2.out, h1, h2] at hff
      cases hff)
    clear hff
    go_wp2_with fail
    refine bodyPost_ret (v := .tuple #[.pointer none, .bool false]) (by simp [results, Try.results46, go_sem]) rfl ⟨false, .pointer none, rfl, ⟨fun e => (by cases e), fun e => absurd e HN.out⟩, fun e => (by cases e), HB2.out⟩
  have hraw := HRAW.out hff
  rw [Bool.and_eq_true] at hff
  have HOK1 := Lib.hid (fok_iff.1 (HF1.out.trans hff.1))
  have HOK2 := Lib.hid (fok_iff.1 (HF2.out.trans hff.2))
  have HLW := Lib.hid (lw_start (D := D) (w := w2) (L := L) (base := w.heap.size) ⟨by have := HL.out; omega, HL2.out⟩ hraw.frz hraw.pl hraw.up)
  clear hff hraw HRAW HF1 HF2
  by_cases h5 : n2 = 5
  case neg =>
    have q5 : ((n2 : Int) != 5) = true := by rw [bne_iff_ne]; omega
    have HN := Lib.hid (show ¬ MemV D from fun hv => h5 (by rw [← HL5.out]; exact hv.five))
    clear h5
    go_wp2_with fail
    refine bodyPost_ret (v := .tuple #[.pointer none, .bool false]) (by simp [results, Try.results46, go_sem]) rfl ⟨false, .pointer none, rfl, ⟨fun e => (by cases e), fun e => absurd e HN.out⟩, fun e => (by cases e), HB2.out⟩
  subst h5
  by_cases h0 : 0 ≤ hd
  case neg =>
    have q0 : hd < 0 := by omega
    have HN := Lib.hid (show ¬ MemV D from fun hv => h0 (by rw [← HHD.out]; exact hv.hand.1))
    clear h0
    go_wp2_with fail
    refine bodyPost_ret (v := .tuple #[.pointer none, .bool false]) (by simp [results, Try.results46, go_sem]) rfl ⟨false, .pointer none, rfl, ⟨fun e => (by cases e), fun e => absurd e HN.out⟩, fun e => (by cases e), HB2.out⟩
  by_cases h11 : hd ≤ 11
  case neg =>
    have q0 : (12 : Int) ≤ hd := by omega
    have q1 : ¬ hd < 0 := by omega
    have HN := Lib.hid (show ¬ MemV D from fun hv => h11 (by rw [← HHD.out]; exact hv.hand.2))
    clear h0 h11
    go_wp2_with fail
    refine bodyPost_ret (v := .tuple #[.pointer none, .bool false]) (by simp [results, Try.results46, go_sem]) rfl ⟨false, .pointer none, rfl, ⟨fun e => (by cases e), fun e => absurd e HN.out⟩, fun e => (by cases e), HB2.out⟩
  have HHR := Lib.hid (show 0 ≤ hd ∧ hd ≤ 11 from ⟨h0, h11⟩)
  have q0 : ¬ hd < 0 := by omega
  have q1 : ¬ (12 : Int) ≤ hd := by omega
  clear h0 h11
  go_wp2_with fail
  have hcl : lnkS D 0 0 = lnkS D 0 (16 * 0) := rfl
  rw [hcl] at HLW
  clear hcl x4 x5 xl
  have HMF := Lib.hid (show FreeB L nilV w.heap.size from ⟨hML, fun p _ e => (by cases e)⟩)
  go_loopw [46] (fun i wr => ∃ (k : Nat) (V AV : Nat → Value), i = .int .i64 k ∧ k ≤ 5 ∧ (∀ j, j < k → SpV (spD D j)) ∧ LW wr L w.heap.size (lnkS D k (16 * k)) V AV ∧ FootL w2 wr L nilV ∧ LiesV w2 nilV V) (fun i _ => 5 - (intOf i).toNat)
  case atStart => exact ⟨0, nilV, nilV, rfl, Nat.zero_le _, fun j hj => absurd hj (Nat.not_lt_zero j), HLW.out, FootL.refl _ _ _, LiesV.refl _ _⟩
  case round =>
    obtain ⟨k, V, AV, rfl, hk, hsv, hlw, hft, hli⟩ := hrel
    rename World => v1
    have HSV := Lib.hid hsv
    have H1 := Lib.hid hlw
    have HF := Lib.hid hft
    have HLI := Lib.hid hli
    have HB3 := Lib.hid (HB2.out.trans (hft.low (lo := w.heap.size) HB2.out.size (by have := HL.out; omega) (fun p g _ e => by cases e)))
    have HX3 := Lib.hid (hft.box HX2.out HMF.out)
    clear hsv hlw hft hli HLW
    by_cases hlt : k < 5
    case neg =>
      obtain rfl : k = 5 := by omega
      have hkk : ¬ ((5 : Int) < 5) := by decide
      have h80 : LW v1 L w.heap.size (lnkS D 5 80) V AV := H1.out
      have H80 := Lib.hid h80
      have hbc : ∀ p, p < 24 → ∀ c ∈ (lnkS D 5 80).by_ p, c < 80 := fun p _ c h => tol_lt (show c ∈ tolL D 80 p from h)
      have hbn : ∀ p, p < 24 → ((lnkS D 5 80).by_ p).length ≤ 1000 := fun p _ => Nat.le_trans (tol_len (D := D) 80 p) (by decide)
      have HBC := Lib.hid hbc
      have HBN := Lib.hid hbn
      have hc3 := Lib.hid (show Calls Try.prog 91 #[.slice (some ⟨L, 0, none⟩) 12 12, .agg #[.slice A0 n0 c0, .slice B0 m0 d0]] v1.drew (TokR v1.drew (lnkS D 5 80) 0 D.1.2) from
        toldOk_any (p0 := 0) h80.drew (by decide) (Ty.rb HR.out (HB3.out.mono HS.out).drew) HW.out.1 HOK1.out.2 hbc hbn)
      have x0 := HX3.out.cell 0
      have x1 := HX3.out.cell 1
      have x2 := HX3.out.cell 2
      have x3 := HX3.out.cell 3
      have xl := HX3.out.lt
      simp at x0 x1 x2 x3
      clear h80 hbc hbn
      go_upto_region 12 with fail
      by_cases ht1 : ToldV (lnkS D 5 80) 0 D.1.2 12
      case neg =>
        have HT1 := Lib.hid ht1
        clear ht1
        refine wp_region_held_drew (S := fun w' => w'.cell? ⟨w.heap.size, 0, none⟩ = some (.slice A0 n0 c0) ∧ w'.cell? ⟨w.heap.size, 1, none⟩ = some (.slice B0 m0 d0) ∧ w'.cell? ⟨w.heap.size, 2, none⟩ = some (.slice A1 n1 c1) ∧ w'.cell? ⟨w.heap.size, 3, none⟩ = some (.slice B1 m1 d1)) (by kernel_rfl) ⟨x0, x1, x2, x3⟩ (fun hHeld => ?_)
        refine wpAnyH_take (i := 0) (v := ?vq0) rfl (by kernel_rfl) (by kernel_rfl) (by kernel_rfl) (fun _ _ _ h => h) (Or.inl ⟨by rfl, ?hyq0⟩) (by assumption) ?restq0
        case hyq0 =>
          intro w hSw
          try dsimp only at hSw
          go_simp
          try with_reducible rfl
        simp only [Act.put, List.setIfInBounds_toArray, List.set_cons_zero, List.set_cons_succ, List.getElem_toArray, List.getElem_cons_zero]
        refine wpAnyH_take (i := 1) (v := ?vq1) rfl (by kernel_rfl) (by kernel_rfl) (by kernel_rfl) (fun _ _ _ h => h) (Or.inl ⟨by rfl, ?hyq1⟩) (by assumption) ?restq1
        case hyq1 =>
          intro w hSw
          try dsimp only at hSw
          go_simp
          try with_reducible rfl
        simp only [Act.put, List.setIfInBounds_toArray, List.set_cons_zero, List.set_cons_succ, List.getElem_toArray, List.getElem_cons_zero, List.getElem_cons_succ]
        refine wpAnyH_take (i := 2) (v := ?vq2) rfl (by kernel_rfl) (by kernel_rfl) (by kernel_rfl) (fun _ _ _ h => h) (Or.inl ⟨by rfl, ?hyq2⟩) (by assumption) ?restq2
        case hyq2 =>
          intro w hSw
          try dsimp only at hSw
          go_simp
          try with_reducible rfl
        simp only [Act.put, List.setIfInBounds_toArray, List.set_cons_zero, List.set_cons_succ, List.getElem_toArray, List.getElem_cons_zero, List.getElem_cons_succ]
        refine wpAnyH_take (i := 3) (v := ?vq3) rfl (by kernel_rfl) (by kernel_rfl) (by kernel_rfl) (fun _ _ _ h => h) (Or.inl ⟨by rfl, ?hyq3⟩) (by assumption) ?restq3
        case hyq3 =>
          intro w hSw
          try dsimp only at hSw
          go_simp
          try with_reducible rfl
        simp only [Act.put, List.setIfInBounds_toArray, List.set_cons_zero, List.set_cons_succ, List.getElem_toArray, List.getElem_cons_zero, List.getElem_cons_succ]
        refine wpAnyH_take (i := 4) (v := ?vq4) rfl (by kernel_rfl) (by kernel_rfl) (by kernel_rfl) (fun _ _ _ h => h) (Or.inl ⟨by rfl, ?hyq4⟩) (by assumption) ?restq4
        case hyq4 =>
          intro w hSw
          try dsimp only at hSw
          go_simp
          try with_reducible rfl
        simp only [Act.put, List.setIfInBounds_toArray, List.set_cons_zero, List.set_cons_succ, List.getElem_toArray, List.getElem_cons_zero, List.getElem_cons_succ]
        refine wpAnyH_take (i := 5) (v := ?vq5) rfl (by kernel_rfl) (by kernel_rfl) (by kernel_rfl) (fun _ _ _ h => h) (Or.inl ⟨by rfl, ?hyq5⟩) (by assumption) ?restq5
        case hyq5 =>
          intro w hSw
          try dsimp only at hSw
          go_simp
          try with_reducible rfl
        simp only [Act.put, List.setIfInBounds_toArray, List.set_cons_zero, List.set_cons_succ, List.getElem_toArray, List.getElem_cons_zero, List.getElem_cons_succ]
        refine wpAnyH_take (i := 6) (v := ?vq6) rfl (by kernel_rfl) (by kernel_rfl) (by kernel_rfl) (fun _ _ _ h => h) (Or.inl ⟨by rfl, ?hyq6⟩) (by assumption) ?restq6
        case hyq6 =>
          intro w hSw
          try dsimp only at hSw
          go_simp
          try with_reducible rfl
        simp only [Act.put, List.setIfInBounds_toArray, List.set_cons_zero, List.set_cons_succ, List.getElem_toArray, List.getElem_cons_zero, List.getElem_cons_succ]
        refine wpAnyH_ready (rs := [7]) (by kernel_rfl) (by simp) ?_
        refine AllReadyH.cons rfl (fun K hK => ?_) AllReadyH.nil
        go_simp
        refine hc3.out.mono ?_
        rintro e va ⟨⟨bp, rfl, hbp⟩, hb1⟩
        have hq : bp = false := (by
          cases bp
          · rfl
          · exact absurd (hbp.1 rfl) HT1.out)
        subst hq
        have HFO := Lib.hid hb1
        have hXa := (show Box v1.drew w.heap.size _ _ from HX3.out).below hb1 HX3.out.lt
        have K0 := Lib.hid (hXa.cell 0)
        have K1 := Lib.hid (hXa.cell 1)
        have K2 := Lib.hid (hXa.cell 2)
        have K3 := Lib.hid (hXa.cell 3)
        clear hb1 hXa hbp
        refine hK.out _ _ ?_ (fun hHeld => ?_)
        · exact ⟨K0.out, K1.out, K2.out, K3.out⟩
        clear hK K
        try simp only [Act.put, List.setIfInBounds_toArray, List.set_cons_zero, List.set_cons_succ, List.getElem_toArray, List.getElem_cons_zero, List.getElem_cons_succ]
        refine wpAnyH_take (i := 8) (v := ?vq8) rfl (by kernel_rfl) (by kernel_rfl) (by kernel_rfl) (fun _ _ _ h => h) (Or.inl ⟨by rfl, ?hyq8⟩) (by assumption) ?restq8
        case hyq8 =>
          intro w hSw
          try dsimp only at hSw
          go_simp
          try with_reducible rfl
        simp only [Act.put, List.setIfInBounds_toArray, List.set_cons_zero, List.set_cons_succ, List.getElem_toArray, List.getElem_cons_zero, List.getElem_cons_succ]
        refine wpAnyH_drop (fuel := 3) [9, 10, 11, 12, 13, 14, 15] [66, 67, 68, 69, 70, 71, 72] #[true, true, true, true, true, true, true, true, true, true, true, true, true, true, true, true, false, false, false] (by kernel_rfl) (fun d _ _ _ _ h => by cases d <;> exact h) (by assumption) (by kernel_rfl) (by kernel_rfl) (by kernel_rfl) ?_
        simp only [putsU, Act.put, List.setIfInBounds_toArray, List.set_cons_zero, List.set_cons_succ]
        refine wpAnyH_take (i := 16) (v := ?vq16) rfl (by kernel_rfl) (by kernel_rfl) (by kernel_rfl) (fun _ _ _ h => h) (Or.inl ⟨by rfl, ?hyq16⟩) (by assumption) ?restq16
        case hyq16 =>
          intro w hSw
          try dsimp only at hSw
          go_simp
          try with_reducible rfl
        simp only [Act.put, List.setIfInBounds_toArray, List.set_cons_zero, List.set_cons_succ, List.getElem_toArray, List.getElem_cons_zero, List.getElem_cons_succ]
        refine wpAnyH_take (i := 17) (v := ?vq17) rfl (by kernel_rfl) (by kernel_rfl) (by kernel_rfl) (fun _ _ _ h => h) (Or.inl ⟨by rfl, ?hyq17⟩) (by assumption) ?restq17
        case hyq17 =>
          intro w hSw
          try dsimp only at hSw
          go_simp
          try with_reducible rfl
        simp only [Act.put, List.setIfInBounds_toArray, List.set_cons_zero, List.set_cons_succ, List.getElem_toArray, List.getElem_cons_zero, List.getElem_cons_succ]
        refine wpAnyH_take (i := 18) (v := ?vq18) rfl (by kernel_rfl) (by kernel_rfl) (by kernel_rfl) (fun _ _ _ h => h) (Or.inl ⟨by rfl, ?hyq18⟩) (by assumption) ?restq18
        case hyq18 =>
          intro w hSw
          try dsimp only at hSw
          go_simp
          try with_reducible rfl
        simp only [Act.put, List.setIfInBounds_toArray, List.set_cons_zero, List.set_cons_succ, List.getElem_toArray, List.getElem_cons_zero, List.getElem_cons_succ]
        refine wpAnyH_done (by kernel_rfl) ?_ _
        have HN := Lib.hid (show ¬ MemV D from fun hv => HT1.out (told_iff.1 ⟨hv.told, hv.alone⟩).1)
        go_wp2_with fail
        exact bodyPost_ret (v := .tuple #[.pointer (some ⟨L, 0, none⟩), .bool false]) (by simp [results, Try.results46, go_sem]) rfl ⟨false, _, rfl, ⟨fun e => (by cases e), fun e => absurd e HN.out⟩, fun e => (by cases e), HB3.out.drew.trans (HFO.out.mono (show w.heap.size ≤ v1.drew.heap.size from HB3.out.size))⟩
      have HT1 := Lib.hid ht1
      clear ht1
      by_cases ht2 : ToldV (lnkS D 5 80) 12 D.2.1.2 12
      all_goals
        have HT2 := Lib.hid ht2
        clear ht2
        go_region_held3 (fun w' => w'.cell? ⟨w.heap.size, 0, none⟩ = some (.slice A0 n0 c0) ∧ w'.cell? ⟨w.heap.size, 1, none⟩ = some (.slice B0 m0 d0) ∧ w'.cell? ⟨w.heap.size, 2, none⟩ = some (.slice A1 n1 c1) ∧ w'.cell? ⟨w.heap.size, 3, none⟩ = some (.slice B1 m1 d1))
          (first | exact ⟨J0.out, J1.out, J2.out, J3.out⟩ | exact ⟨K0.out, K1.out, K2.out, K3.out⟩ | exact ⟨x0, x1, x2, x3⟩)
          (first
            | (go_at_call 91
               refine hc4.out.mono ?_
               rintro e vb ⟨⟨bq, rfl, hbq⟩, hb2⟩
               first
                 | (have hq : bq = true := hbq.2 HT2.out
                    subst hq)
                 | (have hq : bq = false := (by
                      cases bq
                      · rfl
                      · exact absurd (hbq.1 rfl) HT2.out)
                    subst hq)
               have HFO2 := Lib.hid hb2
               have hXb := HXA.out.below hb2 HXA.out.lt
               have J0 := Lib.hid (hXb.cell 0)
               have J1 := Lib.hid (hXb.cell 1)
               have J2 := Lib.hid (hXb.cell 2)
               have J3 := Lib.hid (hXb.cell 3)
               clear hb2 hXb hbq)
            | (go_at_call 91
               refine hc3.out.mono ?_
               rintro e va ⟨⟨bp, rfl, hbp⟩, hb1⟩
               have hq : bp = true := hbp.2 HT1.out
               subst hq
               have HFO := Lib.hid hb1
               have HXA := Lib.hid ((show Box v1.drew w.heap.size _ _ from HX3.out).below hb1 HX3.out.lt)
               have hc4 := Lib.hid (show Calls Try.prog 91 #[.slice (some ⟨L, 48, none⟩) 12 12, .agg #[.slice A1 n1 c1, .slice B1 m1 d1]] va (TokR va (lnkS D 5 80) 12 D.2.1.2) from
                 toldOk_any (p0 := 12) (H80.out.drew.below hb1) (by decide) (Ty.rb (Ty.rb HSW.out (HB3.out.mono HS.out).drew) (hb1.mono (Nat.le_trans HS.out HB3.out.size))) HW.out.2.1 HOK2.out.2 HBC.out HBN.out)
               have K0 := Lib.hid (HXA.out.cell 0)
               have K1 := Lib.hid (HXA.out.cell 1)
               have K2 := Lib.hid (HXA.out.cell 2)
               have K3 := Lib.hid (HXA.out.cell 3)
               clear hb1 hbp))
        go_wp2_with fail
        have HBF := Lib.hid ((HB3.out.drew.trans (HFO.out.mono (show w.heap.size ≤ v1.drew.heap.size from HB3.out.size))).trans (HFO2.out.mono (Nat.le_trans (show w.heap.size ≤ v1.drew.heap.size from HB3.out.size) HFO.out.size)))
        have HLF := Lib.hid ((H80.out.drew.below HFO.out).below HFO2.out)
        first
          | (have hv : MemV D := (by
               have h9 := told_iff.2 ⟨HT1.out, HT2.out⟩
               exact ⟨HOK1.out, HOK2.out, HL5.out, by rw [HHD.out]; exact HHR.out, HSV.out, h9.1, h9.2⟩)
             exact bodyPost_ret (v := .tuple #[.pointer (some ⟨L, 0, none⟩), .bool true]) (by simp [results, Try.results46, go_sem]) rfl ⟨true, _, rfl, ⟨fun _ => hv, fun _ => rfl⟩, fun _ => ⟨L, V, AV, rfl, HLF.out⟩, HBF.out⟩)
          | (have hn : ¬ MemV D := fun hv => HT2.out (told_iff.1 ⟨hv.told, hv.alone⟩).2
             exact bodyPost_ret (v := .tuple #[.pointer (some ⟨L, 0, none⟩), .bool false]) (by simp [results, Try.results46, go_sem]) rfl ⟨false, _, rfl, ⟨fun e => (by cases e), fun e => absurd e hn⟩, fun e => (by cases e), HBF.out⟩)
    have hk1 : (k : Int) < 5 := by omega
    have hk2 : (0 : Int) ≤ k := by omega
    obtain ⟨b, o, rfl, hbh, hb0, hcc⟩ := (HR5.out.below (HB3.out.mono HS.out)) (by omega)
    obtain ⟨cs, hcl, hat, hsr⟩ := hcc k hlt
    match cs, hcl with
    | [y0, y1, y2], _ =>
    have q0 := hat 0 (show 0 < 3 by decide)
    have q1 := hat 1 (show 1 < 3 by decide)
    have q2 := hat 2 (show 2 < 3 by decide)
    replace hsr : tySpace.R v1 hi0 [y0, y1, y2] (spD D k) := hsr
    obtain ⟨A8, n8, c8, A9, n9, c9, hcs⟩ := tySpace_sh hsr
    simp only [List.cons.injEq, and_true] at hcs
    obtain ⟨rfl, rfl, rfl⟩ := hcs
    obtain ⟨lv, hlv⟩ : ∃ lv, (spD D k).1 = lv := ⟨_, rfl⟩
    rw [hlv] at q0 hsr
    have hbl := (Below.refl v1.heap.size v1).alloc (Nat.le_refl _) (.cells #[.bool lv, .slice A8 n8 c8, .slice A9 n9 c9] 45)
    have HTK := Lib.hid (show TopE (spD D k).2.1 from HT.out _ (by
      unfold spD
      rw [List.getD_eq_getElem?_getD, List.getElem?_eq_getElem (by rw [HL5.out]; exact hlt)]
      exact List.getElem_mem _))
    have hcall := linkSpace_any (H1.out.below hbl) hlt (Ty.below_w hsr hbl) HS.out HTK.out (by rw [World.size_alloc]; have := HB3.out.size; omega)
    have HCL := Lib.hid hcall
    have HBL := Lib.hid hbl
    replace q0 : v1.cell? ⟨b, o + k * 3, none⟩ = some (.bool lv) := q0
    replace q1 : v1.cell? ⟨b, o + k * 3 + 1, none⟩ = some (.slice A8 n8 c8) := q1
    replace q2 : v1.cell? ⟨b, o + k * 3 + 2, none⟩ = some (.slice A9 n9 c9) := q2
    clear hcc hat hsr hlv hcall hbl
    go_wp2_with fail
    refine HCL.out.mono ?_
    rintro e v3 ⟨bb, V2, AV2, rfl, hiff, hlw, hft, hli⟩
    have HF3 := Lib.hid ((HF.out.thenB HLI.out HBL.out).trans HLI.out hft)
    have HLI3 := Lib.hid (HLI.out.trans hli (Nat.le_trans HF.out.size HBL.out.size))
    have HIFF := Lib.hid hiff
    have HLW3 := Lib.hid hlw
    clear hiff hlw hft hli q0 q1 q2
    cases bb
    case false =>
      have HN := Lib.hid (show ¬ MemV D from fun hv => (by have h9 := HIFF.out.2 (hv.sp k hlt); cases h9))
      go_wp2_with fail
      refine bodyPost_ret (v := .tuple #[.pointer none, .bool false]) (by simp [results, Try.results46, go_sem]) rfl ⟨false, .pointer none, rfl, ⟨fun e => (by cases e), fun e => absurd e HN.out⟩, fun e => (by cases e), HB2.out.trans (HF3.out.low (lo := w.heap.size) HB2.out.size (by have := HL.out; omega) (fun p g _ e => by cases e))⟩
    go_wp2_with fail
    go_roundw
    case rel =>
      refine ⟨k + 1, V2, AV2, by go_num, by omega, fun j hj => ?_, HLW3.out (by first | rfl | trivial), HF3.out, HLI3.out⟩
      rcases Nat.lt_or_ge j k with h1 | h1
      · exact HSV.out j h1
      · obtain rfl : j = k := by omega
        exact HIFF.out.1 (by first | rfl | trivial)
    case measure => simp [intOf]; omega
end
end Go.Proofs.Ytfmbadhiflaldaa

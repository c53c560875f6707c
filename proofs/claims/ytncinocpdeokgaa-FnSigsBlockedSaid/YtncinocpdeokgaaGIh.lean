/-
  The program's sigStateOf.
-/
import Derived.Test.YtncinocpdeokgaaGId
import Derived.Test.YtncinocpdeokgaaGIf
import Derived.Test.YtncinocpdeokgaaGIg
import Derived.Test.YtncinocpdeokgaaGIr
namespace Go.Proofs.Ytncinocpdeokgaa
open Go.RowKit

section
variable {w : World}
theorem stA_all (H B : List Bool) (L : List Int) : (stA H B L).extract 0 (0 + 24) = stA H B L := by kernel_rfl
theorem stA_here (H B : List Bool) (L : List Int) : (stA H B L).extract 0 (0 + 8) = bA H := by kernel_rfl
theorem stA_block (H B : List Bool) (L : List Int) : (stA H B L).extract 8 (8 + 8) = bA B := by kernel_rfl
theorem stA_acts (H B : List Bool) (L : List Int) : (stA H B L).extract 16 (16 + 8) = iA L := by kernel_rfl
theorem stA_put0 (H B X : List Bool) (L : List Int) : ((stA H B L).toList.take 0 ++ (bA X).toList ++ (stA H B L).toList.drop (0 + (bA X).size)).toArray = stA X B L := by kernel_rfl
theorem stA_put1 (H B X : List Bool) (L : List Int) : ((stA H B L).toList.take 8 ++ (bA X).toList ++ (stA H B L).toList.drop (8 + (bA X).size)).toArray = stA H X L := by kernel_rfl
theorem stA_put2 (H B : List Bool) (L X : List Int) : ((stA H B L).toList.take 16 ++ (iA X).toList ++ (stA H B L).toList.drop (16 + (iA X).size)).toArray = stA H B X := by kernel_rfl
theorem stA_put (H B H2 B2 : List Bool) (L L2 : List Int) : ((stA H B L).toList.take 0 ++ (stA H2 B2 L2).toList ++ (stA H B L).toList.drop (0 + (stA H2 B2 L2).size)).toArray = stA H2 B2 L2 := by kernel_rfl
theorem stA_one (H B : List Bool) (L : List Int) : (stA H B L).all (·.oneCell') = true := by kernel_rfl
theorem bA_one (H : List Bool) : (bA H).all (·.oneCell') = true := by kernel_rfl
theorem iA_one (L : List Int) : (iA L).all (·.oneCell') = true := by kernel_rfl
theorem bA_cells {w : World} {b o : Nat} {L : List Bool} (h : ∀ k, k < 8 → w.cell? ⟨b, o + k, none⟩ = some (.bool (L.getD k false))) (j : Nat) (v : Value) (hv : (bA L).toList[j]? = some v) : w.cell? ⟨b, o + j, none⟩ = some v := by
  have hj : j < 8 := (List.getElem?_eq_some_iff.1 hv).1
  rw [h j hj, ← bA_at L j hj, ← hv, Array.getElem?_toList]
theorem iA_cells {w : World} {b o : Nat} {L : List Int} (h : ∀ k, k < 8 → w.cell? ⟨b, o + k, none⟩ = some (.int .i64 (L.getD k 0))) (j : Nat) (v : Value) (hv : (iA L).toList[j]? = some v) : w.cell? ⟨b, o + j, none⟩ = some v := by
  have hj : j < 8 := (List.getElem?_eq_some_iff.1 hv).1
  rw [h j hj, ← iA_at L j hj, ← hv, Array.getElem?_toList]
theorem X8.foot {w w' : World} {hi b0 o0 b1 o1 b2 o2 g : Nat} {D : Sg} (h : X8 w hi b0 o0 b1 o1 b2 o2 D) (hf : Foot w w' [g]) (n0 : b0 ≠ g) (n1 : b1 ≠ g) (n2 : b2 ≠ g) : X8 w' hi b0 o0 b1 o1 b2 o2 D :=
  have e0 := hf.block b0 h.h0 (by rw [List.mem_singleton]; exact n0)
  have e1 := hf.block b1 h.h1 (by rw [List.mem_singleton]; exact n1)
  have e2 := hf.block b2 h.h2 (by rw [List.mem_singleton]; exact n2)
  ⟨fun k hk => (cell_of_block e0 _).trans (h.c0 k hk), fun k hk => (cell_of_block e1 _).trans (h.c1 k hk), fun k hk => (cell_of_block e2 _).trans (h.c2 k hk), Nat.lt_of_lt_of_le h.h0 hf.size, Nat.lt_of_lt_of_le h.h1 hf.size, Nat.lt_of_lt_of_le h.h2 hf.size⟩
theorem le24 {n : Nat} {H B : List Bool} {L : List Int} (h : n ≤ 24) : n ≤ (stA H B L).size := h
theorem st_built (H B : List Bool) (L : List Int) : Try.prog.built 63 [(0, .agg (bA H)), (1, .agg (bA B)), (2, .agg (iA L))] = some (stA H B L) := by kernel_rfl
theorem st_size : (Try.prog.info? 63).map (·.size) = some 24 := by kernel_rfl
theorem set_size : (Try.prog.info? 59).map (·.size) = some 8 := by kernel_rfl
theorem act_size : (Try.prog.info? 61).map (·.size) = some 8 := by kernel_rfl
theorem st_zero : #[.bool false, .bool false, .bool false, .bool false, .bool false, .bool false, .bool false, .bool false, .bool false, .bool false, .bool false, .bool false, .bool false, .bool false, .bool false, .bool false, .int .i64 0, .int .i64 0, .int .i64 0, .int .i64 0, .int .i64 0, .int .i64 0, .int .i64 0, .int .i64 0] = stA noB noB noI := by kernel_rfl
def stR (D : Sg) : Array Value := if sigB D = true then stA D.1 D.2.1 D.2.2 else stA noB noB noI
def GSt (f : Nat) : Prop := ∀ ⦃w : World⦄ ⦃hi : Nat⦄ ⦃x0 x1 x2 : Value⦄ ⦃D : Sg⦄, tySigs.R w hi [x0, x1, x2] D →
  Calls Try.prog f #[.agg #[x0, x1, x2]] w fun e w' => e = .returned (.tuple #[.agg (stR D), .bool (sigB D)]) ∧ Below w.heap.size w w'
theorem stR_no {D : Sg} (h : sigB D = false) : stR D = stA noB noB noI := by unfold stR; rw [h]; rfl
theorem stR_yes {D : Sg} (h : sigB D = true) : stR D = stA D.1 D.2.1 D.2.2 := by unfold stR; rw [if_pos h]
theorem fin_state {f : Func} {p u : Tmp} {W : World} {g : Nat} {H B : List Bool} {L : List Int} {b : Bool} (tmps : Array Value) (h : f.results = #[.cell p 63, .tmp u]) (hp : tmps.getD p undef = .pointer (some ⟨g, 0, none⟩)) (hu : tmps.getD u undef = .bool b) (hb : Box W g (stA H B L) 63) :
    (results f tmps).run Try.prog W = .ok (.tuple #[.agg (stA H B L), .bool b]) W := by
  rw [results_cell_tmp h, hp, hu]
  simp only [asAddr, Sem.run_pure, Result.andThen_ok, run_load_box (P := Try.prog) W 63 g 0 24 _ _ 63 _ hb Try.underlying63 rfl st_size (Nat.le_refl 24) (stA_all H B L)]
set_option maxHeartbeats 600000 in
theorem stateI : GSt 57 := by
  intro w hi x0 x1 x2 D h
  have HA := Lib.hid h
  obtain ⟨A0, n0, c0, A1, n1, c1, A2, n2, c2, hcs, ⟨e0, m0, _⟩, ⟨e1, m1, _⟩, ⟨e2, m2, _⟩⟩ := tySigs_R h
  simp only [List.cons.injEq, and_true] at hcs
  obtain ⟨rfl, rfl, rfl⟩ := hcs
  unfold maxLen at m0 m1 m2
  clear h
  have hS : sigB D = (decide (n0 = 8) && (decide (n1 = 8) && (decide (n2 = 8) && sgTo D.2.1 D.2.2 8))) := by unfold sigB; rw [e0, e1, e2]
  have HS := Lib.hid hS
  have HE0 := Lib.hid e0
  have HE1 := Lib.hid e1
  have HE2 := Lib.hid e2
  have HW := Lib.hid (show Below w.heap.size w ((w.alloc (.cells #[.slice A0 n0 c0, .slice A1 n1 c1, .slice A2 n2 c2] 26)).alloc (.cells #[.bool false, .bool false, .bool false, .bool false, .bool false, .bool false, .bool false, .bool false, .bool false, .bool false, .bool false, .bool false, .bool false, .bool false, .bool false, .bool false, .int .i64 0, .int .i64 0, .int .i64 0, .int .i64 0, .int .i64 0, .int .i64 0, .int .i64 0, .int .i64 0] 63)) from ((Below.refl _ _).alloc (Nat.le_refl _) _).alloc (by simp only [World.size_alloc]; omega) _)
  have HZ := Lib.hid (Box.new (w.alloc (.cells #[.slice A0 n0 c0, .slice A1 n1 c1, .slice A2 n2 c2] 26)) #[.bool false, .bool false, .bool false, .bool false, .bool false, .bool false, .bool false, .bool false, .bool false, .bool false, .bool false, .bool false, .bool false, .bool false, .bool false, .bool false, .int .i64 0, .int .i64 0, .int .i64 0, .int .i64 0, .int .i64 0, .int .i64 0, .int .i64 0, .int .i64 0] 63)
  simp only [World.size_alloc, st_zero] at HZ HW
  clear hS e0 e1 e2
  by_cases h0 : n0 = 8
  case neg =>
    have q0 : ¬ ((n0 : Int) = 8) := by omega
    have b0 : ((n0 : Int) != 8) = true := by simpa using q0
    have HR := Lib.hid (show sigB D = false by rw [HS.out, decide_eq_false h0]; rfl)
    have HV := Lib.hid (stR_no HR.out)
    rw [HR.out, HV.out]
    clear h0
    go_enter Try.func57, Try.ntmps57
    go_wp2_with (refine wpList_store_box rfl 63 _ _ rfl (w.heap.size + 1) 0 (stA noB noB noI) rfl rfl 63 (stA noB noB noI) HZ.out st_size (Nat.le_refl 24) (stA_one _ _ _) (stA noB noB noI) (stA_put _ _ _ _ _ _) ?_; intro w9 hb9 hf9)
    exact bodyPost_ret (fin_state _ rfl rfl rfl hb9) rfl ⟨rfl, HW.out.trans (hf9.below (by simp only [World.size_alloc]; omega) (by simp))⟩
  subst h0
  by_cases h1 : n1 = 8
  case neg =>
    have q0 : ¬ ((n1 : Int) = 8) := by omega
    have b0 : ((n1 : Int) != 8) = true := by simpa using q0
    have HR := Lib.hid (show sigB D = false by rw [HS.out, decide_eq_false h1]; rfl)
    have HV := Lib.hid (stR_no HR.out)
    rw [HR.out, HV.out]
    clear h1
    go_enter Try.func57, Try.ntmps57
    go_wp2_with (refine wpList_store_box rfl 63 _ _ rfl (w.heap.size + 1) 0 (stA noB noB noI) rfl rfl 63 (stA noB noB noI) HZ.out st_size (Nat.le_refl 24) (stA_one _ _ _) (stA noB noB noI) (stA_put _ _ _ _ _ _) ?_; intro w9 hb9 hf9)
    exact bodyPost_ret (fin_state _ rfl rfl rfl hb9) rfl ⟨rfl, HW.out.trans (hf9.below (by simp only [World.size_alloc]; omega) (by simp))⟩
  subst h1
  by_cases h2 : n2 = 8
  case neg =>
    have q0 : ¬ ((n2 : Int) = 8) := by omega
    have b0 : ((n2 : Int) != 8) = true := by simpa using q0
    have HR := Lib.hid (show sigB D = false by rw [HS.out, decide_eq_false h2]; rfl)
    have HV := Lib.hid (stR_no HR.out)
    rw [HR.out, HV.out]
    clear h2
    go_enter Try.func57, Try.ntmps57
    go_wp2_with (refine wpList_store_box rfl 63 _ _ rfl (w.heap.size + 1) 0 (stA noB noB noI) rfl rfl 63 (stA noB noB noI) HZ.out st_size (Nat.le_refl 24) (stA_one _ _ _) (stA noB noB noI) (stA_put _ _ _ _ _ _) ?_; intro w9 hb9 hf9)
    exact bodyPost_ret (fin_state _ rfl rfl rfl hb9) rfl ⟨rfl, HW.out.trans (hf9.below (by simp only [World.size_alloc]; omega) (by simp))⟩
  subst h2
  obtain ⟨b0, o0, _, b1, o1, _, b2, o2, _, hx0, hx1, hx2, hx⟩ := read8 HA.out HE0.out HE1.out HE2.out
  simp only [Value.slice.injEq, true_and] at hx0 hx1 hx2
  obtain ⟨rfl, rfl⟩ := hx0
  obtain ⟨rfl, rfl⟩ := hx1
  obtain ⟨rfl, rfl⟩ := hx2
  have HQ := Lib.hid (show sigB D = (decide (D.2.1 = wo D.2.1 fixS) && mayTo D.2.2 8) from sig_wo HE0.out HE1.out HE2.out)
  have HP := Lib.hid ((Box.new w #[.slice (some ⟨b0, o0, none⟩) 8 c0, .slice (some ⟨b1, o1, none⟩) 8 c1, .slice (some ⟨b2, o2, none⟩) 8 c2] 26).alloc (.cells (stA noB noB noI) 63))
  have HX := Lib.hid (hx.below (HW.out.mono (Nat.le_refl _)))
  have hsz : w.heap.size + 2 ≤ ((w.alloc (.cells #[.slice (some ⟨b0, o0, none⟩) 8 c0, .slice (some ⟨b1, o1, none⟩) 8 c1, .slice (some ⟨b2, o2, none⟩) 8 c2] 26)).alloc (.cells (stA noB noB noI) 63)).heap.size := by simp only [World.size_alloc]; omega
  obtain ⟨H, B, L⟩ := D
  dsimp only at HQ HE0 HE1 HE2
  clear hx m0 m1 m2 HA HS
  go_enter Try.func57, Try.ntmps57
  go_wp2_with fail
  simp only [st_zero]
  generalize ((w.alloc (.cells #[.slice (some ⟨b0, o0, none⟩) 8 c0, .slice (some ⟨b1, o1, none⟩) 8 c1, .slice (some ⟨b2, o2, none⟩) 8 c2] 26)).alloc (.cells (stA noB noB noI) 63)) = W0 at HW HZ HP HX hsz ⊢
  obtain ⟨v0, hv0⟩ : ∃ v0, v0 = w.heap.size := ⟨_, rfl⟩
  rw [← hv0] at HP HZ HW hsz ⊢
  have HV0 := Lib.hid hv0
  clear hv0
  refine wp_region_held_drew (S := fun w' => X8 w' hi b0 o0 b1 o1 b2 o2 (H, B, L) ∧ Box w' v0 #[.slice (some ⟨b0, o0, none⟩) 8 c0, .slice (some ⟨b1, o1, none⟩) 8 c1, .slice (some ⟨b2, o2, none⟩) 8 c2] 26) (by kernel_rfl) ⟨HX.out.below ((Below.refl W0.heap.size W0).drew), HP.out⟩ (fun hHeld => ?_)
  replace HX := Lib.hid (HX.out.below ((Below.refl W0.heap.size W0).drew))
  have HP1 := Lib.hid (show Box W0.drew v0 _ 26 from HP.out)
  have HZ1 := Lib.hid (show Box W0.drew (v0 + 1) _ 63 from HZ.out)
  have HB1 := Lib.hid HW.out.drew
  have HX1 := HX
  have hsz1 : v0 + 2 ≤ W0.drew.heap.size := hsz
  clear HP HZ HW HX hsz
  generalize W0.drew = W1 at hHeld HP1 HZ1 HB1 HX1 hsz1 ⊢
  refine wpAnyH_take (i := 0) (v := ?vs0) rfl (by kernel_rfl) (by kernel_rfl) (by kernel_rfl) (fun _ _ _ h => h) (Or.inl ⟨by rfl, ?hys0⟩) (by assumption) ?rests0
  case hys0 =>
    intro w hSw
    try dsimp only at hSw
    go_simp
    try with_reducible rfl
  simp only [Act.put, List.setIfInBounds_toArray, List.set_cons_zero, List.set_cons_succ, List.getElem_toArray, List.getElem_cons_zero]
  refine wpAnyH_take (i := 1) (v := ?vs1) rfl (by kernel_rfl) (by kernel_rfl) (by kernel_rfl) (fun _ _ _ h => h) (Or.inl ⟨by rfl, ?hys1⟩) (by assumption) ?rests1
  case hys1 =>
    intro w hSw
    try dsimp only at hSw
    have p0 := hSw.2.cell 0
    simp at p0
    go_simp
    try with_reducible rfl
  simp only [Act.put, List.setIfInBounds_toArray, List.set_cons_zero, List.set_cons_succ, List.getElem_toArray, List.getElem_cons_zero, List.getElem_cons_succ]
  refine wpAnyH_take (i := 2) (v := (.pointer (some ⟨b0, o0, none⟩))) rfl (by kernel_rfl) (by kernel_rfl) (by kernel_rfl) (fun _ _ _ h => h) (Or.inl ⟨by rfl, ?hys2⟩) (by assumption) ?rests2
  case hys2 =>
    intro w hSw
    refine ex_arr (x := .tmp 23) (a := some ⟨b0, o0, none⟩) (len := 8) (cap := c0) ?ho ?hx Try.underlying59 (Nat.le_refl 8)
    case ho => rfl
    case hx => rfl
  simp only [Act.put, List.setIfInBounds_toArray, List.set_cons_zero, List.set_cons_succ, List.getElem_toArray, List.getElem_cons_zero, List.getElem_cons_succ]
  refine wpAnyH_take (i := 3) (v := (.agg (bA H))) rfl (by kernel_rfl) (by kernel_rfl) (by kernel_rfl) (fun _ _ _ h => h) (Or.inl ⟨by rfl, ?hys3⟩) (by assumption) ?rests3
  case hys3 =>
    intro w hSw
    refine ex_load (ty := 59) (x := .tmp 24) (g := b0) (off := o0) ?ho ?hx (run_load_cells _ 59 _ _ 8 _ _ (bA_cells hSw.1.c0) Try.underlying59 rfl set_size rfl)
    case ho => rfl
    case hx => rfl
  simp only [Act.put, List.setIfInBounds_toArray, List.set_cons_zero, List.set_cons_succ, List.getElem_toArray, List.getElem_cons_zero, List.getElem_cons_succ]
  refine wpAnyH_take (i := 4) (v := ?vs4) rfl (by kernel_rfl) (by kernel_rfl) (by kernel_rfl) (fun _ _ _ h => h) (Or.inl ⟨by rfl, ?hys4⟩) (by assumption) ?rests4
  case hys4 =>
    intro w hSw
    try dsimp only at hSw
    go_simp
    try with_reducible rfl
  simp only [Act.put, List.setIfInBounds_toArray, List.set_cons_zero, List.set_cons_succ, List.getElem_toArray, List.getElem_cons_zero, List.getElem_cons_succ]
  refine wpAnyH_take (i := 5) (v := ?vs5) rfl (by kernel_rfl) (by kernel_rfl) (by kernel_rfl) (fun _ _ _ h => h) (Or.inl ⟨by rfl, ?hys5⟩) (by assumption) ?rests5
  case hys5 =>
    intro w hSw
    try dsimp only at hSw
    have p0 := hSw.2.cell 1
    simp at p0
    go_simp
    try with_reducible rfl
  simp only [Act.put, List.setIfInBounds_toArray, List.set_cons_zero, List.set_cons_succ, List.getElem_toArray, List.getElem_cons_zero, List.getElem_cons_succ]
  refine wpAnyH_take (i := 6) (v := (.pointer (some ⟨b1, o1, none⟩))) rfl (by kernel_rfl) (by kernel_rfl) (by kernel_rfl) (fun _ _ _ h => h) (Or.inl ⟨by rfl, ?hys6⟩) (by assumption) ?rests6
  case hys6 =>
    intro w hSw
    refine ex_arr (x := .tmp 27) (a := some ⟨b1, o1, none⟩) (len := 8) (cap := c1) ?ho ?hx Try.underlying59 (Nat.le_refl 8)
    case ho => rfl
    case hx => rfl
  simp only [Act.put, List.setIfInBounds_toArray, List.set_cons_zero, List.set_cons_succ, List.getElem_toArray, List.getElem_cons_zero, List.getElem_cons_succ]
  refine wpAnyH_take (i := 7) (v := (.agg (bA B))) rfl (by kernel_rfl) (by kernel_rfl) (by kernel_rfl) (fun _ _ _ h => h) (Or.inl ⟨by rfl, ?hys7⟩) (by assumption) ?rests7
  case hys7 =>
    intro w hSw
    refine ex_load (ty := 59) (x := .tmp 28) (g := b1) (off := o1) ?ho ?hx (run_load_cells _ 59 _ _ 8 _ _ (bA_cells hSw.1.c1) Try.underlying59 rfl set_size rfl)
    case ho => rfl
    case hx => rfl
  simp only [Act.put, List.setIfInBounds_toArray, List.set_cons_zero, List.set_cons_succ, List.getElem_toArray, List.getElem_cons_zero, List.getElem_cons_succ]
  refine wpAnyH_take (i := 8) (v := ?vs8) rfl (by kernel_rfl) (by kernel_rfl) (by kernel_rfl) (fun _ _ _ h => h) (Or.inl ⟨by rfl, ?hys8⟩) (by assumption) ?rests8
  case hys8 =>
    intro w hSw
    try dsimp only at hSw
    go_simp
    try with_reducible rfl
  simp only [Act.put, List.setIfInBounds_toArray, List.set_cons_zero, List.set_cons_succ, List.getElem_toArray, List.getElem_cons_zero, List.getElem_cons_succ]
  refine wpAnyH_take (i := 9) (v := ?vs9) rfl (by kernel_rfl) (by kernel_rfl) (by kernel_rfl) (fun _ _ _ h => h) (Or.inl ⟨by rfl, ?hys9⟩) (by assumption) ?rests9
  case hys9 =>
    intro w hSw
    try dsimp only at hSw
    have p0 := hSw.2.cell 2
    simp at p0
    go_simp
    try with_reducible rfl
  simp only [Act.put, List.setIfInBounds_toArray, List.set_cons_zero, List.set_cons_succ, List.getElem_toArray, List.getElem_cons_zero, List.getElem_cons_succ]
  refine wpAnyH_take (i := 10) (v := (.pointer (some ⟨b2, o2, none⟩))) rfl (by kernel_rfl) (by kernel_rfl) (by kernel_rfl) (fun _ _ _ h => h) (Or.inl ⟨by rfl, ?hys10⟩) (by assumption) ?rests10
  case hys10 =>
    intro w hSw
    refine ex_arr (x := .tmp 31) (a := some ⟨b2, o2, none⟩) (len := 8) (cap := c2) ?ho ?hx Try.underlying61 (Nat.le_refl 8)
    case ho => rfl
    case hx => rfl
  simp only [Act.put, List.setIfInBounds_toArray, List.set_cons_zero, List.set_cons_succ, List.getElem_toArray, List.getElem_cons_zero, List.getElem_cons_succ]
  refine wpAnyH_take (i := 11) (v := (.agg (iA L))) rfl (by kernel_rfl) (by kernel_rfl) (by kernel_rfl) (fun _ _ _ h => h) (Or.inl ⟨by rfl, ?hys11⟩) (by assumption) ?rests11
  case hys11 =>
    intro w hSw
    refine ex_load (ty := 61) (x := .tmp 32) (g := b2) (off := o2) ?ho ?hx (run_load_cells _ 61 _ _ 8 _ _ (iA_cells hSw.1.c2) Try.underlying61 rfl act_size rfl)
    case ho => rfl
    case hx => rfl
  simp only [Act.put, List.setIfInBounds_toArray, List.set_cons_zero, List.set_cons_succ, List.getElem_toArray, List.getElem_cons_zero, List.getElem_cons_succ]
  refine wpAnyH_take (i := 12) (v := (.agg (stA H B L))) rfl (by kernel_rfl) (by kernel_rfl) (by kernel_rfl) (fun _ _ _ h => h) (Or.inl ⟨by rfl, ?hys12⟩) (by assumption) ?rests12
  case hys12 =>
    intro w hSw
    refine ex_build (t := 63) (parts := [(0, .tmp 25), (1, .tmp 29), (2, .tmp 33)]) ?ho ?hx (st_built H B L)
    case ho => rfl
    case hx => rfl
  simp only [Act.put, List.setIfInBounds_toArray, List.set_cons_zero, List.set_cons_succ, List.getElem_toArray, List.getElem_cons_zero, List.getElem_cons_succ]
  refine wpAnyH_ready (rs := [13]) (by kernel_rfl) (by simp) ?_
  refine AllReadyH.cons rfl (fun K hK => ?_) AllReadyH.nil
  go_simp
  have HN2 := Lib.hid (Box.new W1 #[.bool false, .bool false, .bool false, .bool false, .bool false, .bool false, .bool false, .bool false, .bool false, .bool false, .bool false, .bool false, .bool false, .bool false, .bool false, .bool false, .int .i64 0, .int .i64 0, .int .i64 0, .int .i64 0, .int .i64 0, .int .i64 0, .int .i64 0, .int .i64 0] 63)
  have HP2 := Lib.hid (HP1.out.alloc (.cells #[.bool false, .bool false, .bool false, .bool false, .bool false, .bool false, .bool false, .bool false, .bool false, .bool false, .bool false, .bool false, .bool false, .bool false, .bool false, .bool false, .int .i64 0, .int .i64 0, .int .i64 0, .int .i64 0, .int .i64 0, .int .i64 0, .int .i64 0, .int .i64 0] 63))
  have HZ2 := Lib.hid (HZ1.out.alloc (.cells #[.bool false, .bool false, .bool false, .bool false, .bool false, .bool false, .bool false, .bool false, .bool false, .bool false, .bool false, .bool false, .bool false, .bool false, .bool false, .bool false, .int .i64 0, .int .i64 0, .int .i64 0, .int .i64 0, .int .i64 0, .int .i64 0, .int .i64 0, .int .i64 0] 63))
  have HB2 := Lib.hid (HB1.out.alloc (by omega) (.cells #[.bool false, .bool false, .bool false, .bool false, .bool false, .bool false, .bool false, .bool false, .bool false, .bool false, .bool false, .bool false, .bool false, .bool false, .bool false, .bool false, .int .i64 0, .int .i64 0, .int .i64 0, .int .i64 0, .int .i64 0, .int .i64 0, .int .i64 0, .int .i64 0] 63))
  have HX2 := Lib.hid (HX1.out.below ((Below.refl W1.heap.size W1).alloc (Nat.le_refl _) (.cells #[.bool false, .bool false, .bool false, .bool false, .bool false, .bool false, .bool false, .bool false, .bool false, .bool false, .bool false, .bool false, .bool false, .bool false, .bool false, .bool false, .int .i64 0, .int .i64 0, .int .i64 0, .int .i64 0, .int .i64 0, .int .i64 0, .int .i64 0, .int .i64 0] 63)))
  have hs2 : W1.heap.size < (W1.alloc (.cells #[.bool false, .bool false, .bool false, .bool false, .bool false, .bool false, .bool false, .bool false, .bool false, .bool false, .bool false, .bool false, .bool false, .bool false, .bool false, .bool false, .int .i64 0, .int .i64 0, .int .i64 0, .int .i64 0, .int .i64 0, .int .i64 0, .int .i64 0, .int .i64 0] 63)).heap.size := by rw [World.size_alloc]; omega
  simp only [st_zero] at HN2 HP2 HZ2 HB2 HX2 hs2 ⊢
  generalize hg1 : W1.heap.size = g1 at HN2 hs2 hsz1 ⊢
  generalize (W1.alloc (.cells (stA noB noB noI) 63)) = W2 at HN2 HP2 HZ2 HB2 HX2 hs2 ⊢
  refine hK.out _ _ ?_ (fun hHeld => ?_)
  · exact ⟨HX2.out, HP2.out⟩
  clear hK K
  try simp only [Act.put, List.setIfInBounds_toArray, List.set_cons_zero, List.set_cons_succ, List.getElem_toArray, List.getElem_cons_zero, List.getElem_cons_succ]
  refine wpAnyH_ready (rs := [14]) (by kernel_rfl) (by simp) ?_
  refine AllReadyH.cons rfl (fun K hK => ?_) AllReadyH.nil
  rw [if_pos (by rfl)]
  refine wp_store_box 63 (.tmp 4) (.tmp 34) rfl g1 0 (stA H B L) rfl rfl 63 (stA noB noB noI) HN2.out st_size (Nat.le_refl 24) (stA_one _ _ _) (stA H B L) (stA_put _ _ _ _ _ _) (fun W3 hb3 hf3 => ?_)
  have hq0 := HX1.out.h0
  have hq1 := HX1.out.h1
  have hq2 := HX1.out.h2
  have HX3 := Lib.hid (HX2.out.foot hf3 (by omega) (by omega) (by omega))
  have HN3 := Lib.hid hb3
  have HP3 := Lib.hid (hf3.box HP2.out (by rw [List.mem_singleton]; omega))
  have HZ3 := Lib.hid (hf3.box HZ2.out (by rw [List.mem_singleton]; omega))
  have HB3 := Lib.hid (HB2.out.trans (hf3.below (by omega) (by intro b hb; rw [List.mem_singleton] at hb; omega)))
  have hs3 : g1 < W3.heap.size := HN3.out.lt
  clear hb3 hf3 HN2 HP2 HZ2 HB2 HX2 hs2 hq0 hq1 hq2
  refine hK.out _ _ ?_ (fun hHeld => ?_)
  · exact ⟨HX3.out, HP3.out⟩
  clear hK K
  refine wpAnyH_done (by kernel_rfl) ?_ _
  go_wp2_with fail
  replace HX1 := Lib.hid trivial
  clear hHeld HX3 HP1 HP3
  by_cases hd : B = wo B fixS
  · have HD := Lib.hid (decide_eq_true hd)
    clear hd
    cases hm : mayTo L 8
    · have HM := Lib.hid hm
      have HR := Lib.hid (show sigB (H, B, L) = false by rw [HQ.out, HD.out, HM.out]; rfl)
      have HV := Lib.hid (stR_no HR.out)
      clear hm
      refine wp_region_held_drew (S := fun w' => Box w' g1 (stA H B L) 63) (by kernel_rfl) HN3.out (fun hHeld => ?_)
      replace HN3 := Lib.hid (show Box W3.drew g1 (stA H B L) 63 from HN3.out)
      replace HZ3 := Lib.hid (show Box W3.drew (v0 + 1) (stA noB noB noI) 63 from HZ3.out)
      replace HB3 := Lib.hid HB3.out.drew
      replace hs3 : g1 < W3.drew.heap.size := hs3
      generalize W3.drew = W3 at hHeld HN3 HZ3 HB3 hs3 ⊢
      refine wpAnyH_take (i := 0) (v := ?va0) rfl (by kernel_rfl) (by kernel_rfl) (by kernel_rfl) (fun _ _ _ h => h) (Or.inl ⟨by rfl, ?hya0⟩) (by assumption) ?resta0
      case hya0 =>
        intro w hSw
        try dsimp only at hSw
        go_simp
        try with_reducible rfl
      simp only [Act.put, List.setIfInBounds_toArray, List.getElem_toArray, List.getElem_cons_zero]
      refine wpAnyH_take (i := 1) (v := (.agg (bA B))) rfl (by kernel_rfl) (by kernel_rfl) (by kernel_rfl) (fun _ _ _ h => h) (Or.inl ⟨by rfl, ?hya1⟩) (by assumption) ?resta1
      case hya1 =>
        intro w hSw
        refine ex_load (ty := 59) (x := .tmp 35) (g := g1) (off := 8) ?ho ?hx (run_load_box _ 59 g1 8 8 _ _ _ _ hSw Try.underlying59 rfl set_size (le24 (by decide)) (stA_block H B L))
        case ho => rfl
        case hx => rfl
      simp only [Act.put, List.setIfInBounds_toArray, List.set_cons_zero, List.set_cons_succ, List.getElem_toArray, List.getElem_cons_zero, List.getElem_cons_succ]
      refine wpAnyH_take (i := 2) (v := ?va2) rfl (by kernel_rfl) (by kernel_rfl) (by kernel_rfl) (fun _ _ _ h => h) (Or.inl ⟨by rfl, ?hya2⟩) (by assumption) ?resta2
      case hya2 =>
        intro w hSw
        try dsimp only at hSw
        go_simp
        try with_reducible rfl
      simp only [Act.put, List.setIfInBounds_toArray, List.set_cons_zero, List.set_cons_succ, List.getElem_toArray, List.getElem_cons_zero, List.getElem_cons_succ]
      refine wpAnyH_take (i := 3) (v := (.agg (bA B))) rfl (by kernel_rfl) (by kernel_rfl) (by kernel_rfl) (fun _ _ _ h => h) (Or.inl ⟨by rfl, ?hya3⟩) (by assumption) ?resta3
      case hya3 =>
        intro w hSw
        refine ex_load (ty := 59) (x := .tmp 37) (g := g1) (off := 8) ?ho ?hx (run_load_box _ 59 g1 8 8 _ _ _ _ hSw Try.underlying59 rfl set_size (le24 (by decide)) (stA_block H B L))
        case ho => rfl
        case hx => rfl
      simp only [Act.put, List.setIfInBounds_toArray, List.set_cons_zero, List.set_cons_succ, List.getElem_toArray, List.getElem_cons_zero, List.getElem_cons_succ]
      refine wpAnyH_ready (rs := [4]) (by kernel_rfl) (by simp) ?_
      refine AllReadyH.cons rfl (fun K hK => ?_) AllReadyH.nil
      go_simp
      refine fixedI.mono ?_
      rintro e W4 ⟨rfl, hb⟩
      have HN4 := Lib.hid (HN3.out.below hb HN3.out.lt)
      have HZ4 := Lib.hid (HZ3.out.below hb HZ3.out.lt)
      have HB4 := Lib.hid (HB3.out.trans (hb.mono (Nat.le_trans (by omega) (Nat.le_of_lt HN3.out.lt))))
      clear hb
      dsimp only
      refine hK.out _ _ ?_ (fun hHeld => ?_)
      · exact HN4.out
      clear hK K
      try simp only [Act.put, List.setIfInBounds_toArray, List.set_cons_zero, List.set_cons_succ, List.getElem_toArray, List.getElem_cons_zero, List.getElem_cons_succ]
      refine wpAnyH_ready (rs := [5]) (by kernel_rfl) (by simp) ?_
      refine AllReadyH.cons rfl (fun K hK => ?_) AllReadyH.nil
      go_simp
      refine (withoutI B fixS HE1.out).mono ?_
      rintro e W5 ⟨rfl, hb⟩
      have HN5 := Lib.hid (HN4.out.below hb HN4.out.lt)
      have HZ5 := Lib.hid (HZ4.out.below hb HZ4.out.lt)
      have HB5 := Lib.hid (HB4.out.trans (hb.mono (Nat.le_trans (by omega) (Nat.le_of_lt HN4.out.lt))))
      clear hb
      dsimp only
      refine hK.out _ _ ?_ (fun hHeld => ?_)
      · exact HN5.out
      clear hK K
      try simp only [Act.put, List.setIfInBounds_toArray, List.set_cons_zero, List.set_cons_succ, List.getElem_toArray, List.getElem_cons_zero, List.getElem_cons_succ]
      refine wpAnyH_take (i := 6) (v := ?va6) rfl (by kernel_rfl) (by kernel_rfl) (by kernel_rfl) (fun _ _ _ h => h) (Or.inl ⟨by rfl, ?hya6⟩) (by assumption) ?resta6
      case hya6 =>
        intro w hSw
        try dsimp only at hSw
        have hq := neqA B (wo B fixS) HE1.out (wo_len.trans HE1.out)
        have hgd : ∀ (w : World) (x y : Operand), (eqGuard .neq 59 x y (.agg (bA B)) (.agg (bA (wo B fixS)))).run Try.prog w = .ok () w := fun w x y => run_eqGuard_agg w _ _ _ _ _ _ set_guard
        rw [HD.out] at hq
        go_simp
        try with_reducible rfl
      simp only [Act.put, List.setIfInBounds_toArray, List.set_cons_zero, List.set_cons_succ, List.getElem_toArray, List.getElem_cons_zero, List.getElem_cons_succ]
      refine wpAnyH_take (i := 7) (v := ?va7) rfl (by kernel_rfl) (by kernel_rfl) (by kernel_rfl) (fun _ _ _ h => h) (Or.inl ⟨by rfl, ?hya7⟩) (by assumption) ?resta7
      case hya7 =>
        intro w hSw
        try dsimp only at hSw
        go_simp
        try with_reducible rfl
      simp only [Act.put, List.setIfInBounds_toArray, List.set_cons_zero, List.set_cons_succ, List.getElem_toArray, List.getElem_cons_zero, List.getElem_cons_succ]
      refine wpAnyH_take (i := 8) (v := ?va8) rfl (by kernel_rfl) (by kernel_rfl) (by kernel_rfl) (fun _ _ _ h => h) (Or.inl ⟨by rfl, ?hya8⟩) (by assumption) ?resta8
      case hya8 =>
        intro w hSw
        try dsimp only at hSw
        go_simp
        try with_reducible rfl
      simp only [Act.put, List.setIfInBounds_toArray, List.set_cons_zero, List.set_cons_succ, List.getElem_toArray, List.getElem_cons_zero, List.getElem_cons_succ]
      refine wpAnyH_take (i := 9) (v := (.agg (iA L))) rfl (by kernel_rfl) (by kernel_rfl) (by kernel_rfl) (fun _ _ _ h => h) (Or.inl ⟨by rfl, ?hya9⟩) (by assumption) ?resta9
      case hya9 =>
        intro w hSw
        refine ex_load (ty := 61) (x := .tmp 43) (g := g1) (off := 16) ?ho ?hx (run_load_box _ 61 g1 16 8 _ _ _ _ hSw Try.underlying61 rfl act_size (le24 (by decide)) (stA_acts H B L))
        case ho => rfl
        case hx => rfl
      simp only [Act.put, List.setIfInBounds_toArray, List.set_cons_zero, List.set_cons_succ, List.getElem_toArray, List.getElem_cons_zero, List.getElem_cons_succ]
      refine wpAnyH_ready (rs := [10]) (by kernel_rfl) (by simp) ?_
      refine AllReadyH.cons rfl (fun K hK => ?_) AllReadyH.nil
      go_simp
      refine (actsOkI L).mono ?_
      rintro e W6 ⟨rfl, hb⟩
      rw [HM.out]
      have HN6 := Lib.hid (HN5.out.below hb HN5.out.lt)
      have HZ6 := Lib.hid (HZ5.out.below hb HZ5.out.lt)
      have HB6 := Lib.hid (HB5.out.trans (hb.mono (Nat.le_trans (by omega) (Nat.le_of_lt HN5.out.lt))))
      clear hb
      dsimp only
      refine hK.out _ _ ?_ (fun hHeld => ?_)
      · exact HN6.out
      clear hK K
      try simp only [Act.put, List.setIfInBounds_toArray, List.set_cons_zero, List.set_cons_succ, List.getElem_toArray, List.getElem_cons_zero, List.getElem_cons_succ]
      refine wpAnyH_take (i := 11) (v := ?va11) rfl (by kernel_rfl) (by kernel_rfl) (by kernel_rfl) (fun _ _ _ h => h) (Or.inl ⟨by rfl, ?hya11⟩) (by assumption) ?resta11
      case hya11 =>
        intro w hSw
        try dsimp only at hSw
        go_simp
        try with_reducible rfl
      simp only [Act.put, List.setIfInBounds_toArray, List.set_cons_zero, List.set_cons_succ, List.getElem_toArray, List.getElem_cons_zero, List.getElem_cons_succ]
      refine wpAnyH_take (i := 12) (v := ?va12) rfl (by kernel_rfl) (by kernel_rfl) (by kernel_rfl) (fun _ _ _ h => h) (Or.inl ⟨by rfl, ?hya12⟩) (by assumption) ?resta12
      case hya12 =>
        intro w hSw
        try dsimp only at hSw
        go_simp
        try with_reducible rfl
      simp only [Act.put, List.setIfInBounds_toArray, List.set_cons_zero, List.set_cons_succ, List.getElem_toArray, List.getElem_cons_zero, List.getElem_cons_succ]
      refine wpAnyH_done (by kernel_rfl) ?_ _
      go_wp2_with (refine wpList_store_box rfl 63 _ _ rfl (v0 + 1) 0 (stA noB noB noI) rfl rfl 63 (stA noB noB noI) HZ6.out st_size (Nat.le_refl 24) (stA_one _ _ _) (stA noB noB noI) (stA_put _ _ _ _ _ _) ?_; intro w9 hb9 hf9)
      exact bodyPost_ret (fin_state _ rfl rfl rfl hb9) rfl ⟨by rw [HV.out, HR.out], by rw [← HV0.out]; exact HB6.out.trans (hf9.below (Nat.le_trans (by omega) (Nat.le_of_lt HN6.out.lt)) (by intro b hb; rw [List.mem_singleton] at hb; omega))⟩
    · have HM := Lib.hid hm
      have HR := Lib.hid (show sigB (H, B, L) = true by rw [HQ.out, HD.out, HM.out]; rfl)
      have HV := Lib.hid (stR_yes HR.out)
      clear hm
      refine wp_region_held_drew (S := fun w' => Box w' g1 (stA H B L) 63) (by kernel_rfl) HN3.out (fun hHeld => ?_)
      replace HN3 := Lib.hid (show Box W3.drew g1 (stA H B L) 63 from HN3.out)
      replace HZ3 := Lib.hid (show Box W3.drew (v0 + 1) (stA noB noB noI) 63 from HZ3.out)
      replace HB3 := Lib.hid HB3.out.drew
      replace hs3 : g1 < W3.drew.heap.size := hs3
      generalize W3.drew = W3 at hHeld HN3 HZ3 HB3 hs3 ⊢
      refine wpAnyH_take (i := 0) (v := ?vb0) rfl (by kernel_rfl) (by kernel_rfl) (by kernel_rfl) (fun _ _ _ h => h) (Or.inl ⟨by rfl, ?hyb0⟩) (by assumption) ?restb0
      case hyb0 =>
        intro w hSw
        try dsimp only at hSw
        go_simp
        try with_reducible rfl
      simp only [Act.put, List.setIfInBounds_toArray, List.getElem_toArray, List.getElem_cons_zero]
      refine wpAnyH_take (i := 1) (v := (.agg (bA B))) rfl (by kernel_rfl) (by kernel_rfl) (by kernel_rfl) (fun _ _ _ h => h) (Or.inl ⟨by rfl, ?hyb1⟩) (by assumption) ?restb1
      case hyb1 =>
        intro w hSw
        refine ex_load (ty := 59) (x := .tmp 35) (g := g1) (off := 8) ?ho ?hx (run_load_box _ 59 g1 8 8 _ _ _ _ hSw Try.underlying59 rfl set_size (le24 (by decide)) (stA_block H B L))
        case ho => rfl
        case hx => rfl
      simp only [Act.put, List.setIfInBounds_toArray, List.set_cons_zero, List.set_cons_succ, List.getElem_toArray, List.getElem_cons_zero, List.getElem_cons_succ]
      refine wpAnyH_take (i := 2) (v := ?vb2) rfl (by kernel_rfl) (by kernel_rfl) (by kernel_rfl) (fun _ _ _ h => h) (Or.inl ⟨by rfl, ?hyb2⟩) (by assumption) ?restb2
      case hyb2 =>
        intro w hSw
        try dsimp only at hSw
        go_simp
        try with_reducible rfl
      simp only [Act.put, List.setIfInBounds_toArray, List.set_cons_zero, List.set_cons_succ, List.getElem_toArray, List.getElem_cons_zero, List.getElem_cons_succ]
      refine wpAnyH_take (i := 3) (v := (.agg (bA B))) rfl (by kernel_rfl) (by kernel_rfl) (by kernel_rfl) (fun _ _ _ h => h) (Or.inl ⟨by rfl, ?hyb3⟩) (by assumption) ?restb3
      case hyb3 =>
        intro w hSw
        refine ex_load (ty := 59) (x := .tmp 37) (g := g1) (off := 8) ?ho ?hx (run_load_box _ 59 g1 8 8 _ _ _ _ hSw Try.underlying59 rfl set_size (le24 (by decide)) (stA_block H B L))
        case ho => rfl
        case hx => rfl
      simp only [Act.put, List.setIfInBounds_toArray, List.set_cons_zero, List.set_cons_succ, List.getElem_toArray, List.getElem_cons_zero, List.getElem_cons_succ]
      refine wpAnyH_ready (rs := [4]) (by kernel_rfl) (by simp) ?_
      refine AllReadyH.cons rfl (fun K hK => ?_) AllReadyH.nil
      go_simp
      refine fixedI.mono ?_
      rintro e W4 ⟨rfl, hb⟩
      have HN4 := Lib.hid (HN3.out.below hb HN3.out.lt)
      have HZ4 := Lib.hid (HZ3.out.below hb HZ3.out.lt)
      have HB4 := Lib.hid (HB3.out.trans (hb.mono (Nat.le_trans (by omega) (Nat.le_of_lt HN3.out.lt))))
      clear hb
      dsimp only
      refine hK.out _ _ ?_ (fun hHeld => ?_)
      · exact HN4.out
      clear hK K
      try simp only [Act.put, List.setIfInBounds_toArray, List.set_cons_zero, List.set_cons_succ, List.getElem_toArray, List.getElem_cons_zero, List.getElem_cons_succ]
      refine wpAnyH_ready (rs := [5]) (by kernel_rfl) (by simp) ?_
      refine AllReadyH.cons rfl (fun K hK => ?_) AllReadyH.nil
      go_simp
      refine (withoutI B fixS HE1.out).mono ?_
      rintro e W5 ⟨rfl, hb⟩
      have HN5 := Lib.hid (HN4.out.below hb HN4.out.lt)
      have HZ5 := Lib.hid (HZ4.out.below hb HZ4.out.lt)
      have HB5 := Lib.hid (HB4.out.trans (hb.mono (Nat.le_trans (by omega) (Nat.le_of_lt HN4.out.lt))))
      clear hb
      dsimp only
      refine hK.out _ _ ?_ (fun hHeld => ?_)
      · exact HN5.out
      clear hK K
      try simp only [Act.put, List.setIfInBounds_toArray, List.set_cons_zero, List.set_cons_succ, List.getElem_toArray, List.getElem_cons_zero, List.getElem_cons_succ]
      refine wpAnyH_take (i := 6) (v := ?vb6) rfl (by kernel_rfl) (by kernel_rfl) (by kernel_rfl) (fun _ _ _ h => h) (Or.inl ⟨by rfl, ?hyb6⟩) (by assumption) ?restb6
      case hyb6 =>
        intro w hSw
        try dsimp only at hSw
        have hq := neqA B (wo B fixS) HE1.out (wo_len.trans HE1.out)
        have hgd : ∀ (w : World) (x y : Operand), (eqGuard .neq 59 x y (.agg (bA B)) (.agg (bA (wo B fixS)))).run Try.prog w = .ok () w := fun w x y => run_eqGuard_agg w _ _ _ _ _ _ set_guard
        rw [HD.out] at hq
        go_simp
        try with_reducible rfl
      simp only [Act.put, List.setIfInBounds_toArray, List.set_cons_zero, List.set_cons_succ, List.getElem_toArray, List.getElem_cons_zero, List.getElem_cons_succ]
      refine wpAnyH_take (i := 7) (v := ?vb7) rfl (by kernel_rfl) (by kernel_rfl) (by kernel_rfl) (fun _ _ _ h => h) (Or.inl ⟨by rfl, ?hyb7⟩) (by assumption) ?restb7
      case hyb7 =>
        intro w hSw
        try dsimp only at hSw
        go_simp
        try with_reducible rfl
      simp only [Act.put, List.setIfInBounds_toArray, List.set_cons_zero, List.set_cons_succ, List.getElem_toArray, List.getElem_cons_zero, List.getElem_cons_succ]
      refine wpAnyH_take (i := 8) (v := ?vb8) rfl (by kernel_rfl) (by kernel_rfl) (by kernel_rfl) (fun _ _ _ h => h) (Or.inl ⟨by rfl, ?hyb8⟩) (by assumption) ?restb8
      case hyb8 =>
        intro w hSw
        try dsimp only at hSw
        go_simp
        try with_reducible rfl
      simp only [Act.put, List.setIfInBounds_toArray, List.set_cons_zero, List.set_cons_succ, List.getElem_toArray, List.getElem_cons_zero, List.getElem_cons_succ]
      refine wpAnyH_take (i := 9) (v := (.agg (iA L))) rfl (by kernel_rfl) (by kernel_rfl) (by kernel_rfl) (fun _ _ _ h => h) (Or.inl ⟨by rfl, ?hyb9⟩) (by assumption) ?restb9
      case hyb9 =>
        intro w hSw
        refine ex_load (ty := 61) (x := .tmp 43) (g := g1) (off := 16) ?ho ?hx (run_load_box _ 61 g1 16 8 _ _ _ _ hSw Try.underlying61 rfl act_size (le24 (by decide)) (stA_acts H B L))
        case ho => rfl
        case hx => rfl
      simp only [Act.put, List.setIfInBounds_toArray, List.set_cons_zero, List.set_cons_succ, List.getElem_toArray, List.getElem_cons_zero, List.getElem_cons_succ]
      refine wpAnyH_ready (rs := [10]) (by kernel_rfl) (by simp) ?_
      refine AllReadyH.cons rfl (fun K hK => ?_) AllReadyH.nil
      go_simp
      refine (actsOkI L).mono ?_
      rintro e W6 ⟨rfl, hb⟩
      rw [HM.out]
      have HN6 := Lib.hid (HN5.out.below hb HN5.out.lt)
      have HZ6 := Lib.hid (HZ5.out.below hb HZ5.out.lt)
      have HB6 := Lib.hid (HB5.out.trans (hb.mono (Nat.le_trans (by omega) (Nat.le_of_lt HN5.out.lt))))
      clear hb
      dsimp only
      refine hK.out _ _ ?_ (fun hHeld => ?_)
      · exact HN6.out
      clear hK K
      try simp only [Act.put, List.setIfInBounds_toArray, List.set_cons_zero, List.set_cons_succ, List.getElem_toArray, List.getElem_cons_zero, List.getElem_cons_succ]
      refine wpAnyH_take (i := 11) (v := ?vb11) rfl (by kernel_rfl) (by kernel_rfl) (by kernel_rfl) (fun _ _ _ h => h) (Or.inl ⟨by rfl, ?hyb11⟩) (by assumption) ?restb11
      case hyb11 =>
        intro w hSw
        try dsimp only at hSw
        go_simp
        try with_reducible rfl
      simp only [Act.put, List.setIfInBounds_toArray, List.set_cons_zero, List.set_cons_succ, List.getElem_toArray, List.getElem_cons_zero, List.getElem_cons_succ]
      refine wpAnyH_take (i := 12) (v := ?vb12) rfl (by kernel_rfl) (by kernel_rfl) (by kernel_rfl) (fun _ _ _ h => h) (Or.inl ⟨by rfl, ?hyb12⟩) (by assumption) ?restb12
      case hyb12 =>
        intro w hSw
        try dsimp only at hSw
        go_simp
        try with_reducible rfl
      simp only [Act.put, List.setIfInBounds_toArray, List.set_cons_zero, List.set_cons_succ, List.getElem_toArray, List.getElem_cons_zero, List.getElem_cons_succ]
      refine wpAnyH_done (by kernel_rfl) ?_ _
      go_wp2_with (first | (refine wpList_load_box rfl 63 _ rfl g1 0 24 rfl 63 (stA H B L) _ HN6.out Try.underlying63 rfl st_size (Nat.le_refl 24) (stA H B L) (stA_all _ _ _) ?_) | (refine wpList_store_box rfl 63 _ _ rfl (v0 + 1) 0 (stA H B L) rfl rfl 63 (stA noB noB noI) HZ6.out st_size (Nat.le_refl 24) (stA_one _ _ _) (stA H B L) (stA_put _ _ _ _ _ _) ?_; intro w9 hb9 hf9))
      exact bodyPost_ret (fin_state _ rfl rfl rfl hb9) rfl ⟨by rw [HV.out, HR.out], by rw [← HV0.out]; exact HB6.out.trans (hf9.below (Nat.le_trans (by omega) (Nat.le_of_lt HN6.out.lt)) (by intro b hb; rw [List.mem_singleton] at hb; omega))⟩
  · have HD := Lib.hid (decide_eq_false hd)
    clear hd
    have HR := Lib.hid (show sigB (H, B, L) = false by rw [HQ.out, HD.out]; rfl)
    have HV := Lib.hid (stR_no HR.out)
    refine wp_region_held_drew (S := fun w' => Box w' g1 (stA H B L) 63) (by kernel_rfl) HN3.out (fun hHeld => ?_)
    replace HN3 := Lib.hid (show Box W3.drew g1 (stA H B L) 63 from HN3.out)
    replace HZ3 := Lib.hid (show Box W3.drew (v0 + 1) (stA noB noB noI) 63 from HZ3.out)
    replace HB3 := Lib.hid HB3.out.drew
    replace hs3 : g1 < W3.drew.heap.size := hs3
    generalize W3.drew = W3 at hHeld HN3 HZ3 HB3 hs3 ⊢
    refine wpAnyH_take (i := 0) (v := ?vc0) rfl (by kernel_rfl) (by kernel_rfl) (by kernel_rfl) (fun _ _ _ h => h) (Or.inl ⟨by rfl, ?hyc0⟩) (by assumption) ?restc0
    case hyc0 =>
      intro w hSw
      try dsimp only at hSw
      go_simp
      try with_reducible rfl
    simp only [Act.put, List.setIfInBounds_toArray, List.getElem_toArray, List.getElem_cons_zero]
    refine wpAnyH_take (i := 1) (v := (.agg (bA B))) rfl (by kernel_rfl) (by kernel_rfl) (by kernel_rfl) (fun _ _ _ h => h) (Or.inl ⟨by rfl, ?hyc1⟩) (by assumption) ?restc1
    case hyc1 =>
      intro w hSw
      refine ex_load (ty := 59) (x := .tmp 35) (g := g1) (off := 8) ?ho ?hx (run_load_box _ 59 g1 8 8 _ _ _ _ hSw Try.underlying59 rfl set_size (le24 (by decide)) (stA_block H B L))
      case ho => rfl
      case hx => rfl
    simp only [Act.put, List.setIfInBounds_toArray, List.set_cons_zero, List.set_cons_succ, List.getElem_toArray, List.getElem_cons_zero, List.getElem_cons_succ]
    refine wpAnyH_take (i := 2) (v := ?vc2) rfl (by kernel_rfl) (by kernel_rfl) (by kernel_rfl) (fun _ _ _ h => h) (Or.inl ⟨by rfl, ?hyc2⟩) (by assumption) ?restc2
    case hyc2 =>
      intro w hSw
      try dsimp only at hSw
      go_simp
      try with_reducible rfl
    simp only [Act.put, List.setIfInBounds_toArray, List.set_cons_zero, List.set_cons_succ, List.getElem_toArray, List.getElem_cons_zero, List.getElem_cons_succ]
    refine wpAnyH_take (i := 3) (v := (.agg (bA B))) rfl (by kernel_rfl) (by kernel_rfl) (by kernel_rfl) (fun _ _ _ h => h) (Or.inl ⟨by rfl, ?hyc3⟩) (by assumption) ?restc3
    case hyc3 =>
      intro w hSw
      refine ex_load (ty := 59) (x := .tmp 37) (g := g1) (off := 8) ?ho ?hx (run_load_box _ 59 g1 8 8 _ _ _ _ hSw Try.underlying59 rfl set_size (le24 (by decide)) (stA_block H B L))
      case ho => rfl
      case hx => rfl
    simp only [Act.put, List.setIfInBounds_toArray, List.set_cons_zero, List.set_cons_succ, List.getElem_toArray, List.getElem_cons_zero, List.getElem_cons_succ]
    refine wpAnyH_ready (rs := [4]) (by kernel_rfl) (by simp) ?_
    refine AllReadyH.cons rfl (fun K hK => ?_) AllReadyH.nil
    go_simp
    refine fixedI.mono ?_
    rintro e W4 ⟨rfl, hb⟩
    have HN4 := Lib.hid (HN3.out.below hb HN3.out.lt)
    have HZ4 := Lib.hid (HZ3.out.below hb HZ3.out.lt)
    have HB4 := Lib.hid (HB3.out.trans (hb.mono (Nat.le_trans (by omega) (Nat.le_of_lt HN3.out.lt))))
    clear hb
    dsimp only
    refine hK.out _ _ ?_ (fun hHeld => ?_)
    · exact HN4.out
    clear hK K
    try simp only [Act.put, List.setIfInBounds_toArray, List.set_cons_zero, List.set_cons_succ, List.getElem_toArray, List.getElem_cons_zero, List.getElem_cons_succ]
    refine wpAnyH_ready (rs := [5]) (by kernel_rfl) (by simp) ?_
    refine AllReadyH.cons rfl (fun K hK => ?_) AllReadyH.nil
    go_simp
    refine (withoutI B fixS HE1.out).mono ?_
    rintro e W5 ⟨rfl, hb⟩
    have HN5 := Lib.hid (HN4.out.below hb HN4.out.lt)
    have HZ5 := Lib.hid (HZ4.out.below hb HZ4.out.lt)
    have HB5 := Lib.hid (HB4.out.trans (hb.mono (Nat.le_trans (by omega) (Nat.le_of_lt HN4.out.lt))))
    clear hb
    dsimp only
    refine hK.out _ _ ?_ (fun hHeld => ?_)
    · exact HN5.out
    clear hK K
    try simp only [Act.put, List.setIfInBounds_toArray, List.set_cons_zero, List.set_cons_succ, List.getElem_toArray, List.getElem_cons_zero, List.getElem_cons_succ]
    refine wpAnyH_take (i := 6) (v := ?vc6) rfl (by kernel_rfl) (by kernel_rfl) (by kernel_rfl) (fun _ _ _ h => h) (Or.inl ⟨by rfl, ?hyc6⟩) (by assumption) ?restc6
    case hyc6 =>
      intro w hSw
      try dsimp only at hSw
      have hq := neqA B (wo B fixS) HE1.out (wo_len.trans HE1.out)
      have hgd : ∀ (w : World) (x y : Operand), (eqGuard .neq 59 x y (.agg (bA B)) (.agg (bA (wo B fixS)))).run Try.prog w = .ok () w := fun w x y => run_eqGuard_agg w _ _ _ _ _ _ set_guard
      rw [HD.out] at hq
      go_simp
      try with_reducible rfl
    simp only [Act.put, List.setIfInBounds_toArray, List.set_cons_zero, List.set_cons_succ, List.getElem_toArray, List.getElem_cons_zero, List.getElem_cons_succ]
    refine wpAnyH_take (i := 7) (v := ?vc7) rfl (by kernel_rfl) (by kernel_rfl) (by kernel_rfl) (fun _ _ _ h => h) (Or.inl ⟨by rfl, ?hyc7⟩) (by assumption) ?restc7
    case hyc7 =>
      intro w hSw
      try dsimp only at hSw
      go_simp
      try with_reducible rfl
    simp only [Act.put, List.setIfInBounds_toArray, List.set_cons_zero, List.set_cons_succ, List.getElem_toArray, List.getElem_cons_zero, List.getElem_cons_succ]
    refine wpAnyH_drop (fuel := 1) [8, 9, 10, 11] [43, 44, 45, 46] #[true, true, true, true, true, true, true, true, true, true, true, true, false] (by kernel_rfl) (fun d _ _ _ _ h => by cases d <;> exact h) (by assumption) (by kernel_rfl) (by kernel_rfl) (by kernel_rfl) ?_
    simp only [putsU, Act.put, List.setIfInBounds_toArray, List.set_cons_zero, List.set_cons_succ]
    refine wpAnyH_take (i := 12) (v := ?vc12) rfl (by kernel_rfl) (by kernel_rfl) (by kernel_rfl) (fun _ _ _ h => h) (Or.inl ⟨by rfl, ?hyc12⟩) (by assumption) ?restc12
    case hyc12 =>
      intro w hSw
      try dsimp only at hSw
      go_simp
      try with_reducible rfl
    simp only [Act.put, List.setIfInBounds_toArray, List.set_cons_zero, List.set_cons_succ, List.getElem_toArray, List.getElem_cons_zero, List.getElem_cons_succ]
    refine wpAnyH_done (by kernel_rfl) ?_ _
    go_wp2_with (refine wpList_store_box rfl 63 _ _ rfl (v0 + 1) 0 (stA noB noB noI) rfl rfl 63 (stA noB noB noI) HZ5.out st_size (Nat.le_refl 24) (stA_one _ _ _) (stA noB noB noI) (stA_put _ _ _ _ _ _) ?_; intro w9 hb9 hf9)
    exact bodyPost_ret (fin_state _ rfl rfl rfl hb9) rfl ⟨by rw [HV.out, HR.out], by rw [← HV0.out]; exact HB5.out.trans (hf9.below (Nat.le_trans (by omega) (Nat.le_of_lt HN5.out.lt)) (by intro b hb; rw [List.mem_singleton] at hb; omega))⟩
end
end Go.Proofs.Ytncinocpdeokgaa

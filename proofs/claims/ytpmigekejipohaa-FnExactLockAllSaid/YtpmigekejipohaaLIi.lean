/-
  Locks: the program's slices.Repeat of threads, LockNew.
-/
import Derived.Test.YtpmigekejipohaaLId
import Derived.Test.YtpmigekejipohaaReg2
import Derived.Laws.IdiomCopy
namespace Go.Proofs.Ytpmigekejipohaa
open Go.RowKit

section
variable {w : World}
set_option maxHeartbeats 1000000 in
theorem mul64_any (N : Nat) (hN : N ≤ 4) : Calls Try.prog 91 #[.int .u64 1, .int .u64 N] w fun e w' => e = .returned (.tuple #[.int .u64 0, .int .u64 N]) ∧ w = w' := by
  rcases (by omega : N = 0 ∨ N = 1 ∨ N = 2 ∨ N = 3 ∨ N = 4) with rfl | rfl | rfl | rfl | rfl
  all_goals
    go_enter Try.func91, Try.ntmps91
    go_wp2
    refine bodyPost_ret (v := .tuple #[.int .u64 0, .int .u64 _]) (by simp [results, Try.results91, go_sem]; rfl) rfl ⟨rfl, rfl⟩
theorem mul_any (N : Nat) (hN : N ≤ 4) : Calls Try.prog 76 #[.int .u64 1, .int .u64 N] w fun e w' => e = .returned (.tuple #[.int .u64 0, .int .u64 N]) ∧ w = w' := by
  go_enter Try.func76, Try.ntmps76
  go_wp2_with fail
  refine (mul64_any N hN).mono ?_
  rintro e w1 ⟨rfl, rfl⟩
  go_wp2_with fail
  refine bodyPost_ret (v := .tuple #[.int .u64 0, .int .u64 N]) (by simp [results, Try.results76, go_sem]) rfl ⟨rfl, rfl⟩
theorem run_copyT (ty : TypeId) (g o dLen dCap : Nat) (ad : Addr) (sLen sCap m : Nat) (hm : Nat.min sLen dLen = m) (news : List Value) (hl : news.length = m * 4) (hnews : ∀ j u, news[j]? = some u → w.cell? (ad.add j) = some u)
    (hc : ∀ j, j < m * 4 → (w.cell? ⟨g, o + j, none⟩).isSome = true) (hf : ∀ j, j < m * 4 → w.frozen? ⟨g, o + j, none⟩ = false) (h1 : ∀ u ∈ news, u.oneCell' = true) :
    (Builtin.copy_ #[25, 25] ty #[.slice (some ⟨g, o, none⟩) dLen dCap, .slice (some ad) sLen sCap]).run Try.prog w = .ok (.int .i64 m) (w.setCells g o news) := by
  obtain ⟨i0, hi0, hz0, hz1, hz2⟩ := infoThread
  have hfc := run_firstCells_some (P := Try.prog) w 4 m ad sLen sCap news hl hnews
  have hst := run_storeCells_cells (P := Try.prog) g o news 0 w (by simpa [hl] using hc) (by simpa [hl] using hf) h1
  simp only [Nat.add_zero] at hst
  simp [Builtin.copy_, run_underlying Try.underlying25, sizeOf, typeInfo, hi0, hz1, Builtin.lenOf, hm, hfc, hst, goInt]
/-- the first k elements a -/
def upA (a : EThread) (N k : Nat) : List EThread := List.replicate k a ++ List.replicate (N - k) thZ
theorem upA_at {a : EThread} {N k j : Nat} (_hj : j < N) (_hk : k ≤ N) : (upA a N k).getD j thZ = if j < k then a else thZ := by
  unfold upA
  rw [List.getD_eq_getElem?_getD]
  by_cases h : j < k
  · rw [if_pos h, List.getElem?_append_left (by rw [List.length_replicate]; exact h), List.getElem?_replicate, if_pos h]
    rfl
  · rw [if_neg h, List.getElem?_append_right (by rw [List.length_replicate]; omega), List.length_replicate, List.getElem?_replicate]
    split <;> rfl
theorem upA_end {a : EThread} {N : Nat} : upA a N N = List.replicate N a := by unfold upA; simp
theorem upA_zero {a : EThread} {N : Nat} : upA a N 0 = List.replicate N elThread.z := by unfold upA; rw [List.replicate_zero, List.nil_append, Nat.sub_zero]; rfl
theorem flatA_at {a : EThread} {m : Nat} : ∀ {j r : Nat}, j < m → r < 4 → ((List.replicate m a).flatMap elThread.C)[j * 4 + r]? = (elThread.C a)[r]? := by
  induction m with
  | zero => intro j r h; omega
  | succ m ih =>
    intro j r hj hr
    rw [List.replicate_succ, List.flatMap_cons]
    cases j with
    | zero =>
      rw [Nat.zero_mul, Nat.zero_add, List.getElem?_append_left (by rw [elThread.len]; exact hr)]
    | succ j =>
      rw [List.getElem?_append_right (by rw [elThread.len]; show 4 ≤ _; omega), elThread.len]
      rw [show (j + 1) * 4 + r - elThread.K = j * 4 + r from by show (j + 1) * 4 + r - 4 = _; omega]
      exact ih (by omega) hr
theorem upA_put {g N k m : Nat} {a : EThread} (h : RowM elThread w [g] (some ⟨g, 0, none⟩) N (upA a N k)) (hk : k + m ≤ N) :
    RowM elThread (w.setCells g (k * 4) ((List.replicate m a).flatMap elThread.C)) [g] (some ⟨g, 0, none⟩) N (upA a N (k + m)) := fun hn => by
  obtain ⟨b, o, e, e2, hb, hf, hc⟩ := h hn
  injection e with e
  injection e with e1 e3
  subst e1 e3
  have hlen : ((List.replicate m a).flatMap elThread.C).length = m * 4 := by rw [flat_len, List.length_replicate]; rfl
  refine ⟨g, 0, rfl, rfl, ?_, fun i => by rw [World.frozen?_setCells]; exact hf i, fun j hj r hr => ?_⟩
  · have h1 : ∀ (vs : List Value) (o : Nat) (u : World), (u.setCells g o vs).heap.size = u.heap.size := by
      intro vs
      induction vs with
      | nil => intro o u; rfl
      | cons v vs ih => intro o u; rw [World.setCells, ih, World.size_setCell]
    rw [h1]
    exact hb
  · have hr4 : r < 4 := hr
    have hjr := hc j hj r hr
    rw [show 0 + j * elThread.K + r = j * 4 + r from by show 0 + j * 4 + r = _; omega] at hjr ⊢
    have e1 := upA_at (a := a) (k := k + m) hj hk
    have e2 := upA_at (a := a) (k := k) hj (by omega)
    rw [show elThread.z = thZ from rfl] at hjr ⊢
    rw [e1]
    rw [e2] at hjr
    by_cases h1 : k ≤ j ∧ j < k + m
    · rw [if_pos h1.2]
      have h2 := World.cell?_setCells_in g ((List.replicate m a).flatMap elThread.C) (k * 4) w (fun q hq => by
        rw [hlen] at hq
        have h3 := hc (k + q / 4) (by omega) (q % 4) (Nat.mod_lt _ (by decide))
        rw [show 0 + (k + q / 4) * elThread.K + q % 4 = k * 4 + q from by show 0 + (k + q / 4) * 4 + q % 4 = _; omega] at h3
        rw [h3]
        have h4 : q % 4 < 4 := Nat.mod_lt _ (by decide)
        rcases (by omega : q % 4 = 0 ∨ q % 4 = 1 ∨ q % 4 = 2 ∨ q % 4 = 3) with h | h | h | h <;> rw [h] <;> rfl) ((j - k) * 4 + r) (by rw [hlen]; omega)
      rw [show k * 4 + ((j - k) * 4 + r) = j * 4 + r from by omega] at h2
      rw [h2, ← flatA_at (m := m) (show j - k < m from by omega) hr4, List.getElem?_eq_getElem]
    · rw [World.cell?_setCells_out g _ (k * 4) w _ (fun _ _ => by show j * 4 + r < k * 4 ∨ k * 4 + _ ≤ j * 4 + r; rw [hlen]; omega), hjr]
      by_cases h3 : j < k
      · rw [if_pos h3, if_pos (by omega)]
      · rw [if_neg h3, if_neg (by omega)]
theorem below_setCells {B g : Nat} (hg : B ≤ g) : ∀ (vs : List Value) (o : Nat) {a u : World}, Below B a u → Below B a (u.setCells g o vs)
  | [], _, _, _, h => h
  | v :: vs, o, _, _, h => below_setCells hg vs (o + 1) (h.setCell (p := ⟨g, o, none⟩) hg v)
set_option maxHeartbeats 4000000 in
set_option maxRecDepth 100000 in
theorem repeat_any {b N : Nat} {a : EThread} (hN1 : 1 ≤ N) (hN : N ≤ 4) (hb : Box w b #[.int .i64 a.f0, .int .i64 a.f1, .int .i64 a.f2, .bool a.f3] 41) :
    Calls Try.prog 50 #[.slice (some ⟨b, 0, none⟩) 1 1, .int .i64 N] w fun e w' => ∃ g, e = .returned (.slice (some ⟨g, 0, none⟩) N N) ∧ RowM elThread w' [g] (some ⟨g, 0, none⟩) N (List.replicate N a) ∧ w.heap.size ≤ g ∧ g < w'.heap.size ∧ Below w.heap.size w w' := by
  have HB := Lib.hid hb
  have hblt := hb.lt
  have hmk : ∀ u : World, (Instr.makeSlice 25 (.int .i64 (N : Int)) (.int .i64 (N : Int))).run Try.prog u = .ok (.slice (some ⟨u.heap.size, 0, none⟩) N N) (u.alloc (.cells (madeCells #[.int .i64 0, .int .i64 0, .int .i64 0, .bool false] (N * 4)) 41)) := fun u => by
    obtain ⟨i0, hi, hz0, hz1, hz2⟩ := infoThread
    have h := run_make (P := Try.prog) u 25 41 i0 _ Try.underlying25 hi hz0 .i64 .i64 (N : Int) (N : Int) (by omega) (Int.le_refl _) (by rw [hz2]; omega) (by omega)
    rw [hz1, Int.toNat_natCast] at h
    exact h
  have hone : ∀ m, ∀ u ∈ (List.replicate m a).flatMap elThread.C, u.oneCell' = true := fun m u hu => by
    obtain ⟨z, _, hz⟩ := List.mem_flatMap.1 hu
    exact oneT' z u hz
  have HONE := Lib.hid hone
  obtain ⟨W1, hW1⟩ : ∃ W1, w.alloc (.cells (madeCells #[.int .i64 0, .int .i64 0, .int .i64 0, .bool false] (N * 4)) 41) = W1 := ⟨_, rfl⟩
  have hmade := RowM.made (E := elThread) w N 41 #[.int .i64 0, .int .i64 0, .int .i64 0, .bool false] rfl
  have hbel := (Below.refl w.heap.size w).alloc (Nat.le_refl _) (.cells (madeCells #[.int .i64 0, .int .i64 0, .int .i64 0, .bool false] (N * 4)) 41)
  have hbox := hb.alloc (.cells (madeCells #[.int .i64 0, .int .i64 0, .int .i64 0, .bool false] (N * 4)) 41)
  rw [show elThread.K = 4 from rfl, hW1, ← upA_zero (a := a)] at hmade
  rw [hW1] at hbel hbox
  have HM := Lib.hid hmade
  have HBL := Lib.hid hbel
  have hex : ∀ (u : World) (k q j : Nat), RowM elThread u [w.heap.size] (some ⟨w.heap.size, 0, none⟩) N (upA a N k) → q + j < N * 4 → (u.cell? ⟨w.heap.size, q + j, none⟩).isSome = true ∧ u.frozen? ⟨w.heap.size, q + j, none⟩ = false := fun u k q j h hj => by
    obtain ⟨b', o', e, _, _, hf, hc⟩ := h (by omega)
    injection e with e
    injection e with e1 e2
    subst e1 e2
    refine ⟨?_, hf _⟩
    have h3 := hc ((q + j) / 4) (by omega) ((q + j) % 4) (Nat.mod_lt _ (by decide))
    rw [show 0 + (q + j) / 4 * elThread.K + (q + j) % 4 = q + j from by show 0 + (q + j) / 4 * 4 + (q + j) % 4 = _; omega] at h3
    rw [h3]
    have h4 : (q + j) % 4 < 4 := Nat.mod_lt _ (by decide)
    rcases (by omega : (q + j) % 4 = 0 ∨ (q + j) % 4 = 1 ∨ (q + j) % 4 = 2 ∨ (q + j) % 4 = 3) with h | h | h | h <;> rw [h] <;> rfl
  have HEX := Lib.hid hex
  have hcp1 : ∀ ty, (Builtin.copy_ #[25, 25] ty #[.slice (some ⟨w.heap.size, 0, none⟩) N N, .slice (some ⟨b, 0, none⟩) 1 1]).run Try.prog W1 = .ok (.int .i64 (1 : Nat)) (W1.setCells w.heap.size 0 ((List.replicate 1 a).flatMap elThread.C)) := fun ty =>
    run_copyT ty w.heap.size 0 N N ⟨b, 0, none⟩ 1 1 1 (Nat.min_eq_left hN1) _ rfl (fun j u hj => by
      rw [add_plain, Nat.zero_add, hbox.cell, ← hj]
      rw [← Array.getElem?_toList]
      rfl) (fun j hj => (HEX.out _ _ 0 j HM.out (by omega)).1) (fun j hj => (HEX.out _ _ 0 j HM.out (by omega)).2) (HONE.out 1)
  have HR1 := Lib.hid (upA_put (m := 1) HM.out (by omega))
  have HB1 := Lib.hid (below_setCells (Nat.le_refl w.heap.size) ((List.replicate 1 a).flatMap elThread.C) 0 HBL.out)
  rw [Nat.zero_mul, Nat.zero_add] at HR1
  have hu : IntKind.u64.wrap (N : Int) = N := by
    rcases (by omega : N = 1 ∨ N = 2 ∨ N = 3 ∨ N = 4) with rfl | rfl | rfl | rfl <;> rfl
  have hu2 : IntKind.i64.wrap (N : Int) = N := IntWalk.i64_in _ (by omega)
  have hN0 : (0 : Int) ≤ N := by omega
  have hN9 : (N : Int) ≤ 9223372036854775807 := by omega
  clear hb hbox hmade hbel hone hex
  go_enter Try.func50, Try.ntmps50
  go_wp2_with fail
  refine (mul_any N hN).mono ?_
  rintro e w1 ⟨rfl, rfl⟩
  go_wp2_with fail
  go_loopw [8] (fun i wr => ∃ k : Nat, 1 ≤ k ∧ k ≤ N ∧ i = .int .i64 k ∧ RowM elThread wr [w.heap.size] (some ⟨w.heap.size, 0, none⟩) N (upA a N k) ∧ Below w.heap.size w wr) (fun i _ => N - (intOf i).toNat)
  case atStart => exact ⟨1, Nat.le_refl _, hN1, rfl, HR1.out, HB1.out⟩
  case round =>
    obtain ⟨k, hk1, hk, rfl, hr, hb⟩ := hrel
    have HR := Lib.hid hr
    have HBW := Lib.hid hb
    clear hr hb hcp1 HR1 HB1 HM HBL
    by_cases hlt : k < N
    · have hi1 : (k : Int) < N := by omega
      have hi2 : (0 : Int) ≤ k := by omega
      have hi3 : (k : Int) ≤ N := by omega
      have hne : ¬ (N = k) := by omega
      obtain ⟨m, hm⟩ : ∃ m, Nat.min k (N - k) = m := ⟨_, rfl⟩
      have hmm : 1 ≤ m ∧ m ≤ k ∧ m ≤ N - k := by rw [← hm]; simp only [Nat.min_def]; split <;> omega
      have hcp : ∀ ty, (Builtin.copy_ #[25, 25] ty #[.slice (some ⟨w.heap.size, k * 4, none⟩) (N - k) (N - k), .slice (some ⟨w.heap.size, 0, none⟩) k N]).run Try.prog wr.drew = .ok (.int .i64 (m : Nat)) (wr.drew.setCells w.heap.size (k * 4) ((List.replicate m a).flatMap elThread.C)) := fun ty =>
        run_copyT (w := wr.drew) ty w.heap.size (k * 4) (N - k) (N - k) ⟨w.heap.size, 0, none⟩ k N m hm _ (by rw [flat_len, List.length_replicate]; rfl) (fun j u hj => by
          have hjl : j < m * 4 := by
            have h := (List.getElem?_eq_some_iff.1 hj).1
            rw [flat_len, List.length_replicate] at h
            exact h
          rw [add_plain, Nat.zero_add]
          obtain ⟨b', o', e, _, _, _, hc⟩ := HR.out (by omega)
          injection e with e
          injection e with e1 e2
          subst e1 e2
          have h3 := hc (j / 4) (by omega) (j % 4) (Nat.mod_lt _ (by decide))
          rw [show 0 + j / 4 * elThread.K + j % 4 = j from by show 0 + j / 4 * 4 + j % 4 = _; omega, show elThread.z = thZ from rfl, upA_at (by omega) hk, if_pos (by omega), ← flatA_at (m := m) (show j / 4 < m by omega) (Nat.mod_lt _ (by decide)), show j / 4 * 4 + j % 4 = j from by omega, hj] at h3
          exact h3) (fun j hj => (HEX.out wr k (k * 4) j HR.out (by omega)).1) (fun j hj => (HEX.out wr k (k * 4) j HR.out (by omega)).2) (HONE.out m)
      have HRN := Lib.hid (upA_put (w := wr.drew) (m := m) (HR.out.frame fun _ _ => rfl) (show k + m ≤ N by omega))
      have HBN := Lib.hid (below_setCells (Nat.le_refl w.heap.size) ((List.replicate m a).flatMap elThread.C) (k * 4) HBW.out.drew)
      generalize wr.drew.setCells w.heap.size (k * 4) ((List.replicate m a).flatMap elThread.C) = w9 at hcp HRN HBN
      have hw9 : IntKind.i64.wrap ((k : Int) + (m : Int)) = (k : Int) + (m : Int) := IntWalk.i64_in _ (by omega)
      go_wp2_with fail
      refine goAny_drew (z := 9) (S := fun w' => True) (by kernel_rfl) ⟨⟩ (fun hHeld => ?_)
      refine goAny_take (i := 0) (v := ?vr0) (by kernel_rfl) (by kernel_rfl) rfl (by kernel_rfl) (by kernel_rfl) (by kernel_rfl) (fun _ _ _ h => h) (Or.inl ⟨by rfl, ?hyr0⟩) (by assumption) ?restr0
      case hyr0 =>
        intro w hSw
        try dsimp only at hSw
        go_simp
        try with_reducible rfl
      simp only [Act.put, List.setIfInBounds_toArray, List.set_cons_zero, List.set_cons_succ, List.getElem_toArray, List.getElem_cons_zero]
      refine goAny_take (i := 1) (v := ?vr1) (by kernel_rfl) (by kernel_rfl) rfl (by kernel_rfl) (by kernel_rfl) (by kernel_rfl) (fun _ _ _ h => h) (Or.inl ⟨by rfl, ?hyr1⟩) (by assumption) ?restr1
      case hyr1 =>
        intro w hSw
        try dsimp only at hSw
        go_simp
        try with_reducible rfl
      simp only [Act.put, List.setIfInBounds_toArray, List.set_cons_zero, List.set_cons_succ, List.getElem_toArray, List.getElem_cons_zero, List.getElem_cons_succ]
      refine goAny_take (i := 2) (v := ?vr2) (by kernel_rfl) (by kernel_rfl) rfl (by kernel_rfl) (by kernel_rfl) (by kernel_rfl) (fun _ _ _ h => h) (Or.inl ⟨by rfl, ?hyr2⟩) (by assumption) ?restr2
      case hyr2 =>
        intro w hSw
        try dsimp only at hSw
        go_simp
        try with_reducible rfl
      simp only [Act.put, List.setIfInBounds_toArray, List.set_cons_zero, List.set_cons_succ, List.getElem_toArray, List.getElem_cons_zero, List.getElem_cons_succ]
      refine goAny_take (i := 3) (v := ?vr3) (by kernel_rfl) (by kernel_rfl) rfl (by kernel_rfl) (by kernel_rfl) (by kernel_rfl) (fun _ _ _ h => h) (Or.inl ⟨by rfl, ?hyr3⟩) (by assumption) ?restr3
      case hyr3 =>
        intro w hSw
        try dsimp only at hSw
        go_simp
        try with_reducible rfl
      simp only [Act.put, List.setIfInBounds_toArray, List.set_cons_zero, List.set_cons_succ, List.getElem_toArray, List.getElem_cons_zero, List.getElem_cons_succ]
      refine goAny_take (i := 4) (v := ?vr4) (by kernel_rfl) (by kernel_rfl) rfl (by kernel_rfl) (by kernel_rfl) (by kernel_rfl) (fun _ _ _ h => h) (Or.inl ⟨by rfl, ?hyr4⟩) (by assumption) ?restr4
      case hyr4 =>
        intro w hSw
        try dsimp only at hSw
        go_simp
        try with_reducible rfl
      simp only [Act.put, List.setIfInBounds_toArray, List.set_cons_zero, List.set_cons_succ, List.getElem_toArray, List.getElem_cons_zero, List.getElem_cons_succ]
      refine goAny_take (i := 5) (v := ?vr5) (by kernel_rfl) (by kernel_rfl) rfl (by kernel_rfl) (by kernel_rfl) (by kernel_rfl) (fun _ _ _ h => h) (Or.inl ⟨by rfl, ?hyr5⟩) (by assumption) ?restr5
      case hyr5 =>
        intro w hSw
        try dsimp only at hSw
        go_simp
        try with_reducible rfl
      simp only [Act.put, List.setIfInBounds_toArray, List.set_cons_zero, List.set_cons_succ, List.getElem_toArray, List.getElem_cons_zero, List.getElem_cons_succ]
      refine goAny_take (i := 6) (v := ?vr6) (by kernel_rfl) (by kernel_rfl) rfl (by kernel_rfl) (by kernel_rfl) (by kernel_rfl) (fun _ _ _ h => h) (Or.inl ⟨by rfl, ?hyr6⟩) (by assumption) ?restr6
      case hyr6 =>
        intro w hSw
        try dsimp only at hSw
        go_simp
        try with_reducible rfl
      simp only [Act.put, List.setIfInBounds_toArray, List.set_cons_zero, List.set_cons_succ, List.getElem_toArray, List.getElem_cons_zero, List.getElem_cons_succ]
      refine goAny_step (i := 7) (by kernel_rfl) rfl (fun K hK => ?_)
      go_simp
      skip
      refine hK.out _ _ ?_ (fun hHeld => ?_)
      · exact trivial
      clear hK K
      try simp only [Act.put, List.setIfInBounds_toArray, List.set_cons_zero, List.set_cons_succ, List.getElem_toArray, List.getElem_cons_zero, List.getElem_cons_succ]
      refine goAny_take (i := 8) (v := ?vr8) (by kernel_rfl) (by kernel_rfl) rfl (by kernel_rfl) (by kernel_rfl) (by kernel_rfl) (fun _ _ _ h => h) (Or.inl ⟨by rfl, ?hyr8⟩) (by assumption) ?restr8
      case hyr8 =>
        intro w hSw
        try dsimp only at hSw
        go_simp
        try with_reducible rfl
      simp only [Act.put, List.setIfInBounds_toArray, List.set_cons_zero, List.set_cons_succ, List.getElem_toArray, List.getElem_cons_zero, List.getElem_cons_succ]
      refine goAny_last (by kernel_rfl) (by kernel_rfl) rfl (fun K hK => ?_)
      go_simp
      skip
      refine hK.out _ _ ?_
      clear hK K
      try simp only [Act.put, List.setIfInBounds_toArray, List.set_cons_zero, List.set_cons_succ, List.getElem_toArray, List.getElem_cons_zero, List.getElem_cons_succ]
      go_wp2_with fail
      go_roundw
      case rel => exact ⟨k + m, by omega, by omega, by rw [Int.natCast_add], HRN.out, HBN.out⟩
      case measure => simp [intOf]; omega
    · obtain rfl : k = N := by omega
      go_wp2_with fail
      refine bodyPost_ret (v := .slice (some ⟨w.heap.size, 0, none⟩) k k) (by simp [results, Try.results50, go_sem]) rfl ⟨w.heap.size, rfl, by rw [← upA_end]; exact HR.out, Nat.le_refl _, ?_, HBW.out⟩
      obtain ⟨b', o', e, _, hb, _⟩ := HR.out (by omega)
      injection e with e
      injection e with e1 e2
      rw [e1]
      exact hb
end
end Go.Proofs.Ytpmigekejipohaa

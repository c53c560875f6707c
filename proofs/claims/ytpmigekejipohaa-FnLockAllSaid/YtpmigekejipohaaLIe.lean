/-
  Locks: a lock behind a pointer; the program's endTurn, take, mark, leave.
-/
import Derived.Test.YtpmigekejipohaaLId
import Derived.Test.YtpmigekejipohaaLS5
namespace Go.Proofs.Ytpmigekejipohaa
open Go.RowKit

/-- a lock behind a pointer, in memory of the call's own -/
structure PL (w : World) (D : Lk) (K g0 c0 : Nat) (A : Option Addr) (c base : Nat) : Prop where
  box : Box w K #[.int .i64 D.1, .slice (some ⟨g0, 0, none⟩) D.2.1.length c0, .slice A D.2.2.length c] 28
  row : RowM elThread w [g0] (some ⟨g0, 0, none⟩) D.2.1.length D.2.1
  line : OwnE elI 3 w base (.slice A D.2.2.length c) D.2.2
  kg : K ≠ g0
  na : ∀ a, A = some a → a.block ≠ K ∧ a.block ≠ g0
theorem ownB {A : Option Addr} {n c g : Nat} (h : (Value.slice A n c).ownBlock = some g) : ∃ a, A = some a ∧ a.block = g := by
  cases A with
  | none => cases h
  | some a => exact ⟨a, rfl, by injection h⟩
theorem fldM {w : World} {b n k r : Nat} {l : List EThread} (h : RowM elThread w [b] (some ⟨b, 0, none⟩) n l) (hl : l.length = n) (hk : k < n) (hr : r < 4) (v : Value) (a : EThread)
    (ha : ∀ j, j < 4 → (elThread.C a)[j]? = if j = r then some v else (elThread.C (l.getD k thZ))[j]?) : RowM elThread (w.setCell ⟨b, k * 4 + r, none⟩ v) [b] (some ⟨b, 0, none⟩) n (l.set k a) := fun hn => by
  obtain ⟨b', o', e, _, hb, hf, hc⟩ := h hn
  injection e with e
  injection e with e1 e2
  subst e1 e2
  refine ⟨b, 0, rfl, rfl, by rw [World.size_setCell]; exact hb, fun i => by simp [hf i], fun j hj q hq => ?_⟩
  have hq4 : q < 4 := hq
  rw [getD_set l k j _ elThread.z (by omega)]
  by_cases e : j = k
  · subst e
    rw [if_pos rfl, ha q hq4]
    by_cases e3 : q = r
    · subst e3
      rw [if_pos rfl]
      have h3 := hc j hj q hq
      rw [show 0 + j * elThread.K + q = j * 4 + q from by show 0 + j * 4 + q = _; omega] at h3 ⊢
      have hex : ∃ u, w.cell? ⟨b, j * 4 + q, none⟩ = some u := by
        rw [h3]
        rcases (by omega : q = 0 ∨ q = 1 ∨ q = 2 ∨ q = 3) with rfl | rfl | rfl | rfl <;> exact ⟨_, rfl⟩
      obtain ⟨u, hu⟩ := hex
      exact World.cell?_setCell_same w ⟨b, j * 4 + q, none⟩ v hu
    · rw [if_neg e3, World.cell?_setCell_other _ _ _ _ (fun e => by injection e with _ e2; have e4 : j * 4 + r = 0 + j * 4 + q := e2; omega)]
      exact hc j hj q hq
  · rw [if_neg e, World.cell?_setCell_other _ _ _ _ (fun e5 => by injection e5 with _ e2; have e4 : k * 4 + r = 0 + j * 4 + q := e2; omega)]
    exact hc j hj q hq
theorem th_setS {D : Lk} {i : Nat} {W : Int} {L : List Int} {a : EThread} (hi : i < D.2.1.length) : th (W, D.2.1.set i a, L) i = a := by
  rw [show (W, D.2.1.set i a, L) = putT D W i a L from rfl, th_put hi, if_pos rfl]
section
variable {w : World} {D : Lk} {K g0 c0 c base i : Nat} {A : Option Addr} {t : EThread}
theorem PL.word (h : PL w D K g0 c0 A c base) (W' : Int) : PL (w.setCell ⟨K, 0, none⟩ (.int .i64 W')) (W', D.2.1, D.2.2) K g0 c0 A c base where
  box := by
    have h1 := h.box.set 0 (.int .i64 W')
    simp only [List.setIfInBounds_toArray, List.set_cons_zero] at h1
    exact h1
  row := rowM_offT h.row ⟨K, 0, none⟩ _ (fun e => h.kg e.symm)
  line := h.line.off ⟨K, 0, none⟩ _ fun g hg => by
    obtain ⟨a, e, rfl⟩ := ownB hg
    exact (h.na a e).1
  kg := h.kg
  na := h.na
theorem PL.fld (h : PL w D K g0 c0 A c base) (hi : i < D.2.1.length) {r : Nat} (hr : r < 4) (v : Value) (a : EThread)
    (ha : ∀ j, j < 4 → (elThread.C a)[j]? = if j = r then some v else (elThread.C (th D i))[j]?) : PL (w.setCell ⟨g0, i * 4 + r, none⟩ v) (D.1, D.2.1.set i a, D.2.2) K g0 c0 A c base where
  box := by
    have h1 := h.box.other (a := ⟨g0, i * 4 + r, none⟩) h.kg v
    dsimp only
    rw [List.length_set]
    exact h1
  row := by
    dsimp only
    rw [List.length_set]
    exact fldM h.row rfl hi hr v a ha
  line := h.line.off ⟨g0, i * 4 + r, none⟩ _ fun g hg => by
    obtain ⟨a, e, rfl⟩ := ownB hg
    exact (h.na a e).2
  kg := h.kg
  na := h.na
theorem PL.fld0 (h : PL w D K g0 c0 A c base) (hi : i < D.2.1.length) (ht : th D i = t) (x : Int) : PL (w.setCell ⟨g0, i * 4, none⟩ (.int .i64 x)) (D.1, D.2.1.set i ⟨x, t.f1, t.f2, t.f3⟩, D.2.2) K g0 c0 A c base :=
  h.fld (r := 0) hi (by decide) _ _ fun j hj => by subst ht; rcases (by omega : j = 0 ∨ j = 1 ∨ j = 2 ∨ j = 3) with rfl | rfl | rfl | rfl <;> rfl
theorem PL.fld1 (h : PL w D K g0 c0 A c base) (hi : i < D.2.1.length) (ht : th D i = t) (x : Int) : PL (w.setCell ⟨g0, i * 4 + 1, none⟩ (.int .i64 x)) (D.1, D.2.1.set i ⟨t.f0, x, t.f2, t.f3⟩, D.2.2) K g0 c0 A c base :=
  h.fld (r := 1) hi (by decide) _ _ fun j hj => by subst ht; rcases (by omega : j = 0 ∨ j = 1 ∨ j = 2 ∨ j = 3) with rfl | rfl | rfl | rfl <;> rfl
theorem PL.fld2 (h : PL w D K g0 c0 A c base) (hi : i < D.2.1.length) (ht : th D i = t) (x : Int) : PL (w.setCell ⟨g0, i * 4 + 2, none⟩ (.int .i64 x)) (D.1, D.2.1.set i ⟨t.f0, t.f1, x, t.f3⟩, D.2.2) K g0 c0 A c base :=
  h.fld (r := 2) hi (by decide) _ _ fun j hj => by subst ht; rcases (by omega : j = 0 ∨ j = 1 ∨ j = 2 ∨ j = 3) with rfl | rfl | rfl | rfl <;> rfl
theorem PL.fld3 (h : PL w D K g0 c0 A c base) (hi : i < D.2.1.length) (ht : th D i = t) (x : Bool) : PL (w.setCell ⟨g0, i * 4 + 3, none⟩ (.bool x)) (D.1, D.2.1.set i ⟨t.f0, t.f1, t.f2, x⟩, D.2.2) K g0 c0 A c base :=
  h.fld (r := 3) hi (by decide) _ _ fun j hj => by subst ht; rcases (by omega : j = 0 ∨ j = 1 ∨ j = 2 ∨ j = 3) with rfl | rfl | rfl | rfl <;> rfl
theorem PL.below {w' : World} (h : PL w D K g0 c0 A c base) (hn : 0 < D.2.1.length) (hb : Below w.heap.size w w') : PL w' D K g0 c0 A c base where
  box := h.box.below hb h.box.lt
  row := h.row.frame fun b hb2 => hb.block b (by rw [List.mem_singleton] at hb2; subst hb2; exact ltM h.row hn)
  line := h.line.below hb
  kg := h.kg
  na := h.na
end
/-- the blocks that a lock behind a pointer has -/
def fpL (K g0 : Nat) : Option Addr → List Nat
  | none => [K, g0]
  | some a => [K, g0, a.block]
theorem fpL_K {K g0 : Nat} {A : Option Addr} : K ∈ fpL K g0 A := by cases A <;> exact List.mem_cons_self
theorem fpL_g {K g0 : Nat} {A : Option Addr} : g0 ∈ fpL K g0 A := by cases A <;> exact List.mem_cons_of_mem _ List.mem_cons_self
theorem fpL_a {K g0 : Nat} {a : Addr} : a.block ∈ fpL K g0 (some a) := List.mem_cons_of_mem _ (List.mem_cons_of_mem _ List.mem_cons_self)
/-- what a function that turns a lock in place answers -/
def PlR (w : World) (D' : Lk) (K g0 c0 : Nat) (A : Option Addr) (base : Nat) (e : Ending) (w' : World) : Prop :=
  ∃ A' c', e = .returned (.tuple #[]) ∧ PL w' D' K g0 c0 A' c' base ∧ Foot w w' (fpL K g0 A) ∧ (∀ a', A' = some a' → (∃ a, A = some a ∧ a'.block = a.block) ∨ w.heap.size ≤ a'.block)
section
variable {w : World} {D : Lk} {K g0 c0 c base i : Nat} {A : Option Addr}
/-- what a walk wants to know of a lock behind a pointer -/
structure CellsP (w : World) (W t0 t1 t2 : Int) (t3 : Bool) (n n2 : Nat) (K g0 c0 c i : Nat) (A : Option Addr) : Prop where
  p0 : w.cell? ⟨K, 0, none⟩ = some (.int .i64 W)
  p1 : w.cell? ⟨K, 1, none⟩ = some (.slice (some ⟨g0, 0, none⟩) n c0)
  p2 : w.cell? ⟨K, 2, none⟩ = some (.slice A n2 c)
  pf0 : w.frozen? ⟨K, 0, none⟩ = false
  pf2 : w.frozen? ⟨K, 2, none⟩ = false
  d0 : w.cell? ⟨g0, i * 4, none⟩ = some (.int .i64 t0)
  d1 : w.cell? ⟨g0, i * 4 + 1, none⟩ = some (.int .i64 t1)
  d2 : w.cell? ⟨g0, i * 4 + 2, none⟩ = some (.int .i64 t2)
  d3 : w.cell? ⟨g0, i * 4 + 3, none⟩ = some (.bool t3)
  df0 : w.frozen? ⟨g0, i * 4, none⟩ = false
  df1 : w.frozen? ⟨g0, i * 4 + 1, none⟩ = false
  df2 : w.frozen? ⟨g0, i * 4 + 2, none⟩ = false
  df3 : w.frozen? ⟨g0, i * 4 + 3, none⟩ = false
  k1 : ¬ (K = g0)
  k2 : ¬ (g0 = K)
  kl : K < w.heap.size
  gl : g0 < w.heap.size
theorem PL.cells (h : PL w D K g0 c0 A c base) (hi : i < D.2.1.length) : CellsP w D.1 (th D i).f0 (th D i).f1 (th D i).f2 (th D i).f3 D.2.1.length D.2.2.length K g0 c0 c i A := by
  have hn : 0 < D.2.1.length := by omega
  obtain ⟨d0, d1, d2, d3⟩ := atM h.row hi
  simp only [Nat.zero_add] at d0 d1 d2 d3
  exact ⟨h.box.cell 0, h.box.cell 1, h.box.cell 2, h.box.frz 0, h.box.frz 2, d0, d1, d2, d3, frzM h.row hn _, frzM h.row hn _, frzM h.row hn _, frzM h.row hn _, h.kg, fun e => h.kg e.symm, h.box.lt, ltM h.row hn⟩
theorem endTurn_any (h : PL w D K g0 c0 A c base) (hi : i < D.2.1.length) (hu : 0 ≤ (th D i).f2 ∧ (th D i).f2 ≤ 3) :
    Calls Try.prog 86 #[.pointer (some ⟨g0, i * 4, none⟩)] w (PlR w (putT D D.1 i ⟨0, (th D i).f1, (th D i).f2 - 1, (th D i).f3⟩ D.2.2) K g0 c0 A base) := by
  have HP := Lib.hid h
  have HI := Lib.hid hi
  have hC := h.cells hi
  obtain ⟨t, ht⟩ : ∃ t, th D i = t := ⟨_, rfl⟩
  rw [ht] at hC hu ⊢
  have HTT := Lib.hid ht
  obtain ⟨p0, p1, p2, pf0, pf2, d0, d1, d2, d3, df0, df1, df2, df3, k1, k2, kl, gl⟩ := hC
  obtain ⟨t0, t1, t2, t3⟩ := t
  dsimp only at d0 d1 d2 d3 hu ⊢
  have hw1 : IntKind.i64.wrap (t2 - 1) = t2 - 1 := IntWalk.i64_in _ (by omega)
  clear h hi ht p0 p1 p2 hu
  go_enter Try.func86, Try.ntmps86
  go_wp2_with fail
  refine bodyPost_end (results_none rfl _ _ _) rfl ⟨A, c, rfl, ?_, ((Foot.refl w _).set fpL_g _ _).set fpL_g _ _, fun a e => Or.inl ⟨a, e, rfl⟩⟩
  have h1 := (HP.out.fld0 HI.out HTT.out 0).fld2 (t := ⟨0, t1, t2, t3⟩) (by rw [List.length_set]; exact HI.out) (th_setS HI.out) (t2 - 1)
  dsimp only at h1
  rw [List.set_set] at h1
  exact h1
/-- what take makes of a lock -/
def tkD (D : Lk) (i : Nat) (z : Int) : Lk := if D.1 = 0 then putT D z i ⟨4, (th D i).f1, (th D i).f2, (th D i).f3⟩ D.2.2 else putT D D.1 i ⟨1, D.1, (th D i).f2, (th D i).f3⟩ D.2.2
set_option maxHeartbeats 1000000 in
theorem take_any (h : PL w D K g0 c0 A c base) (hi : i < D.2.1.length) (z : Int) :
    Calls Try.prog 81 #[.pointer (some ⟨K, 0, none⟩), .pointer (some ⟨g0, i * 4, none⟩), .int .i64 z] w (PlR w (tkD D i z) K g0 c0 A base) := by
  have HP := Lib.hid h
  have HI := Lib.hid hi
  have hC := h.cells hi
  obtain ⟨t, ht⟩ : ∃ t, th D i = t := ⟨_, rfl⟩
  have HTT := Lib.hid ht
  rw [ht] at hC
  obtain ⟨W, hW⟩ : ∃ W, D.1 = W := ⟨_, rfl⟩
  have HW := Lib.hid hW
  rw [hW] at hC
  obtain ⟨p0, p1, p2, pf0, pf2, d0, d1, d2, d3, df0, df1, df2, df3, k1, k2, kl, gl⟩ := hC
  obtain ⟨t0, t1, t2, t3⟩ := t
  dsimp only at d0 d1 d2 d3
  unfold tkD
  by_cases h0 : D.1 = 0
  · rw [if_pos h0]
    obtain rfl : W = 0 := by rw [← HW.out]; exact h0
    clear h hi ht h0 hW d1 d2 d3 p1 p2
    go_enter Try.func81, Try.ntmps81
    go_wp2_with fail
    refine bodyPost_end (results_none rfl _ _ _) rfl ⟨A, c, rfl, ?_, ((Foot.refl w _).set fpL_K _ _).set fpL_g _ _, fun a e => Or.inl ⟨a, e, rfl⟩⟩
    have h1 := (HP.out.word z).fld0 (i := i) HI.out (t := ⟨t0, t1, t2, t3⟩) HTT.out 4
    rw [HTT.out]
    exact h1
  · rw [if_neg h0]
    have e0 : (W != 0) = true := by
      rw [bne_iff_ne, ← HW.out]
      exact h0
    clear h hi ht h0 hW d2 d3 p1 p2
    go_enter Try.func81, Try.ntmps81
    go_wp2_with fail
    refine bodyPost_ret (v := .tuple #[]) (results_none rfl _ _ _) rfl ⟨A, c, rfl, ?_, ((Foot.refl w _).set fpL_g _ _).set fpL_g _ _, fun a e => Or.inl ⟨a, e, rfl⟩⟩
    have h1 := (HP.out.fld1 HI.out HTT.out W).fld0 (t := ⟨t0, W, t2, t3⟩) (by rw [List.length_set]; exact HI.out) (th_setS HI.out) 1
    dsimp only at h1
    rw [List.set_set] at h1
    rw [HTT.out, HW.out]
    rw [HW.out] at h1
    exact h1
/-- what mark makes of a lock -/
def mkD (D : Lk) (i : Nat) : Lk :=
  if (th D i).f1 = 2 then putT D D.1 i ⟨2, 0, (th D i).f2, (th D i).f3⟩ D.2.2 else if D.1 = 0 then putT D D.1 i ⟨3, 0, (th D i).f2, (th D i).f3⟩ D.2.2 else putT D 2 i ⟨2, 0, (th D i).f2, (th D i).f3⟩ D.2.2
set_option maxHeartbeats 1000000 in
theorem mark_any (h : PL w D K g0 c0 A c base) (hi : i < D.2.1.length) :
    Calls Try.prog 82 #[.pointer (some ⟨K, 0, none⟩), .pointer (some ⟨g0, i * 4, none⟩)] w (PlR w (mkD D i) K g0 c0 A base) := by
  have HP := Lib.hid h
  have HI := Lib.hid hi
  have hC := h.cells hi
  obtain ⟨t, ht⟩ : ∃ t, th D i = t := ⟨_, rfl⟩
  have HTT := Lib.hid ht
  rw [ht] at hC
  obtain ⟨W, hW⟩ : ∃ W, D.1 = W := ⟨_, rfl⟩
  have HW := Lib.hid hW
  rw [hW] at hC
  obtain ⟨p0, p1, p2, pf0, pf2, d0, d1, d2, d3, df0, df1, df2, df3, k1, k2, kl, gl⟩ := hC
  obtain ⟨t0, t1, t2, t3⟩ := t
  dsimp only at d0 d1 d2 d3
  unfold mkD
  by_cases h2 : (th D i).f1 = 2
  · rw [if_pos h2]
    obtain rfl : t1 = 2 := by rw [ht] at h2; exact h2
    clear h hi ht h2 hW p0 p1 p2
    go_enter Try.func82, Try.ntmps82
    go_wp2_with fail
    refine bodyPost_end (results_none rfl _ _ _) rfl ⟨A, c, rfl, ?_, ((Foot.refl w _).set fpL_g _ _).set fpL_g _ _, fun a e => Or.inl ⟨a, e, rfl⟩⟩
    have h1 := (HP.out.fld0 HI.out HTT.out 2).fld1 (t := ⟨2, 2, t2, t3⟩) (by rw [List.length_set]; exact HI.out) (th_setS HI.out) 0
    dsimp only at h1
    rw [List.set_set] at h1
    rw [HTT.out]
    exact h1
  · rw [if_neg h2]
    have e2 : (t1 == 2) = false := by
      rw [ht] at h2
      simpa using h2
    by_cases h0 : D.1 = 0
    · rw [if_pos h0]
      obtain rfl : W = 0 := by rw [← HW.out]; exact h0
      clear h hi ht h0 hW h2 p1 p2
      go_enter Try.func82, Try.ntmps82
      go_wp2_with fail
      refine bodyPost_end (results_none rfl _ _ _) rfl ⟨A, c, rfl, ?_, ((Foot.refl w _).set fpL_g _ _).set fpL_g _ _, fun a e => Or.inl ⟨a, e, rfl⟩⟩
      have h1 := (HP.out.fld0 HI.out HTT.out 3).fld1 (t := ⟨3, t1, t2, t3⟩) (by rw [List.length_set]; exact HI.out) (th_setS HI.out) 0
      dsimp only at h1
      rw [List.set_set] at h1
      rw [HTT.out]
      exact h1
    · rw [if_neg h0]
      have e0 : (W == 0) = false := by
        rw [HW.out] at h0
        simpa using h0
      clear h hi ht h0 hW h2 p1 p2
      go_enter Try.func82, Try.ntmps82
      go_wp2_with fail
      refine bodyPost_end (results_none rfl _ _ _) rfl ⟨A, c, rfl, ?_, (((Foot.refl w _).set fpL_K _ _).set fpL_g _ _).set fpL_g _ _, fun a e => Or.inl ⟨a, e, rfl⟩⟩
      have h1 := ((HP.out.word 2).fld0 (i := i) HI.out (t := ⟨t0, t1, t2, t3⟩) HTT.out 2).fld1 (t := ⟨2, t1, t2, t3⟩) (by rw [List.length_set]; exact HI.out) (th_setS HI.out) 0
      dsimp only at h1
      rw [List.set_set] at h1
      rw [HTT.out]
      exact h1
/-- what leave makes of a lock -/
def lvD (D : Lk) (i : Nat) : Lk := if D.1 = 2 then putT D 1 i ⟨5, (th D i).f1, (th D i).f2, (th D i).f3⟩ D.2.2 else putT D 0 i ⟨0, (th D i).f1, (th D i).f2 - 1, (th D i).f3⟩ D.2.2
set_option maxHeartbeats 1000000 in
theorem leave_any (h : PL w D K g0 c0 A c base) (hi : i < D.2.1.length) (hu : 0 ≤ (th D i).f2 ∧ (th D i).f2 ≤ 3) :
    Calls Try.prog 84 #[.pointer (some ⟨K, 0, none⟩), .pointer (some ⟨g0, i * 4, none⟩)] w (PlR w (lvD D i) K g0 c0 A base) := by
  have HP := Lib.hid h
  have HI := Lib.hid hi
  have hC := h.cells hi
  obtain ⟨t, ht⟩ : ∃ t, th D i = t := ⟨_, rfl⟩
  have HTT := Lib.hid ht
  rw [ht] at hC
  obtain ⟨W, hW⟩ : ∃ W, D.1 = W := ⟨_, rfl⟩
  have HW := Lib.hid hW
  rw [hW] at hC
  obtain ⟨p0, p1, p2, pf0, pf2, d0, d1, d2, d3, df0, df1, df2, df3, k1, k2, kl, gl⟩ := hC
  obtain ⟨t0, t1, t2, t3⟩ := t
  dsimp only at d0 d1 d2 d3
  unfold lvD
  by_cases h2 : D.1 = 2
  · rw [if_pos h2]
    obtain rfl : W = 2 := by rw [← HW.out]; exact h2
    clear h hi ht h2 hW hu d1 d2 d3 p1 p2
    go_enter Try.func84, Try.ntmps84
    go_wp2_with fail
    refine bodyPost_ret (v := .tuple #[]) (results_none rfl _ _ _) rfl ⟨A, c, rfl, ?_, ((Foot.refl w _).set fpL_K _ _).set fpL_g _ _, fun a e => Or.inl ⟨a, e, rfl⟩⟩
    have h1 := (HP.out.word 1).fld0 (i := i) HI.out (t := ⟨t0, t1, t2, t3⟩) HTT.out 5
    rw [HTT.out]
    exact h1
  · rw [if_neg h2]
    have e2 : (W == 2) = false := by
      rw [HW.out] at h2
      simpa using h2
    have HU := Lib.hid hu
    clear h hi ht h2 hW hu d0 d1 d2 d3 p1 p2
    go_enter Try.func84, Try.ntmps84
    go_wp2_with fail
    refine (endTurn_any (D := (0, D.2.1, D.2.2)) (HP.out.word 0) HI.out HU.out).mono ?_
    rintro e w1 ⟨A', c', rfl, hp, hf, ha⟩
    have HP1 := Lib.hid hp
    have HF1 := Lib.hid hf
    have HA1 := Lib.hid ha
    clear hp hf ha
    go_wp2_with fail
    refine bodyPost_end (results_none rfl _ _ _) rfl ⟨A', c', rfl, HP1.out, (((Foot.refl w _).set fpL_K _ _).trans HF1.out), fun a e => ?_⟩
    have h9 := HA1.out a e
    rw [World.size_setCell] at h9
    exact h9
end
end Go.Proofs.Ytpmigekejipohaa

/-
  The model's l12Step.
-/
import Derived.Test.YtpmigekejipohaaLS4
namespace Go.Proofs.Ytpmigekejipohaa
open Go.RowKit

theorem atM {w : World} {b o n k : Nat} {l : List EThread} (h : RowM elThread w [b] (some ⟨b, o, none⟩) n l) (hk : k < n) : AtT w b o k (l.getD k thZ) := by
  obtain ⟨b', o', e, _, _, _, hc⟩ := h (by omega)
  injection e with e
  injection e with e1 e2
  subst e1 e2
  exact ⟨hc k hk 0 (by decide), hc k hk 1 (by decide), hc k hk 2 (by decide), hc k hk 3 (by decide)⟩
theorem frzM {w : World} {b o n : Nat} {l : List EThread} (h : RowM elThread w [b] (some ⟨b, o, none⟩) n l) (hn : 0 < n) (i : Nat) : w.frozen? ⟨b, i, none⟩ = false := by
  obtain ⟨b', o', e, _, _, hf, _⟩ := h hn
  injection e with e
  injection e with e1 e2
  subst e1 e2
  exact hf i
theorem ltM {w : World} {b o n : Nat} {l : List EThread} (h : RowM elThread w [b] (some ⟨b, o, none⟩) n l) (hn : 0 < n) : b < w.heap.size := by
  obtain ⟨b', o', e, _, hb, _, _⟩ := h hn
  injection e with e
  injection e with e1 e2
  subst e1 e2
  exact hb
theorem sets4T (w : World) (b i : Nat) (v0 v1 v2 v3 : Value) : sets w b i [v0, v1, v2, v3] = (((w.setCell ⟨b, i, none⟩ v0).setCell ⟨b, i + 1, none⟩ v1).setCell ⟨b, i + 2, none⟩ v2).setCell ⟨b, i + 3, none⟩ v3 := rfl
theorem elCT (a : EThread) : elThread.C a = [.int .i64 a.f0, .int .i64 a.f1, .int .i64 a.f2, .bool a.f3] := rfl
theorem put4M {w : World} {b n k : Nat} {l : List EThread} (h : RowM elThread w [b] (some ⟨b, 0, none⟩) n l) (hl : l.length = n) (hk : k < n) (a : EThread) :
    RowM elThread ((((w.setCell ⟨b, k * 4, none⟩ (.int .i64 a.f0)).setCell ⟨b, k * 4 + 1, none⟩ (.int .i64 a.f1)).setCell ⟨b, k * 4 + 2, none⟩ (.int .i64 a.f2)).setCell ⟨b, k * 4 + 3, none⟩ (.bool a.f3)) [b] (some ⟨b, 0, none⟩) n (l.set k a) := by
  have h1 := h.put hl k hk a
  rw [elCT, sets4T, Nat.zero_add] at h1
  exact h1
/-- a lock in memory of the call's own: what is before base stands -/
structure LM (base : Nat) (w : World) (D : Lk) (g0 g1 c1 : Nat) : Prop where
  row : RowM elThread w [g0] (some ⟨g0, 0, none⟩) D.2.1.length D.2.1
  line : OwnE elI 3 w base (.slice (some ⟨g1, 0, none⟩) D.2.2.length c1) D.2.2
  lo : base ≤ g0
  ne : g0 ≠ g1
/-- what l12Step answers: nothing but the two rows has turned, and a new line lies in new memory -/
def StepR (base : Nat) (w : World) (D : Lk) (g0 o1 c0 : Nat) (e : Ending) (w' : World) : Prop :=
  ∃ g1 c1, e = .returned (.agg #[.int .i64 D.1, .slice (some ⟨g0, 0, none⟩) D.2.1.length c0, .slice (some ⟨g1, 0, none⟩) D.2.2.length c1]) ∧ LM base w' D g0 g1 c1 ∧ Foot w w' [g0, o1] ∧ (g1 = o1 ∨ w.heap.size ≤ g1)
theorem foot_grown {w u w' : World} {fp : List Nat} {row : Option Nat} (h : Foot w u fp) (hg : u.grownBy w' row) (hr : ∀ k, row = some k → k ∈ fp ∨ w.heap.size ≤ k) : Foot w w' fp :=
  ⟨hg.os.trans h.os, hg.tape.trans h.tape, hg.output.trans h.output, Nat.le_trans h.size hg.size, fun i hi hm => (hg.block i (Nat.lt_of_lt_of_le hi h.size) fun e => by
    rcases hr i e.symm with h1 | h1
    · exact hm h1
    · omega).trans (h.block i hi hm)⟩
theorem foot_fresh {w w' : World} {fp : List Nat} (h : Foot w w' fp) {a : Addr} (ha : w.heap.size ≤ a.block) (v : Value) : Foot w (w'.setCell a v) fp :=
  ⟨h.os, h.tape, h.output, by rw [World.size_setCell]; exact h.size, fun k hk hk2 => (heap_setCell_other w' a k v (fun e => by omega)).trans (h.block k hk hk2)⟩
theorem fin4 {w : World} {base g0 g1 c1 n n2 i : Nat} {l : List EThread} {L : List Int} (W' : Int) (hm : RowM elThread w [g0] (some ⟨g0, 0, none⟩) n l) (ho : OwnE elI 3 w base (.slice (some ⟨g1, 0, none⟩) n2 c1) L) (hl : l.length = n) (hl2 : L.length = n2) (hi : i < n)
    (hlo : base ≤ g0) (hne : g0 ≠ g1) (_hb : base ≤ w.heap.size) (a : EThread) (A B C : Obj) :
    LM base ((((((((w.setCell ⟨g0, i * 4, none⟩ (.int .i64 a.f0)).setCell ⟨g0, i * 4 + 1, none⟩ (.int .i64 a.f1)).setCell ⟨g0, i * 4 + 2, none⟩ (.int .i64 a.f2)).setCell ⟨g0, i * 4 + 3, none⟩ (.bool a.f3)).alloc A).alloc B).alloc C)) (W', l.set i a, L) g0 g1 c1 ∧
    Foot w ((((((((w.setCell ⟨g0, i * 4, none⟩ (.int .i64 a.f0)).setCell ⟨g0, i * 4 + 1, none⟩ (.int .i64 a.f1)).setCell ⟨g0, i * 4 + 2, none⟩ (.int .i64 a.f2)).setCell ⟨g0, i * 4 + 3, none⟩ (.bool a.f3)).alloc A).alloc B).alloc C)) [g0, g1] := by
  have h1 := put4M hm hl hi a
  have hne' : g1 ≠ g0 := fun e => hne e.symm
  subst hl2
  have h2 := (((ho.other ⟨g0, i * 4, none⟩ (.int .i64 a.f0) hne').other ⟨g0, i * 4 + 1, none⟩ (.int .i64 a.f1) hne').other ⟨g0, i * 4 + 2, none⟩ (.int .i64 a.f2) hne').other ⟨g0, i * 4 + 3, none⟩ (.bool a.f3) hne'
  have hmem : g0 ∈ [g0, g1] := List.mem_cons_self
  have hbb : Foot w ((((w.setCell ⟨g0, i * 4, none⟩ (.int .i64 a.f0)).setCell ⟨g0, i * 4 + 1, none⟩ (.int .i64 a.f1)).setCell ⟨g0, i * 4 + 2, none⟩ (.int .i64 a.f2)).setCell ⟨g0, i * 4 + 3, none⟩ (.bool a.f3)) [g0, g1] :=
    ((((Foot.refl w [g0, g1]).set hmem (i * 4) (.int .i64 a.f0)).set hmem (i * 4 + 1) (.int .i64 a.f1)).set hmem (i * 4 + 2) (.int .i64 a.f2)).set hmem (i * 4 + 3) (.bool a.f3)
  generalize (((w.setCell ⟨g0, i * 4, none⟩ (.int .i64 a.f0)).setCell ⟨g0, i * 4 + 1, none⟩ (.int .i64 a.f1)).setCell ⟨g0, i * 4 + 2, none⟩ (.int .i64 a.f2)).setCell ⟨g0, i * 4 + 3, none⟩ (.bool a.f3) = u at h1 h2 hbb ⊢
  have hsz := hbb.size
  have hg := ltM h1 (by omega)
  have hal : Below u.heap.size u (((u.alloc A).alloc B).alloc C) := (((Below.refl _ u).alloc (Nat.le_refl _) A).alloc (by rw [World.size_alloc]; omega) B).alloc (by simp only [World.size_alloc]; omega) C
  refine ⟨⟨?_, h2.below hal, hlo, hne⟩, hbb.trans (Foot.of_below hal _)⟩
  have h3 := h1.frame (w' := ((u.alloc A).alloc B).alloc C) fun b hb2 => hal.block b (by rw [List.mem_singleton] at hb2; omega)
  have e : (l.set i a).length = n := by rw [List.length_set]; exact hl
  dsimp only
  rw [e]
  exact h3
theorem rowM_offT {w : World} {g n : Nat} {l : List EThread} (h : RowM elThread w [g] (some ⟨g, 0, none⟩) n l) (a : Addr) (v : Value) (hne : g ≠ a.block) : RowM elThread (w.setCell a v) [g] (some ⟨g, 0, none⟩) n l :=
  h.frame fun b hb => heap_setCell_other _ _ _ _ (by rw [List.mem_singleton] at hb; subst hb; exact hne)
theorem readyM {w : World} {b n k : Nat} {l : List EThread} (h : RowM elThread w [b] (some ⟨b, 0, none⟩) n l) (hl : l.length = n) (hk : k < n) (v : Bool) :
    RowM elThread (w.setCell ⟨b, k * 4 + 3, none⟩ (.bool v)) [b] (some ⟨b, 0, none⟩) n (l.set k ⟨(l.getD k thZ).f0, (l.getD k thZ).f1, (l.getD k thZ).f2, v⟩) := fun hn => by
  obtain ⟨b', o', e, _, hb, hf, hc⟩ := h hn
  injection e with e
  injection e with e1 e2
  subst e1 e2
  refine ⟨b, 0, rfl, rfl, by rw [World.size_setCell]; exact hb, fun i => by simp [hf i], fun j hj r hr => ?_⟩
  have hr4 : r < 4 := hr
  rw [getD_set l k j _ elThread.z (by omega)]
  by_cases e : j = k
  · subst e
    rw [if_pos rfl]
    by_cases e3 : r = 3
    · subst e3
      have h3 := hc j hj 3 (by decide)
      rw [show 0 + j * elThread.K + 3 = j * 4 + 3 from Nat.zero_add _ ▸ rfl] at h3 ⊢
      exact World.cell?_setCell_same w ⟨b, j * 4 + 3, none⟩ _ (h3.trans rfl)
    · rw [World.cell?_setCell_other _ _ _ _ (fun e => by injection e with _ e2; have e4 : j * 4 + 3 = 0 + j * 4 + r := e2; omega)]
      have h3 := hc j hj r hr
      rw [h3]
      rcases (by omega : r = 0 ∨ r = 1 ∨ r = 2) with rfl | rfl | rfl <;> rfl
  · rw [if_neg e, World.cell?_setCell_other _ _ _ _ (fun e5 => by injection e5 with _ e2; have e4 : k * 4 + 3 = 0 + j * 4 + r := e2; omega)]
    exact hc j hj r hr
section
variable {w : World}
set_option maxHeartbeats 8000000 in
theorem l12Step_any {base g0 c0 g1 c1 : Nat} {D : Lk} {i : Nat} (hm : LM base w D g0 g1 c1) (hn2 : D.2.2.length ≤ 4) (hrng : ∀ x ∈ D.2.2, 0 ≤ x ∧ x < (D.2.1.length : Int)) (hb : base ≤ w.heap.size) (hi : i < D.2.1.length) (hn : D.2.1.length ≤ 4) (ht : TOk D.2.2 i (th D i)) (hw : 0 ≤ D.1 ∧ D.1 ≤ 2) (hc : canB D i = true) :
    Calls Try.prog 64 #[.agg #[.int .i64 D.1, .slice (some ⟨g0, 0, none⟩) D.2.1.length c0, .slice (some ⟨g1, 0, none⟩) D.2.2.length c1], .int .i64 i] w (StepR base w (stepD D i) g0 g1 c0) := by
  obtain ⟨W, l, L⟩ := D
  dsimp only at hm hi hn ht hw hn2 hrng ⊢
  obtain ⟨n, hl⟩ : ∃ n, l.length = n := ⟨_, rfl⟩
  obtain ⟨n2, hl2⟩ : ∃ n2, L.length = n2 := ⟨_, rfl⟩
  obtain ⟨hm0, hm1, hlo, hne⟩ := hm
  dsimp only at hm0 hm1
  rw [hl, hl2]
  rw [hl] at hi hn hm0
  rw [hl2] at hm1
  have HM := Lib.hid hm0
  have HO := Lib.hid hm1
  have HL := Lib.hid hl
  have HL2 := Lib.hid hl2
  have HN2 := Lib.hid (show n2 ≤ 4 from by omega)
  have HRNG := Lib.hid hrng
  clear hn2 hrng
  have hz : 0 < n := by omega
  obtain ⟨d0, d1, d2, d3⟩ := atM HM.out hi
  simp only [Nat.zero_add] at d0 d1 d2 d3
  have hb0 := ltM HM.out hz
  obtain ⟨t, hte⟩ : ∃ t, th (W, l, L) i = t := ⟨_, rfl⟩
  rw [show l.getD i thZ = t from hte] at d0 d1 d2 d3
  rw [hte] at ht
  have HT := Lib.hid ht
  have p0 := frzM HM.out hz (i * 4)
  have p1 := frzM HM.out hz (i * 4 + 1)
  have p2 := frzM HM.out hz (i * 4 + 2)
  have p3 := frzM HM.out hz (i * 4 + 3)
  have hbA : g0 < w.heap.size + 1 := by omega
  have hbB : g0 < w.heap.size + 1 + 1 := by omega
  have hn0 : ¬ (g0 = w.heap.size) := by omega
  have hn1 : ¬ (g0 = w.heap.size + 1) := by omega
  have hn2 : ¬ (g0 = w.heap.size + 1 + 1) := by omega
  have hm0' : ¬ (w.heap.size = g0) := by omega
  have hm1' : ¬ (w.heap.size + 1 = g0) := by omega
  have hm2' : ¬ (w.heap.size + 1 + 1 = g0) := by omega
  have hi1 : (i : Int) < n := by omega
  have hi2 : (0 : Int) ≤ i := by omega
  obtain ⟨t0, t1, t2, t3⟩ := t
  dsimp only at d0 d1 d2 d3
  have HE := Lib.hid hte
  have ha := ht.a
  have hu := ht.u
  have hu1 := ht.u1
  clear hm0 hm1 hl hl2 ht hte hc hn
  dsimp only at ha hu hu1 hw
  have hq1 : IntKind.i64.wrap (W - 1) = W - 1 := IntWalk.i64_in _ (by omega)
  have hq2 : IntKind.i64.wrap (t2 - 1) = t2 - 1 := IntWalk.i64_in _ (by omega)
  by_cases h0 : t0 = 0
  · subst h0
    by_cases hW : W = 0
    · subst hW
      have HS := Lib.hid (show stepD (0, l, L) i = (1, l.set i ⟨4, t1, t2, t3⟩, L) from by unfold stepD putT; rw [HE.out]; simp)
      rw [HS.out]
      go_enter Try.func64, Try.ntmps64
      go_wp2_with fail
      refine bodyPost_ret (v := .agg #[.int .i64 (1), .slice (some ⟨g0, 0, none⟩) n c0, .slice (some ⟨g1, 0, none⟩) n2 c1]) (by simp [results, Try.results64, go_sem]) rfl ?_
      have h := fin4 (1) HM.out HO.out HL.out HL2.out hi hlo hne hb ⟨4, t1, t2, t3⟩ (.cells #[.int .i64 (1), .slice (some ⟨g0, 0, none⟩) n c0, .slice (some ⟨g1, 0, none⟩) n2 c1] 28) (.cells #[.int .i64 (1), .slice (some ⟨g0, 0, none⟩) n c0, .slice (some ⟨g1, 0, none⟩) n2 c1] 28) (.cells #[.int .i64 (4), .int .i64 (t1), .int .i64 (t2), .bool t3] 41)
      exact ⟨g1, c1, by simp [HL.out, HL2.out], h.1, h.2, Or.inl rfl⟩
    · have eW : (W == 0) = false := by simpa using hW
      have HW := Lib.hid hW
      clear hW
      have HS := Lib.hid (show stepD (W, l, L) i = (W, l.set i ⟨1, W, t2, t3⟩, L) from by unfold stepD putT; rw [HE.out]; simp [HW.out])
      rw [HS.out]
      go_enter Try.func64, Try.ntmps64
      go_wp2_with fail
      refine bodyPost_ret (v := .agg #[.int .i64 (W), .slice (some ⟨g0, 0, none⟩) n c0, .slice (some ⟨g1, 0, none⟩) n2 c1]) (by simp [results, Try.results64, go_sem]) rfl ?_
      have h := fin4 (W) HM.out HO.out HL.out HL2.out hi hlo hne hb ⟨1, W, t2, t3⟩ (.cells #[.int .i64 (W), .slice (some ⟨g0, 0, none⟩) n c0, .slice (some ⟨g1, 0, none⟩) n2 c1] 28) (.cells #[.int .i64 (W), .slice (some ⟨g0, 0, none⟩) n c0, .slice (some ⟨g1, 0, none⟩) n2 c1] 28) (.cells #[.int .i64 (1), .int .i64 (W), .int .i64 (t2), .bool t3] 41)
      exact ⟨g1, c1, by simp [HL.out, HL2.out], h.1, h.2, Or.inl rfl⟩
  by_cases h3 : t0 = 3
  · subst h3
    by_cases hW : W = 0
    · subst hW
      have HS := Lib.hid (show stepD (0, l, L) i = (2, l.set i ⟨4, t1, t2, t3⟩, L) from by unfold stepD putT; rw [HE.out]; simp)
      rw [HS.out]
      go_enter Try.func64, Try.ntmps64
      go_wp2_with fail
      refine bodyPost_ret (v := .agg #[.int .i64 (2), .slice (some ⟨g0, 0, none⟩) n c0, .slice (some ⟨g1, 0, none⟩) n2 c1]) (by simp [results, Try.results64, go_sem]) rfl ?_
      have h := fin4 (2) HM.out HO.out HL.out HL2.out hi hlo hne hb ⟨4, t1, t2, t3⟩ (.cells #[.int .i64 (2), .slice (some ⟨g0, 0, none⟩) n c0, .slice (some ⟨g1, 0, none⟩) n2 c1] 28) (.cells #[.int .i64 (2), .slice (some ⟨g0, 0, none⟩) n c0, .slice (some ⟨g1, 0, none⟩) n2 c1] 28) (.cells #[.int .i64 (4), .int .i64 (t1), .int .i64 (t2), .bool t3] 41)
      exact ⟨g1, c1, by simp [HL.out, HL2.out], h.1, h.2, Or.inl rfl⟩
    · have eW : (W == 0) = false := by simpa using hW
      have HW := Lib.hid hW
      clear hW
      have HS := Lib.hid (show stepD (W, l, L) i = (W, l.set i ⟨1, W, t2, t3⟩, L) from by unfold stepD putT; rw [HE.out]; simp [HW.out])
      rw [HS.out]
      go_enter Try.func64, Try.ntmps64
      go_wp2_with fail
      refine bodyPost_ret (v := .agg #[.int .i64 (W), .slice (some ⟨g0, 0, none⟩) n c0, .slice (some ⟨g1, 0, none⟩) n2 c1]) (by simp [results, Try.results64, go_sem]) rfl ?_
      have h := fin4 (W) HM.out HO.out HL.out HL2.out hi hlo hne hb ⟨1, W, t2, t3⟩ (.cells #[.int .i64 (W), .slice (some ⟨g0, 0, none⟩) n c0, .slice (some ⟨g1, 0, none⟩) n2 c1] 28) (.cells #[.int .i64 (W), .slice (some ⟨g0, 0, none⟩) n c0, .slice (some ⟨g1, 0, none⟩) n2 c1] 28) (.cells #[.int .i64 (1), .int .i64 (W), .int .i64 (t2), .bool t3] 41)
      exact ⟨g1, c1, by simp [HL.out, HL2.out], h.1, h.2, Or.inl rfl⟩
  by_cases h1 : t0 = 1
  · subst h1
    by_cases hs : t1 = 2
    · subst hs
      have HS := Lib.hid (show stepD (W, l, L) i = (W, l.set i ⟨2, 0, t2, t3⟩, L) from by unfold stepD putT; rw [HE.out]; simp)
      rw [HS.out]
      go_enter Try.func64, Try.ntmps64
      go_wp2_with fail
      refine bodyPost_ret (v := .agg #[.int .i64 (W), .slice (some ⟨g0, 0, none⟩) n c0, .slice (some ⟨g1, 0, none⟩) n2 c1]) (by simp [results, Try.results64, go_sem]) rfl ?_
      have h := fin4 (W) HM.out HO.out HL.out HL2.out hi hlo hne hb ⟨2, 0, t2, t3⟩ (.cells #[.int .i64 (W), .slice (some ⟨g0, 0, none⟩) n c0, .slice (some ⟨g1, 0, none⟩) n2 c1] 28) (.cells #[.int .i64 (W), .slice (some ⟨g0, 0, none⟩) n c0, .slice (some ⟨g1, 0, none⟩) n2 c1] 28) (.cells #[.int .i64 (2), .int .i64 (0), .int .i64 (t2), .bool t3] 41)
      exact ⟨g1, c1, by simp [HL.out, HL2.out], h.1, h.2, Or.inl rfl⟩
    · have eS : (t1 == 2) = false := by simpa using hs
      have HS1 := Lib.hid hs
      clear hs
      by_cases hW : W = 0
      · subst hW
        have HS := Lib.hid (show stepD (0, l, L) i = (0, l.set i ⟨3, 0, t2, t3⟩, L) from by unfold stepD putT; rw [HE.out]; simp [HS1.out])
        rw [HS.out]
        go_enter Try.func64, Try.ntmps64
        go_wp2_with fail
        refine bodyPost_ret (v := .agg #[.int .i64 (0), .slice (some ⟨g0, 0, none⟩) n c0, .slice (some ⟨g1, 0, none⟩) n2 c1]) (by simp [results, Try.results64, go_sem]) rfl ?_
        have h := fin4 (0) HM.out HO.out HL.out HL2.out hi hlo hne hb ⟨3, 0, t2, t3⟩ (.cells #[.int .i64 (0), .slice (some ⟨g0, 0, none⟩) n c0, .slice (some ⟨g1, 0, none⟩) n2 c1] 28) (.cells #[.int .i64 (0), .slice (some ⟨g0, 0, none⟩) n c0, .slice (some ⟨g1, 0, none⟩) n2 c1] 28) (.cells #[.int .i64 (3), .int .i64 (0), .int .i64 (t2), .bool t3] 41)
        exact ⟨g1, c1, by simp [HL.out, HL2.out], h.1, h.2, Or.inl rfl⟩
      · have eW : (W == 0) = false := by simpa using hW
        have HW := Lib.hid hW
        clear hW
        have HS := Lib.hid (show stepD (W, l, L) i = (2, l.set i ⟨2, 0, t2, t3⟩, L) from by unfold stepD putT; rw [HE.out]; simp [HS1.out, HW.out])
        rw [HS.out]
        go_enter Try.func64, Try.ntmps64
        go_wp2_with fail
        refine bodyPost_ret (v := .agg #[.int .i64 (2), .slice (some ⟨g0, 0, none⟩) n c0, .slice (some ⟨g1, 0, none⟩) n2 c1]) (by simp [results, Try.results64, go_sem]) rfl ?_
        have h := fin4 (2) HM.out HO.out HL.out HL2.out hi hlo hne hb ⟨2, 0, t2, t3⟩ (.cells #[.int .i64 (2), .slice (some ⟨g0, 0, none⟩) n c0, .slice (some ⟨g1, 0, none⟩) n2 c1] 28) (.cells #[.int .i64 (2), .slice (some ⟨g0, 0, none⟩) n c0, .slice (some ⟨g1, 0, none⟩) n2 c1] 28) (.cells #[.int .i64 (2), .int .i64 (0), .int .i64 (t2), .bool t3] 41)
        exact ⟨g1, c1, by simp [HL.out, HL2.out], h.1, h.2, Or.inl rfl⟩
  by_cases h2 : t0 = 2
  · subst h2
    by_cases hW : W = 2
    · subst hW
      obtain ⟨iI, hi0, hz0, hz1, hz2⟩ := infoInt
      have HI := Lib.hid hi0
      have HI0 := Lib.hid hz0
      have HI1 := Lib.hid hz1
      have HI2 := Lib.hid hz2
      clear hi0 hz0 hz1 hz2
      have hal : Below w.heap.size w (((w.alloc (.cells #[.int .i64 2, .slice (some ⟨g0, 0, none⟩) n c0, .slice (some ⟨g1, 0, none⟩) n2 c1] 28)).alloc (.cells #[.int .i64 0, .slice none 0 0, .slice none 0 0] 28)).alloc (.cells #[.int .i64 2, .int .i64 t1, .int .i64 t2, .bool true] 41)) := (((Below.refl _ w).alloc (Nat.le_refl _) _).alloc (by rw [World.size_alloc]; omega) _).alloc (by simp only [World.size_alloc]; omega) _
      have X3 := Lib.hid (((Box.new w #[.int .i64 2, .slice (some ⟨g0, 0, none⟩) n c0, .slice (some ⟨g1, 0, none⟩) n2 c1] 28).alloc (.cells #[.int .i64 0, .slice none 0 0, .slice none 0 0] 28)).alloc (.cells #[.int .i64 2, .int .i64 t1, .int .i64 t2, .bool true] 41))
      have Z3 := Lib.hid ((Box.new (w.alloc (.cells #[.int .i64 2, .slice (some ⟨g0, 0, none⟩) n c0, .slice (some ⟨g1, 0, none⟩) n2 c1] 28)) #[.int .i64 0, .slice none 0 0, .slice none 0 0] 28).alloc (.cells #[.int .i64 2, .int .i64 t1, .int .i64 t2, .bool true] 41))
      have T3 := Lib.hid (Box.new ((w.alloc (.cells #[.int .i64 2, .slice (some ⟨g0, 0, none⟩) n c0, .slice (some ⟨g1, 0, none⟩) n2 c1] 28)).alloc (.cells #[.int .i64 0, .slice none 0 0, .slice none 0 0] 28)) #[.int .i64 2, .int .i64 t1, .int .i64 t2, .bool true] 41)
      simp only [World.size_alloc] at Z3 T3
      have HS := Lib.hid (show stepD (2, l, L) i = (2, l.set i ⟨3, t1, t2, true⟩, L ++ [(i : Int)]) from by unfold stepD putT; rw [HE.out]; simp)
      rw [HS.out]
      have hs4 : ((((w.alloc (.cells #[.int .i64 2, .slice (some ⟨g0, 0, none⟩) n c0, .slice (some ⟨g1, 0, none⟩) n2 c1] 28)).alloc (.cells #[.int .i64 0, .slice none 0 0, .slice none 0 0] 28)).alloc (.cells #[.int .i64 2, .int .i64 t1, .int .i64 t2, .bool true] 41)).alloc (.cells #[.int .i64 (i : Int)] 3)).heap.size = w.heap.size + 4 := by simp only [World.size_alloc]
      have X4 := Lib.hid (X3.out.alloc (.cells #[.int .i64 (i : Int)] 3))
      have Z4 := Lib.hid (Z3.out.alloc (.cells #[.int .i64 (i : Int)] 3))
      have T4 := Lib.hid (T3.out.alloc (.cells #[.int .i64 (i : Int)] 3))
      have E4 := Lib.hid (Box.new (((w.alloc (.cells #[.int .i64 2, .slice (some ⟨g0, 0, none⟩) n c0, .slice (some ⟨g1, 0, none⟩) n2 c1] 28)).alloc (.cells #[.int .i64 0, .slice none 0 0, .slice none 0 0] 28)).alloc (.cells #[.int .i64 2, .int .i64 t1, .int .i64 t2, .bool true] 41)) #[.int .i64 (i : Int)] 3)
      simp only [World.size_alloc] at E4
      have hal4 : Below w.heap.size w ((((w.alloc (.cells #[.int .i64 2, .slice (some ⟨g0, 0, none⟩) n c0, .slice (some ⟨g1, 0, none⟩) n2 c1] 28)).alloc (.cells #[.int .i64 0, .slice none 0 0, .slice none 0 0] 28)).alloc (.cells #[.int .i64 2, .int .i64 t1, .int .i64 t2, .bool true] 41)).alloc (.cells #[.int .i64 (i : Int)] 3)) := hal.alloc hal.size _
      have O4 := Lib.hid (HO.out.below hal4)
      have M4 := Lib.hid (HM.out.frame (w' := ((((w.alloc (.cells #[.int .i64 2, .slice (some ⟨g0, 0, none⟩) n c0, .slice (some ⟨g1, 0, none⟩) n2 c1] 28)).alloc (.cells #[.int .i64 0, .slice none 0 0, .slice none 0 0] 28)).alloc (.cells #[.int .i64 2, .int .i64 t1, .int .i64 t2, .bool true] 41)).alloc (.cells #[.int .i64 (i : Int)] 3))) fun b hb2 => hal4.block b (by rw [List.mem_singleton] at hb2; omega))
      have hg1 := (OwnE.lt HO.out).2
      have hg1b := (OwnE.lt HO.out).1
      clear X3 Z3 T3 hal
      go_enter Try.func64, Try.ntmps64
      go_wp2_with (at_builtin
                   refine wpList_append_lies _ rfl _ _ 26 rfl base 3 iI (.int .i64 0) 1 8 Try.underlying26 HI.out HI0.out HI1.out HI2.out rfl (by decide) (.slice (some ⟨g1, 0, none⟩) n2 c1) n2 (L.flatMap elI.C) rfl (show World.ownsRow _ base 3 1 _ n2 _ from by have h := O4.out; unfold OwnE at h; rw [HL2.out] at h; exact h) ⟨w.heap.size + 1 + 1 + 1, 0, none⟩ 1 1 [.int .i64 (i : Int)] rfl rfl ?q1 ?q2 (by omega) ?q3 ?q4 ?q5 _ rfl ?_
                   case q1 => exact World.news_of_block E4.out
                   case q2 => intro u hu; rw [List.mem_singleton.1 hu]; rfl
                   case q3 => have := HN2.out; simp only [maxLen]; omega
                   case q4 => have := HN2.out; omega
                   case q5 => rw [hs4]; omega
                   intro g9 k9 w9 hown hg hat hlt9
                   have hge9 := (World.ownsRow.lt hown g9 rfl).1
                   have hg9 : g9 = g1 ∨ g9 = w.heap.size + 4 := by
                     rcases hat with h | h
                     · left; simpa [Value.ownBlock] using h.symm
                     · right; rw [h, hs4]
                   have hgw : ∀ b, b < w.heap.size + 4 → b ≠ g1 → w9.heap[b]? = ((((w.alloc (.cells #[.int .i64 2, .slice (some ⟨g0, 0, none⟩) n c0, .slice (some ⟨g1, 0, none⟩) n2 c1] 28)).alloc (.cells #[.int .i64 0, .slice none 0 0, .slice none 0 0] 28)).alloc (.cells #[.int .i64 2, .int .i64 t1, .int .i64 t2, .bool true] 41)).alloc (.cells #[.int .i64 (i : Int)] 3)).heap[b]? := fun b hb2 hn' => hg.block b (by rw [hs4]; exact hb2) (by simp [Value.ownBlock]; omega)
                   have X9 := Lib.hid (show Box w9 w.heap.size _ 28 from (hgw _ (by omega) (by omega)).trans X4.out)
                   have Z9 := Lib.hid (show Box w9 (w.heap.size + 1) _ 28 from (hgw _ (by omega) (by omega)).trans Z4.out)
                   have T9 := Lib.hid (show Box w9 (w.heap.size + 1 + 1) _ 41 from (hgw _ (by omega) (by omega)).trans T4.out)
                   have M9 := Lib.hid (M4.out.frame (w' := w9) fun b hb2 => hgw b (by rw [List.mem_singleton] at hb2; omega) (by rw [List.mem_singleton] at hb2; omega))
                   have HLM := Lib.hid HL.out
                   have HL9 := Lib.hid (show (L ++ [(i : Int)]).length = n2 + 1 from by rw [List.length_append, HL2.out]; rfl)
                   have O9 := Lib.hid (show OwnE elI 3 w9 base (.slice (some ⟨g9, 0, none⟩) (n2 + 1) k9) (L ++ [(i : Int)]) from by
                     unfold OwnE
                     rw [HL9.out, List.flatMap_append]
                     exact hown)
                   have B9 := Lib.hid (show Foot w w9 [g0, g1] from foot_grown (Foot.of_below hal4 _) hg (fun k e => by simp [Value.ownBlock] at e; left; simp; omega))
                   clear hown hg hat hgw
                   have k0 := X9.out.cell 0
                   have k1 := X9.out.cell 1
                   have k2 := X9.out.cell 2
                   have kf := X9.out.frz 2
                   have kl := X9.out.lt
                   have e0 := T9.out.cell 0
                   have e1 := T9.out.cell 1
                   have e2 := T9.out.cell 2
                   have e3 := T9.out.cell 3
                   have ef := T9.out.frz 0
                   have ef2 := T9.out.frz 2
                   have el := T9.out.lt
                   have z0 := Z9.out.cell 0
                   have z1 := Z9.out.cell 1
                   have z2 := Z9.out.cell 2
                   have y0 := Z9.out.frz 0
                   have y1 := Z9.out.frz 1
                   have y2 := Z9.out.frz 2
                   have zl := Z9.out.lt
                   simp at k0 k1 k2 e0 e1 e2 e3 z0 z1 z2
                   have hb9 := ltM M9.out hz
                   obtain ⟨f0, f1, f2, f3⟩ := atM M9.out hi
                   simp only [Nat.zero_add] at f0 f1 f2 f3
                   generalize l.getD i thZ = old at f0 f1 f2 f3
                   have r0 := frzM M9.out hz (i * 4)
                   have r1 := frzM M9.out hz (i * 4 + 1)
                   have r2 := frzM M9.out hz (i * 4 + 2)
                   have r3 := frzM M9.out hz (i * 4 + 3))
      go_wp2_with fail
      refine bodyPost_ret (v := .agg #[.int .i64 2, .slice (some ⟨g0, 0, none⟩) n c0, .slice (some ⟨g9, 0, none⟩) (n2 + 1) k9]) (by simp [results, Try.results64, go_sem, z0, z1, z2]) rfl ?_
      have q1 := put4M (rowM_offT (rowM_offT M9.out ⟨w.heap.size, 2, none⟩ (.slice (some ⟨g9, 0, none⟩) (n2 + 1) k9) (by show g0 ≠ w.heap.size; omega)) ⟨w.heap.size + 1 + 1, 0, none⟩ (.int .i64 3) (by show g0 ≠ w.heap.size + 1 + 1; omega)) HLM.out hi ⟨3, t1, t2, true⟩
      have q2 := (rowM_offT (rowM_offT (rowM_offT q1 ⟨w.heap.size + 1, 0, none⟩ (.int .i64 2) (by show g0 ≠ w.heap.size + 1; omega)) ⟨w.heap.size + 1, 1, none⟩ (.slice (some ⟨g0, 0, none⟩) n c0) (by show g0 ≠ w.heap.size + 1; omega)) ⟨w.heap.size + 1, 2, none⟩ (.slice (some ⟨g9, 0, none⟩) (n2 + 1) k9) (by show g0 ≠ w.heap.size + 1; omega))
      have q3 := (((((((((O9.out.other ⟨w.heap.size, 2, none⟩ (.slice (some ⟨g9, 0, none⟩) (n2 + 1) k9) (by show g9 ≠ w.heap.size; omega)).other ⟨w.heap.size + 1 + 1, 0, none⟩ (.int .i64 3) (by show g9 ≠ w.heap.size + 1 + 1; omega)).other ⟨g0, i * 4, none⟩ (.int .i64 (3)) (by show g9 ≠ g0; omega)).other ⟨g0, i * 4 + 1, none⟩ (.int .i64 (t1)) (by show g9 ≠ g0; omega)).other ⟨g0, i * 4 + 2, none⟩ (.int .i64 (t2)) (by show g9 ≠ g0; omega)).other ⟨g0, i * 4 + 3, none⟩ (.bool true) (by show g9 ≠ g0; omega)).other ⟨w.heap.size + 1, 0, none⟩ (.int .i64 2) (by show g9 ≠ w.heap.size + 1; omega)).other ⟨w.heap.size + 1, 1, none⟩ (.slice (some ⟨g0, 0, none⟩) n c0) (by show g9 ≠ w.heap.size + 1; omega)).other ⟨w.heap.size + 1, 2, none⟩ (.slice (some ⟨g9, 0, none⟩) (n2 + 1) k9) (by show g9 ≠ w.heap.size + 1; omega))
      have q4 := (foot_fresh (foot_fresh (foot_fresh (Foot.set (Foot.set (Foot.set (Foot.set (foot_fresh (foot_fresh B9.out (a := ⟨w.heap.size, 2, none⟩) (by show w.heap.size ≤ w.heap.size; omega) (.slice (some ⟨g9, 0, none⟩) (n2 + 1) k9)) (a := ⟨w.heap.size + 1 + 1, 0, none⟩) (by show w.heap.size ≤ w.heap.size + 1 + 1; omega) (.int .i64 3)) (b := g0) List.mem_cons_self (i * 4) (.int .i64 (3))) (b := g0) List.mem_cons_self (i * 4 + 1) (.int .i64 (t1))) (b := g0) List.mem_cons_self (i * 4 + 2) (.int .i64 (t2))) (b := g0) List.mem_cons_self (i * 4 + 3) (.bool true)) (a := ⟨w.heap.size + 1, 0, none⟩) (by show w.heap.size ≤ w.heap.size + 1; omega) (.int .i64 2)) (a := ⟨w.heap.size + 1, 1, none⟩) (by show w.heap.size ≤ w.heap.size + 1; omega) (.slice (some ⟨g0, 0, none⟩) n c0)) (a := ⟨w.heap.size + 1, 2, none⟩) (by show w.heap.size ≤ w.heap.size + 1; omega) (.slice (some ⟨g9, 0, none⟩) (n2 + 1) k9))
      refine ⟨g9, k9, by simp [HLM.out, HL9.out], ⟨?_, ?_, hlo, ?_⟩, q4, by omega⟩
      · dsimp only; rw [show (l.set i (⟨3, t1, t2, true⟩ : EThread)).length = n by rw [List.length_set]; exact HLM.out]; exact q2
      · dsimp only; rw [HL9.out]; exact q3
      · omega
    · have eW : (W == 2) = false := by simpa using hW
      have HW := Lib.hid hW
      clear hW
      have HS := Lib.hid (show stepD (W, l, L) i = (W, l.set i ⟨3, t1, t2, t3⟩, L) from by unfold stepD putT; rw [HE.out]; simp [HW.out])
      rw [HS.out]
      go_enter Try.func64, Try.ntmps64
      go_wp2_with fail
      refine bodyPost_ret (v := .agg #[.int .i64 (W), .slice (some ⟨g0, 0, none⟩) n c0, .slice (some ⟨g1, 0, none⟩) n2 c1]) (by simp [results, Try.results64, go_sem]) rfl ?_
      have h := fin4 (W) HM.out HO.out HL.out HL2.out hi hlo hne hb ⟨3, t1, t2, t3⟩ (.cells #[.int .i64 (W), .slice (some ⟨g0, 0, none⟩) n c0, .slice (some ⟨g1, 0, none⟩) n2 c1] 28) (.cells #[.int .i64 (W), .slice (some ⟨g0, 0, none⟩) n c0, .slice (some ⟨g1, 0, none⟩) n2 c1] 28) (.cells #[.int .i64 (3), .int .i64 (t1), .int .i64 (t2), .bool t3] 41)
      exact ⟨g1, c1, by simp [HL.out, HL2.out], h.1, h.2, Or.inl rfl⟩
  by_cases h4 : t0 = 4
  · subst h4
    by_cases hW : W - 1 ≤ 0
    · have HW := Lib.hid hW
      have HS := Lib.hid (show stepD (W, l, L) i = (0, l.set i ⟨0, t1, t2 - 1, t3⟩, L) from by unfold stepD putT; rw [HE.out]; simp; intro hx; have := HW.out; omega)
      rw [HS.out]
      go_enter Try.func64, Try.ntmps64
      go_wp2_with fail
      refine bodyPost_ret (v := .agg #[.int .i64 (0), .slice (some ⟨g0, 0, none⟩) n c0, .slice (some ⟨g1, 0, none⟩) n2 c1]) (by simp [results, Try.results64, go_sem]) rfl ?_
      have h := fin4 (0) HM.out HO.out HL.out HL2.out hi hlo hne hb ⟨0, t1, t2 - 1, t3⟩ (.cells #[.int .i64 (0), .slice (some ⟨g0, 0, none⟩) n c0, .slice (some ⟨g1, 0, none⟩) n2 c1] 28) (.cells #[.int .i64 (0), .slice (some ⟨g0, 0, none⟩) n c0, .slice (some ⟨g1, 0, none⟩) n2 c1] 28) (.cells #[.int .i64 (0), .int .i64 (t1), .int .i64 (t2 - 1), .bool t3] 41)
      exact ⟨g1, c1, by simp [HL.out, HL2.out], h.1, h.2, Or.inl rfl⟩
    · have HW := Lib.hid hW
      have HS := Lib.hid (show stepD (W, l, L) i = (W - 1, l.set i ⟨5, t1, t2, t3⟩, L) from by unfold stepD putT; rw [HE.out]; simp [HW.out])
      rw [HS.out]
      go_enter Try.func64, Try.ntmps64
      go_wp2_with fail
      refine bodyPost_ret (v := .agg #[.int .i64 (W - 1), .slice (some ⟨g0, 0, none⟩) n c0, .slice (some ⟨g1, 0, none⟩) n2 c1]) (by simp [results, Try.results64, go_sem]) rfl ?_
      have h := fin4 (W - 1) HM.out HO.out HL.out HL2.out hi hlo hne hb ⟨5, t1, t2, t3⟩ (.cells #[.int .i64 (W - 1), .slice (some ⟨g0, 0, none⟩) n c0, .slice (some ⟨g1, 0, none⟩) n2 c1] 28) (.cells #[.int .i64 (W - 1), .slice (some ⟨g0, 0, none⟩) n c0, .slice (some ⟨g1, 0, none⟩) n2 c1] 28) (.cells #[.int .i64 (5), .int .i64 (t1), .int .i64 (t2), .bool t3] 41)
      exact ⟨g1, c1, by simp [HL.out, HL2.out], h.1, h.2, Or.inl rfl⟩
  by_cases h5 : t0 = 5
  · subst h5
    have HS := Lib.hid (show stepD (W, l, L) i = (0, l.set i ⟨6, t1, t2, t3⟩, L) from by unfold stepD putT; rw [HE.out]; simp)
    rw [HS.out]
    go_enter Try.func64, Try.ntmps64
    go_wp2_with fail
    refine bodyPost_ret (v := .agg #[.int .i64 (0), .slice (some ⟨g0, 0, none⟩) n c0, .slice (some ⟨g1, 0, none⟩) n2 c1]) (by simp [results, Try.results64, go_sem]) rfl ?_
    have h := fin4 (0) HM.out HO.out HL.out HL2.out hi hlo hne hb ⟨6, t1, t2, t3⟩ (.cells #[.int .i64 (0), .slice (some ⟨g0, 0, none⟩) n c0, .slice (some ⟨g1, 0, none⟩) n2 c1] 28) (.cells #[.int .i64 (0), .slice (some ⟨g0, 0, none⟩) n c0, .slice (some ⟨g1, 0, none⟩) n2 c1] 28) (.cells #[.int .i64 (6), .int .i64 (t1), .int .i64 (t2), .bool t3] 41)
    exact ⟨g1, c1, by simp [HL.out, HL2.out], h.1, h.2, Or.inl rfl⟩
  obtain rfl : t0 = 6 := by omega
  cases L with
  | nil =>
    obtain rfl : n2 = 0 := HL2.out.symm
    have HS := Lib.hid (show stepD (W, l, []) i = (W, l.set i ⟨0, t1, t2 - 1, t3⟩, []) from by unfold stepD putT; rw [HE.out]; simp)
    rw [HS.out]
    go_enter Try.func64, Try.ntmps64
    go_wp2_with fail
    refine bodyPost_ret (v := .agg #[.int .i64 (W), .slice (some ⟨g0, 0, none⟩) n c0, .slice (some ⟨g1, 0, none⟩) 0 c1]) (by simp [results, Try.results64, go_sem]) rfl ?_
    have h := fin4 (W) HM.out HO.out HL.out HL2.out hi hlo hne hb ⟨0, t1, t2 - 1, t3⟩ (.cells #[.int .i64 (W), .slice (some ⟨g0, 0, none⟩) n c0, .slice (some ⟨g1, 0, none⟩) 0 c1] 28) (.cells #[.int .i64 (W), .slice (some ⟨g0, 0, none⟩) n c0, .slice (some ⟨g1, 0, none⟩) 0 c1] 28) (.cells #[.int .i64 (0), .int .i64 (t1), .int .i64 (t2 - 1), .bool t3] 41)
    exact ⟨g1, c1, by simp [HL.out], h.1, h.2, Or.inl rfl⟩
  | cons x r =>
    obtain ⟨iI, hi0, hz0, hz1, hz2⟩ := infoInt
    have HI := Lib.hid hi0
    have HI0 := Lib.hid hz0
    have HI1 := Lib.hid hz1
    have HI2 := Lib.hid hz2
    clear hi0 hz0 hz1 hz2
    have hx := HRNG.out x List.mem_cons_self
    rw [HL.out] at hx
    obtain ⟨m, rfl⟩ : ∃ m : Nat, x = m := ⟨x.toNat, by omega⟩
    have hm : m < n := by omega
    have hmi : (m : Int) < n := by omega
    have hmi0 : (0 : Int) ≤ m := by omega
    have HS := Lib.hid (show stepD (W, l, (m : Int) :: r) i = (W, (l.set m ⟨(l.getD m thZ).f0, (l.getD m thZ).f1, (l.getD m thZ).f2, false⟩).set i ⟨0, t1, t2 - 1, t3⟩, r) from by unfold stepD putT; rw [HE.out]; simp [th])
    rw [HS.out]
    obtain ⟨_, _, _, dx⟩ := atM HM.out hm
    simp only [Nat.zero_add] at dx
    have px := frzM HM.out hz (m * 4 + 3)
    have hg1 := (OwnE.lt HO.out).2
    have hg1b := (OwnE.lt HO.out).1
    have hcap := OwnE.cap HO.out
    have hrl : n2 = r.length + 1 := HL2.out.symm
    have hlr := OwnE.row HO.out HL2.out.symm
    obtain ⟨b', o', e', _, _, _, hcc⟩ := hlr (by omega)
    injection e' with e'
    injection e' with e1 e2
    subst e1 e2
    have lx := hcc 0 (by omega) 0 (by decide)
    have lx : w.cell? ⟨g1, 0, none⟩ = some (.int .i64 (m : Int)) := lx
    have gA : g1 < w.heap.size + 1 := by omega
    have gB : g1 < w.heap.size + 1 + 1 := by omega
    have gn0 : ¬ (g1 = w.heap.size) := by omega
    have gn1 : ¬ (g1 = w.heap.size + 1) := by omega
    have gn2 : ¬ (g1 = w.heap.size + 1 + 1) := by omega
    have hp1 : 0 < n2 := by omega
    have hp2 : (0 : Int) < n2 := by omega
    have hp3 : (1 : Int) ≤ n2 := by omega
    have hp4 : 1 ≤ n2 := by omega
    have hp5 : n2 ≤ c1 := by rw [HL2.out] at hcap; exact hcap
    have hp6 : (1 : Int) ≤ c1 := by omega
    have hp7 : (n2 : Int) ≤ c1 := by omega
    clear hlr
    have oneI : ∀ a, ∀ u ∈ elI.C a, u.oneCell' = true := by
      intro a u ha
      rw [List.mem_singleton.1 ha]
      rfl
    obtain ⟨wS, hwS⟩ : ∃ wS, w.setCell ⟨g0, m * 4 + 3, none⟩ (.bool false) = wS := ⟨_, rfl⟩
    have hwSs : wS.heap.size = w.heap.size := by rw [← hwS, World.size_setCell]
    have MS := Lib.hid (readyM HM.out HL.out hm false)
    have OS := Lib.hid (HO.out.other ⟨g0, m * 4 + 3, none⟩ (.bool false) (by show g1 ≠ g0; omega))
    have BS := Lib.hid (show Foot w (w.setCell ⟨g0, m * 4 + 3, none⟩ (.bool false)) [g0, g1] from (Foot.refl w [g0, g1]).set List.mem_cons_self (m * 4 + 3) (.bool false))
    rw [hwS] at MS OS BS
    have HLS := Lib.hid (show (l.set m ⟨(l.getD m thZ).f0, (l.getD m thZ).f1, (l.getD m thZ).f2, false⟩).length = n from by rw [List.length_set]; exact HL.out)
    generalize l.set m ⟨(l.getD m thZ).f0, (l.getD m thZ).f1, (l.getD m thZ).f2, false⟩ = lm at HS MS HLS ⊢
    by_cases hc1 : c1 = 1
    · subst hc1
      obtain rfl : r = [] := List.eq_nil_of_length_eq_zero (by omega)
      have hhS : wS.heap.size = w.heap.size := hwSs
      have R4 := Lib.hid (show RowF elI wS wS.heap.size (some ⟨g1, 0, none⟩) 0 [] from fun h => absurd h (Nat.lt_irrefl 0))
      have hal : Below wS.heap.size wS (((wS.alloc (.cells #[.int .i64 W, .slice (some ⟨g0, 0, none⟩) n c0, .slice (some ⟨g1, 0, none⟩) 1 1] 28)).alloc (.cells #[.int .i64 0, .slice none 0 0, .slice none 0 0] 28)).alloc (.cells #[.int .i64 6, .int .i64 t1, .int .i64 t2, .bool t3] 41)) := (((Below.refl _ wS).alloc (Nat.le_refl _) _).alloc (by rw [World.size_alloc]; omega) _).alloc (by simp only [World.size_alloc]; omega) _
      have X3 := Lib.hid (((Box.new wS #[.int .i64 W, .slice (some ⟨g0, 0, none⟩) n c0, .slice (some ⟨g1, 0, none⟩) 1 1] 28).alloc (.cells #[.int .i64 0, .slice none 0 0, .slice none 0 0] 28)).alloc (.cells #[.int .i64 6, .int .i64 t1, .int .i64 t2, .bool t3] 41))
      have Z3 := Lib.hid ((Box.new (wS.alloc (.cells #[.int .i64 W, .slice (some ⟨g0, 0, none⟩) n c0, .slice (some ⟨g1, 0, none⟩) 1 1] 28)) #[.int .i64 0, .slice none 0 0, .slice none 0 0] 28).alloc (.cells #[.int .i64 6, .int .i64 t1, .int .i64 t2, .bool t3] 41))
      have T3 := Lib.hid (Box.new ((wS.alloc (.cells #[.int .i64 W, .slice (some ⟨g0, 0, none⟩) n c0, .slice (some ⟨g1, 0, none⟩) 1 1] 28)).alloc (.cells #[.int .i64 0, .slice none 0 0, .slice none 0 0] 28)) #[.int .i64 6, .int .i64 t1, .int .i64 t2, .bool t3] 41)
      simp only [World.size_alloc, hhS] at X3 Z3 T3
      have hs4 : (((((wS.alloc (.cells #[.int .i64 W, .slice (some ⟨g0, 0, none⟩) n c0, .slice (some ⟨g1, 0, none⟩) 1 1] 28)).alloc (.cells #[.int .i64 0, .slice none 0 0, .slice none 0 0] 28)).alloc (.cells #[.int .i64 6, .int .i64 t1, .int .i64 t2, .bool t3] 41)).alloc (.cells #[] 3)).drew).heap.size = w.heap.size + 4 := by show ((((wS.alloc (.cells #[.int .i64 W, .slice (some ⟨g0, 0, none⟩) n c0, .slice (some ⟨g1, 0, none⟩) 1 1] 28)).alloc (.cells #[.int .i64 0, .slice none 0 0, .slice none 0 0] 28)).alloc (.cells #[.int .i64 6, .int .i64 t1, .int .i64 t2, .bool t3] 41)).alloc (.cells #[] 3)).heap.size = _; simp only [World.size_alloc, hhS]
      have X4 := Lib.hid (show Box (((((wS.alloc (.cells #[.int .i64 W, .slice (some ⟨g0, 0, none⟩) n c0, .slice (some ⟨g1, 0, none⟩) 1 1] 28)).alloc (.cells #[.int .i64 0, .slice none 0 0, .slice none 0 0] 28)).alloc (.cells #[.int .i64 6, .int .i64 t1, .int .i64 t2, .bool t3] 41)).alloc (.cells #[] 3)).drew) w.heap.size _ 28 from X3.out.alloc (.cells #[] 3))
      have Z4 := Lib.hid (show Box (((((wS.alloc (.cells #[.int .i64 W, .slice (some ⟨g0, 0, none⟩) n c0, .slice (some ⟨g1, 0, none⟩) 1 1] 28)).alloc (.cells #[.int .i64 0, .slice none 0 0, .slice none 0 0] 28)).alloc (.cells #[.int .i64 6, .int .i64 t1, .int .i64 t2, .bool t3] 41)).alloc (.cells #[] 3)).drew) (w.heap.size + 1) _ 28 from Z3.out.alloc (.cells #[] 3))
      have T4 := Lib.hid (show Box (((((wS.alloc (.cells #[.int .i64 W, .slice (some ⟨g0, 0, none⟩) n c0, .slice (some ⟨g1, 0, none⟩) 1 1] 28)).alloc (.cells #[.int .i64 0, .slice none 0 0, .slice none 0 0] 28)).alloc (.cells #[.int .i64 6, .int .i64 t1, .int .i64 t2, .bool t3] 41)).alloc (.cells #[] 3)).drew) (w.heap.size + 1 + 1) _ 41 from T3.out.alloc (.cells #[] 3))
      have E3 := Box.new (((wS.alloc (.cells #[.int .i64 W, .slice (some ⟨g0, 0, none⟩) n c0, .slice (some ⟨g1, 0, none⟩) 1 1] 28)).alloc (.cells #[.int .i64 0, .slice none 0 0, .slice none 0 0] 28)).alloc (.cells #[.int .i64 6, .int .i64 t1, .int .i64 t2, .bool t3] 41)) #[] 3
      simp only [World.size_alloc, hhS] at E3
      have E4 := Lib.hid (show Box (((((wS.alloc (.cells #[.int .i64 W, .slice (some ⟨g0, 0, none⟩) n c0, .slice (some ⟨g1, 0, none⟩) 1 1] 28)).alloc (.cells #[.int .i64 0, .slice none 0 0, .slice none 0 0] 28)).alloc (.cells #[.int .i64 6, .int .i64 t1, .int .i64 t2, .bool t3] 41)).alloc (.cells #[] 3)).drew) (w.heap.size + 1 + 1 + 1) #[] 3 from E3)
      have hal4 : Below wS.heap.size wS (((((wS.alloc (.cells #[.int .i64 W, .slice (some ⟨g0, 0, none⟩) n c0, .slice (some ⟨g1, 0, none⟩) 1 1] 28)).alloc (.cells #[.int .i64 0, .slice none 0 0, .slice none 0 0] 28)).alloc (.cells #[.int .i64 6, .int .i64 t1, .int .i64 t2, .bool t3] 41)).alloc (.cells #[] 3)).drew) := (hal.alloc hal.size _).drew
      have R5 := Lib.hid (R4.out.wb hal4)
      have M4 := Lib.hid (MS.out.frame (w' := ((((wS.alloc (.cells #[.int .i64 W, .slice (some ⟨g0, 0, none⟩) n c0, .slice (some ⟨g1, 0, none⟩) 1 1] 28)).alloc (.cells #[.int .i64 0, .slice none 0 0, .slice none 0 0] 28)).alloc (.cells #[.int .i64 6, .int .i64 t1, .int .i64 t2, .bool t3] 41)).alloc (.cells #[] 3)).drew) fun b hb2 => hal4.block b (by rw [List.mem_singleton] at hb2; omega))
      clear X3 Z3 T3 E3 hal R4
      go_enter Try.func64, Try.ntmps64
      go_wp2_with fail
      go_big_region
      go_wp2_with (at_builtin
                   refine wpList_copyE rfl (.tmp 91) (.tmp 94) 26 rfl 3 iI (.int .i64 0) 8 Try.underlying26 HI.out HI0.out HI1.out HI2.out rfl (by decide) oneI (w.heap.size + 1 + 1 + 1) 0 0 (some ⟨g1, 0, none⟩) [] rfl E4.out rfl R5.out rfl ?q3 ?q4 ?_
                   case q3 => have := HN2.out; simp only [maxLen]; omega
                   case q4 => have := HN2.out; omega
                   intro g9 k9 w9 hown hg hg9 hlt9
                   rw [hs4] at hg9
                   have hge9 := hown.lt.1
                   have hgw : ∀ b, b < w.heap.size + 3 → w9.heap[b]? = (((((wS.alloc (.cells #[.int .i64 W, .slice (some ⟨g0, 0, none⟩) n c0, .slice (some ⟨g1, 0, none⟩) 1 1] 28)).alloc (.cells #[.int .i64 0, .slice none 0 0, .slice none 0 0] 28)).alloc (.cells #[.int .i64 6, .int .i64 t1, .int .i64 t2, .bool t3] 41)).alloc (.cells #[] 3)).drew).heap[b]? := fun b hb2 => hg.block b (by rw [hs4]; omega) (by simp; omega)
                   have X9 := Lib.hid (show Box w9 w.heap.size _ 28 from (hgw _ (by omega)).trans X4.out)
                   have Z9 := Lib.hid (show Box w9 (w.heap.size + 1) _ 28 from (hgw _ (by omega)).trans Z4.out)
                   have T9 := Lib.hid (show Box w9 (w.heap.size + 1 + 1) _ 41 from (hgw _ (by omega)).trans T4.out)
                   have M9 := Lib.hid (M4.out.frame (w' := w9) fun b hb2 => hgw b (by rw [List.mem_singleton] at hb2; omega))
                   have HLM := Lib.hid HLS.out
                   have HL9 := Lib.hid (rfl : ([] : List Int).length = 0)
                   have O9 := Lib.hid (show OwnE elI 3 w9 base (.slice (some ⟨g9, 0, none⟩) 0 k9) [] from hown.low (by omega))
                   have B9 := Lib.hid (show Foot w w9 [g0, g1] from foot_grown (BS.out.trans (Foot.of_below hal4 _)) hg (fun k e => by injection e with e; right; omega))
                   clear hown hg hgw
                   have k0 := X9.out.cell 0
                   have k1 := X9.out.cell 1
                   have k2 := X9.out.cell 2
                   have kf := X9.out.frz 2
                   have kl := X9.out.lt
                   have e0 := T9.out.cell 0
                   have e1 := T9.out.cell 1
                   have e2 := T9.out.cell 2
                   have e3 := T9.out.cell 3
                   have ef := T9.out.frz 0
                   have ef2 := T9.out.frz 2
                   have el := T9.out.lt
                   have z0 := Z9.out.cell 0
                   have z1 := Z9.out.cell 1
                   have z2 := Z9.out.cell 2
                   have y0 := Z9.out.frz 0
                   have y1 := Z9.out.frz 1
                   have y2 := Z9.out.frz 2
                   have zl := Z9.out.lt
                   simp at k0 k1 k2 e0 e1 e2 e3 z0 z1 z2
                   have hb9 := ltM M9.out hz
                   obtain ⟨f0, f1, f2, f3⟩ := atM M9.out hi
                   simp only [Nat.zero_add] at f0 f1 f2 f3
                   generalize lm.getD i thZ = old at f0 f1 f2 f3
                   have r0 := frzM M9.out hz (i * 4)
                   have r1 := frzM M9.out hz (i * 4 + 1)
                   have r2 := frzM M9.out hz (i * 4 + 2)
                   have r3 := frzM M9.out hz (i * 4 + 3))
      go_wp2_with fail
      refine bodyPost_ret (v := .agg #[.int .i64 W, .slice (some ⟨g0, 0, none⟩) n c0, .slice (some ⟨g9, 0, none⟩) 0 k9]) (by simp [results, Try.results64, go_sem, z0, z1, z2]) rfl ?_
      have q1 := put4M (rowM_offT (rowM_offT (rowM_offT M9.out ⟨w.heap.size, 2, none⟩ (.slice (some ⟨g9, 0, none⟩) 0 k9) (by show g0 ≠ w.heap.size; omega)) ⟨w.heap.size + 1 + 1, 0, none⟩ (.int .i64 0) (by show g0 ≠ w.heap.size + 1 + 1; omega)) ⟨w.heap.size + 1 + 1, 2, none⟩ (.int .i64 (t2 - 1)) (by show g0 ≠ w.heap.size + 1 + 1; omega)) HLM.out hi ⟨0, t1, t2 - 1, t3⟩
      have q2 := (rowM_offT (rowM_offT (rowM_offT q1 ⟨w.heap.size + 1, 0, none⟩ (.int .i64 W) (by show g0 ≠ w.heap.size + 1; omega)) ⟨w.heap.size + 1, 1, none⟩ (.slice (some ⟨g0, 0, none⟩) n c0) (by show g0 ≠ w.heap.size + 1; omega)) ⟨w.heap.size + 1, 2, none⟩ (.slice (some ⟨g9, 0, none⟩) 0 k9) (by show g0 ≠ w.heap.size + 1; omega))
      have q3 := ((((((((((O9.out.other ⟨w.heap.size, 2, none⟩ (.slice (some ⟨g9, 0, none⟩) 0 k9) (by show g9 ≠ w.heap.size; omega)).other ⟨w.heap.size + 1 + 1, 0, none⟩ (.int .i64 0) (by show g9 ≠ w.heap.size + 1 + 1; omega)).other ⟨w.heap.size + 1 + 1, 2, none⟩ (.int .i64 (t2 - 1)) (by show g9 ≠ w.heap.size + 1 + 1; omega)).other ⟨g0, i * 4, none⟩ (.int .i64 (0)) (by show g9 ≠ g0; omega)).other ⟨g0, i * 4 + 1, none⟩ (.int .i64 (t1)) (by show g9 ≠ g0; omega)).other ⟨g0, i * 4 + 2, none⟩ (.int .i64 (t2 - 1)) (by show g9 ≠ g0; omega)).other ⟨g0, i * 4 + 3, none⟩ (.bool t3) (by show g9 ≠ g0; omega)).other ⟨w.heap.size + 1, 0, none⟩ (.int .i64 W) (by show g9 ≠ w.heap.size + 1; omega)).other ⟨w.heap.size + 1, 1, none⟩ (.slice (some ⟨g0, 0, none⟩) n c0) (by show g9 ≠ w.heap.size + 1; omega)).other ⟨w.heap.size + 1, 2, none⟩ (.slice (some ⟨g9, 0, none⟩) 0 k9) (by show g9 ≠ w.heap.size + 1; omega))
      have q4 := (foot_fresh (foot_fresh (foot_fresh (Foot.set (Foot.set (Foot.set (Foot.set (foot_fresh (foot_fresh (foot_fresh B9.out (a := ⟨w.heap.size, 2, none⟩) (by show w.heap.size ≤ w.heap.size; omega) (.slice (some ⟨g9, 0, none⟩) 0 k9)) (a := ⟨w.heap.size + 1 + 1, 0, none⟩) (by show w.heap.size ≤ w.heap.size + 1 + 1; omega) (.int .i64 0)) (a := ⟨w.heap.size + 1 + 1, 2, none⟩) (by show w.heap.size ≤ w.heap.size + 1 + 1; omega) (.int .i64 (t2 - 1))) (b := g0) List.mem_cons_self (i * 4) (.int .i64 (0))) (b := g0) List.mem_cons_self (i * 4 + 1) (.int .i64 (t1))) (b := g0) List.mem_cons_self (i * 4 + 2) (.int .i64 (t2 - 1))) (b := g0) List.mem_cons_self (i * 4 + 3) (.bool t3)) (a := ⟨w.heap.size + 1, 0, none⟩) (by show w.heap.size ≤ w.heap.size + 1; omega) (.int .i64 W)) (a := ⟨w.heap.size + 1, 1, none⟩) (by show w.heap.size ≤ w.heap.size + 1; omega) (.slice (some ⟨g0, 0, none⟩) n c0)) (a := ⟨w.heap.size + 1, 2, none⟩) (by show w.heap.size ≤ w.heap.size + 1; omega) (.slice (some ⟨g9, 0, none⟩) 0 k9))
      refine ⟨g9, k9, by simp [HLM.out], ⟨?_, ?_, hlo, ?_⟩, q4, by omega⟩
      · dsimp only; rw [show (lm.set i (⟨0, t1, t2 - 1, t3⟩ : EThread)).length = n by rw [List.length_set]; exact HLM.out]; exact q2
      · dsimp only; exact q3
      · omega
    · have hc2 : ¬ (c1 = 1) := hc1
      have hhS : wS.heap.size = w.heap.size := hwSs
      have R4 := Lib.hid (show RowF elI wS wS.heap.size (some ⟨g1, 1, none⟩) r.length r from fun h0 => by
        refine ⟨g1, 1, rfl, by omega, by omega, fun k hk q hq => ?_⟩
        have hq1 : q < 1 := hq
        obtain rfl : q = 0 := by omega
        have h1 := hcc (k + 1) (by omega) 0 (by decide)
        have h2 : w.cell? ⟨g1, 1 + k, none⟩ = some (.int .i64 (r.getD k 0)) := by
          rw [show 1 + k = 0 + (k + 1) * elI.K + 0 by show 1 + k = 0 + (k + 1) * 1 + 0; omega, h1]
          simp [elI]
        have h3 : wS.cell? ⟨g1, 1 + k, none⟩ = some (.int .i64 (r.getD k 0)) := by
          rw [← hwS, World.cell?_setCell_other _ _ _ _ (fun e => by injection e with e1 _; exact hne e1)]
          exact h2
        rw [show 1 + k * elI.K + 0 = 1 + k by show 1 + k * 1 + 0 = 1 + k; omega]
        exact h3)
      have hal : Below wS.heap.size wS (((wS.alloc (.cells #[.int .i64 W, .slice (some ⟨g0, 0, none⟩) n c0, .slice (some ⟨g1, 0, none⟩) (r.length + 1) c1] 28)).alloc (.cells #[.int .i64 0, .slice none 0 0, .slice none 0 0] 28)).alloc (.cells #[.int .i64 6, .int .i64 t1, .int .i64 t2, .bool t3] 41)) := (((Below.refl _ wS).alloc (Nat.le_refl _) _).alloc (by rw [World.size_alloc]; omega) _).alloc (by simp only [World.size_alloc]; omega) _
      have X3 := Lib.hid (((Box.new wS #[.int .i64 W, .slice (some ⟨g0, 0, none⟩) n c0, .slice (some ⟨g1, 0, none⟩) (r.length + 1) c1] 28).alloc (.cells #[.int .i64 0, .slice none 0 0, .slice none 0 0] 28)).alloc (.cells #[.int .i64 6, .int .i64 t1, .int .i64 t2, .bool t3] 41))
      have Z3 := Lib.hid ((Box.new (wS.alloc (.cells #[.int .i64 W, .slice (some ⟨g0, 0, none⟩) n c0, .slice (some ⟨g1, 0, none⟩) (r.length + 1) c1] 28)) #[.int .i64 0, .slice none 0 0, .slice none 0 0] 28).alloc (.cells #[.int .i64 6, .int .i64 t1, .int .i64 t2, .bool t3] 41))
      have T3 := Lib.hid (Box.new ((wS.alloc (.cells #[.int .i64 W, .slice (some ⟨g0, 0, none⟩) n c0, .slice (some ⟨g1, 0, none⟩) (r.length + 1) c1] 28)).alloc (.cells #[.int .i64 0, .slice none 0 0, .slice none 0 0] 28)) #[.int .i64 6, .int .i64 t1, .int .i64 t2, .bool t3] 41)
      simp only [World.size_alloc, hhS] at X3 Z3 T3
      have hs4 : (((((wS.alloc (.cells #[.int .i64 W, .slice (some ⟨g0, 0, none⟩) n c0, .slice (some ⟨g1, 0, none⟩) (r.length + 1) c1] 28)).alloc (.cells #[.int .i64 0, .slice none 0 0, .slice none 0 0] 28)).alloc (.cells #[.int .i64 6, .int .i64 t1, .int .i64 t2, .bool t3] 41)).alloc (.cells #[] 3)).drew).heap.size = w.heap.size + 4 := by show ((((wS.alloc (.cells #[.int .i64 W, .slice (some ⟨g0, 0, none⟩) n c0, .slice (some ⟨g1, 0, none⟩) (r.length + 1) c1] 28)).alloc (.cells #[.int .i64 0, .slice none 0 0, .slice none 0 0] 28)).alloc (.cells #[.int .i64 6, .int .i64 t1, .int .i64 t2, .bool t3] 41)).alloc (.cells #[] 3)).heap.size = _; simp only [World.size_alloc, hhS]
      have X4 := Lib.hid (show Box (((((wS.alloc (.cells #[.int .i64 W, .slice (some ⟨g0, 0, none⟩) n c0, .slice (some ⟨g1, 0, none⟩) (r.length + 1) c1] 28)).alloc (.cells #[.int .i64 0, .slice none 0 0, .slice none 0 0] 28)).alloc (.cells #[.int .i64 6, .int .i64 t1, .int .i64 t2, .bool t3] 41)).alloc (.cells #[] 3)).drew) w.heap.size _ 28 from X3.out.alloc (.cells #[] 3))
      have Z4 := Lib.hid (show Box (((((wS.alloc (.cells #[.int .i64 W, .slice (some ⟨g0, 0, none⟩) n c0, .slice (some ⟨g1, 0, none⟩) (r.length + 1) c1] 28)).alloc (.cells #[.int .i64 0, .slice none 0 0, .slice none 0 0] 28)).alloc (.cells #[.int .i64 6, .int .i64 t1, .int .i64 t2, .bool t3] 41)).alloc (.cells #[] 3)).drew) (w.heap.size + 1) _ 28 from Z3.out.alloc (.cells #[] 3))
      have T4 := Lib.hid (show Box (((((wS.alloc (.cells #[.int .i64 W, .slice (some ⟨g0, 0, none⟩) n c0, .slice (some ⟨g1, 0, none⟩) (r.length + 1) c1] 28)).alloc (.cells #[.int .i64 0, .slice none 0 0, .slice none 0 0] 28)).alloc (.cells #[.int .i64 6, .int .i64 t1, .int .i64 t2, .bool t3] 41)).alloc (.cells #[] 3)).drew) (w.heap.size + 1 + 1) _ 41 from T3.out.alloc (.cells #[] 3))
      have E3 := Box.new (((wS.alloc (.cells #[.int .i64 W, .slice (some ⟨g0, 0, none⟩) n c0, .slice (some ⟨g1, 0, none⟩) (r.length + 1) c1] 28)).alloc (.cells #[.int .i64 0, .slice none 0 0, .slice none 0 0] 28)).alloc (.cells #[.int .i64 6, .int .i64 t1, .int .i64 t2, .bool t3] 41)) #[] 3
      simp only [World.size_alloc, hhS] at E3
      have E4 := Lib.hid (show Box (((((wS.alloc (.cells #[.int .i64 W, .slice (some ⟨g0, 0, none⟩) n c0, .slice (some ⟨g1, 0, none⟩) (r.length + 1) c1] 28)).alloc (.cells #[.int .i64 0, .slice none 0 0, .slice none 0 0] 28)).alloc (.cells #[.int .i64 6, .int .i64 t1, .int .i64 t2, .bool t3] 41)).alloc (.cells #[] 3)).drew) (w.heap.size + 1 + 1 + 1) #[] 3 from E3)
      have hal4 : Below wS.heap.size wS (((((wS.alloc (.cells #[.int .i64 W, .slice (some ⟨g0, 0, none⟩) n c0, .slice (some ⟨g1, 0, none⟩) (r.length + 1) c1] 28)).alloc (.cells #[.int .i64 0, .slice none 0 0, .slice none 0 0] 28)).alloc (.cells #[.int .i64 6, .int .i64 t1, .int .i64 t2, .bool t3] 41)).alloc (.cells #[] 3)).drew) := (hal.alloc hal.size _).drew
      have R5 := Lib.hid (R4.out.wb hal4)
      have M4 := Lib.hid (MS.out.frame (w' := ((((wS.alloc (.cells #[.int .i64 W, .slice (some ⟨g0, 0, none⟩) n c0, .slice (some ⟨g1, 0, none⟩) (r.length + 1) c1] 28)).alloc (.cells #[.int .i64 0, .slice none 0 0, .slice none 0 0] 28)).alloc (.cells #[.int .i64 6, .int .i64 t1, .int .i64 t2, .bool t3] 41)).alloc (.cells #[] 3)).drew) fun b hb2 => hal4.block b (by rw [List.mem_singleton] at hb2; omega))
      clear X3 Z3 T3 E3 hal R4
      go_enter Try.func64, Try.ntmps64
      go_wp2_with fail
      go_big_region
      go_wp2_with (at_builtin
                   refine wpList_copyE rfl (.tmp 91) (.tmp 94) 26 rfl 3 iI (.int .i64 0) 8 Try.underlying26 HI.out HI0.out HI1.out HI2.out rfl (by decide) oneI (w.heap.size + 1 + 1 + 1) r.length (c1 - 1) (some ⟨g1, 1, none⟩) r rfl E4.out rfl R5.out rfl ?q3 ?q4 ?_
                   case q3 => have := HN2.out; simp only [maxLen]; omega
                   case q4 => have := HN2.out; omega
                   intro g9 k9 w9 hown hg hg9 hlt9
                   rw [hs4] at hg9
                   have hge9 := hown.lt.1
                   have hgw : ∀ b, b < w.heap.size + 3 → w9.heap[b]? = (((((wS.alloc (.cells #[.int .i64 W, .slice (some ⟨g0, 0, none⟩) n c0, .slice (some ⟨g1, 0, none⟩) (r.length + 1) c1] 28)).alloc (.cells #[.int .i64 0, .slice none 0 0, .slice none 0 0] 28)).alloc (.cells #[.int .i64 6, .int .i64 t1, .int .i64 t2, .bool t3] 41)).alloc (.cells #[] 3)).drew).heap[b]? := fun b hb2 => hg.block b (by rw [hs4]; omega) (by simp; omega)
                   have X9 := Lib.hid (show Box w9 w.heap.size _ 28 from (hgw _ (by omega)).trans X4.out)
                   have Z9 := Lib.hid (show Box w9 (w.heap.size + 1) _ 28 from (hgw _ (by omega)).trans Z4.out)
                   have T9 := Lib.hid (show Box w9 (w.heap.size + 1 + 1) _ 41 from (hgw _ (by omega)).trans T4.out)
                   have M9 := Lib.hid (M4.out.frame (w' := w9) fun b hb2 => hgw b (by rw [List.mem_singleton] at hb2; omega))
                   have HLM := Lib.hid HLS.out
                   have HL9 := Lib.hid (rfl : (r : List Int).length = r.length)
                   have O9 := Lib.hid (show OwnE elI 3 w9 base (.slice (some ⟨g9, 0, none⟩) r.length k9) r from hown.low (by omega))
                   have B9 := Lib.hid (show Foot w w9 [g0, g1] from foot_grown (BS.out.trans (Foot.of_below hal4 _)) hg (fun k e => by injection e with e; right; omega))
                   clear hown hg hgw
                   have k0 := X9.out.cell 0
                   have k1 := X9.out.cell 1
                   have k2 := X9.out.cell 2
                   have kf := X9.out.frz 2
                   have kl := X9.out.lt
                   have e0 := T9.out.cell 0
                   have e1 := T9.out.cell 1
                   have e2 := T9.out.cell 2
                   have e3 := T9.out.cell 3
                   have ef := T9.out.frz 0
                   have ef2 := T9.out.frz 2
                   have el := T9.out.lt
                   have z0 := Z9.out.cell 0
                   have z1 := Z9.out.cell 1
                   have z2 := Z9.out.cell 2
                   have y0 := Z9.out.frz 0
                   have y1 := Z9.out.frz 1
                   have y2 := Z9.out.frz 2
                   have zl := Z9.out.lt
                   simp at k0 k1 k2 e0 e1 e2 e3 z0 z1 z2
                   have hb9 := ltM M9.out hz
                   obtain ⟨f0, f1, f2, f3⟩ := atM M9.out hi
                   simp only [Nat.zero_add] at f0 f1 f2 f3
                   generalize lm.getD i thZ = old at f0 f1 f2 f3
                   have r0 := frzM M9.out hz (i * 4)
                   have r1 := frzM M9.out hz (i * 4 + 1)
                   have r2 := frzM M9.out hz (i * 4 + 2)
                   have r3 := frzM M9.out hz (i * 4 + 3))
      go_wp2_with fail
      refine bodyPost_ret (v := .agg #[.int .i64 W, .slice (some ⟨g0, 0, none⟩) n c0, .slice (some ⟨g9, 0, none⟩) r.length k9]) (by simp [results, Try.results64, go_sem, z0, z1, z2]) rfl ?_
      have q1 := put4M (rowM_offT (rowM_offT (rowM_offT M9.out ⟨w.heap.size, 2, none⟩ (.slice (some ⟨g9, 0, none⟩) r.length k9) (by show g0 ≠ w.heap.size; omega)) ⟨w.heap.size + 1 + 1, 0, none⟩ (.int .i64 0) (by show g0 ≠ w.heap.size + 1 + 1; omega)) ⟨w.heap.size + 1 + 1, 2, none⟩ (.int .i64 (t2 - 1)) (by show g0 ≠ w.heap.size + 1 + 1; omega)) HLM.out hi ⟨0, t1, t2 - 1, t3⟩
      have q2 := (rowM_offT (rowM_offT (rowM_offT q1 ⟨w.heap.size + 1, 0, none⟩ (.int .i64 W) (by show g0 ≠ w.heap.size + 1; omega)) ⟨w.heap.size + 1, 1, none⟩ (.slice (some ⟨g0, 0, none⟩) n c0) (by show g0 ≠ w.heap.size + 1; omega)) ⟨w.heap.size + 1, 2, none⟩ (.slice (some ⟨g9, 0, none⟩) r.length k9) (by show g0 ≠ w.heap.size + 1; omega))
      have q3 := ((((((((((O9.out.other ⟨w.heap.size, 2, none⟩ (.slice (some ⟨g9, 0, none⟩) r.length k9) (by show g9 ≠ w.heap.size; omega)).other ⟨w.heap.size + 1 + 1, 0, none⟩ (.int .i64 0) (by show g9 ≠ w.heap.size + 1 + 1; omega)).other ⟨w.heap.size + 1 + 1, 2, none⟩ (.int .i64 (t2 - 1)) (by show g9 ≠ w.heap.size + 1 + 1; omega)).other ⟨g0, i * 4, none⟩ (.int .i64 (0)) (by show g9 ≠ g0; omega)).other ⟨g0, i * 4 + 1, none⟩ (.int .i64 (t1)) (by show g9 ≠ g0; omega)).other ⟨g0, i * 4 + 2, none⟩ (.int .i64 (t2 - 1)) (by show g9 ≠ g0; omega)).other ⟨g0, i * 4 + 3, none⟩ (.bool t3) (by show g9 ≠ g0; omega)).other ⟨w.heap.size + 1, 0, none⟩ (.int .i64 W) (by show g9 ≠ w.heap.size + 1; omega)).other ⟨w.heap.size + 1, 1, none⟩ (.slice (some ⟨g0, 0, none⟩) n c0) (by show g9 ≠ w.heap.size + 1; omega)).other ⟨w.heap.size + 1, 2, none⟩ (.slice (some ⟨g9, 0, none⟩) r.length k9) (by show g9 ≠ w.heap.size + 1; omega))
      have q4 := (foot_fresh (foot_fresh (foot_fresh (Foot.set (Foot.set (Foot.set (Foot.set (foot_fresh (foot_fresh (foot_fresh B9.out (a := ⟨w.heap.size, 2, none⟩) (by show w.heap.size ≤ w.heap.size; omega) (.slice (some ⟨g9, 0, none⟩) r.length k9)) (a := ⟨w.heap.size + 1 + 1, 0, none⟩) (by show w.heap.size ≤ w.heap.size + 1 + 1; omega) (.int .i64 0)) (a := ⟨w.heap.size + 1 + 1, 2, none⟩) (by show w.heap.size ≤ w.heap.size + 1 + 1; omega) (.int .i64 (t2 - 1))) (b := g0) List.mem_cons_self (i * 4) (.int .i64 (0))) (b := g0) List.mem_cons_self (i * 4 + 1) (.int .i64 (t1))) (b := g0) List.mem_cons_self (i * 4 + 2) (.int .i64 (t2 - 1))) (b := g0) List.mem_cons_self (i * 4 + 3) (.bool t3)) (a := ⟨w.heap.size + 1, 0, none⟩) (by show w.heap.size ≤ w.heap.size + 1; omega) (.int .i64 W)) (a := ⟨w.heap.size + 1, 1, none⟩) (by show w.heap.size ≤ w.heap.size + 1; omega) (.slice (some ⟨g0, 0, none⟩) n c0)) (a := ⟨w.heap.size + 1, 2, none⟩) (by show w.heap.size ≤ w.heap.size + 1; omega) (.slice (some ⟨g9, 0, none⟩) r.length k9))
      refine ⟨g9, k9, by simp [HLM.out], ⟨?_, ?_, hlo, ?_⟩, q4, by omega⟩
      · dsimp only; rw [show (lm.set i (⟨0, t1, t2 - 1, t3⟩ : EThread)).length = n by rw [List.length_set]; exact HLM.out]; exact q2
      · dsimp only; exact q3
      · omega
end
end Go.Proofs.Ytpmigekejipohaa

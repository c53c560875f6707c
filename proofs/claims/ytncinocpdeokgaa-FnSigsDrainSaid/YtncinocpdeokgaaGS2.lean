/-
  The model's l10Copy: three slices of one's own.
-/
import Derived.Test.YtncinocpdeokgaaGS1
namespace Go.Proofs.Ytncinocpdeokgaa
open Go.RowKit

/-- three lists of eight of one's own, from block lo on -/
structure S8 (w : World) (lo g0 g1 g2 : Nat) (D : Sg) : Prop where
  r0 : RowM elB w [g0] (some ⟨g0, 0, none⟩) 8 D.1
  r1 : RowM elB w [g1] (some ⟨g1, 0, none⟩) 8 D.2.1
  r2 : RowM elI w [g2] (some ⟨g2, 0, none⟩) 8 D.2.2
  l0 : D.1.length = 8
  l1 : D.2.1.length = 8
  l2 : D.2.2.length = 8
  b0 : lo ≤ g0 ∧ g0 < w.heap.size
  b1 : lo ≤ g1 ∧ g1 < w.heap.size
  b2 : lo ≤ g2 ∧ g2 < w.heap.size
  n01 : g0 ≠ g1
  n02 : g0 ≠ g2
  n12 : g1 ≠ g2
section
variable {w w' : World} {lo g0 g1 g2 : Nat} {D : Sg}
theorem S8.other (h : S8 w lo g0 g1 g2 D) (a : Addr) (v : Value) (h0 : a.block ≠ g0) (h1 : a.block ≠ g1) (h2 : a.block ≠ g2) : S8 (w.setCell a v) lo g0 g1 g2 D where
  r0 := h.r0.frame fun b hb => heap_setCell_other _ _ _ _ (by rw [List.mem_singleton.1 hb]; exact h0.symm)
  r1 := h.r1.frame fun b hb => heap_setCell_other _ _ _ _ (by rw [List.mem_singleton.1 hb]; exact h1.symm)
  r2 := h.r2.frame fun b hb => heap_setCell_other _ _ _ _ (by rw [List.mem_singleton.1 hb]; exact h2.symm)
  l0 := h.l0
  l1 := h.l1
  l2 := h.l2
  b0 := by rw [World.size_setCell]; exact h.b0
  b1 := by rw [World.size_setCell]; exact h.b1
  b2 := by rw [World.size_setCell]; exact h.b2
  n01 := h.n01
  n02 := h.n02
  n12 := h.n12
theorem S8.below (h : S8 w lo g0 g1 g2 D) (hb : Below w.heap.size w w') : S8 w' lo g0 g1 g2 D where
  r0 := h.r0.frame fun b hm => hb.block b (by rw [List.mem_singleton.1 hm]; exact h.b0.2)
  r1 := h.r1.frame fun b hm => hb.block b (by rw [List.mem_singleton.1 hm]; exact h.b1.2)
  r2 := h.r2.frame fun b hm => hb.block b (by rw [List.mem_singleton.1 hm]; exact h.b2.2)
  l0 := h.l0
  l1 := h.l1
  l2 := h.l2
  b0 := ⟨h.b0.1, Nat.lt_of_lt_of_le h.b0.2 hb.size⟩
  b1 := ⟨h.b1.1, Nat.lt_of_lt_of_le h.b1.2 hb.size⟩
  b2 := ⟨h.b2.1, Nat.lt_of_lt_of_le h.b2.2 hb.size⟩
  n01 := h.n01
  n02 := h.n02
  n12 := h.n12
theorem S8.M (h : S8 w lo g0 g1 g2 D) (c0 c1 c2 : Nat) : tySigs.M w ([g0] ++ ([g1] ++ [g2])) [.slice (some ⟨g0, 0, none⟩) 8 c0, .slice (some ⟨g1, 0, none⟩) 8 c1, .slice (some ⟨g2, 0, none⟩) 8 c2] D :=
  tySigs_Mmk ⟨h.l0, by omega, h.r0⟩ ⟨h.l1, by omega, h.r1⟩ ⟨h.l2, by omega, h.r2⟩
    (fun b h1 h2 => by rw [List.mem_singleton] at h1 h2; exact h.n01 (h1.symm.trans h2)) (fun b h1 h2 => by rw [List.mem_singleton] at h1 h2; exact h.n02 (h1.symm.trans h2)) (fun b h1 h2 => by rw [List.mem_singleton] at h1 h2; exact h.n12 (h1.symm.trans h2))
theorem S8.fp (h : S8 w lo g0 g1 g2 D) : ∀ b ∈ [g0] ++ ([g1] ++ [g2]), lo ≤ b ∧ b < w.heap.size := by
  intro b hb
  simp only [List.mem_append, List.mem_singleton] at hb
  rcases hb with rfl | rfl | rfl
  · exact h.b0
  · exact h.b1
  · exact h.b2
theorem S8.small (h : S8 w lo g0 g1 g2 D) : smallSigs D := by have := h.l0; have := h.l1; have := h.l2; unfold smallSigs; omega
theorem put8 {w : World} {α : Type} {E : El α} {g : Nat} {l : List α} (hK : E.K = 1) (h : RowM E w [g] (some ⟨g, 0, none⟩) 8 l) (hl : l.length = 8) (k : Nat) (hk : k < 8) (a : α) (v : Value) (hv : E.C a = [v]) : RowM E (w.setCell ⟨g, k, none⟩ v) [g] (some ⟨g, 0, none⟩) 8 (l.set k a) := by
  have h2 := h.put hl k hk a
  rw [hv, hK, Nat.mul_one, Nat.zero_add] at h2
  exact h2
theorem S8.put0 (h : S8 w lo g0 g1 g2 D) (k : Nat) (hk : k < 8) (a : Bool) : S8 (w.setCell ⟨g0, k, none⟩ (.bool a)) lo g0 g1 g2 (D.1.set k a, D.2.1, D.2.2) where
  r0 := put8 rfl h.r0 h.l0 k hk a _ rfl
  r1 := h.r1.frame fun b hb => heap_setCell_other _ _ _ _ (by rw [List.mem_singleton.1 hb]; exact h.n01.symm)
  r2 := h.r2.frame fun b hb => heap_setCell_other _ _ _ _ (by rw [List.mem_singleton.1 hb]; exact h.n02.symm)
  l0 := by show (D.1.set k a).length = 8; rw [List.length_set]; exact h.l0
  l1 := h.l1
  l2 := h.l2
  b0 := by rw [World.size_setCell]; exact h.b0
  b1 := by rw [World.size_setCell]; exact h.b1
  b2 := by rw [World.size_setCell]; exact h.b2
  n01 := h.n01
  n02 := h.n02
  n12 := h.n12
theorem S8.put1 (h : S8 w lo g0 g1 g2 D) (k : Nat) (hk : k < 8) (a : Bool) : S8 (w.setCell ⟨g1, k, none⟩ (.bool a)) lo g0 g1 g2 (D.1, D.2.1.set k a, D.2.2) where
  r0 := h.r0.frame fun b hb => heap_setCell_other _ _ _ _ (by rw [List.mem_singleton.1 hb]; exact h.n01)
  r1 := put8 rfl h.r1 h.l1 k hk a _ rfl
  r2 := h.r2.frame fun b hb => heap_setCell_other _ _ _ _ (by rw [List.mem_singleton.1 hb]; exact h.n12.symm)
  l0 := h.l0
  l1 := by show (D.2.1.set k a).length = 8; rw [List.length_set]; exact h.l1
  l2 := h.l2
  b0 := by rw [World.size_setCell]; exact h.b0
  b1 := by rw [World.size_setCell]; exact h.b1
  b2 := by rw [World.size_setCell]; exact h.b2
  n01 := h.n01
  n02 := h.n02
  n12 := h.n12
theorem S8.put2 (h : S8 w lo g0 g1 g2 D) (k : Nat) (hk : k < 8) (a : Int) : S8 (w.setCell ⟨g2, k, none⟩ (.int .i64 a)) lo g0 g1 g2 (D.1, D.2.1, D.2.2.set k a) where
  r0 := h.r0.frame fun b hb => heap_setCell_other _ _ _ _ (by rw [List.mem_singleton.1 hb]; exact h.n02)
  r1 := h.r1.frame fun b hb => heap_setCell_other _ _ _ _ (by rw [List.mem_singleton.1 hb]; exact h.n12)
  r2 := put8 rfl h.r2 h.l2 k hk a _ rfl
  l0 := h.l0
  l1 := h.l1
  l2 := by show (D.2.2.set k a).length = 8; rw [List.length_set]; exact h.l2
  b0 := by rw [World.size_setCell]; exact h.b0
  b1 := by rw [World.size_setCell]; exact h.b1
  b2 := by rw [World.size_setCell]; exact h.b2
  n01 := h.n01
  n02 := h.n02
  n12 := h.n12
theorem cell8 {w : World} {α : Type} {E : El α} {g : Nat} {l : List α} (hK : E.K = 1) (h : RowM E w [g] (some ⟨g, 0, none⟩) 8 l) (k : Nat) (hk : k < 8) (v : Value) (hv : E.C (l.getD k E.z) = [v]) : w.cell? ⟨g, k, none⟩ = some v ∧ w.frozen? ⟨g, k, none⟩ = false := by
  obtain ⟨b, o, e, _, _, hf, hc⟩ := h (by omega)
  injection e with e
  injection e with e1 e2
  subst e1 e2
  have h2 := hc k hk 0 (by omega)
  rw [hK, Nat.mul_one, Nat.zero_add, Nat.add_zero, hv] at h2
  exact ⟨h2, hf k⟩
theorem S8.c0 (h : S8 w lo g0 g1 g2 D) (k : Nat) (hk : k < 8) : w.cell? ⟨g0, k, none⟩ = some (.bool (D.1.getD k false)) ∧ w.frozen? ⟨g0, k, none⟩ = false := cell8 rfl h.r0 k hk _ rfl
theorem S8.c1 (h : S8 w lo g0 g1 g2 D) (k : Nat) (hk : k < 8) : w.cell? ⟨g1, k, none⟩ = some (.bool (D.2.1.getD k false)) ∧ w.frozen? ⟨g1, k, none⟩ = false := cell8 rfl h.r1 k hk _ rfl
theorem S8.c2 (h : S8 w lo g0 g1 g2 D) (k : Nat) (hk : k < 8) : w.cell? ⟨g2, k, none⟩ = some (.int .i64 (D.2.2.getD k 0)) ∧ w.frozen? ⟨g2, k, none⟩ = false := cell8 rfl h.r2 k hk _ rfl
end
theorem copy_end {w w' : World} {D : Sg} {lo g0 g1 g2 : Nat} (h0 : RowM elB w' [g0] (some ⟨g0, 0, none⟩) 8 D.1) (h1 : RowM elB w' [g1] (some ⟨g1, 0, none⟩) 8 D.2.1) (h2 : RowM elI w' [g2] (some ⟨g2, 0, none⟩) 8 D.2.2)
    (l0 : D.1.length = 8) (l1 : D.2.1.length = 8) (l2 : D.2.2.length = 8) (b0 : lo ≤ g0 ∧ g0 < w'.heap.size) (b1 : lo ≤ g1 ∧ g1 < w'.heap.size) (b2 : lo ≤ g2 ∧ g2 < w'.heap.size) (n01 : g0 ≠ g1) (n02 : g0 ≠ g2) (n12 : g1 ≠ g2)
    (z : Nat) (hz : z < lo) (hb : Below w.heap.size w w') (hzw : w.heap.size ≤ z) (v0 v1 v2 : Value) :
    S8 (((w'.setCell ⟨z, 0, none⟩ v0).setCell ⟨z, 1, none⟩ v1).setCell ⟨z, 2, none⟩ v2) lo g0 g1 g2 D ∧ Below w.heap.size w (((w'.setCell ⟨z, 0, none⟩ v0).setCell ⟨z, 1, none⟩ v1).setCell ⟨z, 2, none⟩ v2) :=
  have e0 : z ≠ g0 := by omega
  have e1 : z ≠ g1 := by omega
  have e2 : z ≠ g2 := by omega
  ⟨(((S8.mk h0 h1 h2 l0 l1 l2 b0 b1 b2 n01 n02 n12).other _ _ e0 e1 e2).other _ _ e0 e1 e2).other _ _ e0 e1 e2, ((hb.setCell hzw _).setCell hzw _).setCell hzw _⟩

theorem own_cap {w : World} {base size g n cap : Nat} {t : TypeId} {xs : List Value} (h : w.ownsRow base t size (.slice (some ⟨g, 0, none⟩) n cap) n xs) : n ≤ cap := by
  rcases h.2 with ⟨_, h2⟩ | ⟨g', cap', cur, e, h3⟩
  · omega
  · injection e with _ _ e3
    subst e3
    exact h3.2.2.1
set_option maxHeartbeats 4000000 in
set_option maxRecDepth 100000 in
theorem l10Copy_cap {w : World} {hi : Nat} {x0 x1 x2 : Value} {D : Sg} (h : tySigs.R w hi [x0, x1, x2] D) (l0 : D.1.length = 8) (l1 : D.2.1.length = 8) (l2 : D.2.2.length = 8) :
    Calls Try.prog 71 #[.agg #[x0, x1, x2]] w fun e w' => ∃ g0 g1 g2 c0 c1 c2, e = .returned (.agg #[.slice (some ⟨g0, 0, none⟩) 8 c0, .slice (some ⟨g1, 0, none⟩) 8 c1, .slice (some ⟨g2, 0, none⟩) 8 c2]) ∧ S8 w' (w.heap.size + 2) g0 g1 g2 D ∧ Below w.heap.size w w' ∧ 8 ≤ c0 ∧ 8 ≤ c1 ∧ 8 ≤ c2 := by
  obtain ⟨A0, n0, c0, A1, n1, c1, A2, n2, c2, hcs, ⟨e0, _, r0⟩, ⟨e1, _, r1⟩, ⟨e2, _, r2⟩⟩ := tySigs_R h
  simp only [List.cons.injEq, and_true] at hcs
  obtain ⟨rfl, rfl, rfl⟩ := hcs
  obtain rfl := e0.symm.trans l0
  obtain rfl := e1.symm.trans l1
  obtain rfl := e2.symm.trans l2
  obtain ⟨b0, o0, rfl, _, _, _⟩ := r0 (by omega)
  obtain ⟨b1, o1, rfl, _, _, _⟩ := r1 (by omega)
  obtain ⟨b2, o2, rfl, _, _, _⟩ := r2 (by omega)
  have HR0 := Lib.hid r0
  have HR1 := Lib.hid r1
  have HR2 := Lib.hid r2
  have HL0 := Lib.hid l0
  have HL1 := Lib.hid l1
  have HL2 := Lib.hid l2
  clear h r0 r1 r2 l0 l1 l2 e0 e1 e2
  obtain ⟨iI, hi0, hz0, hz1, hz2⟩ := infoInt
  have HI := Lib.hid hi0
  have HI0 := Lib.hid hz0
  have HI1 := Lib.hid hz1
  have HI2 := Lib.hid hz2
  clear hi0 hz0 hz1 hz2
  obtain ⟨iB, hi0, hz0, hz1, hz2⟩ := infoBool
  have HB := Lib.hid hi0
  have HB0' := Lib.hid hz0
  have HB1' := Lib.hid hz1
  have HB2' := Lib.hid hz2
  clear hi0 hz0 hz1 hz2
  have HX0 := Lib.hid ((Box.new w #[.slice (some ⟨b0, o0, none⟩) 8 c0, .slice (some ⟨b1, o1, none⟩) 8 c1, .slice (some ⟨b2, o2, none⟩) 8 c2] 26).alloc (.cells #[.slice none 0 0, .slice none 0 0, .slice none 0 0] 26))
  have HZ0 := Lib.hid (Box.new (w.alloc (.cells #[.slice (some ⟨b0, o0, none⟩) 8 c0, .slice (some ⟨b1, o1, none⟩) 8 c1, .slice (some ⟨b2, o2, none⟩) 8 c2] 26)) #[.slice none 0 0, .slice none 0 0, .slice none 0 0] 26)
  simp only [World.size_alloc] at HZ0
  have HBW0 := Lib.hid (show Below w.heap.size w ((w.alloc (.cells #[.slice (some ⟨b0, o0, none⟩) 8 c0, .slice (some ⟨b1, o1, none⟩) 8 c1, .slice (some ⟨b2, o2, none⟩) 8 c2] 26)).alloc (.cells #[.slice none 0 0, .slice none 0 0, .slice none 0 0] 26)) from ((Below.refl _ _).alloc (Nat.le_refl _) _).alloc (by simp only [World.size_alloc]; omega) _)
  have hz0 : w.heap.size + 2 ≤ ((w.alloc (.cells #[.slice (some ⟨b0, o0, none⟩) 8 c0, .slice (some ⟨b1, o1, none⟩) 8 c1, .slice (some ⟨b2, o2, none⟩) 8 c2] 26)).alloc (.cells #[.slice none 0 0, .slice none 0 0, .slice none 0 0] 26)).heap.size := by simp only [World.size_alloc]; omega
  go_enter Try.func71, Try.ntmps71
  go_wp2_with fail
  generalize (w.alloc (.cells #[.slice (some ⟨b0, o0, none⟩) 8 c0, .slice (some ⟨b1, o1, none⟩) 8 c1, .slice (some ⟨b2, o2, none⟩) 8 c2] 26)).alloc (.cells #[.slice none 0 0, .slice none 0 0, .slice none 0 0] 26) = W0 at HX0 HZ0 HBW0 hz0 ⊢
  have p0 := HX0.out.cell 0
  have p1 := HX0.out.cell 1
  have p2 := HX0.out.cell 2
  simp at p0 p1 p2
  refine wp_region_held_drew (S := fun w' => w'.cell? ⟨w.heap.size, 0, none⟩ = some (.slice (some ⟨b0, o0, none⟩) 8 c0) ∧ w'.cell? ⟨w.heap.size, 1, none⟩ = some (.slice (some ⟨b1, o1, none⟩) 8 c1) ∧ w'.cell? ⟨w.heap.size, 2, none⟩ = some (.slice (some ⟨b2, o2, none⟩) 8 c2)) (by kernel_rfl) ⟨p0, p1, p2⟩ (fun hHeld => ?_)
  have HX1 := Lib.hid (show Box W0.drew w.heap.size #[.slice (some ⟨b0, o0, none⟩) 8 c0, .slice (some ⟨b1, o1, none⟩) 8 c1, .slice (some ⟨b2, o2, none⟩) 8 c2] 26 from HX0.out)
  have HZ1 := Lib.hid (show Box W0.drew (w.heap.size + 1) #[.slice none 0 0, .slice none 0 0, .slice none 0 0] 26 from HZ0.out)
  have HBW1 := Lib.hid HBW0.out.drew
  have hz1 : w.heap.size + 2 ≤ W0.drew.heap.size := hz0
  clear HX0 HZ0 HBW0 hz0
  generalize W0.drew = W1 at hHeld HX1 HZ1 HBW1 hz1 ⊢
  refine wpAnyH_take (i := 1) (v := ?vg1_1) rfl (by kernel_rfl) (by kernel_rfl) (by kernel_rfl) (fun _ _ _ h => h) (Or.inl ⟨by rfl, ?hyg1_1⟩) (by assumption) ?restg1_1
  case hyg1_1 =>
    intro w hSw
    try dsimp only at hSw
    go_simp
    try with_reducible rfl
  simp only [Act.put, List.setIfInBounds_toArray, List.getElem_toArray]
  refine wpAnyH_take (i := 2) (v := ?vg2_2) rfl (by kernel_rfl) (by kernel_rfl) (by kernel_rfl) (fun _ _ _ h => h) (Or.inl ⟨by rfl, ?hyg2_2⟩) (by assumption) ?restg2_2
  case hyg2_2 =>
    intro w hSw
    try dsimp only at hSw
    go_simp
    try with_reducible rfl
  try simp only [Act.put, List.setIfInBounds_toArray, List.set_cons_zero, List.set_cons_succ, List.getElem_toArray, List.getElem_cons_zero, List.getElem_cons_succ]
  refine wpAnyH_take (i := 5) (v := ?vg3_5) rfl (by kernel_rfl) (by kernel_rfl) (by kernel_rfl) (fun _ _ _ h => h) (Or.inl ⟨by rfl, ?hyg3_5⟩) (by assumption) ?restg3_5
  case hyg3_5 =>
    intro w hSw
    try dsimp only at hSw
    go_simp
    try with_reducible rfl
  try simp only [Act.put, List.setIfInBounds_toArray, List.set_cons_zero, List.set_cons_succ, List.getElem_toArray, List.getElem_cons_zero, List.getElem_cons_succ]
  refine wpAnyH_take (i := 6) (v := ?vg4_6) rfl (by kernel_rfl) (by kernel_rfl) (by kernel_rfl) (fun _ _ _ h => h) (Or.inl ⟨by rfl, ?hyg4_6⟩) (by assumption) ?restg4_6
  case hyg4_6 =>
    intro w hSw
    try dsimp only at hSw
    go_simp
    try with_reducible rfl
  try simp only [Act.put, List.setIfInBounds_toArray, List.set_cons_zero, List.set_cons_succ, List.getElem_toArray, List.getElem_cons_zero, List.getElem_cons_succ]
  refine wpAnyH_take (i := 9) (v := ?vg5_9) rfl (by kernel_rfl) (by kernel_rfl) (by kernel_rfl) (fun _ _ _ h => h) (Or.inl ⟨by rfl, ?hyg5_9⟩) (by assumption) ?restg5_9
  case hyg5_9 =>
    intro w hSw
    try dsimp only at hSw
    go_simp
    try with_reducible rfl
  try simp only [Act.put, List.setIfInBounds_toArray, List.set_cons_zero, List.set_cons_succ, List.getElem_toArray, List.getElem_cons_zero, List.getElem_cons_succ]
  refine wpAnyH_take (i := 10) (v := ?vg6_10) rfl (by kernel_rfl) (by kernel_rfl) (by kernel_rfl) (fun _ _ _ h => h) (Or.inl ⟨by rfl, ?hyg6_10⟩) (by assumption) ?restg6_10
  case hyg6_10 =>
    intro w hSw
    try dsimp only at hSw
    go_simp
    try with_reducible rfl
  try simp only [Act.put, List.setIfInBounds_toArray, List.set_cons_zero, List.set_cons_succ, List.getElem_toArray, List.getElem_cons_zero, List.getElem_cons_succ]
  refine wpAnyH_ready (rs := [0, 4, 8]) (by kernel_rfl) (by simp) ?_
  refine (AllReadyH.cons rfl (fun K hK => ?_) (AllReadyH.cons rfl (fun K hK => ?_) (AllReadyH.cons rfl (fun K hK => ?_) AllReadyH.nil)))
  · go_simp
    have HBW2 := Lib.hid (HBW1.out.alloc HBW1.out.size (.cells #[] 4))
    have HX2 := Lib.hid (HX1.out.alloc (.cells #[] 4))
    have HZ2 := Lib.hid (HZ1.out.alloc (.cells #[] 4))
    have hz2 : W1.heap.size < (W1.alloc (.cells #[] 4)).heap.size := by rw [World.size_alloc]; omega
    have HA0_2 := Lib.hid (Box.new W1 #[] 4)
    generalize (W1.alloc (.cells #[] 4)) = W2 at HBW2 HX2 HZ2 hz2 HA0_2 ⊢
    clear p0 p1 p2
    have p0 := HX2.out.cell 0
    have p1 := HX2.out.cell 1
    have p2 := HX2.out.cell 2
    simp at p0 p1 p2
    refine hK.out _ _ ⟨p0, p1, p2⟩ (fun hHeld => ?_)
    clear hK K
    try simp only [Act.put, List.setIfInBounds_toArray, List.set_cons_zero, List.set_cons_succ, List.getElem_toArray, List.getElem_cons_zero, List.getElem_cons_succ]
    refine wpAnyH_ready (rs := [3, 4, 8]) (by kernel_rfl) (by simp) ?_
    refine (AllReadyH.cons rfl (fun K hK => ?_) (AllReadyH.cons rfl (fun K hK => ?_) (AllReadyH.cons rfl (fun K hK => ?_) AllReadyH.nil)))
    · refine step_append_lies _ rfl (.tmp 3) (.tmp 5) 23 rfl (w.heap.size + 2) 4 iB (.bool false) 1 1 Try.underlying23 HB.out HB0'.out HB1'.out HB2'.out rfl (by decide) (.slice (some ⟨W1.heap.size, 0, none⟩) 0 0) 0 [] rfl (own_empty' HA0_2.out (by omega)) ⟨b0, o0, none⟩ 8 c0 (D.1.flatMap elB.C) rfl (by rw [flat_len, HL0.out]; rfl) ?q7_1 ?q7_2 (by decide) ?q7_3 ?q7_4 ?q7_5 W2.heap.size rfl ?_
      case q7_1 => exact (HR0.out.wb HBW2.out).news HL0.out (by decide)
      case q7_2 =>
        intro q hq
        obtain ⟨z, _, hz2⟩ := List.mem_flatMap.1 hq
        rw [List.mem_singleton.1 hz2]
        rfl
      case q7_3 => simp only [maxLen]; omega
      case q7_4 => omega
      case q7_5 => omega
      intro g0 k0 W3 hown hg hat hlt
      rw [Nat.zero_add, List.nil_append] at hown
      try rw [Nat.zero_add]
      have HM0_3 := Lib.hid (RowM.of_owns hown HL0.out)
      have hge0 := (hown.lt g0 rfl).1
      have hgl0_3 := (hown.lt g0 rfl).2
      have hcp0 := own_cap hown
      have hga0 : g0 = W1.heap.size ∨ g0 = W2.heap.size := by
        rcases hat with e | e
        · left; simp [Value.ownBlock] at e; omega
        · right; exact e
      have hsz3 := hg.size
      have HX3 := Lib.hid (show Box W3 w.heap.size _ 26 from (hg.block _ HX2.out.lt (by simp [Value.ownBlock]; omega)).trans HX2.out)
      have HZ3 := Lib.hid (show Box W3 (w.heap.size + 1) _ 26 from (hg.block _ HZ2.out.lt (by simp [Value.ownBlock]; omega)).trans HZ2.out)
      have HBW3 := Lib.hid (HBW2.out.grown hg HBW2.out.size (fun k e => by simp [Value.ownBlock] at e; omega))
      clear hown hg hat hlt
      clear p0 p1 p2
      have p0 := HX3.out.cell 0
      have p1 := HX3.out.cell 1
      have p2 := HX3.out.cell 2
      simp at p0 p1 p2
      refine hK.out _ _ ⟨p0, p1, p2⟩ (fun hHeld => ?_)
      clear hK K
      try simp only [Act.put, List.setIfInBounds_toArray, List.set_cons_zero, List.set_cons_succ, List.getElem_toArray, List.getElem_cons_zero, List.getElem_cons_succ]
      refine wpAnyH_ready (rs := [4, 8]) (by kernel_rfl) (by simp) ?_
      refine (AllReadyH.cons rfl (fun K hK => ?_) (AllReadyH.cons rfl (fun K hK => ?_) AllReadyH.nil))
      · go_simp
        have HBW4 := Lib.hid (HBW3.out.alloc HBW3.out.size (.cells #[] 4))
        have HX4 := Lib.hid (HX3.out.alloc (.cells #[] 4))
        have HZ4 := Lib.hid (HZ3.out.alloc (.cells #[] 4))
        have hz4 : W3.heap.size < (W3.alloc (.cells #[] 4)).heap.size := by rw [World.size_alloc]; omega
        have HA1_4 := Lib.hid (Box.new W3 #[] 4)
        have HM0_4 := Lib.hid (HM0_3.out.frame fun b hb => Below.heap_alloc W3 (.cells #[] 4) b (by rw [List.mem_singleton] at hb; rw [hb]; exact hgl0_3))
        have hgl0_4 : g0 < (W3.alloc (.cells #[] 4)).heap.size := by omega
        generalize (W3.alloc (.cells #[] 4)) = W4 at HBW4 HX4 HZ4 hz4 HA1_4 HM0_4 hgl0_4 ⊢
        clear p0 p1 p2
        have p0 := HX4.out.cell 0
        have p1 := HX4.out.cell 1
        have p2 := HX4.out.cell 2
        simp at p0 p1 p2
        refine hK.out _ _ ⟨p0, p1, p2⟩ (fun hHeld => ?_)
        clear hK K
        try simp only [Act.put, List.setIfInBounds_toArray, List.set_cons_zero, List.set_cons_succ, List.getElem_toArray, List.getElem_cons_zero, List.getElem_cons_succ]
        refine wpAnyH_ready (rs := [7, 8]) (by kernel_rfl) (by simp) ?_
        refine (AllReadyH.cons rfl (fun K hK => ?_) (AllReadyH.cons rfl (fun K hK => ?_) AllReadyH.nil))
        · refine step_append_lies _ rfl (.tmp 7) (.tmp 9) 23 rfl (w.heap.size + 2) 4 iB (.bool false) 1 1 Try.underlying23 HB.out HB0'.out HB1'.out HB2'.out rfl (by decide) (.slice (some ⟨W3.heap.size, 0, none⟩) 0 0) 0 [] rfl (own_empty' HA1_4.out (by omega)) ⟨b1, o1, none⟩ 8 c1 (D.2.1.flatMap elB.C) rfl (by rw [flat_len, HL1.out]; rfl) ?q8_1 ?q8_2 (by decide) ?q8_3 ?q8_4 ?q8_5 W4.heap.size rfl ?_
          case q8_1 => exact (HR1.out.wb HBW4.out).news HL1.out (by decide)
          case q8_2 =>
            intro q hq
            obtain ⟨z, _, hz2⟩ := List.mem_flatMap.1 hq
            rw [List.mem_singleton.1 hz2]
            rfl
          case q8_3 => simp only [maxLen]; omega
          case q8_4 => omega
          case q8_5 => omega
          intro g1 k1 W5 hown hg hat hlt
          rw [Nat.zero_add, List.nil_append] at hown
          try rw [Nat.zero_add]
          have HM1_5 := Lib.hid (RowM.of_owns hown HL1.out)
          have hge1 := (hown.lt g1 rfl).1
          have hgl1_5 := (hown.lt g1 rfl).2
          have hcp1 := own_cap hown
          have hga1 : g1 = W3.heap.size ∨ g1 = W4.heap.size := by
            rcases hat with e | e
            · left; simp [Value.ownBlock] at e; omega
            · right; exact e
          have hsz5 := hg.size
          have HX5 := Lib.hid (show Box W5 w.heap.size _ 26 from (hg.block _ HX4.out.lt (by simp [Value.ownBlock]; omega)).trans HX4.out)
          have HZ5 := Lib.hid (show Box W5 (w.heap.size + 1) _ 26 from (hg.block _ HZ4.out.lt (by simp [Value.ownBlock]; omega)).trans HZ4.out)
          have HBW5 := Lib.hid (HBW4.out.grown hg HBW4.out.size (fun k e => by simp [Value.ownBlock] at e; omega))
          have HM0_5 := Lib.hid (HM0_4.out.frame fun b hb => hg.block b (by rw [List.mem_singleton] at hb; rw [hb]; exact hgl0_4) (by rw [List.mem_singleton] at hb; rw [hb]; simp [Value.ownBlock]; omega))
          have hgl0_5 : g0 < W5.heap.size := by omega
          clear hown hg hat hlt
          clear p0 p1 p2
          have p0 := HX5.out.cell 0
          have p1 := HX5.out.cell 1
          have p2 := HX5.out.cell 2
          simp at p0 p1 p2
          refine hK.out _ _ ⟨p0, p1, p2⟩ (fun hHeld => ?_)
          clear hK K
          try simp only [Act.put, List.setIfInBounds_toArray, List.set_cons_zero, List.set_cons_succ, List.getElem_toArray, List.getElem_cons_zero, List.getElem_cons_succ]
          refine wpAnyH_ready (rs := [8]) (by kernel_rfl) (by simp) ?_
          refine (AllReadyH.cons rfl (fun K hK => ?_) AllReadyH.nil)
          go_simp
          have HBW6 := Lib.hid (HBW5.out.alloc HBW5.out.size (.cells #[] 3))
          have HX6 := Lib.hid (HX5.out.alloc (.cells #[] 3))
          have HZ6 := Lib.hid (HZ5.out.alloc (.cells #[] 3))
          have hz6 : W5.heap.size < (W5.alloc (.cells #[] 3)).heap.size := by rw [World.size_alloc]; omega
          have HA2_6 := Lib.hid (Box.new W5 #[] 3)
          have HM0_6 := Lib.hid (HM0_5.out.frame fun b hb => Below.heap_alloc W5 (.cells #[] 3) b (by rw [List.mem_singleton] at hb; rw [hb]; exact hgl0_5))
          have hgl0_6 : g0 < (W5.alloc (.cells #[] 3)).heap.size := by omega
          have HM1_6 := Lib.hid (HM1_5.out.frame fun b hb => Below.heap_alloc W5 (.cells #[] 3) b (by rw [List.mem_singleton] at hb; rw [hb]; exact hgl1_5))
          have hgl1_6 : g1 < (W5.alloc (.cells #[] 3)).heap.size := by omega
          generalize (W5.alloc (.cells #[] 3)) = W6 at HBW6 HX6 HZ6 hz6 HA2_6 HM0_6 hgl0_6 HM1_6 hgl1_6 ⊢
          clear p0 p1 p2
          have p0 := HX6.out.cell 0
          have p1 := HX6.out.cell 1
          have p2 := HX6.out.cell 2
          simp at p0 p1 p2
          refine hK.out _ _ ⟨p0, p1, p2⟩ (fun hHeld => ?_)
          clear hK K
          try simp only [Act.put, List.setIfInBounds_toArray, List.set_cons_zero, List.set_cons_succ, List.getElem_toArray, List.getElem_cons_zero, List.getElem_cons_succ]
          refine wpAnyH_ready (rs := [11]) (by kernel_rfl) (by simp) ?_
          refine (AllReadyH.cons rfl (fun K hK => ?_) AllReadyH.nil)
          refine step_append_lies _ rfl (.tmp 11) (.tmp 13) 24 rfl (w.heap.size + 2) 3 iI (.int .i64 0) 1 8 Try.underlying24 HI.out HI0.out HI1.out HI2.out rfl (by decide) (.slice (some ⟨W5.heap.size, 0, none⟩) 0 0) 0 [] rfl (own_empty' HA2_6.out (by omega)) ⟨b2, o2, none⟩ 8 c2 (D.2.2.flatMap elI.C) rfl (by rw [flat_len, HL2.out]; rfl) ?q9_1 ?q9_2 (by decide) ?q9_3 ?q9_4 ?q9_5 W6.heap.size rfl ?_
          case q9_1 => exact (HR2.out.wb HBW6.out).news HL2.out (by decide)
          case q9_2 =>
            intro q hq
            obtain ⟨z, _, hz2⟩ := List.mem_flatMap.1 hq
            rw [List.mem_singleton.1 hz2]
            rfl
          case q9_3 => simp only [maxLen]; omega
          case q9_4 => omega
          case q9_5 => omega
          intro g2 k2 W7 hown hg hat hlt
          rw [Nat.zero_add, List.nil_append] at hown
          try rw [Nat.zero_add]
          have HM2_7 := Lib.hid (RowM.of_owns hown HL2.out)
          have hge2 := (hown.lt g2 rfl).1
          have hgl2_7 := (hown.lt g2 rfl).2
          have hcp2 := own_cap hown
          have hga2 : g2 = W5.heap.size ∨ g2 = W6.heap.size := by
            rcases hat with e | e
            · left; simp [Value.ownBlock] at e; omega
            · right; exact e
          have hsz7 := hg.size
          have HX7 := Lib.hid (show Box W7 w.heap.size _ 26 from (hg.block _ HX6.out.lt (by simp [Value.ownBlock]; omega)).trans HX6.out)
          have HZ7 := Lib.hid (show Box W7 (w.heap.size + 1) _ 26 from (hg.block _ HZ6.out.lt (by simp [Value.ownBlock]; omega)).trans HZ6.out)
          have HBW7 := Lib.hid (HBW6.out.grown hg HBW6.out.size (fun k e => by simp [Value.ownBlock] at e; omega))
          have HM0_7 := Lib.hid (HM0_6.out.frame fun b hb => hg.block b (by rw [List.mem_singleton] at hb; rw [hb]; exact hgl0_6) (by rw [List.mem_singleton] at hb; rw [hb]; simp [Value.ownBlock]; omega))
          have hgl0_7 : g0 < W7.heap.size := by omega
          have HM1_7 := Lib.hid (HM1_6.out.frame fun b hb => hg.block b (by rw [List.mem_singleton] at hb; rw [hb]; exact hgl1_6) (by rw [List.mem_singleton] at hb; rw [hb]; simp [Value.ownBlock]; omega))
          have hgl1_7 : g1 < W7.heap.size := by omega
          clear hown hg hat hlt
          clear p0 p1 p2
          have p0 := HX7.out.cell 0
          have p1 := HX7.out.cell 1
          have p2 := HX7.out.cell 2
          simp at p0 p1 p2
          have z0 := HZ7.out.cell 0
          have z1 := HZ7.out.cell 1
          have z2 := HZ7.out.cell 2
          have e0 := HZ7.out.frz 0
          have e1 := HZ7.out.frz 1
          have e2 := HZ7.out.frz 2
          have zl := HZ7.out.lt
          simp at z0 z1 z2
          refine hK.out _ _ ⟨p0, p1, p2⟩ (fun hHeld => ?_)
          clear hK K
          try simp only [Act.put, List.setIfInBounds_toArray, List.set_cons_zero, List.set_cons_succ, List.getElem_toArray, List.getElem_cons_zero, List.getElem_cons_succ]
          refine wpAnyH_take (i := 12) (v := ?vg10_12) rfl (by kernel_rfl) (by kernel_rfl) (by kernel_rfl) (fun _ _ _ h => h) (Or.inl ⟨by rfl, ?hyg10_12⟩) (by assumption) ?restg10_12
          case hyg10_12 =>
            intro w hSw
            try dsimp only at hSw
            go_simp
            try with_reducible rfl
          try simp only [Act.put, List.setIfInBounds_toArray, List.set_cons_zero, List.set_cons_succ, List.getElem_toArray, List.getElem_cons_zero, List.getElem_cons_succ]
          refine wpAnyH_ready (rs := [13]) (by kernel_rfl) (by simp) ?_
          refine (AllReadyH.cons rfl (fun K hK => ?_) AllReadyH.nil)
          go_simp
          have HE := Lib.hid (copy_end HM0_7.out HM1_7.out HM2_7.out HL0.out HL1.out HL2.out (show w.heap.size + 2 ≤ g0 ∧ g0 < W7.heap.size by omega) (show w.heap.size + 2 ≤ g1 ∧ g1 < W7.heap.size by omega) (show w.heap.size + 2 ≤ g2 ∧ g2 < W7.heap.size by omega) (by omega) (by omega) (by omega) (w.heap.size + 1) (by omega) HBW7.out (by omega) (.slice (some ⟨g0, 0, none⟩) 8 k0) (.slice (some ⟨g1, 0, none⟩) 8 k1) (.slice (some ⟨g2, 0, none⟩) 8 k2))
          have y0 := (HX7.out.other (a := ⟨w.heap.size + 1, 0, none⟩) (by show w.heap.size ≠ w.heap.size + 1; omega) (.slice (some ⟨g0, 0, none⟩) 8 k0))
          have y1 := (y0.other (a := ⟨w.heap.size + 1, 1, none⟩) (by show w.heap.size ≠ w.heap.size + 1; omega) (.slice (some ⟨g1, 0, none⟩) 8 k1))
          have y2 := (y1.other (a := ⟨w.heap.size + 1, 2, none⟩) (by show w.heap.size ≠ w.heap.size + 1; omega) (.slice (some ⟨g2, 0, none⟩) 8 k2))
          refine hK.out _ _ ⟨y2.cell 0, y2.cell 1, y2.cell 2⟩ (fun hHeld => ?_)
          clear hK K
          try simp only [Act.put, List.setIfInBounds_toArray, List.set_cons_zero, List.set_cons_succ, List.getElem_toArray, List.getElem_cons_zero, List.getElem_cons_succ]
          clear y0 y1 y2
          refine wpAnyH_done (by kernel_rfl) ?_ _
          go_wp2_with fail
          refine bodyPost_ret (v := .agg #[.slice (some ⟨g0, 0, none⟩) 8 k0, .slice (some ⟨g1, 0, none⟩) 8 k1, .slice (some ⟨g2, 0, none⟩) 8 k2]) (by simp [results, Try.results71, go_sem, z0, z1, z2]) rfl ⟨g0, g1, g2, k0, k1, k2, rfl, HE.out.1, HE.out.2, hcp0, hcp1, hcp2⟩
        · go_simp
          have HBW5 := Lib.hid (HBW4.out.alloc HBW4.out.size (.cells #[] 3))
          have HX5 := Lib.hid (HX4.out.alloc (.cells #[] 3))
          have HZ5 := Lib.hid (HZ4.out.alloc (.cells #[] 3))
          have hz5 : W4.heap.size < (W4.alloc (.cells #[] 3)).heap.size := by rw [World.size_alloc]; omega
          have HA2_5 := Lib.hid (Box.new W4 #[] 3)
          have HA1_5 := Lib.hid (HA1_4.out.alloc (.cells #[] 3))
          have HM0_5 := Lib.hid (HM0_4.out.frame fun b hb => Below.heap_alloc W4 (.cells #[] 3) b (by rw [List.mem_singleton] at hb; rw [hb]; exact hgl0_4))
          have hgl0_5 : g0 < (W4.alloc (.cells #[] 3)).heap.size := by omega
          generalize (W4.alloc (.cells #[] 3)) = W5 at HBW5 HX5 HZ5 hz5 HA2_5 HA1_5 HM0_5 hgl0_5 ⊢
          clear p0 p1 p2
          have p0 := HX5.out.cell 0
          have p1 := HX5.out.cell 1
          have p2 := HX5.out.cell 2
          simp at p0 p1 p2
          refine hK.out _ _ ⟨p0, p1, p2⟩ (fun hHeld => ?_)
          clear hK K
          try simp only [Act.put, List.setIfInBounds_toArray, List.set_cons_zero, List.set_cons_succ, List.getElem_toArray, List.getElem_cons_zero, List.getElem_cons_succ]
          refine wpAnyH_ready (rs := [7]) (by kernel_rfl) (by simp) ?_
          refine (AllReadyH.cons rfl (fun K hK => ?_) AllReadyH.nil)
          refine step_append_lies _ rfl (.tmp 7) (.tmp 9) 23 rfl (w.heap.size + 2) 4 iB (.bool false) 1 1 Try.underlying23 HB.out HB0'.out HB1'.out HB2'.out rfl (by decide) (.slice (some ⟨W3.heap.size, 0, none⟩) 0 0) 0 [] rfl (own_empty' HA1_5.out (by omega)) ⟨b1, o1, none⟩ 8 c1 (D.2.1.flatMap elB.C) rfl (by rw [flat_len, HL1.out]; rfl) ?q11_1 ?q11_2 (by decide) ?q11_3 ?q11_4 ?q11_5 W5.heap.size rfl ?_
          case q11_1 => exact (HR1.out.wb HBW5.out).news HL1.out (by decide)
          case q11_2 =>
            intro q hq
            obtain ⟨z, _, hz2⟩ := List.mem_flatMap.1 hq
            rw [List.mem_singleton.1 hz2]
            rfl
          case q11_3 => simp only [maxLen]; omega
          case q11_4 => omega
          case q11_5 => omega
          intro g1 k1 W6 hown hg hat hlt
          rw [Nat.zero_add, List.nil_append] at hown
          try rw [Nat.zero_add]
          have HM1_6 := Lib.hid (RowM.of_owns hown HL1.out)
          have hge1 := (hown.lt g1 rfl).1
          have hgl1_6 := (hown.lt g1 rfl).2
          have hcp1 := own_cap hown
          have hga1 : g1 = W3.heap.size ∨ g1 = W5.heap.size := by
            rcases hat with e | e
            · left; simp [Value.ownBlock] at e; omega
            · right; exact e
          have hsz6 := hg.size
          have HX6 := Lib.hid (show Box W6 w.heap.size _ 26 from (hg.block _ HX5.out.lt (by simp [Value.ownBlock]; omega)).trans HX5.out)
          have HZ6 := Lib.hid (show Box W6 (w.heap.size + 1) _ 26 from (hg.block _ HZ5.out.lt (by simp [Value.ownBlock]; omega)).trans HZ5.out)
          have HBW6 := Lib.hid (HBW5.out.grown hg HBW5.out.size (fun k e => by simp [Value.ownBlock] at e; omega))
          have HA2_6 := Lib.hid (show Box W6 W4.heap.size #[] 3 from (hg.block _ HA2_5.out.lt (by simp [Value.ownBlock]; omega)).trans HA2_5.out)
          have HM0_6 := Lib.hid (HM0_5.out.frame fun b hb => hg.block b (by rw [List.mem_singleton] at hb; rw [hb]; exact hgl0_5) (by rw [List.mem_singleton] at hb; rw [hb]; simp [Value.ownBlock]; omega))
          have hgl0_6 : g0 < W6.heap.size := by omega
          clear hown hg hat hlt
          clear p0 p1 p2
          have p0 := HX6.out.cell 0
          have p1 := HX6.out.cell 1
          have p2 := HX6.out.cell 2
          simp at p0 p1 p2
          refine hK.out _ _ ⟨p0, p1, p2⟩ (fun hHeld => ?_)
          clear hK K
          try simp only [Act.put, List.setIfInBounds_toArray, List.set_cons_zero, List.set_cons_succ, List.getElem_toArray, List.getElem_cons_zero, List.getElem_cons_succ]
          refine wpAnyH_ready (rs := [11]) (by kernel_rfl) (by simp) ?_
          refine (AllReadyH.cons rfl (fun K hK => ?_) AllReadyH.nil)
          refine step_append_lies _ rfl (.tmp 11) (.tmp 13) 24 rfl (w.heap.size + 2) 3 iI (.int .i64 0) 1 8 Try.underlying24 HI.out HI0.out HI1.out HI2.out rfl (by decide) (.slice (some ⟨W4.heap.size, 0, none⟩) 0 0) 0 [] rfl (own_empty' HA2_6.out (by omega)) ⟨b2, o2, none⟩ 8 c2 (D.2.2.flatMap elI.C) rfl (by rw [flat_len, HL2.out]; rfl) ?q12_1 ?q12_2 (by decide) ?q12_3 ?q12_4 ?q12_5 W6.heap.size rfl ?_
          case q12_1 => exact (HR2.out.wb HBW6.out).news HL2.out (by decide)
          case q12_2 =>
            intro q hq
            obtain ⟨z, _, hz2⟩ := List.mem_flatMap.1 hq
            rw [List.mem_singleton.1 hz2]
            rfl
          case q12_3 => simp only [maxLen]; omega
          case q12_4 => omega
          case q12_5 => omega
          intro g2 k2 W7 hown hg hat hlt
          rw [Nat.zero_add, List.nil_append] at hown
          try rw [Nat.zero_add]
          have HM2_7 := Lib.hid (RowM.of_owns hown HL2.out)
          have hge2 := (hown.lt g2 rfl).1
          have hgl2_7 := (hown.lt g2 rfl).2
          have hcp2 := own_cap hown
          have hga2 : g2 = W4.heap.size ∨ g2 = W6.heap.size := by
            rcases hat with e | e
            · left; simp [Value.ownBlock] at e; omega
            · right; exact e
          have hsz7 := hg.size
          have HX7 := Lib.hid (show Box W7 w.heap.size _ 26 from (hg.block _ HX6.out.lt (by simp [Value.ownBlock]; omega)).trans HX6.out)
          have HZ7 := Lib.hid (show Box W7 (w.heap.size + 1) _ 26 from (hg.block _ HZ6.out.lt (by simp [Value.ownBlock]; omega)).trans HZ6.out)
          have HBW7 := Lib.hid (HBW6.out.grown hg HBW6.out.size (fun k e => by simp [Value.ownBlock] at e; omega))
          have HM0_7 := Lib.hid (HM0_6.out.frame fun b hb => hg.block b (by rw [List.mem_singleton] at hb; rw [hb]; exact hgl0_6) (by rw [List.mem_singleton] at hb; rw [hb]; simp [Value.ownBlock]; omega))
          have hgl0_7 : g0 < W7.heap.size := by omega
          have HM1_7 := Lib.hid (HM1_6.out.frame fun b hb => hg.block b (by rw [List.mem_singleton] at hb; rw [hb]; exact hgl1_6) (by rw [List.mem_singleton] at hb; rw [hb]; simp [Value.ownBlock]; omega))
          have hgl1_7 : g1 < W7.heap.size := by omega
          clear hown hg hat hlt
          clear p0 p1 p2
          have p0 := HX7.out.cell 0
          have p1 := HX7.out.cell 1
          have p2 := HX7.out.cell 2
          simp at p0 p1 p2
          have z0 := HZ7.out.cell 0
          have z1 := HZ7.out.cell 1
          have z2 := HZ7.out.cell 2
          have e0 := HZ7.out.frz 0
          have e1 := HZ7.out.frz 1
          have e2 := HZ7.out.frz 2
          have zl := HZ7.out.lt
          simp at z0 z1 z2
          refine hK.out _ _ ⟨p0, p1, p2⟩ (fun hHeld => ?_)
          clear hK K
          try simp only [Act.put, List.setIfInBounds_toArray, List.set_cons_zero, List.set_cons_succ, List.getElem_toArray, List.getElem_cons_zero, List.getElem_cons_succ]
          refine wpAnyH_take (i := 12) (v := ?vg13_12) rfl (by kernel_rfl) (by kernel_rfl) (by kernel_rfl) (fun _ _ _ h => h) (Or.inl ⟨by rfl, ?hyg13_12⟩) (by assumption) ?restg13_12
          case hyg13_12 =>
            intro w hSw
            try dsimp only at hSw
            go_simp
            try with_reducible rfl
          try simp only [Act.put, List.setIfInBounds_toArray, List.set_cons_zero, List.set_cons_succ, List.getElem_toArray, List.getElem_cons_zero, List.getElem_cons_succ]
          refine wpAnyH_ready (rs := [13]) (by kernel_rfl) (by simp) ?_
          refine (AllReadyH.cons rfl (fun K hK => ?_) AllReadyH.nil)
          go_simp
          have HE := Lib.hid (copy_end HM0_7.out HM1_7.out HM2_7.out HL0.out HL1.out HL2.out (show w.heap.size + 2 ≤ g0 ∧ g0 < W7.heap.size by omega) (show w.heap.size + 2 ≤ g1 ∧ g1 < W7.heap.size by omega) (show w.heap.size + 2 ≤ g2 ∧ g2 < W7.heap.size by omega) (by omega) (by omega) (by omega) (w.heap.size + 1) (by omega) HBW7.out (by omega) (.slice (some ⟨g0, 0, none⟩) 8 k0) (.slice (some ⟨g1, 0, none⟩) 8 k1) (.slice (some ⟨g2, 0, none⟩) 8 k2))
          have y0 := (HX7.out.other (a := ⟨w.heap.size + 1, 0, none⟩) (by show w.heap.size ≠ w.heap.size + 1; omega) (.slice (some ⟨g0, 0, none⟩) 8 k0))
          have y1 := (y0.other (a := ⟨w.heap.size + 1, 1, none⟩) (by show w.heap.size ≠ w.heap.size + 1; omega) (.slice (some ⟨g1, 0, none⟩) 8 k1))
          have y2 := (y1.other (a := ⟨w.heap.size + 1, 2, none⟩) (by show w.heap.size ≠ w.heap.size + 1; omega) (.slice (some ⟨g2, 0, none⟩) 8 k2))
          refine hK.out _ _ ⟨y2.cell 0, y2.cell 1, y2.cell 2⟩ (fun hHeld => ?_)
          clear hK K
          try simp only [Act.put, List.setIfInBounds_toArray, List.set_cons_zero, List.set_cons_succ, List.getElem_toArray, List.getElem_cons_zero, List.getElem_cons_succ]
          clear y0 y1 y2
          refine wpAnyH_done (by kernel_rfl) ?_ _
          go_wp2_with fail
          refine bodyPost_ret (v := .agg #[.slice (some ⟨g0, 0, none⟩) 8 k0, .slice (some ⟨g1, 0, none⟩) 8 k1, .slice (some ⟨g2, 0, none⟩) 8 k2]) (by simp [results, Try.results71, go_sem, z0, z1, z2]) rfl ⟨g0, g1, g2, k0, k1, k2, rfl, HE.out.1, HE.out.2, hcp0, hcp1, hcp2⟩
      · go_simp
        have HBW4 := Lib.hid (HBW3.out.alloc HBW3.out.size (.cells #[] 3))
        have HX4 := Lib.hid (HX3.out.alloc (.cells #[] 3))
        have HZ4 := Lib.hid (HZ3.out.alloc (.cells #[] 3))
        have hz4 : W3.heap.size < (W3.alloc (.cells #[] 3)).heap.size := by rw [World.size_alloc]; omega
        have HA2_4 := Lib.hid (Box.new W3 #[] 3)
        have HM0_4 := Lib.hid (HM0_3.out.frame fun b hb => Below.heap_alloc W3 (.cells #[] 3) b (by rw [List.mem_singleton] at hb; rw [hb]; exact hgl0_3))
        have hgl0_4 : g0 < (W3.alloc (.cells #[] 3)).heap.size := by omega
        generalize (W3.alloc (.cells #[] 3)) = W4 at HBW4 HX4 HZ4 hz4 HA2_4 HM0_4 hgl0_4 ⊢
        clear p0 p1 p2
        have p0 := HX4.out.cell 0
        have p1 := HX4.out.cell 1
        have p2 := HX4.out.cell 2
        simp at p0 p1 p2
        refine hK.out _ _ ⟨p0, p1, p2⟩ (fun hHeld => ?_)
        clear hK K
        try simp only [Act.put, List.setIfInBounds_toArray, List.set_cons_zero, List.set_cons_succ, List.getElem_toArray, List.getElem_cons_zero, List.getElem_cons_succ]
        refine wpAnyH_ready (rs := [4]) (by kernel_rfl) (by simp) ?_
        refine (AllReadyH.cons rfl (fun K hK => ?_) AllReadyH.nil)
        go_simp
        have HBW5 := Lib.hid (HBW4.out.alloc HBW4.out.size (.cells #[] 4))
        have HX5 := Lib.hid (HX4.out.alloc (.cells #[] 4))
        have HZ5 := Lib.hid (HZ4.out.alloc (.cells #[] 4))
        have hz5 : W4.heap.size < (W4.alloc (.cells #[] 4)).heap.size := by rw [World.size_alloc]; omega
        have HA1_5 := Lib.hid (Box.new W4 #[] 4)
        have HA2_5 := Lib.hid (HA2_4.out.alloc (.cells #[] 4))
        have HM0_5 := Lib.hid (HM0_4.out.frame fun b hb => Below.heap_alloc W4 (.cells #[] 4) b (by rw [List.mem_singleton] at hb; rw [hb]; exact hgl0_4))
        have hgl0_5 : g0 < (W4.alloc (.cells #[] 4)).heap.size := by omega
        generalize (W4.alloc (.cells #[] 4)) = W5 at HBW5 HX5 HZ5 hz5 HA1_5 HA2_5 HM0_5 hgl0_5 ⊢
        clear p0 p1 p2
        have p0 := HX5.out.cell 0
        have p1 := HX5.out.cell 1
        have p2 := HX5.out.cell 2
        simp at p0 p1 p2
        refine hK.out _ _ ⟨p0, p1, p2⟩ (fun hHeld => ?_)
        clear hK K
        try simp only [Act.put, List.setIfInBounds_toArray, List.set_cons_zero, List.set_cons_succ, List.getElem_toArray, List.getElem_cons_zero, List.getElem_cons_succ]
        refine wpAnyH_ready (rs := [7]) (by kernel_rfl) (by simp) ?_
        refine (AllReadyH.cons rfl (fun K hK => ?_) AllReadyH.nil)
        refine step_append_lies _ rfl (.tmp 7) (.tmp 9) 23 rfl (w.heap.size + 2) 4 iB (.bool false) 1 1 Try.underlying23 HB.out HB0'.out HB1'.out HB2'.out rfl (by decide) (.slice (some ⟨W4.heap.size, 0, none⟩) 0 0) 0 [] rfl (own_empty' HA1_5.out (by omega)) ⟨b1, o1, none⟩ 8 c1 (D.2.1.flatMap elB.C) rfl (by rw [flat_len, HL1.out]; rfl) ?q14_1 ?q14_2 (by decide) ?q14_3 ?q14_4 ?q14_5 W5.heap.size rfl ?_
        case q14_1 => exact (HR1.out.wb HBW5.out).news HL1.out (by decide)
        case q14_2 =>
          intro q hq
          obtain ⟨z, _, hz2⟩ := List.mem_flatMap.1 hq
          rw [List.mem_singleton.1 hz2]
          rfl
        case q14_3 => simp only [maxLen]; omega
        case q14_4 => omega
        case q14_5 => omega
        intro g1 k1 W6 hown hg hat hlt
        rw [Nat.zero_add, List.nil_append] at hown
        try rw [Nat.zero_add]
        have HM1_6 := Lib.hid (RowM.of_owns hown HL1.out)
        have hge1 := (hown.lt g1 rfl).1
        have hgl1_6 := (hown.lt g1 rfl).2
        have hcp1 := own_cap hown
        have hga1 : g1 = W4.heap.size ∨ g1 = W5.heap.size := by
          rcases hat with e | e
          · left; simp [Value.ownBlock] at e; omega
          · right; exact e
        have hsz6 := hg.size
        have HX6 := Lib.hid (show Box W6 w.heap.size _ 26 from (hg.block _ HX5.out.lt (by simp [Value.ownBlock]; omega)).trans HX5.out)
        have HZ6 := Lib.hid (show Box W6 (w.heap.size + 1) _ 26 from (hg.block _ HZ5.out.lt (by simp [Value.ownBlock]; omega)).trans HZ5.out)
        have HBW6 := Lib.hid (HBW5.out.grown hg HBW5.out.size (fun k e => by simp [Value.ownBlock] at e; omega))
        have HA2_6 := Lib.hid (show Box W6 W3.heap.size #[] 3 from (hg.block _ HA2_5.out.lt (by simp [Value.ownBlock]; omega)).trans HA2_5.out)
        have HM0_6 := Lib.hid (HM0_5.out.frame fun b hb => hg.block b (by rw [List.mem_singleton] at hb; rw [hb]; exact hgl0_5) (by rw [List.mem_singleton] at hb; rw [hb]; simp [Value.ownBlock]; omega))
        have hgl0_6 : g0 < W6.heap.size := by omega
        clear hown hg hat hlt
        clear p0 p1 p2
        have p0 := HX6.out.cell 0
        have p1 := HX6.out.cell 1
        have p2 := HX6.out.cell 2
        simp at p0 p1 p2
        refine hK.out _ _ ⟨p0, p1, p2⟩ (fun hHeld => ?_)
        clear hK K
        try simp only [Act.put, List.setIfInBounds_toArray, List.set_cons_zero, List.set_cons_succ, List.getElem_toArray, List.getElem_cons_zero, List.getElem_cons_succ]
        refine wpAnyH_ready (rs := [11]) (by kernel_rfl) (by simp) ?_
        refine (AllReadyH.cons rfl (fun K hK => ?_) AllReadyH.nil)
        refine step_append_lies _ rfl (.tmp 11) (.tmp 13) 24 rfl (w.heap.size + 2) 3 iI (.int .i64 0) 1 8 Try.underlying24 HI.out HI0.out HI1.out HI2.out rfl (by decide) (.slice (some ⟨W3.heap.size, 0, none⟩) 0 0) 0 [] rfl (own_empty' HA2_6.out (by omega)) ⟨b2, o2, none⟩ 8 c2 (D.2.2.flatMap elI.C) rfl (by rw [flat_len, HL2.out]; rfl) ?q15_1 ?q15_2 (by decide) ?q15_3 ?q15_4 ?q15_5 W6.heap.size rfl ?_
        case q15_1 => exact (HR2.out.wb HBW6.out).news HL2.out (by decide)
        case q15_2 =>
          intro q hq
          obtain ⟨z, _, hz2⟩ := List.mem_flatMap.1 hq
          rw [List.mem_singleton.1 hz2]
          rfl
        case q15_3 => simp only [maxLen]; omega
        case q15_4 => omega
        case q15_5 => omega
        intro g2 k2 W7 hown hg hat hlt
        rw [Nat.zero_add, List.nil_append] at hown
        try rw [Nat.zero_add]
        have HM2_7 := Lib.hid (RowM.of_owns hown HL2.out)
        have hge2 := (hown.lt g2 rfl).1
        have hgl2_7 := (hown.lt g2 rfl).2
        have hcp2 := own_cap hown
        have hga2 : g2 = W3.heap.size ∨ g2 = W6.heap.size := by
          rcases hat with e | e
          · left; simp [Value.ownBlock] at e; omega
          · right; exact e
        have hsz7 := hg.size
        have HX7 := Lib.hid (show Box W7 w.heap.size _ 26 from (hg.block _ HX6.out.lt (by simp [Value.ownBlock]; omega)).trans HX6.out)
        have HZ7 := Lib.hid (show Box W7 (w.heap.size + 1) _ 26 from (hg.block _ HZ6.out.lt (by simp [Value.ownBlock]; omega)).trans HZ6.out)
        have HBW7 := Lib.hid (HBW6.out.grown hg HBW6.out.size (fun k e => by simp [Value.ownBlock] at e; omega))
        have HM0_7 := Lib.hid (HM0_6.out.frame fun b hb => hg.block b (by rw [List.mem_singleton] at hb; rw [hb]; exact hgl0_6) (by rw [List.mem_singleton] at hb; rw [hb]; simp [Value.ownBlock]; omega))
        have hgl0_7 : g0 < W7.heap.size := by omega
        have HM1_7 := Lib.hid (HM1_6.out.frame fun b hb => hg.block b (by rw [List.mem_singleton] at hb; rw [hb]; exact hgl1_6) (by rw [List.mem_singleton] at hb; rw [hb]; simp [Value.ownBlock]; omega))
        have hgl1_7 : g1 < W7.heap.size := by omega
        clear hown hg hat hlt
        clear p0 p1 p2
        have p0 := HX7.out.cell 0
        have p1 := HX7.out.cell 1
        have p2 := HX7.out.cell 2
        simp at p0 p1 p2
        have z0 := HZ7.out.cell 0
        have z1 := HZ7.out.cell 1
        have z2 := HZ7.out.cell 2
        have e0 := HZ7.out.frz 0
        have e1 := HZ7.out.frz 1
        have e2 := HZ7.out.frz 2
        have zl := HZ7.out.lt
        simp at z0 z1 z2
        refine hK.out _ _ ⟨p0, p1, p2⟩ (fun hHeld => ?_)
        clear hK K
        try simp only [Act.put, List.setIfInBounds_toArray, List.set_cons_zero, List.set_cons_succ, List.getElem_toArray, List.getElem_cons_zero, List.getElem_cons_succ]
        refine wpAnyH_take (i := 12) (v := ?vg16_12) rfl (by kernel_rfl) (by kernel_rfl) (by kernel_rfl) (fun _ _ _ h => h) (Or.inl ⟨by rfl, ?hyg16_12⟩) (by assumption) ?restg16_12
        case hyg16_12 =>
          intro w hSw
          try dsimp only at hSw
          go_simp
          try with_reducible rfl
        try simp only [Act.put, List.setIfInBounds_toArray, List.set_cons_zero, List.set_cons_succ, List.getElem_toArray, List.getElem_cons_zero, List.getElem_cons_succ]
        refine wpAnyH_ready (rs := [13]) (by kernel_rfl) (by simp) ?_
        refine (AllReadyH.cons rfl (fun K hK => ?_) AllReadyH.nil)
        go_simp
        have HE := Lib.hid (copy_end HM0_7.out HM1_7.out HM2_7.out HL0.out HL1.out HL2.out (show w.heap.size + 2 ≤ g0 ∧ g0 < W7.heap.size by omega) (show w.heap.size + 2 ≤ g1 ∧ g1 < W7.heap.size by omega) (show w.heap.size + 2 ≤ g2 ∧ g2 < W7.heap.size by omega) (by omega) (by omega) (by omega) (w.heap.size + 1) (by omega) HBW7.out (by omega) (.slice (some ⟨g0, 0, none⟩) 8 k0) (.slice (some ⟨g1, 0, none⟩) 8 k1) (.slice (some ⟨g2, 0, none⟩) 8 k2))
        have y0 := (HX7.out.other (a := ⟨w.heap.size + 1, 0, none⟩) (by show w.heap.size ≠ w.heap.size + 1; omega) (.slice (some ⟨g0, 0, none⟩) 8 k0))
        have y1 := (y0.other (a := ⟨w.heap.size + 1, 1, none⟩) (by show w.heap.size ≠ w.heap.size + 1; omega) (.slice (some ⟨g1, 0, none⟩) 8 k1))
        have y2 := (y1.other (a := ⟨w.heap.size + 1, 2, none⟩) (by show w.heap.size ≠ w.heap.size + 1; omega) (.slice (some ⟨g2, 0, none⟩) 8 k2))
        refine hK.out _ _ ⟨y2.cell 0, y2.cell 1, y2.cell 2⟩ (fun hHeld => ?_)
        clear hK K
        try simp only [Act.put, List.setIfInBounds_toArray, List.set_cons_zero, List.set_cons_succ, List.getElem_toArray, List.getElem_cons_zero, List.getElem_cons_succ]
        clear y0 y1 y2
        refine wpAnyH_done (by kernel_rfl) ?_ _
        go_wp2_with fail
        refine bodyPost_ret (v := .agg #[.slice (some ⟨g0, 0, none⟩) 8 k0, .slice (some ⟨g1, 0, none⟩) 8 k1, .slice (some ⟨g2, 0, none⟩) 8 k2]) (by simp [results, Try.results71, go_sem, z0, z1, z2]) rfl ⟨g0, g1, g2, k0, k1, k2, rfl, HE.out.1, HE.out.2, hcp0, hcp1, hcp2⟩
    · go_simp
      have HBW3 := Lib.hid (HBW2.out.alloc HBW2.out.size (.cells #[] 4))
      have HX3 := Lib.hid (HX2.out.alloc (.cells #[] 4))
      have HZ3 := Lib.hid (HZ2.out.alloc (.cells #[] 4))
      have hz3 : W2.heap.size < (W2.alloc (.cells #[] 4)).heap.size := by rw [World.size_alloc]; omega
      have HA1_3 := Lib.hid (Box.new W2 #[] 4)
      have HA0_3 := Lib.hid (HA0_2.out.alloc (.cells #[] 4))
      generalize (W2.alloc (.cells #[] 4)) = W3 at HBW3 HX3 HZ3 hz3 HA1_3 HA0_3 ⊢
      clear p0 p1 p2
      have p0 := HX3.out.cell 0
      have p1 := HX3.out.cell 1
      have p2 := HX3.out.cell 2
      simp at p0 p1 p2
      refine hK.out _ _ ⟨p0, p1, p2⟩ (fun hHeld => ?_)
      clear hK K
      try simp only [Act.put, List.setIfInBounds_toArray, List.set_cons_zero, List.set_cons_succ, List.getElem_toArray, List.getElem_cons_zero, List.getElem_cons_succ]
      refine wpAnyH_ready (rs := [3, 8]) (by kernel_rfl) (by simp) ?_
      refine (AllReadyH.cons rfl (fun K hK => ?_) (AllReadyH.cons rfl (fun K hK => ?_) AllReadyH.nil))
      · refine step_append_lies _ rfl (.tmp 3) (.tmp 5) 23 rfl (w.heap.size + 2) 4 iB (.bool false) 1 1 Try.underlying23 HB.out HB0'.out HB1'.out HB2'.out rfl (by decide) (.slice (some ⟨W1.heap.size, 0, none⟩) 0 0) 0 [] rfl (own_empty' HA0_3.out (by omega)) ⟨b0, o0, none⟩ 8 c0 (D.1.flatMap elB.C) rfl (by rw [flat_len, HL0.out]; rfl) ?q17_1 ?q17_2 (by decide) ?q17_3 ?q17_4 ?q17_5 W3.heap.size rfl ?_
        case q17_1 => exact (HR0.out.wb HBW3.out).news HL0.out (by decide)
        case q17_2 =>
          intro q hq
          obtain ⟨z, _, hz2⟩ := List.mem_flatMap.1 hq
          rw [List.mem_singleton.1 hz2]
          rfl
        case q17_3 => simp only [maxLen]; omega
        case q17_4 => omega
        case q17_5 => omega
        intro g0 k0 W4 hown hg hat hlt
        rw [Nat.zero_add, List.nil_append] at hown
        try rw [Nat.zero_add]
        have HM0_4 := Lib.hid (RowM.of_owns hown HL0.out)
        have hge0 := (hown.lt g0 rfl).1
        have hgl0_4 := (hown.lt g0 rfl).2
        have hcp0 := own_cap hown
        have hga0 : g0 = W1.heap.size ∨ g0 = W3.heap.size := by
          rcases hat with e | e
          · left; simp [Value.ownBlock] at e; omega
          · right; exact e
        have hsz4 := hg.size
        have HX4 := Lib.hid (show Box W4 w.heap.size _ 26 from (hg.block _ HX3.out.lt (by simp [Value.ownBlock]; omega)).trans HX3.out)
        have HZ4 := Lib.hid (show Box W4 (w.heap.size + 1) _ 26 from (hg.block _ HZ3.out.lt (by simp [Value.ownBlock]; omega)).trans HZ3.out)
        have HBW4 := Lib.hid (HBW3.out.grown hg HBW3.out.size (fun k e => by simp [Value.ownBlock] at e; omega))
        have HA1_4 := Lib.hid (show Box W4 W2.heap.size #[] 4 from (hg.block _ HA1_3.out.lt (by simp [Value.ownBlock]; omega)).trans HA1_3.out)
        clear hown hg hat hlt
        clear p0 p1 p2
        have p0 := HX4.out.cell 0
        have p1 := HX4.out.cell 1
        have p2 := HX4.out.cell 2
        simp at p0 p1 p2
        refine hK.out _ _ ⟨p0, p1, p2⟩ (fun hHeld => ?_)
        clear hK K
        try simp only [Act.put, List.setIfInBounds_toArray, List.set_cons_zero, List.set_cons_succ, List.getElem_toArray, List.getElem_cons_zero, List.getElem_cons_succ]
        refine wpAnyH_ready (rs := [7, 8]) (by kernel_rfl) (by simp) ?_
        refine (AllReadyH.cons rfl (fun K hK => ?_) (AllReadyH.cons rfl (fun K hK => ?_) AllReadyH.nil))
        · refine step_append_lies _ rfl (.tmp 7) (.tmp 9) 23 rfl (w.heap.size + 2) 4 iB (.bool false) 1 1 Try.underlying23 HB.out HB0'.out HB1'.out HB2'.out rfl (by decide) (.slice (some ⟨W2.heap.size, 0, none⟩) 0 0) 0 [] rfl (own_empty' HA1_4.out (by omega)) ⟨b1, o1, none⟩ 8 c1 (D.2.1.flatMap elB.C) rfl (by rw [flat_len, HL1.out]; rfl) ?q18_1 ?q18_2 (by decide) ?q18_3 ?q18_4 ?q18_5 W4.heap.size rfl ?_
          case q18_1 => exact (HR1.out.wb HBW4.out).news HL1.out (by decide)
          case q18_2 =>
            intro q hq
            obtain ⟨z, _, hz2⟩ := List.mem_flatMap.1 hq
            rw [List.mem_singleton.1 hz2]
            rfl
          case q18_3 => simp only [maxLen]; omega
          case q18_4 => omega
          case q18_5 => omega
          intro g1 k1 W5 hown hg hat hlt
          rw [Nat.zero_add, List.nil_append] at hown
          try rw [Nat.zero_add]
          have HM1_5 := Lib.hid (RowM.of_owns hown HL1.out)
          have hge1 := (hown.lt g1 rfl).1
          have hgl1_5 := (hown.lt g1 rfl).2
          have hcp1 := own_cap hown
          have hga1 : g1 = W2.heap.size ∨ g1 = W4.heap.size := by
            rcases hat with e | e
            · left; simp [Value.ownBlock] at e; omega
            · right; exact e
          have hsz5 := hg.size
          have HX5 := Lib.hid (show Box W5 w.heap.size _ 26 from (hg.block _ HX4.out.lt (by simp [Value.ownBlock]; omega)).trans HX4.out)
          have HZ5 := Lib.hid (show Box W5 (w.heap.size + 1) _ 26 from (hg.block _ HZ4.out.lt (by simp [Value.ownBlock]; omega)).trans HZ4.out)
          have HBW5 := Lib.hid (HBW4.out.grown hg HBW4.out.size (fun k e => by simp [Value.ownBlock] at e; omega))
          have HM0_5 := Lib.hid (HM0_4.out.frame fun b hb => hg.block b (by rw [List.mem_singleton] at hb; rw [hb]; exact hgl0_4) (by rw [List.mem_singleton] at hb; rw [hb]; simp [Value.ownBlock]; omega))
          have hgl0_5 : g0 < W5.heap.size := by omega
          clear hown hg hat hlt
          clear p0 p1 p2
          have p0 := HX5.out.cell 0
          have p1 := HX5.out.cell 1
          have p2 := HX5.out.cell 2
          simp at p0 p1 p2
          refine hK.out _ _ ⟨p0, p1, p2⟩ (fun hHeld => ?_)
          clear hK K
          try simp only [Act.put, List.setIfInBounds_toArray, List.set_cons_zero, List.set_cons_succ, List.getElem_toArray, List.getElem_cons_zero, List.getElem_cons_succ]
          refine wpAnyH_ready (rs := [8]) (by kernel_rfl) (by simp) ?_
          refine (AllReadyH.cons rfl (fun K hK => ?_) AllReadyH.nil)
          go_simp
          have HBW6 := Lib.hid (HBW5.out.alloc HBW5.out.size (.cells #[] 3))
          have HX6 := Lib.hid (HX5.out.alloc (.cells #[] 3))
          have HZ6 := Lib.hid (HZ5.out.alloc (.cells #[] 3))
          have hz6 : W5.heap.size < (W5.alloc (.cells #[] 3)).heap.size := by rw [World.size_alloc]; omega
          have HA2_6 := Lib.hid (Box.new W5 #[] 3)
          have HM0_6 := Lib.hid (HM0_5.out.frame fun b hb => Below.heap_alloc W5 (.cells #[] 3) b (by rw [List.mem_singleton] at hb; rw [hb]; exact hgl0_5))
          have hgl0_6 : g0 < (W5.alloc (.cells #[] 3)).heap.size := by omega
          have HM1_6 := Lib.hid (HM1_5.out.frame fun b hb => Below.heap_alloc W5 (.cells #[] 3) b (by rw [List.mem_singleton] at hb; rw [hb]; exact hgl1_5))
          have hgl1_6 : g1 < (W5.alloc (.cells #[] 3)).heap.size := by omega
          generalize (W5.alloc (.cells #[] 3)) = W6 at HBW6 HX6 HZ6 hz6 HA2_6 HM0_6 hgl0_6 HM1_6 hgl1_6 ⊢
          clear p0 p1 p2
          have p0 := HX6.out.cell 0
          have p1 := HX6.out.cell 1
          have p2 := HX6.out.cell 2
          simp at p0 p1 p2
          refine hK.out _ _ ⟨p0, p1, p2⟩ (fun hHeld => ?_)
          clear hK K
          try simp only [Act.put, List.setIfInBounds_toArray, List.set_cons_zero, List.set_cons_succ, List.getElem_toArray, List.getElem_cons_zero, List.getElem_cons_succ]
          refine wpAnyH_ready (rs := [11]) (by kernel_rfl) (by simp) ?_
          refine (AllReadyH.cons rfl (fun K hK => ?_) AllReadyH.nil)
          refine step_append_lies _ rfl (.tmp 11) (.tmp 13) 24 rfl (w.heap.size + 2) 3 iI (.int .i64 0) 1 8 Try.underlying24 HI.out HI0.out HI1.out HI2.out rfl (by decide) (.slice (some ⟨W5.heap.size, 0, none⟩) 0 0) 0 [] rfl (own_empty' HA2_6.out (by omega)) ⟨b2, o2, none⟩ 8 c2 (D.2.2.flatMap elI.C) rfl (by rw [flat_len, HL2.out]; rfl) ?q19_1 ?q19_2 (by decide) ?q19_3 ?q19_4 ?q19_5 W6.heap.size rfl ?_
          case q19_1 => exact (HR2.out.wb HBW6.out).news HL2.out (by decide)
          case q19_2 =>
            intro q hq
            obtain ⟨z, _, hz2⟩ := List.mem_flatMap.1 hq
            rw [List.mem_singleton.1 hz2]
            rfl
          case q19_3 => simp only [maxLen]; omega
          case q19_4 => omega
          case q19_5 => omega
          intro g2 k2 W7 hown hg hat hlt
          rw [Nat.zero_add, List.nil_append] at hown
          try rw [Nat.zero_add]
          have HM2_7 := Lib.hid (RowM.of_owns hown HL2.out)
          have hge2 := (hown.lt g2 rfl).1
          have hgl2_7 := (hown.lt g2 rfl).2
          have hcp2 := own_cap hown
          have hga2 : g2 = W5.heap.size ∨ g2 = W6.heap.size := by
            rcases hat with e | e
            · left; simp [Value.ownBlock] at e; omega
            · right; exact e
          have hsz7 := hg.size
          have HX7 := Lib.hid (show Box W7 w.heap.size _ 26 from (hg.block _ HX6.out.lt (by simp [Value.ownBlock]; omega)).trans HX6.out)
          have HZ7 := Lib.hid (show Box W7 (w.heap.size + 1) _ 26 from (hg.block _ HZ6.out.lt (by simp [Value.ownBlock]; omega)).trans HZ6.out)
          have HBW7 := Lib.hid (HBW6.out.grown hg HBW6.out.size (fun k e => by simp [Value.ownBlock] at e; omega))
          have HM0_7 := Lib.hid (HM0_6.out.frame fun b hb => hg.block b (by rw [List.mem_singleton] at hb; rw [hb]; exact hgl0_6) (by rw [List.mem_singleton] at hb; rw [hb]; simp [Value.ownBlock]; omega))
          have hgl0_7 : g0 < W7.heap.size := by omega
          have HM1_7 := Lib.hid (HM1_6.out.frame fun b hb => hg.block b (by rw [List.mem_singleton] at hb; rw [hb]; exact hgl1_6) (by rw [List.mem_singleton] at hb; rw [hb]; simp [Value.ownBlock]; omega))
          have hgl1_7 : g1 < W7.heap.size := by omega
          clear hown hg hat hlt
          clear p0 p1 p2
          have p0 := HX7.out.cell 0
          have p1 := HX7.out.cell 1
          have p2 := HX7.out.cell 2
          simp at p0 p1 p2
          have z0 := HZ7.out.cell 0
          have z1 := HZ7.out.cell 1
          have z2 := HZ7.out.cell 2
          have e0 := HZ7.out.frz 0
          have e1 := HZ7.out.frz 1
          have e2 := HZ7.out.frz 2
          have zl := HZ7.out.lt
          simp at z0 z1 z2
          refine hK.out _ _ ⟨p0, p1, p2⟩ (fun hHeld => ?_)
          clear hK K
          try simp only [Act.put, List.setIfInBounds_toArray, List.set_cons_zero, List.set_cons_succ, List.getElem_toArray, List.getElem_cons_zero, List.getElem_cons_succ]
          refine wpAnyH_take (i := 12) (v := ?vg20_12) rfl (by kernel_rfl) (by kernel_rfl) (by kernel_rfl) (fun _ _ _ h => h) (Or.inl ⟨by rfl, ?hyg20_12⟩) (by assumption) ?restg20_12
          case hyg20_12 =>
            intro w hSw
            try dsimp only at hSw
            go_simp
            try with_reducible rfl
          try simp only [Act.put, List.setIfInBounds_toArray, List.set_cons_zero, List.set_cons_succ, List.getElem_toArray, List.getElem_cons_zero, List.getElem_cons_succ]
          refine wpAnyH_ready (rs := [13]) (by kernel_rfl) (by simp) ?_
          refine (AllReadyH.cons rfl (fun K hK => ?_) AllReadyH.nil)
          go_simp
          have HE := Lib.hid (copy_end HM0_7.out HM1_7.out HM2_7.out HL0.out HL1.out HL2.out (show w.heap.size + 2 ≤ g0 ∧ g0 < W7.heap.size by omega) (show w.heap.size + 2 ≤ g1 ∧ g1 < W7.heap.size by omega) (show w.heap.size + 2 ≤ g2 ∧ g2 < W7.heap.size by omega) (by omega) (by omega) (by omega) (w.heap.size + 1) (by omega) HBW7.out (by omega) (.slice (some ⟨g0, 0, none⟩) 8 k0) (.slice (some ⟨g1, 0, none⟩) 8 k1) (.slice (some ⟨g2, 0, none⟩) 8 k2))
          have y0 := (HX7.out.other (a := ⟨w.heap.size + 1, 0, none⟩) (by show w.heap.size ≠ w.heap.size + 1; omega) (.slice (some ⟨g0, 0, none⟩) 8 k0))
          have y1 := (y0.other (a := ⟨w.heap.size + 1, 1, none⟩) (by show w.heap.size ≠ w.heap.size + 1; omega) (.slice (some ⟨g1, 0, none⟩) 8 k1))
          have y2 := (y1.other (a := ⟨w.heap.size + 1, 2, none⟩) (by show w.heap.size ≠ w.heap.size + 1; omega) (.slice (some ⟨g2, 0, none⟩) 8 k2))
          refine hK.out _ _ ⟨y2.cell 0, y2.cell 1, y2.cell 2⟩ (fun hHeld => ?_)
          clear hK K
          try simp only [Act.put, List.setIfInBounds_toArray, List.set_cons_zero, List.set_cons_succ, List.getElem_toArray, List.getElem_cons_zero, List.getElem_cons_succ]
          clear y0 y1 y2
          refine wpAnyH_done (by kernel_rfl) ?_ _
          go_wp2_with fail
          refine bodyPost_ret (v := .agg #[.slice (some ⟨g0, 0, none⟩) 8 k0, .slice (some ⟨g1, 0, none⟩) 8 k1, .slice (some ⟨g2, 0, none⟩) 8 k2]) (by simp [results, Try.results71, go_sem, z0, z1, z2]) rfl ⟨g0, g1, g2, k0, k1, k2, rfl, HE.out.1, HE.out.2, hcp0, hcp1, hcp2⟩
        · go_simp
          have HBW5 := Lib.hid (HBW4.out.alloc HBW4.out.size (.cells #[] 3))
          have HX5 := Lib.hid (HX4.out.alloc (.cells #[] 3))
          have HZ5 := Lib.hid (HZ4.out.alloc (.cells #[] 3))
          have hz5 : W4.heap.size < (W4.alloc (.cells #[] 3)).heap.size := by rw [World.size_alloc]; omega
          have HA2_5 := Lib.hid (Box.new W4 #[] 3)
          have HA1_5 := Lib.hid (HA1_4.out.alloc (.cells #[] 3))
          have HM0_5 := Lib.hid (HM0_4.out.frame fun b hb => Below.heap_alloc W4 (.cells #[] 3) b (by rw [List.mem_singleton] at hb; rw [hb]; exact hgl0_4))
          have hgl0_5 : g0 < (W4.alloc (.cells #[] 3)).heap.size := by omega
          generalize (W4.alloc (.cells #[] 3)) = W5 at HBW5 HX5 HZ5 hz5 HA2_5 HA1_5 HM0_5 hgl0_5 ⊢
          clear p0 p1 p2
          have p0 := HX5.out.cell 0
          have p1 := HX5.out.cell 1
          have p2 := HX5.out.cell 2
          simp at p0 p1 p2
          refine hK.out _ _ ⟨p0, p1, p2⟩ (fun hHeld => ?_)
          clear hK K
          try simp only [Act.put, List.setIfInBounds_toArray, List.set_cons_zero, List.set_cons_succ, List.getElem_toArray, List.getElem_cons_zero, List.getElem_cons_succ]
          refine wpAnyH_ready (rs := [7]) (by kernel_rfl) (by simp) ?_
          refine (AllReadyH.cons rfl (fun K hK => ?_) AllReadyH.nil)
          refine step_append_lies _ rfl (.tmp 7) (.tmp 9) 23 rfl (w.heap.size + 2) 4 iB (.bool false) 1 1 Try.underlying23 HB.out HB0'.out HB1'.out HB2'.out rfl (by decide) (.slice (some ⟨W2.heap.size, 0, none⟩) 0 0) 0 [] rfl (own_empty' HA1_5.out (by omega)) ⟨b1, o1, none⟩ 8 c1 (D.2.1.flatMap elB.C) rfl (by rw [flat_len, HL1.out]; rfl) ?q21_1 ?q21_2 (by decide) ?q21_3 ?q21_4 ?q21_5 W5.heap.size rfl ?_
          case q21_1 => exact (HR1.out.wb HBW5.out).news HL1.out (by decide)
          case q21_2 =>
            intro q hq
            obtain ⟨z, _, hz2⟩ := List.mem_flatMap.1 hq
            rw [List.mem_singleton.1 hz2]
            rfl
          case q21_3 => simp only [maxLen]; omega
          case q21_4 => omega
          case q21_5 => omega
          intro g1 k1 W6 hown hg hat hlt
          rw [Nat.zero_add, List.nil_append] at hown
          try rw [Nat.zero_add]
          have HM1_6 := Lib.hid (RowM.of_owns hown HL1.out)
          have hge1 := (hown.lt g1 rfl).1
          have hgl1_6 := (hown.lt g1 rfl).2
          have hcp1 := own_cap hown
          have hga1 : g1 = W2.heap.size ∨ g1 = W5.heap.size := by
            rcases hat with e | e
            · left; simp [Value.ownBlock] at e; omega
            · right; exact e
          have hsz6 := hg.size
          have HX6 := Lib.hid (show Box W6 w.heap.size _ 26 from (hg.block _ HX5.out.lt (by simp [Value.ownBlock]; omega)).trans HX5.out)
          have HZ6 := Lib.hid (show Box W6 (w.heap.size + 1) _ 26 from (hg.block _ HZ5.out.lt (by simp [Value.ownBlock]; omega)).trans HZ5.out)
          have HBW6 := Lib.hid (HBW5.out.grown hg HBW5.out.size (fun k e => by simp [Value.ownBlock] at e; omega))
          have HA2_6 := Lib.hid (show Box W6 W4.heap.size #[] 3 from (hg.block _ HA2_5.out.lt (by simp [Value.ownBlock]; omega)).trans HA2_5.out)
          have HM0_6 := Lib.hid (HM0_5.out.frame fun b hb => hg.block b (by rw [List.mem_singleton] at hb; rw [hb]; exact hgl0_5) (by rw [List.mem_singleton] at hb; rw [hb]; simp [Value.ownBlock]; omega))
          have hgl0_6 : g0 < W6.heap.size := by omega
          clear hown hg hat hlt
          clear p0 p1 p2
          have p0 := HX6.out.cell 0
          have p1 := HX6.out.cell 1
          have p2 := HX6.out.cell 2
          simp at p0 p1 p2
          refine hK.out _ _ ⟨p0, p1, p2⟩ (fun hHeld => ?_)
          clear hK K
          try simp only [Act.put, List.setIfInBounds_toArray, List.set_cons_zero, List.set_cons_succ, List.getElem_toArray, List.getElem_cons_zero, List.getElem_cons_succ]
          refine wpAnyH_ready (rs := [11]) (by kernel_rfl) (by simp) ?_
          refine (AllReadyH.cons rfl (fun K hK => ?_) AllReadyH.nil)
          refine step_append_lies _ rfl (.tmp 11) (.tmp 13) 24 rfl (w.heap.size + 2) 3 iI (.int .i64 0) 1 8 Try.underlying24 HI.out HI0.out HI1.out HI2.out rfl (by decide) (.slice (some ⟨W4.heap.size, 0, none⟩) 0 0) 0 [] rfl (own_empty' HA2_6.out (by omega)) ⟨b2, o2, none⟩ 8 c2 (D.2.2.flatMap elI.C) rfl (by rw [flat_len, HL2.out]; rfl) ?q22_1 ?q22_2 (by decide) ?q22_3 ?q22_4 ?q22_5 W6.heap.size rfl ?_
          case q22_1 => exact (HR2.out.wb HBW6.out).news HL2.out (by decide)
          case q22_2 =>
            intro q hq
            obtain ⟨z, _, hz2⟩ := List.mem_flatMap.1 hq
            rw [List.mem_singleton.1 hz2]
            rfl
          case q22_3 => simp only [maxLen]; omega
          case q22_4 => omega
          case q22_5 => omega
          intro g2 k2 W7 hown hg hat hlt
          rw [Nat.zero_add, List.nil_append] at hown
          try rw [Nat.zero_add]
          have HM2_7 := Lib.hid (RowM.of_owns hown HL2.out)
          have hge2 := (hown.lt g2 rfl).1
          have hgl2_7 := (hown.lt g2 rfl).2
          have hcp2 := own_cap hown
          have hga2 : g2 = W4.heap.size ∨ g2 = W6.heap.size := by
            rcases hat with e | e
            · left; simp [Value.ownBlock] at e; omega
            · right; exact e
          have hsz7 := hg.size
          have HX7 := Lib.hid (show Box W7 w.heap.size _ 26 from (hg.block _ HX6.out.lt (by simp [Value.ownBlock]; omega)).trans HX6.out)
          have HZ7 := Lib.hid (show Box W7 (w.heap.size + 1) _ 26 from (hg.block _ HZ6.out.lt (by simp [Value.ownBlock]; omega)).trans HZ6.out)
          have HBW7 := Lib.hid (HBW6.out.grown hg HBW6.out.size (fun k e => by simp [Value.ownBlock] at e; omega))
          have HM0_7 := Lib.hid (HM0_6.out.frame fun b hb => hg.block b (by rw [List.mem_singleton] at hb; rw [hb]; exact hgl0_6) (by rw [List.mem_singleton] at hb; rw [hb]; simp [Value.ownBlock]; omega))
          have hgl0_7 : g0 < W7.heap.size := by omega
          have HM1_7 := Lib.hid (HM1_6.out.frame fun b hb => hg.block b (by rw [List.mem_singleton] at hb; rw [hb]; exact hgl1_6) (by rw [List.mem_singleton] at hb; rw [hb]; simp [Value.ownBlock]; omega))
          have hgl1_7 : g1 < W7.heap.size := by omega
          clear hown hg hat hlt
          clear p0 p1 p2
          have p0 := HX7.out.cell 0
          have p1 := HX7.out.cell 1
          have p2 := HX7.out.cell 2
          simp at p0 p1 p2
          have z0 := HZ7.out.cell 0
          have z1 := HZ7.out.cell 1
          have z2 := HZ7.out.cell 2
          have e0 := HZ7.out.frz 0
          have e1 := HZ7.out.frz 1
          have e2 := HZ7.out.frz 2
          have zl := HZ7.out.lt
          simp at z0 z1 z2
          refine hK.out _ _ ⟨p0, p1, p2⟩ (fun hHeld => ?_)
          clear hK K
          try simp only [Act.put, List.setIfInBounds_toArray, List.set_cons_zero, List.set_cons_succ, List.getElem_toArray, List.getElem_cons_zero, List.getElem_cons_succ]
          refine wpAnyH_take (i := 12) (v := ?vg23_12) rfl (by kernel_rfl) (by kernel_rfl) (by kernel_rfl) (fun _ _ _ h => h) (Or.inl ⟨by rfl, ?hyg23_12⟩) (by assumption) ?restg23_12
          case hyg23_12 =>
            intro w hSw
            try dsimp only at hSw
            go_simp
            try with_reducible rfl
          try simp only [Act.put, List.setIfInBounds_toArray, List.set_cons_zero, List.set_cons_succ, List.getElem_toArray, List.getElem_cons_zero, List.getElem_cons_succ]
          refine wpAnyH_ready (rs := [13]) (by kernel_rfl) (by simp) ?_
          refine (AllReadyH.cons rfl (fun K hK => ?_) AllReadyH.nil)
          go_simp
          have HE := Lib.hid (copy_end HM0_7.out HM1_7.out HM2_7.out HL0.out HL1.out HL2.out (show w.heap.size + 2 ≤ g0 ∧ g0 < W7.heap.size by omega) (show w.heap.size + 2 ≤ g1 ∧ g1 < W7.heap.size by omega) (show w.heap.size + 2 ≤ g2 ∧ g2 < W7.heap.size by omega) (by omega) (by omega) (by omega) (w.heap.size + 1) (by omega) HBW7.out (by omega) (.slice (some ⟨g0, 0, none⟩) 8 k0) (.slice (some ⟨g1, 0, none⟩) 8 k1) (.slice (some ⟨g2, 0, none⟩) 8 k2))
          have y0 := (HX7.out.other (a := ⟨w.heap.size + 1, 0, none⟩) (by show w.heap.size ≠ w.heap.size + 1; omega) (.slice (some ⟨g0, 0, none⟩) 8 k0))
          have y1 := (y0.other (a := ⟨w.heap.size + 1, 1, none⟩) (by show w.heap.size ≠ w.heap.size + 1; omega) (.slice (some ⟨g1, 0, none⟩) 8 k1))
          have y2 := (y1.other (a := ⟨w.heap.size + 1, 2, none⟩) (by show w.heap.size ≠ w.heap.size + 1; omega) (.slice (some ⟨g2, 0, none⟩) 8 k2))
          refine hK.out _ _ ⟨y2.cell 0, y2.cell 1, y2.cell 2⟩ (fun hHeld => ?_)
          clear hK K
          try simp only [Act.put, List.setIfInBounds_toArray, List.set_cons_zero, List.set_cons_succ, List.getElem_toArray, List.getElem_cons_zero, List.getElem_cons_succ]
          clear y0 y1 y2
          refine wpAnyH_done (by kernel_rfl) ?_ _
          go_wp2_with fail
          refine bodyPost_ret (v := .agg #[.slice (some ⟨g0, 0, none⟩) 8 k0, .slice (some ⟨g1, 0, none⟩) 8 k1, .slice (some ⟨g2, 0, none⟩) 8 k2]) (by simp [results, Try.results71, go_sem, z0, z1, z2]) rfl ⟨g0, g1, g2, k0, k1, k2, rfl, HE.out.1, HE.out.2, hcp0, hcp1, hcp2⟩
      · go_simp
        have HBW4 := Lib.hid (HBW3.out.alloc HBW3.out.size (.cells #[] 3))
        have HX4 := Lib.hid (HX3.out.alloc (.cells #[] 3))
        have HZ4 := Lib.hid (HZ3.out.alloc (.cells #[] 3))
        have hz4 : W3.heap.size < (W3.alloc (.cells #[] 3)).heap.size := by rw [World.size_alloc]; omega
        have HA2_4 := Lib.hid (Box.new W3 #[] 3)
        have HA0_4 := Lib.hid (HA0_3.out.alloc (.cells #[] 3))
        have HA1_4 := Lib.hid (HA1_3.out.alloc (.cells #[] 3))
        generalize (W3.alloc (.cells #[] 3)) = W4 at HBW4 HX4 HZ4 hz4 HA2_4 HA0_4 HA1_4 ⊢
        clear p0 p1 p2
        have p0 := HX4.out.cell 0
        have p1 := HX4.out.cell 1
        have p2 := HX4.out.cell 2
        simp at p0 p1 p2
        refine hK.out _ _ ⟨p0, p1, p2⟩ (fun hHeld => ?_)
        clear hK K
        try simp only [Act.put, List.setIfInBounds_toArray, List.set_cons_zero, List.set_cons_succ, List.getElem_toArray, List.getElem_cons_zero, List.getElem_cons_succ]
        refine wpAnyH_ready (rs := [3]) (by kernel_rfl) (by simp) ?_
        refine (AllReadyH.cons rfl (fun K hK => ?_) AllReadyH.nil)
        refine step_append_lies _ rfl (.tmp 3) (.tmp 5) 23 rfl (w.heap.size + 2) 4 iB (.bool false) 1 1 Try.underlying23 HB.out HB0'.out HB1'.out HB2'.out rfl (by decide) (.slice (some ⟨W1.heap.size, 0, none⟩) 0 0) 0 [] rfl (own_empty' HA0_4.out (by omega)) ⟨b0, o0, none⟩ 8 c0 (D.1.flatMap elB.C) rfl (by rw [flat_len, HL0.out]; rfl) ?q24_1 ?q24_2 (by decide) ?q24_3 ?q24_4 ?q24_5 W4.heap.size rfl ?_
        case q24_1 => exact (HR0.out.wb HBW4.out).news HL0.out (by decide)
        case q24_2 =>
          intro q hq
          obtain ⟨z, _, hz2⟩ := List.mem_flatMap.1 hq
          rw [List.mem_singleton.1 hz2]
          rfl
        case q24_3 => simp only [maxLen]; omega
        case q24_4 => omega
        case q24_5 => omega
        intro g0 k0 W5 hown hg hat hlt
        rw [Nat.zero_add, List.nil_append] at hown
        try rw [Nat.zero_add]
        have HM0_5 := Lib.hid (RowM.of_owns hown HL0.out)
        have hge0 := (hown.lt g0 rfl).1
        have hgl0_5 := (hown.lt g0 rfl).2
        have hcp0 := own_cap hown
        have hga0 : g0 = W1.heap.size ∨ g0 = W4.heap.size := by
          rcases hat with e | e
          · left; simp [Value.ownBlock] at e; omega
          · right; exact e
        have hsz5 := hg.size
        have HX5 := Lib.hid (show Box W5 w.heap.size _ 26 from (hg.block _ HX4.out.lt (by simp [Value.ownBlock]; omega)).trans HX4.out)
        have HZ5 := Lib.hid (show Box W5 (w.heap.size + 1) _ 26 from (hg.block _ HZ4.out.lt (by simp [Value.ownBlock]; omega)).trans HZ4.out)
        have HBW5 := Lib.hid (HBW4.out.grown hg HBW4.out.size (fun k e => by simp [Value.ownBlock] at e; omega))
        have HA1_5 := Lib.hid (show Box W5 W2.heap.size #[] 4 from (hg.block _ HA1_4.out.lt (by simp [Value.ownBlock]; omega)).trans HA1_4.out)
        have HA2_5 := Lib.hid (show Box W5 W3.heap.size #[] 3 from (hg.block _ HA2_4.out.lt (by simp [Value.ownBlock]; omega)).trans HA2_4.out)
        clear hown hg hat hlt
        clear p0 p1 p2
        have p0 := HX5.out.cell 0
        have p1 := HX5.out.cell 1
        have p2 := HX5.out.cell 2
        simp at p0 p1 p2
        refine hK.out _ _ ⟨p0, p1, p2⟩ (fun hHeld => ?_)
        clear hK K
        try simp only [Act.put, List.setIfInBounds_toArray, List.set_cons_zero, List.set_cons_succ, List.getElem_toArray, List.getElem_cons_zero, List.getElem_cons_succ]
        refine wpAnyH_ready (rs := [7]) (by kernel_rfl) (by simp) ?_
        refine (AllReadyH.cons rfl (fun K hK => ?_) AllReadyH.nil)
        refine step_append_lies _ rfl (.tmp 7) (.tmp 9) 23 rfl (w.heap.size + 2) 4 iB (.bool false) 1 1 Try.underlying23 HB.out HB0'.out HB1'.out HB2'.out rfl (by decide) (.slice (some ⟨W2.heap.size, 0, none⟩) 0 0) 0 [] rfl (own_empty' HA1_5.out (by omega)) ⟨b1, o1, none⟩ 8 c1 (D.2.1.flatMap elB.C) rfl (by rw [flat_len, HL1.out]; rfl) ?q25_1 ?q25_2 (by decide) ?q25_3 ?q25_4 ?q25_5 W5.heap.size rfl ?_
        case q25_1 => exact (HR1.out.wb HBW5.out).news HL1.out (by decide)
        case q25_2 =>
          intro q hq
          obtain ⟨z, _, hz2⟩ := List.mem_flatMap.1 hq
          rw [List.mem_singleton.1 hz2]
          rfl
        case q25_3 => simp only [maxLen]; omega
        case q25_4 => omega
        case q25_5 => omega
        intro g1 k1 W6 hown hg hat hlt
        rw [Nat.zero_add, List.nil_append] at hown
        try rw [Nat.zero_add]
        have HM1_6 := Lib.hid (RowM.of_owns hown HL1.out)
        have hge1 := (hown.lt g1 rfl).1
        have hgl1_6 := (hown.lt g1 rfl).2
        have hcp1 := own_cap hown
        have hga1 : g1 = W2.heap.size ∨ g1 = W5.heap.size := by
          rcases hat with e | e
          · left; simp [Value.ownBlock] at e; omega
          · right; exact e
        have hsz6 := hg.size
        have HX6 := Lib.hid (show Box W6 w.heap.size _ 26 from (hg.block _ HX5.out.lt (by simp [Value.ownBlock]; omega)).trans HX5.out)
        have HZ6 := Lib.hid (show Box W6 (w.heap.size + 1) _ 26 from (hg.block _ HZ5.out.lt (by simp [Value.ownBlock]; omega)).trans HZ5.out)
        have HBW6 := Lib.hid (HBW5.out.grown hg HBW5.out.size (fun k e => by simp [Value.ownBlock] at e; omega))
        have HA2_6 := Lib.hid (show Box W6 W3.heap.size #[] 3 from (hg.block _ HA2_5.out.lt (by simp [Value.ownBlock]; omega)).trans HA2_5.out)
        have HM0_6 := Lib.hid (HM0_5.out.frame fun b hb => hg.block b (by rw [List.mem_singleton] at hb; rw [hb]; exact hgl0_5) (by rw [List.mem_singleton] at hb; rw [hb]; simp [Value.ownBlock]; omega))
        have hgl0_6 : g0 < W6.heap.size := by omega
        clear hown hg hat hlt
        clear p0 p1 p2
        have p0 := HX6.out.cell 0
        have p1 := HX6.out.cell 1
        have p2 := HX6.out.cell 2
        simp at p0 p1 p2
        refine hK.out _ _ ⟨p0, p1, p2⟩ (fun hHeld => ?_)
        clear hK K
        try simp only [Act.put, List.setIfInBounds_toArray, List.set_cons_zero, List.set_cons_succ, List.getElem_toArray, List.getElem_cons_zero, List.getElem_cons_succ]
        refine wpAnyH_ready (rs := [11]) (by kernel_rfl) (by simp) ?_
        refine (AllReadyH.cons rfl (fun K hK => ?_) AllReadyH.nil)
        refine step_append_lies _ rfl (.tmp 11) (.tmp 13) 24 rfl (w.heap.size + 2) 3 iI (.int .i64 0) 1 8 Try.underlying24 HI.out HI0.out HI1.out HI2.out rfl (by decide) (.slice (some ⟨W3.heap.size, 0, none⟩) 0 0) 0 [] rfl (own_empty' HA2_6.out (by omega)) ⟨b2, o2, none⟩ 8 c2 (D.2.2.flatMap elI.C) rfl (by rw [flat_len, HL2.out]; rfl) ?q26_1 ?q26_2 (by decide) ?q26_3 ?q26_4 ?q26_5 W6.heap.size rfl ?_
        case q26_1 => exact (HR2.out.wb HBW6.out).news HL2.out (by decide)
        case q26_2 =>
          intro q hq
          obtain ⟨z, _, hz2⟩ := List.mem_flatMap.1 hq
          rw [List.mem_singleton.1 hz2]
          rfl
        case q26_3 => simp only [maxLen]; omega
        case q26_4 => omega
        case q26_5 => omega
        intro g2 k2 W7 hown hg hat hlt
        rw [Nat.zero_add, List.nil_append] at hown
        try rw [Nat.zero_add]
        have HM2_7 := Lib.hid (RowM.of_owns hown HL2.out)
        have hge2 := (hown.lt g2 rfl).1
        have hgl2_7 := (hown.lt g2 rfl).2
        have hcp2 := own_cap hown
        have hga2 : g2 = W3.heap.size ∨ g2 = W6.heap.size := by
          rcases hat with e | e
          · left; simp [Value.ownBlock] at e; omega
          · right; exact e
        have hsz7 := hg.size
        have HX7 := Lib.hid (show Box W7 w.heap.size _ 26 from (hg.block _ HX6.out.lt (by simp [Value.ownBlock]; omega)).trans HX6.out)
        have HZ7 := Lib.hid (show Box W7 (w.heap.size + 1) _ 26 from (hg.block _ HZ6.out.lt (by simp [Value.ownBlock]; omega)).trans HZ6.out)
        have HBW7 := Lib.hid (HBW6.out.grown hg HBW6.out.size (fun k e => by simp [Value.ownBlock] at e; omega))
        have HM0_7 := Lib.hid (HM0_6.out.frame fun b hb => hg.block b (by rw [List.mem_singleton] at hb; rw [hb]; exact hgl0_6) (by rw [List.mem_singleton] at hb; rw [hb]; simp [Value.ownBlock]; omega))
        have hgl0_7 : g0 < W7.heap.size := by omega
        have HM1_7 := Lib.hid (HM1_6.out.frame fun b hb => hg.block b (by rw [List.mem_singleton] at hb; rw [hb]; exact hgl1_6) (by rw [List.mem_singleton] at hb; rw [hb]; simp [Value.ownBlock]; omega))
        have hgl1_7 : g1 < W7.heap.size := by omega
        clear hown hg hat hlt
        clear p0 p1 p2
        have p0 := HX7.out.cell 0
        have p1 := HX7.out.cell 1
        have p2 := HX7.out.cell 2
        simp at p0 p1 p2
        have z0 := HZ7.out.cell 0
        have z1 := HZ7.out.cell 1
        have z2 := HZ7.out.cell 2
        have e0 := HZ7.out.frz 0
        have e1 := HZ7.out.frz 1
        have e2 := HZ7.out.frz 2
        have zl := HZ7.out.lt
        simp at z0 z1 z2
        refine hK.out _ _ ⟨p0, p1, p2⟩ (fun hHeld => ?_)
        clear hK K
        try simp only [Act.put, List.setIfInBounds_toArray, List.set_cons_zero, List.set_cons_succ, List.getElem_toArray, List.getElem_cons_zero, List.getElem_cons_succ]
        refine wpAnyH_take (i := 12) (v := ?vg27_12) rfl (by kernel_rfl) (by kernel_rfl) (by kernel_rfl) (fun _ _ _ h => h) (Or.inl ⟨by rfl, ?hyg27_12⟩) (by assumption) ?restg27_12
        case hyg27_12 =>
          intro w hSw
          try dsimp only at hSw
          go_simp
          try with_reducible rfl
        try simp only [Act.put, List.setIfInBounds_toArray, List.set_cons_zero, List.set_cons_succ, List.getElem_toArray, List.getElem_cons_zero, List.getElem_cons_succ]
        refine wpAnyH_ready (rs := [13]) (by kernel_rfl) (by simp) ?_
        refine (AllReadyH.cons rfl (fun K hK => ?_) AllReadyH.nil)
        go_simp
        have HE := Lib.hid (copy_end HM0_7.out HM1_7.out HM2_7.out HL0.out HL1.out HL2.out (show w.heap.size + 2 ≤ g0 ∧ g0 < W7.heap.size by omega) (show w.heap.size + 2 ≤ g1 ∧ g1 < W7.heap.size by omega) (show w.heap.size + 2 ≤ g2 ∧ g2 < W7.heap.size by omega) (by omega) (by omega) (by omega) (w.heap.size + 1) (by omega) HBW7.out (by omega) (.slice (some ⟨g0, 0, none⟩) 8 k0) (.slice (some ⟨g1, 0, none⟩) 8 k1) (.slice (some ⟨g2, 0, none⟩) 8 k2))
        have y0 := (HX7.out.other (a := ⟨w.heap.size + 1, 0, none⟩) (by show w.heap.size ≠ w.heap.size + 1; omega) (.slice (some ⟨g0, 0, none⟩) 8 k0))
        have y1 := (y0.other (a := ⟨w.heap.size + 1, 1, none⟩) (by show w.heap.size ≠ w.heap.size + 1; omega) (.slice (some ⟨g1, 0, none⟩) 8 k1))
        have y2 := (y1.other (a := ⟨w.heap.size + 1, 2, none⟩) (by show w.heap.size ≠ w.heap.size + 1; omega) (.slice (some ⟨g2, 0, none⟩) 8 k2))
        refine hK.out _ _ ⟨y2.cell 0, y2.cell 1, y2.cell 2⟩ (fun hHeld => ?_)
        clear hK K
        try simp only [Act.put, List.setIfInBounds_toArray, List.set_cons_zero, List.set_cons_succ, List.getElem_toArray, List.getElem_cons_zero, List.getElem_cons_succ]
        clear y0 y1 y2
        refine wpAnyH_done (by kernel_rfl) ?_ _
        go_wp2_with fail
        refine bodyPost_ret (v := .agg #[.slice (some ⟨g0, 0, none⟩) 8 k0, .slice (some ⟨g1, 0, none⟩) 8 k1, .slice (some ⟨g2, 0, none⟩) 8 k2]) (by simp [results, Try.results71, go_sem, z0, z1, z2]) rfl ⟨g0, g1, g2, k0, k1, k2, rfl, HE.out.1, HE.out.2, hcp0, hcp1, hcp2⟩
    · go_simp
      have HBW3 := Lib.hid (HBW2.out.alloc HBW2.out.size (.cells #[] 3))
      have HX3 := Lib.hid (HX2.out.alloc (.cells #[] 3))
      have HZ3 := Lib.hid (HZ2.out.alloc (.cells #[] 3))
      have hz3 : W2.heap.size < (W2.alloc (.cells #[] 3)).heap.size := by rw [World.size_alloc]; omega
      have HA2_3 := Lib.hid (Box.new W2 #[] 3)
      have HA0_3 := Lib.hid (HA0_2.out.alloc (.cells #[] 3))
      generalize (W2.alloc (.cells #[] 3)) = W3 at HBW3 HX3 HZ3 hz3 HA2_3 HA0_3 ⊢
      clear p0 p1 p2
      have p0 := HX3.out.cell 0
      have p1 := HX3.out.cell 1
      have p2 := HX3.out.cell 2
      simp at p0 p1 p2
      refine hK.out _ _ ⟨p0, p1, p2⟩ (fun hHeld => ?_)
      clear hK K
      try simp only [Act.put, List.setIfInBounds_toArray, List.set_cons_zero, List.set_cons_succ, List.getElem_toArray, List.getElem_cons_zero, List.getElem_cons_succ]
      refine wpAnyH_ready (rs := [3, 4]) (by kernel_rfl) (by simp) ?_
      refine (AllReadyH.cons rfl (fun K hK => ?_) (AllReadyH.cons rfl (fun K hK => ?_) AllReadyH.nil))
      · refine step_append_lies _ rfl (.tmp 3) (.tmp 5) 23 rfl (w.heap.size + 2) 4 iB (.bool false) 1 1 Try.underlying23 HB.out HB0'.out HB1'.out HB2'.out rfl (by decide) (.slice (some ⟨W1.heap.size, 0, none⟩) 0 0) 0 [] rfl (own_empty' HA0_3.out (by omega)) ⟨b0, o0, none⟩ 8 c0 (D.1.flatMap elB.C) rfl (by rw [flat_len, HL0.out]; rfl) ?q28_1 ?q28_2 (by decide) ?q28_3 ?q28_4 ?q28_5 W3.heap.size rfl ?_
        case q28_1 => exact (HR0.out.wb HBW3.out).news HL0.out (by decide)
        case q28_2 =>
          intro q hq
          obtain ⟨z, _, hz2⟩ := List.mem_flatMap.1 hq
          rw [List.mem_singleton.1 hz2]
          rfl
        case q28_3 => simp only [maxLen]; omega
        case q28_4 => omega
        case q28_5 => omega
        intro g0 k0 W4 hown hg hat hlt
        rw [Nat.zero_add, List.nil_append] at hown
        try rw [Nat.zero_add]
        have HM0_4 := Lib.hid (RowM.of_owns hown HL0.out)
        have hge0 := (hown.lt g0 rfl).1
        have hgl0_4 := (hown.lt g0 rfl).2
        have hcp0 := own_cap hown
        have hga0 : g0 = W1.heap.size ∨ g0 = W3.heap.size := by
          rcases hat with e | e
          · left; simp [Value.ownBlock] at e; omega
          · right; exact e
        have hsz4 := hg.size
        have HX4 := Lib.hid (show Box W4 w.heap.size _ 26 from (hg.block _ HX3.out.lt (by simp [Value.ownBlock]; omega)).trans HX3.out)
        have HZ4 := Lib.hid (show Box W4 (w.heap.size + 1) _ 26 from (hg.block _ HZ3.out.lt (by simp [Value.ownBlock]; omega)).trans HZ3.out)
        have HBW4 := Lib.hid (HBW3.out.grown hg HBW3.out.size (fun k e => by simp [Value.ownBlock] at e; omega))
        have HA2_4 := Lib.hid (show Box W4 W2.heap.size #[] 3 from (hg.block _ HA2_3.out.lt (by simp [Value.ownBlock]; omega)).trans HA2_3.out)
        clear hown hg hat hlt
        clear p0 p1 p2
        have p0 := HX4.out.cell 0
        have p1 := HX4.out.cell 1
        have p2 := HX4.out.cell 2
        simp at p0 p1 p2
        refine hK.out _ _ ⟨p0, p1, p2⟩ (fun hHeld => ?_)
        clear hK K
        try simp only [Act.put, List.setIfInBounds_toArray, List.set_cons_zero, List.set_cons_succ, List.getElem_toArray, List.getElem_cons_zero, List.getElem_cons_succ]
        refine wpAnyH_ready (rs := [4]) (by kernel_rfl) (by simp) ?_
        refine (AllReadyH.cons rfl (fun K hK => ?_) AllReadyH.nil)
        go_simp
        have HBW5 := Lib.hid (HBW4.out.alloc HBW4.out.size (.cells #[] 4))
        have HX5 := Lib.hid (HX4.out.alloc (.cells #[] 4))
        have HZ5 := Lib.hid (HZ4.out.alloc (.cells #[] 4))
        have hz5 : W4.heap.size < (W4.alloc (.cells #[] 4)).heap.size := by rw [World.size_alloc]; omega
        have HA1_5 := Lib.hid (Box.new W4 #[] 4)
        have HA2_5 := Lib.hid (HA2_4.out.alloc (.cells #[] 4))
        have HM0_5 := Lib.hid (HM0_4.out.frame fun b hb => Below.heap_alloc W4 (.cells #[] 4) b (by rw [List.mem_singleton] at hb; rw [hb]; exact hgl0_4))
        have hgl0_5 : g0 < (W4.alloc (.cells #[] 4)).heap.size := by omega
        generalize (W4.alloc (.cells #[] 4)) = W5 at HBW5 HX5 HZ5 hz5 HA1_5 HA2_5 HM0_5 hgl0_5 ⊢
        clear p0 p1 p2
        have p0 := HX5.out.cell 0
        have p1 := HX5.out.cell 1
        have p2 := HX5.out.cell 2
        simp at p0 p1 p2
        refine hK.out _ _ ⟨p0, p1, p2⟩ (fun hHeld => ?_)
        clear hK K
        try simp only [Act.put, List.setIfInBounds_toArray, List.set_cons_zero, List.set_cons_succ, List.getElem_toArray, List.getElem_cons_zero, List.getElem_cons_succ]
        refine wpAnyH_ready (rs := [7]) (by kernel_rfl) (by simp) ?_
        refine (AllReadyH.cons rfl (fun K hK => ?_) AllReadyH.nil)
        refine step_append_lies _ rfl (.tmp 7) (.tmp 9) 23 rfl (w.heap.size + 2) 4 iB (.bool false) 1 1 Try.underlying23 HB.out HB0'.out HB1'.out HB2'.out rfl (by decide) (.slice (some ⟨W4.heap.size, 0, none⟩) 0 0) 0 [] rfl (own_empty' HA1_5.out (by omega)) ⟨b1, o1, none⟩ 8 c1 (D.2.1.flatMap elB.C) rfl (by rw [flat_len, HL1.out]; rfl) ?q29_1 ?q29_2 (by decide) ?q29_3 ?q29_4 ?q29_5 W5.heap.size rfl ?_
        case q29_1 => exact (HR1.out.wb HBW5.out).news HL1.out (by decide)
        case q29_2 =>
          intro q hq
          obtain ⟨z, _, hz2⟩ := List.mem_flatMap.1 hq
          rw [List.mem_singleton.1 hz2]
          rfl
        case q29_3 => simp only [maxLen]; omega
        case q29_4 => omega
        case q29_5 => omega
        intro g1 k1 W6 hown hg hat hlt
        rw [Nat.zero_add, List.nil_append] at hown
        try rw [Nat.zero_add]
        have HM1_6 := Lib.hid (RowM.of_owns hown HL1.out)
        have hge1 := (hown.lt g1 rfl).1
        have hgl1_6 := (hown.lt g1 rfl).2
        have hcp1 := own_cap hown
        have hga1 : g1 = W4.heap.size ∨ g1 = W5.heap.size := by
          rcases hat with e | e
          · left; simp [Value.ownBlock] at e; omega
          · right; exact e
        have hsz6 := hg.size
        have HX6 := Lib.hid (show Box W6 w.heap.size _ 26 from (hg.block _ HX5.out.lt (by simp [Value.ownBlock]; omega)).trans HX5.out)
        have HZ6 := Lib.hid (show Box W6 (w.heap.size + 1) _ 26 from (hg.block _ HZ5.out.lt (by simp [Value.ownBlock]; omega)).trans HZ5.out)
        have HBW6 := Lib.hid (HBW5.out.grown hg HBW5.out.size (fun k e => by simp [Value.ownBlock] at e; omega))
        have HA2_6 := Lib.hid (show Box W6 W2.heap.size #[] 3 from (hg.block _ HA2_5.out.lt (by simp [Value.ownBlock]; omega)).trans HA2_5.out)
        have HM0_6 := Lib.hid (HM0_5.out.frame fun b hb => hg.block b (by rw [List.mem_singleton] at hb; rw [hb]; exact hgl0_5) (by rw [List.mem_singleton] at hb; rw [hb]; simp [Value.ownBlock]; omega))
        have hgl0_6 : g0 < W6.heap.size := by omega
        clear hown hg hat hlt
        clear p0 p1 p2
        have p0 := HX6.out.cell 0
        have p1 := HX6.out.cell 1
        have p2 := HX6.out.cell 2
        simp at p0 p1 p2
        refine hK.out _ _ ⟨p0, p1, p2⟩ (fun hHeld => ?_)
        clear hK K
        try simp only [Act.put, List.setIfInBounds_toArray, List.set_cons_zero, List.set_cons_succ, List.getElem_toArray, List.getElem_cons_zero, List.getElem_cons_succ]
        refine wpAnyH_ready (rs := [11]) (by kernel_rfl) (by simp) ?_
        refine (AllReadyH.cons rfl (fun K hK => ?_) AllReadyH.nil)
        refine step_append_lies _ rfl (.tmp 11) (.tmp 13) 24 rfl (w.heap.size + 2) 3 iI (.int .i64 0) 1 8 Try.underlying24 HI.out HI0.out HI1.out HI2.out rfl (by decide) (.slice (some ⟨W2.heap.size, 0, none⟩) 0 0) 0 [] rfl (own_empty' HA2_6.out (by omega)) ⟨b2, o2, none⟩ 8 c2 (D.2.2.flatMap elI.C) rfl (by rw [flat_len, HL2.out]; rfl) ?q30_1 ?q30_2 (by decide) ?q30_3 ?q30_4 ?q30_5 W6.heap.size rfl ?_
        case q30_1 => exact (HR2.out.wb HBW6.out).news HL2.out (by decide)
        case q30_2 =>
          intro q hq
          obtain ⟨z, _, hz2⟩ := List.mem_flatMap.1 hq
          rw [List.mem_singleton.1 hz2]
          rfl
        case q30_3 => simp only [maxLen]; omega
        case q30_4 => omega
        case q30_5 => omega
        intro g2 k2 W7 hown hg hat hlt
        rw [Nat.zero_add, List.nil_append] at hown
        try rw [Nat.zero_add]
        have HM2_7 := Lib.hid (RowM.of_owns hown HL2.out)
        have hge2 := (hown.lt g2 rfl).1
        have hgl2_7 := (hown.lt g2 rfl).2
        have hcp2 := own_cap hown
        have hga2 : g2 = W2.heap.size ∨ g2 = W6.heap.size := by
          rcases hat with e | e
          · left; simp [Value.ownBlock] at e; omega
          · right; exact e
        have hsz7 := hg.size
        have HX7 := Lib.hid (show Box W7 w.heap.size _ 26 from (hg.block _ HX6.out.lt (by simp [Value.ownBlock]; omega)).trans HX6.out)
        have HZ7 := Lib.hid (show Box W7 (w.heap.size + 1) _ 26 from (hg.block _ HZ6.out.lt (by simp [Value.ownBlock]; omega)).trans HZ6.out)
        have HBW7 := Lib.hid (HBW6.out.grown hg HBW6.out.size (fun k e => by simp [Value.ownBlock] at e; omega))
        have HM0_7 := Lib.hid (HM0_6.out.frame fun b hb => hg.block b (by rw [List.mem_singleton] at hb; rw [hb]; exact hgl0_6) (by rw [List.mem_singleton] at hb; rw [hb]; simp [Value.ownBlock]; omega))
        have hgl0_7 : g0 < W7.heap.size := by omega
        have HM1_7 := Lib.hid (HM1_6.out.frame fun b hb => hg.block b (by rw [List.mem_singleton] at hb; rw [hb]; exact hgl1_6) (by rw [List.mem_singleton] at hb; rw [hb]; simp [Value.ownBlock]; omega))
        have hgl1_7 : g1 < W7.heap.size := by omega
        clear hown hg hat hlt
        clear p0 p1 p2
        have p0 := HX7.out.cell 0
        have p1 := HX7.out.cell 1
        have p2 := HX7.out.cell 2
        simp at p0 p1 p2
        have z0 := HZ7.out.cell 0
        have z1 := HZ7.out.cell 1
        have z2 := HZ7.out.cell 2
        have e0 := HZ7.out.frz 0
        have e1 := HZ7.out.frz 1
        have e2 := HZ7.out.frz 2
        have zl := HZ7.out.lt
        simp at z0 z1 z2
        refine hK.out _ _ ⟨p0, p1, p2⟩ (fun hHeld => ?_)
        clear hK K
        try simp only [Act.put, List.setIfInBounds_toArray, List.set_cons_zero, List.set_cons_succ, List.getElem_toArray, List.getElem_cons_zero, List.getElem_cons_succ]
        refine wpAnyH_take (i := 12) (v := ?vg31_12) rfl (by kernel_rfl) (by kernel_rfl) (by kernel_rfl) (fun _ _ _ h => h) (Or.inl ⟨by rfl, ?hyg31_12⟩) (by assumption) ?restg31_12
        case hyg31_12 =>
          intro w hSw
          try dsimp only at hSw
          go_simp
          try with_reducible rfl
        try simp only [Act.put, List.setIfInBounds_toArray, List.set_cons_zero, List.set_cons_succ, List.getElem_toArray, List.getElem_cons_zero, List.getElem_cons_succ]
        refine wpAnyH_ready (rs := [13]) (by kernel_rfl) (by simp) ?_
        refine (AllReadyH.cons rfl (fun K hK => ?_) AllReadyH.nil)
        go_simp
        have HE := Lib.hid (copy_end HM0_7.out HM1_7.out HM2_7.out HL0.out HL1.out HL2.out (show w.heap.size + 2 ≤ g0 ∧ g0 < W7.heap.size by omega) (show w.heap.size + 2 ≤ g1 ∧ g1 < W7.heap.size by omega) (show w.heap.size + 2 ≤ g2 ∧ g2 < W7.heap.size by omega) (by omega) (by omega) (by omega) (w.heap.size + 1) (by omega) HBW7.out (by omega) (.slice (some ⟨g0, 0, none⟩) 8 k0) (.slice (some ⟨g1, 0, none⟩) 8 k1) (.slice (some ⟨g2, 0, none⟩) 8 k2))
        have y0 := (HX7.out.other (a := ⟨w.heap.size + 1, 0, none⟩) (by show w.heap.size ≠ w.heap.size + 1; omega) (.slice (some ⟨g0, 0, none⟩) 8 k0))
        have y1 := (y0.other (a := ⟨w.heap.size + 1, 1, none⟩) (by show w.heap.size ≠ w.heap.size + 1; omega) (.slice (some ⟨g1, 0, none⟩) 8 k1))
        have y2 := (y1.other (a := ⟨w.heap.size + 1, 2, none⟩) (by show w.heap.size ≠ w.heap.size + 1; omega) (.slice (some ⟨g2, 0, none⟩) 8 k2))
        refine hK.out _ _ ⟨y2.cell 0, y2.cell 1, y2.cell 2⟩ (fun hHeld => ?_)
        clear hK K
        try simp only [Act.put, List.setIfInBounds_toArray, List.set_cons_zero, List.set_cons_succ, List.getElem_toArray, List.getElem_cons_zero, List.getElem_cons_succ]
        clear y0 y1 y2
        refine wpAnyH_done (by kernel_rfl) ?_ _
        go_wp2_with fail
        refine bodyPost_ret (v := .agg #[.slice (some ⟨g0, 0, none⟩) 8 k0, .slice (some ⟨g1, 0, none⟩) 8 k1, .slice (some ⟨g2, 0, none⟩) 8 k2]) (by simp [results, Try.results71, go_sem, z0, z1, z2]) rfl ⟨g0, g1, g2, k0, k1, k2, rfl, HE.out.1, HE.out.2, hcp0, hcp1, hcp2⟩
      · go_simp
        have HBW4 := Lib.hid (HBW3.out.alloc HBW3.out.size (.cells #[] 4))
        have HX4 := Lib.hid (HX3.out.alloc (.cells #[] 4))
        have HZ4 := Lib.hid (HZ3.out.alloc (.cells #[] 4))
        have hz4 : W3.heap.size < (W3.alloc (.cells #[] 4)).heap.size := by rw [World.size_alloc]; omega
        have HA1_4 := Lib.hid (Box.new W3 #[] 4)
        have HA0_4 := Lib.hid (HA0_3.out.alloc (.cells #[] 4))
        have HA2_4 := Lib.hid (HA2_3.out.alloc (.cells #[] 4))
        generalize (W3.alloc (.cells #[] 4)) = W4 at HBW4 HX4 HZ4 hz4 HA1_4 HA0_4 HA2_4 ⊢
        clear p0 p1 p2
        have p0 := HX4.out.cell 0
        have p1 := HX4.out.cell 1
        have p2 := HX4.out.cell 2
        simp at p0 p1 p2
        refine hK.out _ _ ⟨p0, p1, p2⟩ (fun hHeld => ?_)
        clear hK K
        try simp only [Act.put, List.setIfInBounds_toArray, List.set_cons_zero, List.set_cons_succ, List.getElem_toArray, List.getElem_cons_zero, List.getElem_cons_succ]
        refine wpAnyH_ready (rs := [3]) (by kernel_rfl) (by simp) ?_
        refine (AllReadyH.cons rfl (fun K hK => ?_) AllReadyH.nil)
        refine step_append_lies _ rfl (.tmp 3) (.tmp 5) 23 rfl (w.heap.size + 2) 4 iB (.bool false) 1 1 Try.underlying23 HB.out HB0'.out HB1'.out HB2'.out rfl (by decide) (.slice (some ⟨W1.heap.size, 0, none⟩) 0 0) 0 [] rfl (own_empty' HA0_4.out (by omega)) ⟨b0, o0, none⟩ 8 c0 (D.1.flatMap elB.C) rfl (by rw [flat_len, HL0.out]; rfl) ?q32_1 ?q32_2 (by decide) ?q32_3 ?q32_4 ?q32_5 W4.heap.size rfl ?_
        case q32_1 => exact (HR0.out.wb HBW4.out).news HL0.out (by decide)
        case q32_2 =>
          intro q hq
          obtain ⟨z, _, hz2⟩ := List.mem_flatMap.1 hq
          rw [List.mem_singleton.1 hz2]
          rfl
        case q32_3 => simp only [maxLen]; omega
        case q32_4 => omega
        case q32_5 => omega
        intro g0 k0 W5 hown hg hat hlt
        rw [Nat.zero_add, List.nil_append] at hown
        try rw [Nat.zero_add]
        have HM0_5 := Lib.hid (RowM.of_owns hown HL0.out)
        have hge0 := (hown.lt g0 rfl).1
        have hgl0_5 := (hown.lt g0 rfl).2
        have hcp0 := own_cap hown
        have hga0 : g0 = W1.heap.size ∨ g0 = W4.heap.size := by
          rcases hat with e | e
          · left; simp [Value.ownBlock] at e; omega
          · right; exact e
        have hsz5 := hg.size
        have HX5 := Lib.hid (show Box W5 w.heap.size _ 26 from (hg.block _ HX4.out.lt (by simp [Value.ownBlock]; omega)).trans HX4.out)
        have HZ5 := Lib.hid (show Box W5 (w.heap.size + 1) _ 26 from (hg.block _ HZ4.out.lt (by simp [Value.ownBlock]; omega)).trans HZ4.out)
        have HBW5 := Lib.hid (HBW4.out.grown hg HBW4.out.size (fun k e => by simp [Value.ownBlock] at e; omega))
        have HA2_5 := Lib.hid (show Box W5 W2.heap.size #[] 3 from (hg.block _ HA2_4.out.lt (by simp [Value.ownBlock]; omega)).trans HA2_4.out)
        have HA1_5 := Lib.hid (show Box W5 W3.heap.size #[] 4 from (hg.block _ HA1_4.out.lt (by simp [Value.ownBlock]; omega)).trans HA1_4.out)
        clear hown hg hat hlt
        clear p0 p1 p2
        have p0 := HX5.out.cell 0
        have p1 := HX5.out.cell 1
        have p2 := HX5.out.cell 2
        simp at p0 p1 p2
        refine hK.out _ _ ⟨p0, p1, p2⟩ (fun hHeld => ?_)
        clear hK K
        try simp only [Act.put, List.setIfInBounds_toArray, List.set_cons_zero, List.set_cons_succ, List.getElem_toArray, List.getElem_cons_zero, List.getElem_cons_succ]
        refine wpAnyH_ready (rs := [7]) (by kernel_rfl) (by simp) ?_
        refine (AllReadyH.cons rfl (fun K hK => ?_) AllReadyH.nil)
        refine step_append_lies _ rfl (.tmp 7) (.tmp 9) 23 rfl (w.heap.size + 2) 4 iB (.bool false) 1 1 Try.underlying23 HB.out HB0'.out HB1'.out HB2'.out rfl (by decide) (.slice (some ⟨W3.heap.size, 0, none⟩) 0 0) 0 [] rfl (own_empty' HA1_5.out (by omega)) ⟨b1, o1, none⟩ 8 c1 (D.2.1.flatMap elB.C) rfl (by rw [flat_len, HL1.out]; rfl) ?q33_1 ?q33_2 (by decide) ?q33_3 ?q33_4 ?q33_5 W5.heap.size rfl ?_
        case q33_1 => exact (HR1.out.wb HBW5.out).news HL1.out (by decide)
        case q33_2 =>
          intro q hq
          obtain ⟨z, _, hz2⟩ := List.mem_flatMap.1 hq
          rw [List.mem_singleton.1 hz2]
          rfl
        case q33_3 => simp only [maxLen]; omega
        case q33_4 => omega
        case q33_5 => omega
        intro g1 k1 W6 hown hg hat hlt
        rw [Nat.zero_add, List.nil_append] at hown
        try rw [Nat.zero_add]
        have HM1_6 := Lib.hid (RowM.of_owns hown HL1.out)
        have hge1 := (hown.lt g1 rfl).1
        have hgl1_6 := (hown.lt g1 rfl).2
        have hcp1 := own_cap hown
        have hga1 : g1 = W3.heap.size ∨ g1 = W5.heap.size := by
          rcases hat with e | e
          · left; simp [Value.ownBlock] at e; omega
          · right; exact e
        have hsz6 := hg.size
        have HX6 := Lib.hid (show Box W6 w.heap.size _ 26 from (hg.block _ HX5.out.lt (by simp [Value.ownBlock]; omega)).trans HX5.out)
        have HZ6 := Lib.hid (show Box W6 (w.heap.size + 1) _ 26 from (hg.block _ HZ5.out.lt (by simp [Value.ownBlock]; omega)).trans HZ5.out)
        have HBW6 := Lib.hid (HBW5.out.grown hg HBW5.out.size (fun k e => by simp [Value.ownBlock] at e; omega))
        have HA2_6 := Lib.hid (show Box W6 W2.heap.size #[] 3 from (hg.block _ HA2_5.out.lt (by simp [Value.ownBlock]; omega)).trans HA2_5.out)
        have HM0_6 := Lib.hid (HM0_5.out.frame fun b hb => hg.block b (by rw [List.mem_singleton] at hb; rw [hb]; exact hgl0_5) (by rw [List.mem_singleton] at hb; rw [hb]; simp [Value.ownBlock]; omega))
        have hgl0_6 : g0 < W6.heap.size := by omega
        clear hown hg hat hlt
        clear p0 p1 p2
        have p0 := HX6.out.cell 0
        have p1 := HX6.out.cell 1
        have p2 := HX6.out.cell 2
        simp at p0 p1 p2
        refine hK.out _ _ ⟨p0, p1, p2⟩ (fun hHeld => ?_)
        clear hK K
        try simp only [Act.put, List.setIfInBounds_toArray, List.set_cons_zero, List.set_cons_succ, List.getElem_toArray, List.getElem_cons_zero, List.getElem_cons_succ]
        refine wpAnyH_ready (rs := [11]) (by kernel_rfl) (by simp) ?_
        refine (AllReadyH.cons rfl (fun K hK => ?_) AllReadyH.nil)
        refine step_append_lies _ rfl (.tmp 11) (.tmp 13) 24 rfl (w.heap.size + 2) 3 iI (.int .i64 0) 1 8 Try.underlying24 HI.out HI0.out HI1.out HI2.out rfl (by decide) (.slice (some ⟨W2.heap.size, 0, none⟩) 0 0) 0 [] rfl (own_empty' HA2_6.out (by omega)) ⟨b2, o2, none⟩ 8 c2 (D.2.2.flatMap elI.C) rfl (by rw [flat_len, HL2.out]; rfl) ?q34_1 ?q34_2 (by decide) ?q34_3 ?q34_4 ?q34_5 W6.heap.size rfl ?_
        case q34_1 => exact (HR2.out.wb HBW6.out).news HL2.out (by decide)
        case q34_2 =>
          intro q hq
          obtain ⟨z, _, hz2⟩ := List.mem_flatMap.1 hq
          rw [List.mem_singleton.1 hz2]
          rfl
        case q34_3 => simp only [maxLen]; omega
        case q34_4 => omega
        case q34_5 => omega
        intro g2 k2 W7 hown hg hat hlt
        rw [Nat.zero_add, List.nil_append] at hown
        try rw [Nat.zero_add]
        have HM2_7 := Lib.hid (RowM.of_owns hown HL2.out)
        have hge2 := (hown.lt g2 rfl).1
        have hgl2_7 := (hown.lt g2 rfl).2
        have hcp2 := own_cap hown
        have hga2 : g2 = W2.heap.size ∨ g2 = W6.heap.size := by
          rcases hat with e | e
          · left; simp [Value.ownBlock] at e; omega
          · right; exact e
        have hsz7 := hg.size
        have HX7 := Lib.hid (show Box W7 w.heap.size _ 26 from (hg.block _ HX6.out.lt (by simp [Value.ownBlock]; omega)).trans HX6.out)
        have HZ7 := Lib.hid (show Box W7 (w.heap.size + 1) _ 26 from (hg.block _ HZ6.out.lt (by simp [Value.ownBlock]; omega)).trans HZ6.out)
        have HBW7 := Lib.hid (HBW6.out.grown hg HBW6.out.size (fun k e => by simp [Value.ownBlock] at e; omega))
        have HM0_7 := Lib.hid (HM0_6.out.frame fun b hb => hg.block b (by rw [List.mem_singleton] at hb; rw [hb]; exact hgl0_6) (by rw [List.mem_singleton] at hb; rw [hb]; simp [Value.ownBlock]; omega))
        have hgl0_7 : g0 < W7.heap.size := by omega
        have HM1_7 := Lib.hid (HM1_6.out.frame fun b hb => hg.block b (by rw [List.mem_singleton] at hb; rw [hb]; exact hgl1_6) (by rw [List.mem_singleton] at hb; rw [hb]; simp [Value.ownBlock]; omega))
        have hgl1_7 : g1 < W7.heap.size := by omega
        clear hown hg hat hlt
        clear p0 p1 p2
        have p0 := HX7.out.cell 0
        have p1 := HX7.out.cell 1
        have p2 := HX7.out.cell 2
        simp at p0 p1 p2
        have z0 := HZ7.out.cell 0
        have z1 := HZ7.out.cell 1
        have z2 := HZ7.out.cell 2
        have e0 := HZ7.out.frz 0
        have e1 := HZ7.out.frz 1
        have e2 := HZ7.out.frz 2
        have zl := HZ7.out.lt
        simp at z0 z1 z2
        refine hK.out _ _ ⟨p0, p1, p2⟩ (fun hHeld => ?_)
        clear hK K
        try simp only [Act.put, List.setIfInBounds_toArray, List.set_cons_zero, List.set_cons_succ, List.getElem_toArray, List.getElem_cons_zero, List.getElem_cons_succ]
        refine wpAnyH_take (i := 12) (v := ?vg35_12) rfl (by kernel_rfl) (by kernel_rfl) (by kernel_rfl) (fun _ _ _ h => h) (Or.inl ⟨by rfl, ?hyg35_12⟩) (by assumption) ?restg35_12
        case hyg35_12 =>
          intro w hSw
          try dsimp only at hSw
          go_simp
          try with_reducible rfl
        try simp only [Act.put, List.setIfInBounds_toArray, List.set_cons_zero, List.set_cons_succ, List.getElem_toArray, List.getElem_cons_zero, List.getElem_cons_succ]
        refine wpAnyH_ready (rs := [13]) (by kernel_rfl) (by simp) ?_
        refine (AllReadyH.cons rfl (fun K hK => ?_) AllReadyH.nil)
        go_simp
        have HE := Lib.hid (copy_end HM0_7.out HM1_7.out HM2_7.out HL0.out HL1.out HL2.out (show w.heap.size + 2 ≤ g0 ∧ g0 < W7.heap.size by omega) (show w.heap.size + 2 ≤ g1 ∧ g1 < W7.heap.size by omega) (show w.heap.size + 2 ≤ g2 ∧ g2 < W7.heap.size by omega) (by omega) (by omega) (by omega) (w.heap.size + 1) (by omega) HBW7.out (by omega) (.slice (some ⟨g0, 0, none⟩) 8 k0) (.slice (some ⟨g1, 0, none⟩) 8 k1) (.slice (some ⟨g2, 0, none⟩) 8 k2))
        have y0 := (HX7.out.other (a := ⟨w.heap.size + 1, 0, none⟩) (by show w.heap.size ≠ w.heap.size + 1; omega) (.slice (some ⟨g0, 0, none⟩) 8 k0))
        have y1 := (y0.other (a := ⟨w.heap.size + 1, 1, none⟩) (by show w.heap.size ≠ w.heap.size + 1; omega) (.slice (some ⟨g1, 0, none⟩) 8 k1))
        have y2 := (y1.other (a := ⟨w.heap.size + 1, 2, none⟩) (by show w.heap.size ≠ w.heap.size + 1; omega) (.slice (some ⟨g2, 0, none⟩) 8 k2))
        refine hK.out _ _ ⟨y2.cell 0, y2.cell 1, y2.cell 2⟩ (fun hHeld => ?_)
        clear hK K
        try simp only [Act.put, List.setIfInBounds_toArray, List.set_cons_zero, List.set_cons_succ, List.getElem_toArray, List.getElem_cons_zero, List.getElem_cons_succ]
        clear y0 y1 y2
        refine wpAnyH_done (by kernel_rfl) ?_ _
        go_wp2_with fail
        refine bodyPost_ret (v := .agg #[.slice (some ⟨g0, 0, none⟩) 8 k0, .slice (some ⟨g1, 0, none⟩) 8 k1, .slice (some ⟨g2, 0, none⟩) 8 k2]) (by simp [results, Try.results71, go_sem, z0, z1, z2]) rfl ⟨g0, g1, g2, k0, k1, k2, rfl, HE.out.1, HE.out.2, hcp0, hcp1, hcp2⟩
  · go_simp
    have HBW2 := Lib.hid (HBW1.out.alloc HBW1.out.size (.cells #[] 4))
    have HX2 := Lib.hid (HX1.out.alloc (.cells #[] 4))
    have HZ2 := Lib.hid (HZ1.out.alloc (.cells #[] 4))
    have hz2 : W1.heap.size < (W1.alloc (.cells #[] 4)).heap.size := by rw [World.size_alloc]; omega
    have HA1_2 := Lib.hid (Box.new W1 #[] 4)
    generalize (W1.alloc (.cells #[] 4)) = W2 at HBW2 HX2 HZ2 hz2 HA1_2 ⊢
    clear p0 p1 p2
    have p0 := HX2.out.cell 0
    have p1 := HX2.out.cell 1
    have p2 := HX2.out.cell 2
    simp at p0 p1 p2
    refine hK.out _ _ ⟨p0, p1, p2⟩ (fun hHeld => ?_)
    clear hK K
    try simp only [Act.put, List.setIfInBounds_toArray, List.set_cons_zero, List.set_cons_succ, List.getElem_toArray, List.getElem_cons_zero, List.getElem_cons_succ]
    refine wpAnyH_ready (rs := [0, 8]) (by kernel_rfl) (by simp) ?_
    refine (AllReadyH.cons rfl (fun K hK => ?_) (AllReadyH.cons rfl (fun K hK => ?_) AllReadyH.nil))
    · go_simp
      have HBW3 := Lib.hid (HBW2.out.alloc HBW2.out.size (.cells #[] 4))
      have HX3 := Lib.hid (HX2.out.alloc (.cells #[] 4))
      have HZ3 := Lib.hid (HZ2.out.alloc (.cells #[] 4))
      have hz3 : W2.heap.size < (W2.alloc (.cells #[] 4)).heap.size := by rw [World.size_alloc]; omega
      have HA0_3 := Lib.hid (Box.new W2 #[] 4)
      have HA1_3 := Lib.hid (HA1_2.out.alloc (.cells #[] 4))
      generalize (W2.alloc (.cells #[] 4)) = W3 at HBW3 HX3 HZ3 hz3 HA0_3 HA1_3 ⊢
      clear p0 p1 p2
      have p0 := HX3.out.cell 0
      have p1 := HX3.out.cell 1
      have p2 := HX3.out.cell 2
      simp at p0 p1 p2
      refine hK.out _ _ ⟨p0, p1, p2⟩ (fun hHeld => ?_)
      clear hK K
      try simp only [Act.put, List.setIfInBounds_toArray, List.set_cons_zero, List.set_cons_succ, List.getElem_toArray, List.getElem_cons_zero, List.getElem_cons_succ]
      refine wpAnyH_ready (rs := [3, 8]) (by kernel_rfl) (by simp) ?_
      refine (AllReadyH.cons rfl (fun K hK => ?_) (AllReadyH.cons rfl (fun K hK => ?_) AllReadyH.nil))
      · refine step_append_lies _ rfl (.tmp 3) (.tmp 5) 23 rfl (w.heap.size + 2) 4 iB (.bool false) 1 1 Try.underlying23 HB.out HB0'.out HB1'.out HB2'.out rfl (by decide) (.slice (some ⟨W2.heap.size, 0, none⟩) 0 0) 0 [] rfl (own_empty' HA0_3.out (by omega)) ⟨b0, o0, none⟩ 8 c0 (D.1.flatMap elB.C) rfl (by rw [flat_len, HL0.out]; rfl) ?q36_1 ?q36_2 (by decide) ?q36_3 ?q36_4 ?q36_5 W3.heap.size rfl ?_
        case q36_1 => exact (HR0.out.wb HBW3.out).news HL0.out (by decide)
        case q36_2 =>
          intro q hq
          obtain ⟨z, _, hz2⟩ := List.mem_flatMap.1 hq
          rw [List.mem_singleton.1 hz2]
          rfl
        case q36_3 => simp only [maxLen]; omega
        case q36_4 => omega
        case q36_5 => omega
        intro g0 k0 W4 hown hg hat hlt
        rw [Nat.zero_add, List.nil_append] at hown
        try rw [Nat.zero_add]
        have HM0_4 := Lib.hid (RowM.of_owns hown HL0.out)
        have hge0 := (hown.lt g0 rfl).1
        have hgl0_4 := (hown.lt g0 rfl).2
        have hcp0 := own_cap hown
        have hga0 : g0 = W2.heap.size ∨ g0 = W3.heap.size := by
          rcases hat with e | e
          · left; simp [Value.ownBlock] at e; omega
          · right; exact e
        have hsz4 := hg.size
        have HX4 := Lib.hid (show Box W4 w.heap.size _ 26 from (hg.block _ HX3.out.lt (by simp [Value.ownBlock]; omega)).trans HX3.out)
        have HZ4 := Lib.hid (show Box W4 (w.heap.size + 1) _ 26 from (hg.block _ HZ3.out.lt (by simp [Value.ownBlock]; omega)).trans HZ3.out)
        have HBW4 := Lib.hid (HBW3.out.grown hg HBW3.out.size (fun k e => by simp [Value.ownBlock] at e; omega))
        have HA1_4 := Lib.hid (show Box W4 W1.heap.size #[] 4 from (hg.block _ HA1_3.out.lt (by simp [Value.ownBlock]; omega)).trans HA1_3.out)
        clear hown hg hat hlt
        clear p0 p1 p2
        have p0 := HX4.out.cell 0
        have p1 := HX4.out.cell 1
        have p2 := HX4.out.cell 2
        simp at p0 p1 p2
        refine hK.out _ _ ⟨p0, p1, p2⟩ (fun hHeld => ?_)
        clear hK K
        try simp only [Act.put, List.setIfInBounds_toArray, List.set_cons_zero, List.set_cons_succ, List.getElem_toArray, List.getElem_cons_zero, List.getElem_cons_succ]
        refine wpAnyH_ready (rs := [7, 8]) (by kernel_rfl) (by simp) ?_
        refine (AllReadyH.cons rfl (fun K hK => ?_) (AllReadyH.cons rfl (fun K hK => ?_) AllReadyH.nil))
        · refine step_append_lies _ rfl (.tmp 7) (.tmp 9) 23 rfl (w.heap.size + 2) 4 iB (.bool false) 1 1 Try.underlying23 HB.out HB0'.out HB1'.out HB2'.out rfl (by decide) (.slice (some ⟨W1.heap.size, 0, none⟩) 0 0) 0 [] rfl (own_empty' HA1_4.out (by omega)) ⟨b1, o1, none⟩ 8 c1 (D.2.1.flatMap elB.C) rfl (by rw [flat_len, HL1.out]; rfl) ?q37_1 ?q37_2 (by decide) ?q37_3 ?q37_4 ?q37_5 W4.heap.size rfl ?_
          case q37_1 => exact (HR1.out.wb HBW4.out).news HL1.out (by decide)
          case q37_2 =>
            intro q hq
            obtain ⟨z, _, hz2⟩ := List.mem_flatMap.1 hq
            rw [List.mem_singleton.1 hz2]
            rfl
          case q37_3 => simp only [maxLen]; omega
          case q37_4 => omega
          case q37_5 => omega
          intro g1 k1 W5 hown hg hat hlt
          rw [Nat.zero_add, List.nil_append] at hown
          try rw [Nat.zero_add]
          have HM1_5 := Lib.hid (RowM.of_owns hown HL1.out)
          have hge1 := (hown.lt g1 rfl).1
          have hgl1_5 := (hown.lt g1 rfl).2
          have hcp1 := own_cap hown
          have hga1 : g1 = W1.heap.size ∨ g1 = W4.heap.size := by
            rcases hat with e | e
            · left; simp [Value.ownBlock] at e; omega
            · right; exact e
          have hsz5 := hg.size
          have HX5 := Lib.hid (show Box W5 w.heap.size _ 26 from (hg.block _ HX4.out.lt (by simp [Value.ownBlock]; omega)).trans HX4.out)
          have HZ5 := Lib.hid (show Box W5 (w.heap.size + 1) _ 26 from (hg.block _ HZ4.out.lt (by simp [Value.ownBlock]; omega)).trans HZ4.out)
          have HBW5 := Lib.hid (HBW4.out.grown hg HBW4.out.size (fun k e => by simp [Value.ownBlock] at e; omega))
          have HM0_5 := Lib.hid (HM0_4.out.frame fun b hb => hg.block b (by rw [List.mem_singleton] at hb; rw [hb]; exact hgl0_4) (by rw [List.mem_singleton] at hb; rw [hb]; simp [Value.ownBlock]; omega))
          have hgl0_5 : g0 < W5.heap.size := by omega
          clear hown hg hat hlt
          clear p0 p1 p2
          have p0 := HX5.out.cell 0
          have p1 := HX5.out.cell 1
          have p2 := HX5.out.cell 2
          simp at p0 p1 p2
          refine hK.out _ _ ⟨p0, p1, p2⟩ (fun hHeld => ?_)
          clear hK K
          try simp only [Act.put, List.setIfInBounds_toArray, List.set_cons_zero, List.set_cons_succ, List.getElem_toArray, List.getElem_cons_zero, List.getElem_cons_succ]
          refine wpAnyH_ready (rs := [8]) (by kernel_rfl) (by simp) ?_
          refine (AllReadyH.cons rfl (fun K hK => ?_) AllReadyH.nil)
          go_simp
          have HBW6 := Lib.hid (HBW5.out.alloc HBW5.out.size (.cells #[] 3))
          have HX6 := Lib.hid (HX5.out.alloc (.cells #[] 3))
          have HZ6 := Lib.hid (HZ5.out.alloc (.cells #[] 3))
          have hz6 : W5.heap.size < (W5.alloc (.cells #[] 3)).heap.size := by rw [World.size_alloc]; omega
          have HA2_6 := Lib.hid (Box.new W5 #[] 3)
          have HM0_6 := Lib.hid (HM0_5.out.frame fun b hb => Below.heap_alloc W5 (.cells #[] 3) b (by rw [List.mem_singleton] at hb; rw [hb]; exact hgl0_5))
          have hgl0_6 : g0 < (W5.alloc (.cells #[] 3)).heap.size := by omega
          have HM1_6 := Lib.hid (HM1_5.out.frame fun b hb => Below.heap_alloc W5 (.cells #[] 3) b (by rw [List.mem_singleton] at hb; rw [hb]; exact hgl1_5))
          have hgl1_6 : g1 < (W5.alloc (.cells #[] 3)).heap.size := by omega
          generalize (W5.alloc (.cells #[] 3)) = W6 at HBW6 HX6 HZ6 hz6 HA2_6 HM0_6 hgl0_6 HM1_6 hgl1_6 ⊢
          clear p0 p1 p2
          have p0 := HX6.out.cell 0
          have p1 := HX6.out.cell 1
          have p2 := HX6.out.cell 2
          simp at p0 p1 p2
          refine hK.out _ _ ⟨p0, p1, p2⟩ (fun hHeld => ?_)
          clear hK K
          try simp only [Act.put, List.setIfInBounds_toArray, List.set_cons_zero, List.set_cons_succ, List.getElem_toArray, List.getElem_cons_zero, List.getElem_cons_succ]
          refine wpAnyH_ready (rs := [11]) (by kernel_rfl) (by simp) ?_
          refine (AllReadyH.cons rfl (fun K hK => ?_) AllReadyH.nil)
          refine step_append_lies _ rfl (.tmp 11) (.tmp 13) 24 rfl (w.heap.size + 2) 3 iI (.int .i64 0) 1 8 Try.underlying24 HI.out HI0.out HI1.out HI2.out rfl (by decide) (.slice (some ⟨W5.heap.size, 0, none⟩) 0 0) 0 [] rfl (own_empty' HA2_6.out (by omega)) ⟨b2, o2, none⟩ 8 c2 (D.2.2.flatMap elI.C) rfl (by rw [flat_len, HL2.out]; rfl) ?q38_1 ?q38_2 (by decide) ?q38_3 ?q38_4 ?q38_5 W6.heap.size rfl ?_
          case q38_1 => exact (HR2.out.wb HBW6.out).news HL2.out (by decide)
          case q38_2 =>
            intro q hq
            obtain ⟨z, _, hz2⟩ := List.mem_flatMap.1 hq
            rw [List.mem_singleton.1 hz2]
            rfl
          case q38_3 => simp only [maxLen]; omega
          case q38_4 => omega
          case q38_5 => omega
          intro g2 k2 W7 hown hg hat hlt
          rw [Nat.zero_add, List.nil_append] at hown
          try rw [Nat.zero_add]
          have HM2_7 := Lib.hid (RowM.of_owns hown HL2.out)
          have hge2 := (hown.lt g2 rfl).1
          have hgl2_7 := (hown.lt g2 rfl).2
          have hcp2 := own_cap hown
          have hga2 : g2 = W5.heap.size ∨ g2 = W6.heap.size := by
            rcases hat with e | e
            · left; simp [Value.ownBlock] at e; omega
            · right; exact e
          have hsz7 := hg.size
          have HX7 := Lib.hid (show Box W7 w.heap.size _ 26 from (hg.block _ HX6.out.lt (by simp [Value.ownBlock]; omega)).trans HX6.out)
          have HZ7 := Lib.hid (show Box W7 (w.heap.size + 1) _ 26 from (hg.block _ HZ6.out.lt (by simp [Value.ownBlock]; omega)).trans HZ6.out)
          have HBW7 := Lib.hid (HBW6.out.grown hg HBW6.out.size (fun k e => by simp [Value.ownBlock] at e; omega))
          have HM0_7 := Lib.hid (HM0_6.out.frame fun b hb => hg.block b (by rw [List.mem_singleton] at hb; rw [hb]; exact hgl0_6) (by rw [List.mem_singleton] at hb; rw [hb]; simp [Value.ownBlock]; omega))
          have hgl0_7 : g0 < W7.heap.size := by omega
          have HM1_7 := Lib.hid (HM1_6.out.frame fun b hb => hg.block b (by rw [List.mem_singleton] at hb; rw [hb]; exact hgl1_6) (by rw [List.mem_singleton] at hb; rw [hb]; simp [Value.ownBlock]; omega))
          have hgl1_7 : g1 < W7.heap.size := by omega
          clear hown hg hat hlt
          clear p0 p1 p2
          have p0 := HX7.out.cell 0
          have p1 := HX7.out.cell 1
          have p2 := HX7.out.cell 2
          simp at p0 p1 p2
          have z0 := HZ7.out.cell 0
          have z1 := HZ7.out.cell 1
          have z2 := HZ7.out.cell 2
          have e0 := HZ7.out.frz 0
          have e1 := HZ7.out.frz 1
          have e2 := HZ7.out.frz 2
          have zl := HZ7.out.lt
          simp at z0 z1 z2
          refine hK.out _ _ ⟨p0, p1, p2⟩ (fun hHeld => ?_)
          clear hK K
          try simp only [Act.put, List.setIfInBounds_toArray, List.set_cons_zero, List.set_cons_succ, List.getElem_toArray, List.getElem_cons_zero, List.getElem_cons_succ]
          refine wpAnyH_take (i := 12) (v := ?vg39_12) rfl (by kernel_rfl) (by kernel_rfl) (by kernel_rfl) (fun _ _ _ h => h) (Or.inl ⟨by rfl, ?hyg39_12⟩) (by assumption) ?restg39_12
          case hyg39_12 =>
            intro w hSw
            try dsimp only at hSw
            go_simp
            try with_reducible rfl
          try simp only [Act.put, List.setIfInBounds_toArray, List.set_cons_zero, List.set_cons_succ, List.getElem_toArray, List.getElem_cons_zero, List.getElem_cons_succ]
          refine wpAnyH_ready (rs := [13]) (by kernel_rfl) (by simp) ?_
          refine (AllReadyH.cons rfl (fun K hK => ?_) AllReadyH.nil)
          go_simp
          have HE := Lib.hid (copy_end HM0_7.out HM1_7.out HM2_7.out HL0.out HL1.out HL2.out (show w.heap.size + 2 ≤ g0 ∧ g0 < W7.heap.size by omega) (show w.heap.size + 2 ≤ g1 ∧ g1 < W7.heap.size by omega) (show w.heap.size + 2 ≤ g2 ∧ g2 < W7.heap.size by omega) (by omega) (by omega) (by omega) (w.heap.size + 1) (by omega) HBW7.out (by omega) (.slice (some ⟨g0, 0, none⟩) 8 k0) (.slice (some ⟨g1, 0, none⟩) 8 k1) (.slice (some ⟨g2, 0, none⟩) 8 k2))
          have y0 := (HX7.out.other (a := ⟨w.heap.size + 1, 0, none⟩) (by show w.heap.size ≠ w.heap.size + 1; omega) (.slice (some ⟨g0, 0, none⟩) 8 k0))
          have y1 := (y0.other (a := ⟨w.heap.size + 1, 1, none⟩) (by show w.heap.size ≠ w.heap.size + 1; omega) (.slice (some ⟨g1, 0, none⟩) 8 k1))
          have y2 := (y1.other (a := ⟨w.heap.size + 1, 2, none⟩) (by show w.heap.size ≠ w.heap.size + 1; omega) (.slice (some ⟨g2, 0, none⟩) 8 k2))
          refine hK.out _ _ ⟨y2.cell 0, y2.cell 1, y2.cell 2⟩ (fun hHeld => ?_)
          clear hK K
          try simp only [Act.put, List.setIfInBounds_toArray, List.set_cons_zero, List.set_cons_succ, List.getElem_toArray, List.getElem_cons_zero, List.getElem_cons_succ]
          clear y0 y1 y2
          refine wpAnyH_done (by kernel_rfl) ?_ _
          go_wp2_with fail
          refine bodyPost_ret (v := .agg #[.slice (some ⟨g0, 0, none⟩) 8 k0, .slice (some ⟨g1, 0, none⟩) 8 k1, .slice (some ⟨g2, 0, none⟩) 8 k2]) (by simp [results, Try.results71, go_sem, z0, z1, z2]) rfl ⟨g0, g1, g2, k0, k1, k2, rfl, HE.out.1, HE.out.2, hcp0, hcp1, hcp2⟩
        · go_simp
          have HBW5 := Lib.hid (HBW4.out.alloc HBW4.out.size (.cells #[] 3))
          have HX5 := Lib.hid (HX4.out.alloc (.cells #[] 3))
          have HZ5 := Lib.hid (HZ4.out.alloc (.cells #[] 3))
          have hz5 : W4.heap.size < (W4.alloc (.cells #[] 3)).heap.size := by rw [World.size_alloc]; omega
          have HA2_5 := Lib.hid (Box.new W4 #[] 3)
          have HA1_5 := Lib.hid (HA1_4.out.alloc (.cells #[] 3))
          have HM0_5 := Lib.hid (HM0_4.out.frame fun b hb => Below.heap_alloc W4 (.cells #[] 3) b (by rw [List.mem_singleton] at hb; rw [hb]; exact hgl0_4))
          have hgl0_5 : g0 < (W4.alloc (.cells #[] 3)).heap.size := by omega
          generalize (W4.alloc (.cells #[] 3)) = W5 at HBW5 HX5 HZ5 hz5 HA2_5 HA1_5 HM0_5 hgl0_5 ⊢
          clear p0 p1 p2
          have p0 := HX5.out.cell 0
          have p1 := HX5.out.cell 1
          have p2 := HX5.out.cell 2
          simp at p0 p1 p2
          refine hK.out _ _ ⟨p0, p1, p2⟩ (fun hHeld => ?_)
          clear hK K
          try simp only [Act.put, List.setIfInBounds_toArray, List.set_cons_zero, List.set_cons_succ, List.getElem_toArray, List.getElem_cons_zero, List.getElem_cons_succ]
          refine wpAnyH_ready (rs := [7]) (by kernel_rfl) (by simp) ?_
          refine (AllReadyH.cons rfl (fun K hK => ?_) AllReadyH.nil)
          refine step_append_lies _ rfl (.tmp 7) (.tmp 9) 23 rfl (w.heap.size + 2) 4 iB (.bool false) 1 1 Try.underlying23 HB.out HB0'.out HB1'.out HB2'.out rfl (by decide) (.slice (some ⟨W1.heap.size, 0, none⟩) 0 0) 0 [] rfl (own_empty' HA1_5.out (by omega)) ⟨b1, o1, none⟩ 8 c1 (D.2.1.flatMap elB.C) rfl (by rw [flat_len, HL1.out]; rfl) ?q40_1 ?q40_2 (by decide) ?q40_3 ?q40_4 ?q40_5 W5.heap.size rfl ?_
          case q40_1 => exact (HR1.out.wb HBW5.out).news HL1.out (by decide)
          case q40_2 =>
            intro q hq
            obtain ⟨z, _, hz2⟩ := List.mem_flatMap.1 hq
            rw [List.mem_singleton.1 hz2]
            rfl
          case q40_3 => simp only [maxLen]; omega
          case q40_4 => omega
          case q40_5 => omega
          intro g1 k1 W6 hown hg hat hlt
          rw [Nat.zero_add, List.nil_append] at hown
          try rw [Nat.zero_add]
          have HM1_6 := Lib.hid (RowM.of_owns hown HL1.out)
          have hge1 := (hown.lt g1 rfl).1
          have hgl1_6 := (hown.lt g1 rfl).2
          have hcp1 := own_cap hown
          have hga1 : g1 = W1.heap.size ∨ g1 = W5.heap.size := by
            rcases hat with e | e
            · left; simp [Value.ownBlock] at e; omega
            · right; exact e
          have hsz6 := hg.size
          have HX6 := Lib.hid (show Box W6 w.heap.size _ 26 from (hg.block _ HX5.out.lt (by simp [Value.ownBlock]; omega)).trans HX5.out)
          have HZ6 := Lib.hid (show Box W6 (w.heap.size + 1) _ 26 from (hg.block _ HZ5.out.lt (by simp [Value.ownBlock]; omega)).trans HZ5.out)
          have HBW6 := Lib.hid (HBW5.out.grown hg HBW5.out.size (fun k e => by simp [Value.ownBlock] at e; omega))
          have HA2_6 := Lib.hid (show Box W6 W4.heap.size #[] 3 from (hg.block _ HA2_5.out.lt (by simp [Value.ownBlock]; omega)).trans HA2_5.out)
          have HM0_6 := Lib.hid (HM0_5.out.frame fun b hb => hg.block b (by rw [List.mem_singleton] at hb; rw [hb]; exact hgl0_5) (by rw [List.mem_singleton] at hb; rw [hb]; simp [Value.ownBlock]; omega))
          have hgl0_6 : g0 < W6.heap.size := by omega
          clear hown hg hat hlt
          clear p0 p1 p2
          have p0 := HX6.out.cell 0
          have p1 := HX6.out.cell 1
          have p2 := HX6.out.cell 2
          simp at p0 p1 p2
          refine hK.out _ _ ⟨p0, p1, p2⟩ (fun hHeld => ?_)
          clear hK K
          try simp only [Act.put, List.setIfInBounds_toArray, List.set_cons_zero, List.set_cons_succ, List.getElem_toArray, List.getElem_cons_zero, List.getElem_cons_succ]
          refine wpAnyH_ready (rs := [11]) (by kernel_rfl) (by simp) ?_
          refine (AllReadyH.cons rfl (fun K hK => ?_) AllReadyH.nil)
          refine step_append_lies _ rfl (.tmp 11) (.tmp 13) 24 rfl (w.heap.size + 2) 3 iI (.int .i64 0) 1 8 Try.underlying24 HI.out HI0.out HI1.out HI2.out rfl (by decide) (.slice (some ⟨W4.heap.size, 0, none⟩) 0 0) 0 [] rfl (own_empty' HA2_6.out (by omega)) ⟨b2, o2, none⟩ 8 c2 (D.2.2.flatMap elI.C) rfl (by rw [flat_len, HL2.out]; rfl) ?q41_1 ?q41_2 (by decide) ?q41_3 ?q41_4 ?q41_5 W6.heap.size rfl ?_
          case q41_1 => exact (HR2.out.wb HBW6.out).news HL2.out (by decide)
          case q41_2 =>
            intro q hq
            obtain ⟨z, _, hz2⟩ := List.mem_flatMap.1 hq
            rw [List.mem_singleton.1 hz2]
            rfl
          case q41_3 => simp only [maxLen]; omega
          case q41_4 => omega
          case q41_5 => omega
          intro g2 k2 W7 hown hg hat hlt
          rw [Nat.zero_add, List.nil_append] at hown
          try rw [Nat.zero_add]
          have HM2_7 := Lib.hid (RowM.of_owns hown HL2.out)
          have hge2 := (hown.lt g2 rfl).1
          have hgl2_7 := (hown.lt g2 rfl).2
          have hcp2 := own_cap hown
          have hga2 : g2 = W4.heap.size ∨ g2 = W6.heap.size := by
            rcases hat with e | e
            · left; simp [Value.ownBlock] at e; omega
            · right; exact e
          have hsz7 := hg.size
          have HX7 := Lib.hid (show Box W7 w.heap.size _ 26 from (hg.block _ HX6.out.lt (by simp [Value.ownBlock]; omega)).trans HX6.out)
          have HZ7 := Lib.hid (show Box W7 (w.heap.size + 1) _ 26 from (hg.block _ HZ6.out.lt (by simp [Value.ownBlock]; omega)).trans HZ6.out)
          have HBW7 := Lib.hid (HBW6.out.grown hg HBW6.out.size (fun k e => by simp [Value.ownBlock] at e; omega))
          have HM0_7 := Lib.hid (HM0_6.out.frame fun b hb => hg.block b (by rw [List.mem_singleton] at hb; rw [hb]; exact hgl0_6) (by rw [List.mem_singleton] at hb; rw [hb]; simp [Value.ownBlock]; omega))
          have hgl0_7 : g0 < W7.heap.size := by omega
          have HM1_7 := Lib.hid (HM1_6.out.frame fun b hb => hg.block b (by rw [List.mem_singleton] at hb; rw [hb]; exact hgl1_6) (by rw [List.mem_singleton] at hb; rw [hb]; simp [Value.ownBlock]; omega))
          have hgl1_7 : g1 < W7.heap.size := by omega
          clear hown hg hat hlt
          clear p0 p1 p2
          have p0 := HX7.out.cell 0
          have p1 := HX7.out.cell 1
          have p2 := HX7.out.cell 2
          simp at p0 p1 p2
          have z0 := HZ7.out.cell 0
          have z1 := HZ7.out.cell 1
          have z2 := HZ7.out.cell 2
          have e0 := HZ7.out.frz 0
          have e1 := HZ7.out.frz 1
          have e2 := HZ7.out.frz 2
          have zl := HZ7.out.lt
          simp at z0 z1 z2
          refine hK.out _ _ ⟨p0, p1, p2⟩ (fun hHeld => ?_)
          clear hK K
          try simp only [Act.put, List.setIfInBounds_toArray, List.set_cons_zero, List.set_cons_succ, List.getElem_toArray, List.getElem_cons_zero, List.getElem_cons_succ]
          refine wpAnyH_take (i := 12) (v := ?vg42_12) rfl (by kernel_rfl) (by kernel_rfl) (by kernel_rfl) (fun _ _ _ h => h) (Or.inl ⟨by rfl, ?hyg42_12⟩) (by assumption) ?restg42_12
          case hyg42_12 =>
            intro w hSw
            try dsimp only at hSw
            go_simp
            try with_reducible rfl
          try simp only [Act.put, List.setIfInBounds_toArray, List.set_cons_zero, List.set_cons_succ, List.getElem_toArray, List.getElem_cons_zero, List.getElem_cons_succ]
          refine wpAnyH_ready (rs := [13]) (by kernel_rfl) (by simp) ?_
          refine (AllReadyH.cons rfl (fun K hK => ?_) AllReadyH.nil)
          go_simp
          have HE := Lib.hid (copy_end HM0_7.out HM1_7.out HM2_7.out HL0.out HL1.out HL2.out (show w.heap.size + 2 ≤ g0 ∧ g0 < W7.heap.size by omega) (show w.heap.size + 2 ≤ g1 ∧ g1 < W7.heap.size by omega) (show w.heap.size + 2 ≤ g2 ∧ g2 < W7.heap.size by omega) (by omega) (by omega) (by omega) (w.heap.size + 1) (by omega) HBW7.out (by omega) (.slice (some ⟨g0, 0, none⟩) 8 k0) (.slice (some ⟨g1, 0, none⟩) 8 k1) (.slice (some ⟨g2, 0, none⟩) 8 k2))
          have y0 := (HX7.out.other (a := ⟨w.heap.size + 1, 0, none⟩) (by show w.heap.size ≠ w.heap.size + 1; omega) (.slice (some ⟨g0, 0, none⟩) 8 k0))
          have y1 := (y0.other (a := ⟨w.heap.size + 1, 1, none⟩) (by show w.heap.size ≠ w.heap.size + 1; omega) (.slice (some ⟨g1, 0, none⟩) 8 k1))
          have y2 := (y1.other (a := ⟨w.heap.size + 1, 2, none⟩) (by show w.heap.size ≠ w.heap.size + 1; omega) (.slice (some ⟨g2, 0, none⟩) 8 k2))
          refine hK.out _ _ ⟨y2.cell 0, y2.cell 1, y2.cell 2⟩ (fun hHeld => ?_)
          clear hK K
          try simp only [Act.put, List.setIfInBounds_toArray, List.set_cons_zero, List.set_cons_succ, List.getElem_toArray, List.getElem_cons_zero, List.getElem_cons_succ]
          clear y0 y1 y2
          refine wpAnyH_done (by kernel_rfl) ?_ _
          go_wp2_with fail
          refine bodyPost_ret (v := .agg #[.slice (some ⟨g0, 0, none⟩) 8 k0, .slice (some ⟨g1, 0, none⟩) 8 k1, .slice (some ⟨g2, 0, none⟩) 8 k2]) (by simp [results, Try.results71, go_sem, z0, z1, z2]) rfl ⟨g0, g1, g2, k0, k1, k2, rfl, HE.out.1, HE.out.2, hcp0, hcp1, hcp2⟩
      · go_simp
        have HBW4 := Lib.hid (HBW3.out.alloc HBW3.out.size (.cells #[] 3))
        have HX4 := Lib.hid (HX3.out.alloc (.cells #[] 3))
        have HZ4 := Lib.hid (HZ3.out.alloc (.cells #[] 3))
        have hz4 : W3.heap.size < (W3.alloc (.cells #[] 3)).heap.size := by rw [World.size_alloc]; omega
        have HA2_4 := Lib.hid (Box.new W3 #[] 3)
        have HA1_4 := Lib.hid (HA1_3.out.alloc (.cells #[] 3))
        have HA0_4 := Lib.hid (HA0_3.out.alloc (.cells #[] 3))
        generalize (W3.alloc (.cells #[] 3)) = W4 at HBW4 HX4 HZ4 hz4 HA2_4 HA1_4 HA0_4 ⊢
        clear p0 p1 p2
        have p0 := HX4.out.cell 0
        have p1 := HX4.out.cell 1
        have p2 := HX4.out.cell 2
        simp at p0 p1 p2
        refine hK.out _ _ ⟨p0, p1, p2⟩ (fun hHeld => ?_)
        clear hK K
        try simp only [Act.put, List.setIfInBounds_toArray, List.set_cons_zero, List.set_cons_succ, List.getElem_toArray, List.getElem_cons_zero, List.getElem_cons_succ]
        refine wpAnyH_ready (rs := [3]) (by kernel_rfl) (by simp) ?_
        refine (AllReadyH.cons rfl (fun K hK => ?_) AllReadyH.nil)
        refine step_append_lies _ rfl (.tmp 3) (.tmp 5) 23 rfl (w.heap.size + 2) 4 iB (.bool false) 1 1 Try.underlying23 HB.out HB0'.out HB1'.out HB2'.out rfl (by decide) (.slice (some ⟨W2.heap.size, 0, none⟩) 0 0) 0 [] rfl (own_empty' HA0_4.out (by omega)) ⟨b0, o0, none⟩ 8 c0 (D.1.flatMap elB.C) rfl (by rw [flat_len, HL0.out]; rfl) ?q43_1 ?q43_2 (by decide) ?q43_3 ?q43_4 ?q43_5 W4.heap.size rfl ?_
        case q43_1 => exact (HR0.out.wb HBW4.out).news HL0.out (by decide)
        case q43_2 =>
          intro q hq
          obtain ⟨z, _, hz2⟩ := List.mem_flatMap.1 hq
          rw [List.mem_singleton.1 hz2]
          rfl
        case q43_3 => simp only [maxLen]; omega
        case q43_4 => omega
        case q43_5 => omega
        intro g0 k0 W5 hown hg hat hlt
        rw [Nat.zero_add, List.nil_append] at hown
        try rw [Nat.zero_add]
        have HM0_5 := Lib.hid (RowM.of_owns hown HL0.out)
        have hge0 := (hown.lt g0 rfl).1
        have hgl0_5 := (hown.lt g0 rfl).2
        have hcp0 := own_cap hown
        have hga0 : g0 = W2.heap.size ∨ g0 = W4.heap.size := by
          rcases hat with e | e
          · left; simp [Value.ownBlock] at e; omega
          · right; exact e
        have hsz5 := hg.size
        have HX5 := Lib.hid (show Box W5 w.heap.size _ 26 from (hg.block _ HX4.out.lt (by simp [Value.ownBlock]; omega)).trans HX4.out)
        have HZ5 := Lib.hid (show Box W5 (w.heap.size + 1) _ 26 from (hg.block _ HZ4.out.lt (by simp [Value.ownBlock]; omega)).trans HZ4.out)
        have HBW5 := Lib.hid (HBW4.out.grown hg HBW4.out.size (fun k e => by simp [Value.ownBlock] at e; omega))
        have HA1_5 := Lib.hid (show Box W5 W1.heap.size #[] 4 from (hg.block _ HA1_4.out.lt (by simp [Value.ownBlock]; omega)).trans HA1_4.out)
        have HA2_5 := Lib.hid (show Box W5 W3.heap.size #[] 3 from (hg.block _ HA2_4.out.lt (by simp [Value.ownBlock]; omega)).trans HA2_4.out)
        clear hown hg hat hlt
        clear p0 p1 p2
        have p0 := HX5.out.cell 0
        have p1 := HX5.out.cell 1
        have p2 := HX5.out.cell 2
        simp at p0 p1 p2
        refine hK.out _ _ ⟨p0, p1, p2⟩ (fun hHeld => ?_)
        clear hK K
        try simp only [Act.put, List.setIfInBounds_toArray, List.set_cons_zero, List.set_cons_succ, List.getElem_toArray, List.getElem_cons_zero, List.getElem_cons_succ]
        refine wpAnyH_ready (rs := [7]) (by kernel_rfl) (by simp) ?_
        refine (AllReadyH.cons rfl (fun K hK => ?_) AllReadyH.nil)
        refine step_append_lies _ rfl (.tmp 7) (.tmp 9) 23 rfl (w.heap.size + 2) 4 iB (.bool false) 1 1 Try.underlying23 HB.out HB0'.out HB1'.out HB2'.out rfl (by decide) (.slice (some ⟨W1.heap.size, 0, none⟩) 0 0) 0 [] rfl (own_empty' HA1_5.out (by omega)) ⟨b1, o1, none⟩ 8 c1 (D.2.1.flatMap elB.C) rfl (by rw [flat_len, HL1.out]; rfl) ?q44_1 ?q44_2 (by decide) ?q44_3 ?q44_4 ?q44_5 W5.heap.size rfl ?_
        case q44_1 => exact (HR1.out.wb HBW5.out).news HL1.out (by decide)
        case q44_2 =>
          intro q hq
          obtain ⟨z, _, hz2⟩ := List.mem_flatMap.1 hq
          rw [List.mem_singleton.1 hz2]
          rfl
        case q44_3 => simp only [maxLen]; omega
        case q44_4 => omega
        case q44_5 => omega
        intro g1 k1 W6 hown hg hat hlt
        rw [Nat.zero_add, List.nil_append] at hown
        try rw [Nat.zero_add]
        have HM1_6 := Lib.hid (RowM.of_owns hown HL1.out)
        have hge1 := (hown.lt g1 rfl).1
        have hgl1_6 := (hown.lt g1 rfl).2
        have hcp1 := own_cap hown
        have hga1 : g1 = W1.heap.size ∨ g1 = W5.heap.size := by
          rcases hat with e | e
          · left; simp [Value.ownBlock] at e; omega
          · right; exact e
        have hsz6 := hg.size
        have HX6 := Lib.hid (show Box W6 w.heap.size _ 26 from (hg.block _ HX5.out.lt (by simp [Value.ownBlock]; omega)).trans HX5.out)
        have HZ6 := Lib.hid (show Box W6 (w.heap.size + 1) _ 26 from (hg.block _ HZ5.out.lt (by simp [Value.ownBlock]; omega)).trans HZ5.out)
        have HBW6 := Lib.hid (HBW5.out.grown hg HBW5.out.size (fun k e => by simp [Value.ownBlock] at e; omega))
        have HA2_6 := Lib.hid (show Box W6 W3.heap.size #[] 3 from (hg.block _ HA2_5.out.lt (by simp [Value.ownBlock]; omega)).trans HA2_5.out)
        have HM0_6 := Lib.hid (HM0_5.out.frame fun b hb => hg.block b (by rw [List.mem_singleton] at hb; rw [hb]; exact hgl0_5) (by rw [List.mem_singleton] at hb; rw [hb]; simp [Value.ownBlock]; omega))
        have hgl0_6 : g0 < W6.heap.size := by omega
        clear hown hg hat hlt
        clear p0 p1 p2
        have p0 := HX6.out.cell 0
        have p1 := HX6.out.cell 1
        have p2 := HX6.out.cell 2
        simp at p0 p1 p2
        refine hK.out _ _ ⟨p0, p1, p2⟩ (fun hHeld => ?_)
        clear hK K
        try simp only [Act.put, List.setIfInBounds_toArray, List.set_cons_zero, List.set_cons_succ, List.getElem_toArray, List.getElem_cons_zero, List.getElem_cons_succ]
        refine wpAnyH_ready (rs := [11]) (by kernel_rfl) (by simp) ?_
        refine (AllReadyH.cons rfl (fun K hK => ?_) AllReadyH.nil)
        refine step_append_lies _ rfl (.tmp 11) (.tmp 13) 24 rfl (w.heap.size + 2) 3 iI (.int .i64 0) 1 8 Try.underlying24 HI.out HI0.out HI1.out HI2.out rfl (by decide) (.slice (some ⟨W3.heap.size, 0, none⟩) 0 0) 0 [] rfl (own_empty' HA2_6.out (by omega)) ⟨b2, o2, none⟩ 8 c2 (D.2.2.flatMap elI.C) rfl (by rw [flat_len, HL2.out]; rfl) ?q45_1 ?q45_2 (by decide) ?q45_3 ?q45_4 ?q45_5 W6.heap.size rfl ?_
        case q45_1 => exact (HR2.out.wb HBW6.out).news HL2.out (by decide)
        case q45_2 =>
          intro q hq
          obtain ⟨z, _, hz2⟩ := List.mem_flatMap.1 hq
          rw [List.mem_singleton.1 hz2]
          rfl
        case q45_3 => simp only [maxLen]; omega
        case q45_4 => omega
        case q45_5 => omega
        intro g2 k2 W7 hown hg hat hlt
        rw [Nat.zero_add, List.nil_append] at hown
        try rw [Nat.zero_add]
        have HM2_7 := Lib.hid (RowM.of_owns hown HL2.out)
        have hge2 := (hown.lt g2 rfl).1
        have hgl2_7 := (hown.lt g2 rfl).2
        have hcp2 := own_cap hown
        have hga2 : g2 = W3.heap.size ∨ g2 = W6.heap.size := by
          rcases hat with e | e
          · left; simp [Value.ownBlock] at e; omega
          · right; exact e
        have hsz7 := hg.size
        have HX7 := Lib.hid (show Box W7 w.heap.size _ 26 from (hg.block _ HX6.out.lt (by simp [Value.ownBlock]; omega)).trans HX6.out)
        have HZ7 := Lib.hid (show Box W7 (w.heap.size + 1) _ 26 from (hg.block _ HZ6.out.lt (by simp [Value.ownBlock]; omega)).trans HZ6.out)
        have HBW7 := Lib.hid (HBW6.out.grown hg HBW6.out.size (fun k e => by simp [Value.ownBlock] at e; omega))
        have HM0_7 := Lib.hid (HM0_6.out.frame fun b hb => hg.block b (by rw [List.mem_singleton] at hb; rw [hb]; exact hgl0_6) (by rw [List.mem_singleton] at hb; rw [hb]; simp [Value.ownBlock]; omega))
        have hgl0_7 : g0 < W7.heap.size := by omega
        have HM1_7 := Lib.hid (HM1_6.out.frame fun b hb => hg.block b (by rw [List.mem_singleton] at hb; rw [hb]; exact hgl1_6) (by rw [List.mem_singleton] at hb; rw [hb]; simp [Value.ownBlock]; omega))
        have hgl1_7 : g1 < W7.heap.size := by omega
        clear hown hg hat hlt
        clear p0 p1 p2
        have p0 := HX7.out.cell 0
        have p1 := HX7.out.cell 1
        have p2 := HX7.out.cell 2
        simp at p0 p1 p2
        have z0 := HZ7.out.cell 0
        have z1 := HZ7.out.cell 1
        have z2 := HZ7.out.cell 2
        have e0 := HZ7.out.frz 0
        have e1 := HZ7.out.frz 1
        have e2 := HZ7.out.frz 2
        have zl := HZ7.out.lt
        simp at z0 z1 z2
        refine hK.out _ _ ⟨p0, p1, p2⟩ (fun hHeld => ?_)
        clear hK K
        try simp only [Act.put, List.setIfInBounds_toArray, List.set_cons_zero, List.set_cons_succ, List.getElem_toArray, List.getElem_cons_zero, List.getElem_cons_succ]
        refine wpAnyH_take (i := 12) (v := ?vg46_12) rfl (by kernel_rfl) (by kernel_rfl) (by kernel_rfl) (fun _ _ _ h => h) (Or.inl ⟨by rfl, ?hyg46_12⟩) (by assumption) ?restg46_12
        case hyg46_12 =>
          intro w hSw
          try dsimp only at hSw
          go_simp
          try with_reducible rfl
        try simp only [Act.put, List.setIfInBounds_toArray, List.set_cons_zero, List.set_cons_succ, List.getElem_toArray, List.getElem_cons_zero, List.getElem_cons_succ]
        refine wpAnyH_ready (rs := [13]) (by kernel_rfl) (by simp) ?_
        refine (AllReadyH.cons rfl (fun K hK => ?_) AllReadyH.nil)
        go_simp
        have HE := Lib.hid (copy_end HM0_7.out HM1_7.out HM2_7.out HL0.out HL1.out HL2.out (show w.heap.size + 2 ≤ g0 ∧ g0 < W7.heap.size by omega) (show w.heap.size + 2 ≤ g1 ∧ g1 < W7.heap.size by omega) (show w.heap.size + 2 ≤ g2 ∧ g2 < W7.heap.size by omega) (by omega) (by omega) (by omega) (w.heap.size + 1) (by omega) HBW7.out (by omega) (.slice (some ⟨g0, 0, none⟩) 8 k0) (.slice (some ⟨g1, 0, none⟩) 8 k1) (.slice (some ⟨g2, 0, none⟩) 8 k2))
        have y0 := (HX7.out.other (a := ⟨w.heap.size + 1, 0, none⟩) (by show w.heap.size ≠ w.heap.size + 1; omega) (.slice (some ⟨g0, 0, none⟩) 8 k0))
        have y1 := (y0.other (a := ⟨w.heap.size + 1, 1, none⟩) (by show w.heap.size ≠ w.heap.size + 1; omega) (.slice (some ⟨g1, 0, none⟩) 8 k1))
        have y2 := (y1.other (a := ⟨w.heap.size + 1, 2, none⟩) (by show w.heap.size ≠ w.heap.size + 1; omega) (.slice (some ⟨g2, 0, none⟩) 8 k2))
        refine hK.out _ _ ⟨y2.cell 0, y2.cell 1, y2.cell 2⟩ (fun hHeld => ?_)
        clear hK K
        try simp only [Act.put, List.setIfInBounds_toArray, List.set_cons_zero, List.set_cons_succ, List.getElem_toArray, List.getElem_cons_zero, List.getElem_cons_succ]
        clear y0 y1 y2
        refine wpAnyH_done (by kernel_rfl) ?_ _
        go_wp2_with fail
        refine bodyPost_ret (v := .agg #[.slice (some ⟨g0, 0, none⟩) 8 k0, .slice (some ⟨g1, 0, none⟩) 8 k1, .slice (some ⟨g2, 0, none⟩) 8 k2]) (by simp [results, Try.results71, go_sem, z0, z1, z2]) rfl ⟨g0, g1, g2, k0, k1, k2, rfl, HE.out.1, HE.out.2, hcp0, hcp1, hcp2⟩
    · go_simp
      have HBW3 := Lib.hid (HBW2.out.alloc HBW2.out.size (.cells #[] 3))
      have HX3 := Lib.hid (HX2.out.alloc (.cells #[] 3))
      have HZ3 := Lib.hid (HZ2.out.alloc (.cells #[] 3))
      have hz3 : W2.heap.size < (W2.alloc (.cells #[] 3)).heap.size := by rw [World.size_alloc]; omega
      have HA2_3 := Lib.hid (Box.new W2 #[] 3)
      have HA1_3 := Lib.hid (HA1_2.out.alloc (.cells #[] 3))
      generalize (W2.alloc (.cells #[] 3)) = W3 at HBW3 HX3 HZ3 hz3 HA2_3 HA1_3 ⊢
      clear p0 p1 p2
      have p0 := HX3.out.cell 0
      have p1 := HX3.out.cell 1
      have p2 := HX3.out.cell 2
      simp at p0 p1 p2
      refine hK.out _ _ ⟨p0, p1, p2⟩ (fun hHeld => ?_)
      clear hK K
      try simp only [Act.put, List.setIfInBounds_toArray, List.set_cons_zero, List.set_cons_succ, List.getElem_toArray, List.getElem_cons_zero, List.getElem_cons_succ]
      refine wpAnyH_ready (rs := [0]) (by kernel_rfl) (by simp) ?_
      refine (AllReadyH.cons rfl (fun K hK => ?_) AllReadyH.nil)
      go_simp
      have HBW4 := Lib.hid (HBW3.out.alloc HBW3.out.size (.cells #[] 4))
      have HX4 := Lib.hid (HX3.out.alloc (.cells #[] 4))
      have HZ4 := Lib.hid (HZ3.out.alloc (.cells #[] 4))
      have hz4 : W3.heap.size < (W3.alloc (.cells #[] 4)).heap.size := by rw [World.size_alloc]; omega
      have HA0_4 := Lib.hid (Box.new W3 #[] 4)
      have HA1_4 := Lib.hid (HA1_3.out.alloc (.cells #[] 4))
      have HA2_4 := Lib.hid (HA2_3.out.alloc (.cells #[] 4))
      generalize (W3.alloc (.cells #[] 4)) = W4 at HBW4 HX4 HZ4 hz4 HA0_4 HA1_4 HA2_4 ⊢
      clear p0 p1 p2
      have p0 := HX4.out.cell 0
      have p1 := HX4.out.cell 1
      have p2 := HX4.out.cell 2
      simp at p0 p1 p2
      refine hK.out _ _ ⟨p0, p1, p2⟩ (fun hHeld => ?_)
      clear hK K
      try simp only [Act.put, List.setIfInBounds_toArray, List.set_cons_zero, List.set_cons_succ, List.getElem_toArray, List.getElem_cons_zero, List.getElem_cons_succ]
      refine wpAnyH_ready (rs := [3]) (by kernel_rfl) (by simp) ?_
      refine (AllReadyH.cons rfl (fun K hK => ?_) AllReadyH.nil)
      refine step_append_lies _ rfl (.tmp 3) (.tmp 5) 23 rfl (w.heap.size + 2) 4 iB (.bool false) 1 1 Try.underlying23 HB.out HB0'.out HB1'.out HB2'.out rfl (by decide) (.slice (some ⟨W3.heap.size, 0, none⟩) 0 0) 0 [] rfl (own_empty' HA0_4.out (by omega)) ⟨b0, o0, none⟩ 8 c0 (D.1.flatMap elB.C) rfl (by rw [flat_len, HL0.out]; rfl) ?q47_1 ?q47_2 (by decide) ?q47_3 ?q47_4 ?q47_5 W4.heap.size rfl ?_
      case q47_1 => exact (HR0.out.wb HBW4.out).news HL0.out (by decide)
      case q47_2 =>
        intro q hq
        obtain ⟨z, _, hz2⟩ := List.mem_flatMap.1 hq
        rw [List.mem_singleton.1 hz2]
        rfl
      case q47_3 => simp only [maxLen]; omega
      case q47_4 => omega
      case q47_5 => omega
      intro g0 k0 W5 hown hg hat hlt
      rw [Nat.zero_add, List.nil_append] at hown
      try rw [Nat.zero_add]
      have HM0_5 := Lib.hid (RowM.of_owns hown HL0.out)
      have hge0 := (hown.lt g0 rfl).1
      have hgl0_5 := (hown.lt g0 rfl).2
      have hcp0 := own_cap hown
      have hga0 : g0 = W3.heap.size ∨ g0 = W4.heap.size := by
        rcases hat with e | e
        · left; simp [Value.ownBlock] at e; omega
        · right; exact e
      have hsz5 := hg.size
      have HX5 := Lib.hid (show Box W5 w.heap.size _ 26 from (hg.block _ HX4.out.lt (by simp [Value.ownBlock]; omega)).trans HX4.out)
      have HZ5 := Lib.hid (show Box W5 (w.heap.size + 1) _ 26 from (hg.block _ HZ4.out.lt (by simp [Value.ownBlock]; omega)).trans HZ4.out)
      have HBW5 := Lib.hid (HBW4.out.grown hg HBW4.out.size (fun k e => by simp [Value.ownBlock] at e; omega))
      have HA1_5 := Lib.hid (show Box W5 W1.heap.size #[] 4 from (hg.block _ HA1_4.out.lt (by simp [Value.ownBlock]; omega)).trans HA1_4.out)
      have HA2_5 := Lib.hid (show Box W5 W2.heap.size #[] 3 from (hg.block _ HA2_4.out.lt (by simp [Value.ownBlock]; omega)).trans HA2_4.out)
      clear hown hg hat hlt
      clear p0 p1 p2
      have p0 := HX5.out.cell 0
      have p1 := HX5.out.cell 1
      have p2 := HX5.out.cell 2
      simp at p0 p1 p2
      refine hK.out _ _ ⟨p0, p1, p2⟩ (fun hHeld => ?_)
      clear hK K
      try simp only [Act.put, List.setIfInBounds_toArray, List.set_cons_zero, List.set_cons_succ, List.getElem_toArray, List.getElem_cons_zero, List.getElem_cons_succ]
      refine wpAnyH_ready (rs := [7]) (by kernel_rfl) (by simp) ?_
      refine (AllReadyH.cons rfl (fun K hK => ?_) AllReadyH.nil)
      refine step_append_lies _ rfl (.tmp 7) (.tmp 9) 23 rfl (w.heap.size + 2) 4 iB (.bool false) 1 1 Try.underlying23 HB.out HB0'.out HB1'.out HB2'.out rfl (by decide) (.slice (some ⟨W1.heap.size, 0, none⟩) 0 0) 0 [] rfl (own_empty' HA1_5.out (by omega)) ⟨b1, o1, none⟩ 8 c1 (D.2.1.flatMap elB.C) rfl (by rw [flat_len, HL1.out]; rfl) ?q48_1 ?q48_2 (by decide) ?q48_3 ?q48_4 ?q48_5 W5.heap.size rfl ?_
      case q48_1 => exact (HR1.out.wb HBW5.out).news HL1.out (by decide)
      case q48_2 =>
        intro q hq
        obtain ⟨z, _, hz2⟩ := List.mem_flatMap.1 hq
        rw [List.mem_singleton.1 hz2]
        rfl
      case q48_3 => simp only [maxLen]; omega
      case q48_4 => omega
      case q48_5 => omega
      intro g1 k1 W6 hown hg hat hlt
      rw [Nat.zero_add, List.nil_append] at hown
      try rw [Nat.zero_add]
      have HM1_6 := Lib.hid (RowM.of_owns hown HL1.out)
      have hge1 := (hown.lt g1 rfl).1
      have hgl1_6 := (hown.lt g1 rfl).2
      have hcp1 := own_cap hown
      have hga1 : g1 = W1.heap.size ∨ g1 = W5.heap.size := by
        rcases hat with e | e
        · left; simp [Value.ownBlock] at e; omega
        · right; exact e
      have hsz6 := hg.size
      have HX6 := Lib.hid (show Box W6 w.heap.size _ 26 from (hg.block _ HX5.out.lt (by simp [Value.ownBlock]; omega)).trans HX5.out)
      have HZ6 := Lib.hid (show Box W6 (w.heap.size + 1) _ 26 from (hg.block _ HZ5.out.lt (by simp [Value.ownBlock]; omega)).trans HZ5.out)
      have HBW6 := Lib.hid (HBW5.out.grown hg HBW5.out.size (fun k e => by simp [Value.ownBlock] at e; omega))
      have HA2_6 := Lib.hid (show Box W6 W2.heap.size #[] 3 from (hg.block _ HA2_5.out.lt (by simp [Value.ownBlock]; omega)).trans HA2_5.out)
      have HM0_6 := Lib.hid (HM0_5.out.frame fun b hb => hg.block b (by rw [List.mem_singleton] at hb; rw [hb]; exact hgl0_5) (by rw [List.mem_singleton] at hb; rw [hb]; simp [Value.ownBlock]; omega))
      have hgl0_6 : g0 < W6.heap.size := by omega
      clear hown hg hat hlt
      clear p0 p1 p2
      have p0 := HX6.out.cell 0
      have p1 := HX6.out.cell 1
      have p2 := HX6.out.cell 2
      simp at p0 p1 p2
      refine hK.out _ _ ⟨p0, p1, p2⟩ (fun hHeld => ?_)
      clear hK K
      try simp only [Act.put, List.setIfInBounds_toArray, List.set_cons_zero, List.set_cons_succ, List.getElem_toArray, List.getElem_cons_zero, List.getElem_cons_succ]
      refine wpAnyH_ready (rs := [11]) (by kernel_rfl) (by simp) ?_
      refine (AllReadyH.cons rfl (fun K hK => ?_) AllReadyH.nil)
      refine step_append_lies _ rfl (.tmp 11) (.tmp 13) 24 rfl (w.heap.size + 2) 3 iI (.int .i64 0) 1 8 Try.underlying24 HI.out HI0.out HI1.out HI2.out rfl (by decide) (.slice (some ⟨W2.heap.size, 0, none⟩) 0 0) 0 [] rfl (own_empty' HA2_6.out (by omega)) ⟨b2, o2, none⟩ 8 c2 (D.2.2.flatMap elI.C) rfl (by rw [flat_len, HL2.out]; rfl) ?q49_1 ?q49_2 (by decide) ?q49_3 ?q49_4 ?q49_5 W6.heap.size rfl ?_
      case q49_1 => exact (HR2.out.wb HBW6.out).news HL2.out (by decide)
      case q49_2 =>
        intro q hq
        obtain ⟨z, _, hz2⟩ := List.mem_flatMap.1 hq
        rw [List.mem_singleton.1 hz2]
        rfl
      case q49_3 => simp only [maxLen]; omega
      case q49_4 => omega
      case q49_5 => omega
      intro g2 k2 W7 hown hg hat hlt
      rw [Nat.zero_add, List.nil_append] at hown
      try rw [Nat.zero_add]
      have HM2_7 := Lib.hid (RowM.of_owns hown HL2.out)
      have hge2 := (hown.lt g2 rfl).1
      have hgl2_7 := (hown.lt g2 rfl).2
      have hcp2 := own_cap hown
      have hga2 : g2 = W2.heap.size ∨ g2 = W6.heap.size := by
        rcases hat with e | e
        · left; simp [Value.ownBlock] at e; omega
        · right; exact e
      have hsz7 := hg.size
      have HX7 := Lib.hid (show Box W7 w.heap.size _ 26 from (hg.block _ HX6.out.lt (by simp [Value.ownBlock]; omega)).trans HX6.out)
      have HZ7 := Lib.hid (show Box W7 (w.heap.size + 1) _ 26 from (hg.block _ HZ6.out.lt (by simp [Value.ownBlock]; omega)).trans HZ6.out)
      have HBW7 := Lib.hid (HBW6.out.grown hg HBW6.out.size (fun k e => by simp [Value.ownBlock] at e; omega))
      have HM0_7 := Lib.hid (HM0_6.out.frame fun b hb => hg.block b (by rw [List.mem_singleton] at hb; rw [hb]; exact hgl0_6) (by rw [List.mem_singleton] at hb; rw [hb]; simp [Value.ownBlock]; omega))
      have hgl0_7 : g0 < W7.heap.size := by omega
      have HM1_7 := Lib.hid (HM1_6.out.frame fun b hb => hg.block b (by rw [List.mem_singleton] at hb; rw [hb]; exact hgl1_6) (by rw [List.mem_singleton] at hb; rw [hb]; simp [Value.ownBlock]; omega))
      have hgl1_7 : g1 < W7.heap.size := by omega
      clear hown hg hat hlt
      clear p0 p1 p2
      have p0 := HX7.out.cell 0
      have p1 := HX7.out.cell 1
      have p2 := HX7.out.cell 2
      simp at p0 p1 p2
      have z0 := HZ7.out.cell 0
      have z1 := HZ7.out.cell 1
      have z2 := HZ7.out.cell 2
      have e0 := HZ7.out.frz 0
      have e1 := HZ7.out.frz 1
      have e2 := HZ7.out.frz 2
      have zl := HZ7.out.lt
      simp at z0 z1 z2
      refine hK.out _ _ ⟨p0, p1, p2⟩ (fun hHeld => ?_)
      clear hK K
      try simp only [Act.put, List.setIfInBounds_toArray, List.set_cons_zero, List.set_cons_succ, List.getElem_toArray, List.getElem_cons_zero, List.getElem_cons_succ]
      refine wpAnyH_take (i := 12) (v := ?vg50_12) rfl (by kernel_rfl) (by kernel_rfl) (by kernel_rfl) (fun _ _ _ h => h) (Or.inl ⟨by rfl, ?hyg50_12⟩) (by assumption) ?restg50_12
      case hyg50_12 =>
        intro w hSw
        try dsimp only at hSw
        go_simp
        try with_reducible rfl
      try simp only [Act.put, List.setIfInBounds_toArray, List.set_cons_zero, List.set_cons_succ, List.getElem_toArray, List.getElem_cons_zero, List.getElem_cons_succ]
      refine wpAnyH_ready (rs := [13]) (by kernel_rfl) (by simp) ?_
      refine (AllReadyH.cons rfl (fun K hK => ?_) AllReadyH.nil)
      go_simp
      have HE := Lib.hid (copy_end HM0_7.out HM1_7.out HM2_7.out HL0.out HL1.out HL2.out (show w.heap.size + 2 ≤ g0 ∧ g0 < W7.heap.size by omega) (show w.heap.size + 2 ≤ g1 ∧ g1 < W7.heap.size by omega) (show w.heap.size + 2 ≤ g2 ∧ g2 < W7.heap.size by omega) (by omega) (by omega) (by omega) (w.heap.size + 1) (by omega) HBW7.out (by omega) (.slice (some ⟨g0, 0, none⟩) 8 k0) (.slice (some ⟨g1, 0, none⟩) 8 k1) (.slice (some ⟨g2, 0, none⟩) 8 k2))
      have y0 := (HX7.out.other (a := ⟨w.heap.size + 1, 0, none⟩) (by show w.heap.size ≠ w.heap.size + 1; omega) (.slice (some ⟨g0, 0, none⟩) 8 k0))
      have y1 := (y0.other (a := ⟨w.heap.size + 1, 1, none⟩) (by show w.heap.size ≠ w.heap.size + 1; omega) (.slice (some ⟨g1, 0, none⟩) 8 k1))
      have y2 := (y1.other (a := ⟨w.heap.size + 1, 2, none⟩) (by show w.heap.size ≠ w.heap.size + 1; omega) (.slice (some ⟨g2, 0, none⟩) 8 k2))
      refine hK.out _ _ ⟨y2.cell 0, y2.cell 1, y2.cell 2⟩ (fun hHeld => ?_)
      clear hK K
      try simp only [Act.put, List.setIfInBounds_toArray, List.set_cons_zero, List.set_cons_succ, List.getElem_toArray, List.getElem_cons_zero, List.getElem_cons_succ]
      clear y0 y1 y2
      refine wpAnyH_done (by kernel_rfl) ?_ _
      go_wp2_with fail
      refine bodyPost_ret (v := .agg #[.slice (some ⟨g0, 0, none⟩) 8 k0, .slice (some ⟨g1, 0, none⟩) 8 k1, .slice (some ⟨g2, 0, none⟩) 8 k2]) (by simp [results, Try.results71, go_sem, z0, z1, z2]) rfl ⟨g0, g1, g2, k0, k1, k2, rfl, HE.out.1, HE.out.2, hcp0, hcp1, hcp2⟩
  · go_simp
    have HBW2 := Lib.hid (HBW1.out.alloc HBW1.out.size (.cells #[] 3))
    have HX2 := Lib.hid (HX1.out.alloc (.cells #[] 3))
    have HZ2 := Lib.hid (HZ1.out.alloc (.cells #[] 3))
    have hz2 : W1.heap.size < (W1.alloc (.cells #[] 3)).heap.size := by rw [World.size_alloc]; omega
    have HA2_2 := Lib.hid (Box.new W1 #[] 3)
    generalize (W1.alloc (.cells #[] 3)) = W2 at HBW2 HX2 HZ2 hz2 HA2_2 ⊢
    clear p0 p1 p2
    have p0 := HX2.out.cell 0
    have p1 := HX2.out.cell 1
    have p2 := HX2.out.cell 2
    simp at p0 p1 p2
    refine hK.out _ _ ⟨p0, p1, p2⟩ (fun hHeld => ?_)
    clear hK K
    try simp only [Act.put, List.setIfInBounds_toArray, List.set_cons_zero, List.set_cons_succ, List.getElem_toArray, List.getElem_cons_zero, List.getElem_cons_succ]
    refine wpAnyH_ready (rs := [0, 4]) (by kernel_rfl) (by simp) ?_
    refine (AllReadyH.cons rfl (fun K hK => ?_) (AllReadyH.cons rfl (fun K hK => ?_) AllReadyH.nil))
    · go_simp
      have HBW3 := Lib.hid (HBW2.out.alloc HBW2.out.size (.cells #[] 4))
      have HX3 := Lib.hid (HX2.out.alloc (.cells #[] 4))
      have HZ3 := Lib.hid (HZ2.out.alloc (.cells #[] 4))
      have hz3 : W2.heap.size < (W2.alloc (.cells #[] 4)).heap.size := by rw [World.size_alloc]; omega
      have HA0_3 := Lib.hid (Box.new W2 #[] 4)
      have HA2_3 := Lib.hid (HA2_2.out.alloc (.cells #[] 4))
      generalize (W2.alloc (.cells #[] 4)) = W3 at HBW3 HX3 HZ3 hz3 HA0_3 HA2_3 ⊢
      clear p0 p1 p2
      have p0 := HX3.out.cell 0
      have p1 := HX3.out.cell 1
      have p2 := HX3.out.cell 2
      simp at p0 p1 p2
      refine hK.out _ _ ⟨p0, p1, p2⟩ (fun hHeld => ?_)
      clear hK K
      try simp only [Act.put, List.setIfInBounds_toArray, List.set_cons_zero, List.set_cons_succ, List.getElem_toArray, List.getElem_cons_zero, List.getElem_cons_succ]
      refine wpAnyH_ready (rs := [3, 4]) (by kernel_rfl) (by simp) ?_
      refine (AllReadyH.cons rfl (fun K hK => ?_) (AllReadyH.cons rfl (fun K hK => ?_) AllReadyH.nil))
      · refine step_append_lies _ rfl (.tmp 3) (.tmp 5) 23 rfl (w.heap.size + 2) 4 iB (.bool false) 1 1 Try.underlying23 HB.out HB0'.out HB1'.out HB2'.out rfl (by decide) (.slice (some ⟨W2.heap.size, 0, none⟩) 0 0) 0 [] rfl (own_empty' HA0_3.out (by omega)) ⟨b0, o0, none⟩ 8 c0 (D.1.flatMap elB.C) rfl (by rw [flat_len, HL0.out]; rfl) ?q51_1 ?q51_2 (by decide) ?q51_3 ?q51_4 ?q51_5 W3.heap.size rfl ?_
        case q51_1 => exact (HR0.out.wb HBW3.out).news HL0.out (by decide)
        case q51_2 =>
          intro q hq
          obtain ⟨z, _, hz2⟩ := List.mem_flatMap.1 hq
          rw [List.mem_singleton.1 hz2]
          rfl
        case q51_3 => simp only [maxLen]; omega
        case q51_4 => omega
        case q51_5 => omega
        intro g0 k0 W4 hown hg hat hlt
        rw [Nat.zero_add, List.nil_append] at hown
        try rw [Nat.zero_add]
        have HM0_4 := Lib.hid (RowM.of_owns hown HL0.out)
        have hge0 := (hown.lt g0 rfl).1
        have hgl0_4 := (hown.lt g0 rfl).2
        have hcp0 := own_cap hown
        have hga0 : g0 = W2.heap.size ∨ g0 = W3.heap.size := by
          rcases hat with e | e
          · left; simp [Value.ownBlock] at e; omega
          · right; exact e
        have hsz4 := hg.size
        have HX4 := Lib.hid (show Box W4 w.heap.size _ 26 from (hg.block _ HX3.out.lt (by simp [Value.ownBlock]; omega)).trans HX3.out)
        have HZ4 := Lib.hid (show Box W4 (w.heap.size + 1) _ 26 from (hg.block _ HZ3.out.lt (by simp [Value.ownBlock]; omega)).trans HZ3.out)
        have HBW4 := Lib.hid (HBW3.out.grown hg HBW3.out.size (fun k e => by simp [Value.ownBlock] at e; omega))
        have HA2_4 := Lib.hid (show Box W4 W1.heap.size #[] 3 from (hg.block _ HA2_3.out.lt (by simp [Value.ownBlock]; omega)).trans HA2_3.out)
        clear hown hg hat hlt
        clear p0 p1 p2
        have p0 := HX4.out.cell 0
        have p1 := HX4.out.cell 1
        have p2 := HX4.out.cell 2
        simp at p0 p1 p2
        refine hK.out _ _ ⟨p0, p1, p2⟩ (fun hHeld => ?_)
        clear hK K
        try simp only [Act.put, List.setIfInBounds_toArray, List.set_cons_zero, List.set_cons_succ, List.getElem_toArray, List.getElem_cons_zero, List.getElem_cons_succ]
        refine wpAnyH_ready (rs := [4]) (by kernel_rfl) (by simp) ?_
        refine (AllReadyH.cons rfl (fun K hK => ?_) AllReadyH.nil)
        go_simp
        have HBW5 := Lib.hid (HBW4.out.alloc HBW4.out.size (.cells #[] 4))
        have HX5 := Lib.hid (HX4.out.alloc (.cells #[] 4))
        have HZ5 := Lib.hid (HZ4.out.alloc (.cells #[] 4))
        have hz5 : W4.heap.size < (W4.alloc (.cells #[] 4)).heap.size := by rw [World.size_alloc]; omega
        have HA1_5 := Lib.hid (Box.new W4 #[] 4)
        have HA2_5 := Lib.hid (HA2_4.out.alloc (.cells #[] 4))
        have HM0_5 := Lib.hid (HM0_4.out.frame fun b hb => Below.heap_alloc W4 (.cells #[] 4) b (by rw [List.mem_singleton] at hb; rw [hb]; exact hgl0_4))
        have hgl0_5 : g0 < (W4.alloc (.cells #[] 4)).heap.size := by omega
        generalize (W4.alloc (.cells #[] 4)) = W5 at HBW5 HX5 HZ5 hz5 HA1_5 HA2_5 HM0_5 hgl0_5 ⊢
        clear p0 p1 p2
        have p0 := HX5.out.cell 0
        have p1 := HX5.out.cell 1
        have p2 := HX5.out.cell 2
        simp at p0 p1 p2
        refine hK.out _ _ ⟨p0, p1, p2⟩ (fun hHeld => ?_)
        clear hK K
        try simp only [Act.put, List.setIfInBounds_toArray, List.set_cons_zero, List.set_cons_succ, List.getElem_toArray, List.getElem_cons_zero, List.getElem_cons_succ]
        refine wpAnyH_ready (rs := [7]) (by kernel_rfl) (by simp) ?_
        refine (AllReadyH.cons rfl (fun K hK => ?_) AllReadyH.nil)
        refine step_append_lies _ rfl (.tmp 7) (.tmp 9) 23 rfl (w.heap.size + 2) 4 iB (.bool false) 1 1 Try.underlying23 HB.out HB0'.out HB1'.out HB2'.out rfl (by decide) (.slice (some ⟨W4.heap.size, 0, none⟩) 0 0) 0 [] rfl (own_empty' HA1_5.out (by omega)) ⟨b1, o1, none⟩ 8 c1 (D.2.1.flatMap elB.C) rfl (by rw [flat_len, HL1.out]; rfl) ?q52_1 ?q52_2 (by decide) ?q52_3 ?q52_4 ?q52_5 W5.heap.size rfl ?_
        case q52_1 => exact (HR1.out.wb HBW5.out).news HL1.out (by decide)
        case q52_2 =>
          intro q hq
          obtain ⟨z, _, hz2⟩ := List.mem_flatMap.1 hq
          rw [List.mem_singleton.1 hz2]
          rfl
        case q52_3 => simp only [maxLen]; omega
        case q52_4 => omega
        case q52_5 => omega
        intro g1 k1 W6 hown hg hat hlt
        rw [Nat.zero_add, List.nil_append] at hown
        try rw [Nat.zero_add]
        have HM1_6 := Lib.hid (RowM.of_owns hown HL1.out)
        have hge1 := (hown.lt g1 rfl).1
        have hgl1_6 := (hown.lt g1 rfl).2
        have hcp1 := own_cap hown
        have hga1 : g1 = W4.heap.size ∨ g1 = W5.heap.size := by
          rcases hat with e | e
          · left; simp [Value.ownBlock] at e; omega
          · right; exact e
        have hsz6 := hg.size
        have HX6 := Lib.hid (show Box W6 w.heap.size _ 26 from (hg.block _ HX5.out.lt (by simp [Value.ownBlock]; omega)).trans HX5.out)
        have HZ6 := Lib.hid (show Box W6 (w.heap.size + 1) _ 26 from (hg.block _ HZ5.out.lt (by simp [Value.ownBlock]; omega)).trans HZ5.out)
        have HBW6 := Lib.hid (HBW5.out.grown hg HBW5.out.size (fun k e => by simp [Value.ownBlock] at e; omega))
        have HA2_6 := Lib.hid (show Box W6 W1.heap.size #[] 3 from (hg.block _ HA2_5.out.lt (by simp [Value.ownBlock]; omega)).trans HA2_5.out)
        have HM0_6 := Lib.hid (HM0_5.out.frame fun b hb => hg.block b (by rw [List.mem_singleton] at hb; rw [hb]; exact hgl0_5) (by rw [List.mem_singleton] at hb; rw [hb]; simp [Value.ownBlock]; omega))
        have hgl0_6 : g0 < W6.heap.size := by omega
        clear hown hg hat hlt
        clear p0 p1 p2
        have p0 := HX6.out.cell 0
        have p1 := HX6.out.cell 1
        have p2 := HX6.out.cell 2
        simp at p0 p1 p2
        refine hK.out _ _ ⟨p0, p1, p2⟩ (fun hHeld => ?_)
        clear hK K
        try simp only [Act.put, List.setIfInBounds_toArray, List.set_cons_zero, List.set_cons_succ, List.getElem_toArray, List.getElem_cons_zero, List.getElem_cons_succ]
        refine wpAnyH_ready (rs := [11]) (by kernel_rfl) (by simp) ?_
        refine (AllReadyH.cons rfl (fun K hK => ?_) AllReadyH.nil)
        refine step_append_lies _ rfl (.tmp 11) (.tmp 13) 24 rfl (w.heap.size + 2) 3 iI (.int .i64 0) 1 8 Try.underlying24 HI.out HI0.out HI1.out HI2.out rfl (by decide) (.slice (some ⟨W1.heap.size, 0, none⟩) 0 0) 0 [] rfl (own_empty' HA2_6.out (by omega)) ⟨b2, o2, none⟩ 8 c2 (D.2.2.flatMap elI.C) rfl (by rw [flat_len, HL2.out]; rfl) ?q53_1 ?q53_2 (by decide) ?q53_3 ?q53_4 ?q53_5 W6.heap.size rfl ?_
        case q53_1 => exact (HR2.out.wb HBW6.out).news HL2.out (by decide)
        case q53_2 =>
          intro q hq
          obtain ⟨z, _, hz2⟩ := List.mem_flatMap.1 hq
          rw [List.mem_singleton.1 hz2]
          rfl
        case q53_3 => simp only [maxLen]; omega
        case q53_4 => omega
        case q53_5 => omega
        intro g2 k2 W7 hown hg hat hlt
        rw [Nat.zero_add, List.nil_append] at hown
        try rw [Nat.zero_add]
        have HM2_7 := Lib.hid (RowM.of_owns hown HL2.out)
        have hge2 := (hown.lt g2 rfl).1
        have hgl2_7 := (hown.lt g2 rfl).2
        have hcp2 := own_cap hown
        have hga2 : g2 = W1.heap.size ∨ g2 = W6.heap.size := by
          rcases hat with e | e
          · left; simp [Value.ownBlock] at e; omega
          · right; exact e
        have hsz7 := hg.size
        have HX7 := Lib.hid (show Box W7 w.heap.size _ 26 from (hg.block _ HX6.out.lt (by simp [Value.ownBlock]; omega)).trans HX6.out)
        have HZ7 := Lib.hid (show Box W7 (w.heap.size + 1) _ 26 from (hg.block _ HZ6.out.lt (by simp [Value.ownBlock]; omega)).trans HZ6.out)
        have HBW7 := Lib.hid (HBW6.out.grown hg HBW6.out.size (fun k e => by simp [Value.ownBlock] at e; omega))
        have HM0_7 := Lib.hid (HM0_6.out.frame fun b hb => hg.block b (by rw [List.mem_singleton] at hb; rw [hb]; exact hgl0_6) (by rw [List.mem_singleton] at hb; rw [hb]; simp [Value.ownBlock]; omega))
        have hgl0_7 : g0 < W7.heap.size := by omega
        have HM1_7 := Lib.hid (HM1_6.out.frame fun b hb => hg.block b (by rw [List.mem_singleton] at hb; rw [hb]; exact hgl1_6) (by rw [List.mem_singleton] at hb; rw [hb]; simp [Value.ownBlock]; omega))
        have hgl1_7 : g1 < W7.heap.size := by omega
        clear hown hg hat hlt
        clear p0 p1 p2
        have p0 := HX7.out.cell 0
        have p1 := HX7.out.cell 1
        have p2 := HX7.out.cell 2
        simp at p0 p1 p2
        have z0 := HZ7.out.cell 0
        have z1 := HZ7.out.cell 1
        have z2 := HZ7.out.cell 2
        have e0 := HZ7.out.frz 0
        have e1 := HZ7.out.frz 1
        have e2 := HZ7.out.frz 2
        have zl := HZ7.out.lt
        simp at z0 z1 z2
        refine hK.out _ _ ⟨p0, p1, p2⟩ (fun hHeld => ?_)
        clear hK K
        try simp only [Act.put, List.setIfInBounds_toArray, List.set_cons_zero, List.set_cons_succ, List.getElem_toArray, List.getElem_cons_zero, List.getElem_cons_succ]
        refine wpAnyH_take (i := 12) (v := ?vg54_12) rfl (by kernel_rfl) (by kernel_rfl) (by kernel_rfl) (fun _ _ _ h => h) (Or.inl ⟨by rfl, ?hyg54_12⟩) (by assumption) ?restg54_12
        case hyg54_12 =>
          intro w hSw
          try dsimp only at hSw
          go_simp
          try with_reducible rfl
        try simp only [Act.put, List.setIfInBounds_toArray, List.set_cons_zero, List.set_cons_succ, List.getElem_toArray, List.getElem_cons_zero, List.getElem_cons_succ]
        refine wpAnyH_ready (rs := [13]) (by kernel_rfl) (by simp) ?_
        refine (AllReadyH.cons rfl (fun K hK => ?_) AllReadyH.nil)
        go_simp
        have HE := Lib.hid (copy_end HM0_7.out HM1_7.out HM2_7.out HL0.out HL1.out HL2.out (show w.heap.size + 2 ≤ g0 ∧ g0 < W7.heap.size by omega) (show w.heap.size + 2 ≤ g1 ∧ g1 < W7.heap.size by omega) (show w.heap.size + 2 ≤ g2 ∧ g2 < W7.heap.size by omega) (by omega) (by omega) (by omega) (w.heap.size + 1) (by omega) HBW7.out (by omega) (.slice (some ⟨g0, 0, none⟩) 8 k0) (.slice (some ⟨g1, 0, none⟩) 8 k1) (.slice (some ⟨g2, 0, none⟩) 8 k2))
        have y0 := (HX7.out.other (a := ⟨w.heap.size + 1, 0, none⟩) (by show w.heap.size ≠ w.heap.size + 1; omega) (.slice (some ⟨g0, 0, none⟩) 8 k0))
        have y1 := (y0.other (a := ⟨w.heap.size + 1, 1, none⟩) (by show w.heap.size ≠ w.heap.size + 1; omega) (.slice (some ⟨g1, 0, none⟩) 8 k1))
        have y2 := (y1.other (a := ⟨w.heap.size + 1, 2, none⟩) (by show w.heap.size ≠ w.heap.size + 1; omega) (.slice (some ⟨g2, 0, none⟩) 8 k2))
        refine hK.out _ _ ⟨y2.cell 0, y2.cell 1, y2.cell 2⟩ (fun hHeld => ?_)
        clear hK K
        try simp only [Act.put, List.setIfInBounds_toArray, List.set_cons_zero, List.set_cons_succ, List.getElem_toArray, List.getElem_cons_zero, List.getElem_cons_succ]
        clear y0 y1 y2
        refine wpAnyH_done (by kernel_rfl) ?_ _
        go_wp2_with fail
        refine bodyPost_ret (v := .agg #[.slice (some ⟨g0, 0, none⟩) 8 k0, .slice (some ⟨g1, 0, none⟩) 8 k1, .slice (some ⟨g2, 0, none⟩) 8 k2]) (by simp [results, Try.results71, go_sem, z0, z1, z2]) rfl ⟨g0, g1, g2, k0, k1, k2, rfl, HE.out.1, HE.out.2, hcp0, hcp1, hcp2⟩
      · go_simp
        have HBW4 := Lib.hid (HBW3.out.alloc HBW3.out.size (.cells #[] 4))
        have HX4 := Lib.hid (HX3.out.alloc (.cells #[] 4))
        have HZ4 := Lib.hid (HZ3.out.alloc (.cells #[] 4))
        have hz4 : W3.heap.size < (W3.alloc (.cells #[] 4)).heap.size := by rw [World.size_alloc]; omega
        have HA1_4 := Lib.hid (Box.new W3 #[] 4)
        have HA2_4 := Lib.hid (HA2_3.out.alloc (.cells #[] 4))
        have HA0_4 := Lib.hid (HA0_3.out.alloc (.cells #[] 4))
        generalize (W3.alloc (.cells #[] 4)) = W4 at HBW4 HX4 HZ4 hz4 HA1_4 HA2_4 HA0_4 ⊢
        clear p0 p1 p2
        have p0 := HX4.out.cell 0
        have p1 := HX4.out.cell 1
        have p2 := HX4.out.cell 2
        simp at p0 p1 p2
        refine hK.out _ _ ⟨p0, p1, p2⟩ (fun hHeld => ?_)
        clear hK K
        try simp only [Act.put, List.setIfInBounds_toArray, List.set_cons_zero, List.set_cons_succ, List.getElem_toArray, List.getElem_cons_zero, List.getElem_cons_succ]
        refine wpAnyH_ready (rs := [3]) (by kernel_rfl) (by simp) ?_
        refine (AllReadyH.cons rfl (fun K hK => ?_) AllReadyH.nil)
        refine step_append_lies _ rfl (.tmp 3) (.tmp 5) 23 rfl (w.heap.size + 2) 4 iB (.bool false) 1 1 Try.underlying23 HB.out HB0'.out HB1'.out HB2'.out rfl (by decide) (.slice (some ⟨W2.heap.size, 0, none⟩) 0 0) 0 [] rfl (own_empty' HA0_4.out (by omega)) ⟨b0, o0, none⟩ 8 c0 (D.1.flatMap elB.C) rfl (by rw [flat_len, HL0.out]; rfl) ?q55_1 ?q55_2 (by decide) ?q55_3 ?q55_4 ?q55_5 W4.heap.size rfl ?_
        case q55_1 => exact (HR0.out.wb HBW4.out).news HL0.out (by decide)
        case q55_2 =>
          intro q hq
          obtain ⟨z, _, hz2⟩ := List.mem_flatMap.1 hq
          rw [List.mem_singleton.1 hz2]
          rfl
        case q55_3 => simp only [maxLen]; omega
        case q55_4 => omega
        case q55_5 => omega
        intro g0 k0 W5 hown hg hat hlt
        rw [Nat.zero_add, List.nil_append] at hown
        try rw [Nat.zero_add]
        have HM0_5 := Lib.hid (RowM.of_owns hown HL0.out)
        have hge0 := (hown.lt g0 rfl).1
        have hgl0_5 := (hown.lt g0 rfl).2
        have hcp0 := own_cap hown
        have hga0 : g0 = W2.heap.size ∨ g0 = W4.heap.size := by
          rcases hat with e | e
          · left; simp [Value.ownBlock] at e; omega
          · right; exact e
        have hsz5 := hg.size
        have HX5 := Lib.hid (show Box W5 w.heap.size _ 26 from (hg.block _ HX4.out.lt (by simp [Value.ownBlock]; omega)).trans HX4.out)
        have HZ5 := Lib.hid (show Box W5 (w.heap.size + 1) _ 26 from (hg.block _ HZ4.out.lt (by simp [Value.ownBlock]; omega)).trans HZ4.out)
        have HBW5 := Lib.hid (HBW4.out.grown hg HBW4.out.size (fun k e => by simp [Value.ownBlock] at e; omega))
        have HA2_5 := Lib.hid (show Box W5 W1.heap.size #[] 3 from (hg.block _ HA2_4.out.lt (by simp [Value.ownBlock]; omega)).trans HA2_4.out)
        have HA1_5 := Lib.hid (show Box W5 W3.heap.size #[] 4 from (hg.block _ HA1_4.out.lt (by simp [Value.ownBlock]; omega)).trans HA1_4.out)
        clear hown hg hat hlt
        clear p0 p1 p2
        have p0 := HX5.out.cell 0
        have p1 := HX5.out.cell 1
        have p2 := HX5.out.cell 2
        simp at p0 p1 p2
        refine hK.out _ _ ⟨p0, p1, p2⟩ (fun hHeld => ?_)
        clear hK K
        try simp only [Act.put, List.setIfInBounds_toArray, List.set_cons_zero, List.set_cons_succ, List.getElem_toArray, List.getElem_cons_zero, List.getElem_cons_succ]
        refine wpAnyH_ready (rs := [7]) (by kernel_rfl) (by simp) ?_
        refine (AllReadyH.cons rfl (fun K hK => ?_) AllReadyH.nil)
        refine step_append_lies _ rfl (.tmp 7) (.tmp 9) 23 rfl (w.heap.size + 2) 4 iB (.bool false) 1 1 Try.underlying23 HB.out HB0'.out HB1'.out HB2'.out rfl (by decide) (.slice (some ⟨W3.heap.size, 0, none⟩) 0 0) 0 [] rfl (own_empty' HA1_5.out (by omega)) ⟨b1, o1, none⟩ 8 c1 (D.2.1.flatMap elB.C) rfl (by rw [flat_len, HL1.out]; rfl) ?q56_1 ?q56_2 (by decide) ?q56_3 ?q56_4 ?q56_5 W5.heap.size rfl ?_
        case q56_1 => exact (HR1.out.wb HBW5.out).news HL1.out (by decide)
        case q56_2 =>
          intro q hq
          obtain ⟨z, _, hz2⟩ := List.mem_flatMap.1 hq
          rw [List.mem_singleton.1 hz2]
          rfl
        case q56_3 => simp only [maxLen]; omega
        case q56_4 => omega
        case q56_5 => omega
        intro g1 k1 W6 hown hg hat hlt
        rw [Nat.zero_add, List.nil_append] at hown
        try rw [Nat.zero_add]
        have HM1_6 := Lib.hid (RowM.of_owns hown HL1.out)
        have hge1 := (hown.lt g1 rfl).1
        have hgl1_6 := (hown.lt g1 rfl).2
        have hcp1 := own_cap hown
        have hga1 : g1 = W3.heap.size ∨ g1 = W5.heap.size := by
          rcases hat with e | e
          · left; simp [Value.ownBlock] at e; omega
          · right; exact e
        have hsz6 := hg.size
        have HX6 := Lib.hid (show Box W6 w.heap.size _ 26 from (hg.block _ HX5.out.lt (by simp [Value.ownBlock]; omega)).trans HX5.out)
        have HZ6 := Lib.hid (show Box W6 (w.heap.size + 1) _ 26 from (hg.block _ HZ5.out.lt (by simp [Value.ownBlock]; omega)).trans HZ5.out)
        have HBW6 := Lib.hid (HBW5.out.grown hg HBW5.out.size (fun k e => by simp [Value.ownBlock] at e; omega))
        have HA2_6 := Lib.hid (show Box W6 W1.heap.size #[] 3 from (hg.block _ HA2_5.out.lt (by simp [Value.ownBlock]; omega)).trans HA2_5.out)
        have HM0_6 := Lib.hid (HM0_5.out.frame fun b hb => hg.block b (by rw [List.mem_singleton] at hb; rw [hb]; exact hgl0_5) (by rw [List.mem_singleton] at hb; rw [hb]; simp [Value.ownBlock]; omega))
        have hgl0_6 : g0 < W6.heap.size := by omega
        clear hown hg hat hlt
        clear p0 p1 p2
        have p0 := HX6.out.cell 0
        have p1 := HX6.out.cell 1
        have p2 := HX6.out.cell 2
        simp at p0 p1 p2
        refine hK.out _ _ ⟨p0, p1, p2⟩ (fun hHeld => ?_)
        clear hK K
        try simp only [Act.put, List.setIfInBounds_toArray, List.set_cons_zero, List.set_cons_succ, List.getElem_toArray, List.getElem_cons_zero, List.getElem_cons_succ]
        refine wpAnyH_ready (rs := [11]) (by kernel_rfl) (by simp) ?_
        refine (AllReadyH.cons rfl (fun K hK => ?_) AllReadyH.nil)
        refine step_append_lies _ rfl (.tmp 11) (.tmp 13) 24 rfl (w.heap.size + 2) 3 iI (.int .i64 0) 1 8 Try.underlying24 HI.out HI0.out HI1.out HI2.out rfl (by decide) (.slice (some ⟨W1.heap.size, 0, none⟩) 0 0) 0 [] rfl (own_empty' HA2_6.out (by omega)) ⟨b2, o2, none⟩ 8 c2 (D.2.2.flatMap elI.C) rfl (by rw [flat_len, HL2.out]; rfl) ?q57_1 ?q57_2 (by decide) ?q57_3 ?q57_4 ?q57_5 W6.heap.size rfl ?_
        case q57_1 => exact (HR2.out.wb HBW6.out).news HL2.out (by decide)
        case q57_2 =>
          intro q hq
          obtain ⟨z, _, hz2⟩ := List.mem_flatMap.1 hq
          rw [List.mem_singleton.1 hz2]
          rfl
        case q57_3 => simp only [maxLen]; omega
        case q57_4 => omega
        case q57_5 => omega
        intro g2 k2 W7 hown hg hat hlt
        rw [Nat.zero_add, List.nil_append] at hown
        try rw [Nat.zero_add]
        have HM2_7 := Lib.hid (RowM.of_owns hown HL2.out)
        have hge2 := (hown.lt g2 rfl).1
        have hgl2_7 := (hown.lt g2 rfl).2
        have hcp2 := own_cap hown
        have hga2 : g2 = W1.heap.size ∨ g2 = W6.heap.size := by
          rcases hat with e | e
          · left; simp [Value.ownBlock] at e; omega
          · right; exact e
        have hsz7 := hg.size
        have HX7 := Lib.hid (show Box W7 w.heap.size _ 26 from (hg.block _ HX6.out.lt (by simp [Value.ownBlock]; omega)).trans HX6.out)
        have HZ7 := Lib.hid (show Box W7 (w.heap.size + 1) _ 26 from (hg.block _ HZ6.out.lt (by simp [Value.ownBlock]; omega)).trans HZ6.out)
        have HBW7 := Lib.hid (HBW6.out.grown hg HBW6.out.size (fun k e => by simp [Value.ownBlock] at e; omega))
        have HM0_7 := Lib.hid (HM0_6.out.frame fun b hb => hg.block b (by rw [List.mem_singleton] at hb; rw [hb]; exact hgl0_6) (by rw [List.mem_singleton] at hb; rw [hb]; simp [Value.ownBlock]; omega))
        have hgl0_7 : g0 < W7.heap.size := by omega
        have HM1_7 := Lib.hid (HM1_6.out.frame fun b hb => hg.block b (by rw [List.mem_singleton] at hb; rw [hb]; exact hgl1_6) (by rw [List.mem_singleton] at hb; rw [hb]; simp [Value.ownBlock]; omega))
        have hgl1_7 : g1 < W7.heap.size := by omega
        clear hown hg hat hlt
        clear p0 p1 p2
        have p0 := HX7.out.cell 0
        have p1 := HX7.out.cell 1
        have p2 := HX7.out.cell 2
        simp at p0 p1 p2
        have z0 := HZ7.out.cell 0
        have z1 := HZ7.out.cell 1
        have z2 := HZ7.out.cell 2
        have e0 := HZ7.out.frz 0
        have e1 := HZ7.out.frz 1
        have e2 := HZ7.out.frz 2
        have zl := HZ7.out.lt
        simp at z0 z1 z2
        refine hK.out _ _ ⟨p0, p1, p2⟩ (fun hHeld => ?_)
        clear hK K
        try simp only [Act.put, List.setIfInBounds_toArray, List.set_cons_zero, List.set_cons_succ, List.getElem_toArray, List.getElem_cons_zero, List.getElem_cons_succ]
        refine wpAnyH_take (i := 12) (v := ?vg58_12) rfl (by kernel_rfl) (by kernel_rfl) (by kernel_rfl) (fun _ _ _ h => h) (Or.inl ⟨by rfl, ?hyg58_12⟩) (by assumption) ?restg58_12
        case hyg58_12 =>
          intro w hSw
          try dsimp only at hSw
          go_simp
          try with_reducible rfl
        try simp only [Act.put, List.setIfInBounds_toArray, List.set_cons_zero, List.set_cons_succ, List.getElem_toArray, List.getElem_cons_zero, List.getElem_cons_succ]
        refine wpAnyH_ready (rs := [13]) (by kernel_rfl) (by simp) ?_
        refine (AllReadyH.cons rfl (fun K hK => ?_) AllReadyH.nil)
        go_simp
        have HE := Lib.hid (copy_end HM0_7.out HM1_7.out HM2_7.out HL0.out HL1.out HL2.out (show w.heap.size + 2 ≤ g0 ∧ g0 < W7.heap.size by omega) (show w.heap.size + 2 ≤ g1 ∧ g1 < W7.heap.size by omega) (show w.heap.size + 2 ≤ g2 ∧ g2 < W7.heap.size by omega) (by omega) (by omega) (by omega) (w.heap.size + 1) (by omega) HBW7.out (by omega) (.slice (some ⟨g0, 0, none⟩) 8 k0) (.slice (some ⟨g1, 0, none⟩) 8 k1) (.slice (some ⟨g2, 0, none⟩) 8 k2))
        have y0 := (HX7.out.other (a := ⟨w.heap.size + 1, 0, none⟩) (by show w.heap.size ≠ w.heap.size + 1; omega) (.slice (some ⟨g0, 0, none⟩) 8 k0))
        have y1 := (y0.other (a := ⟨w.heap.size + 1, 1, none⟩) (by show w.heap.size ≠ w.heap.size + 1; omega) (.slice (some ⟨g1, 0, none⟩) 8 k1))
        have y2 := (y1.other (a := ⟨w.heap.size + 1, 2, none⟩) (by show w.heap.size ≠ w.heap.size + 1; omega) (.slice (some ⟨g2, 0, none⟩) 8 k2))
        refine hK.out _ _ ⟨y2.cell 0, y2.cell 1, y2.cell 2⟩ (fun hHeld => ?_)
        clear hK K
        try simp only [Act.put, List.setIfInBounds_toArray, List.set_cons_zero, List.set_cons_succ, List.getElem_toArray, List.getElem_cons_zero, List.getElem_cons_succ]
        clear y0 y1 y2
        refine wpAnyH_done (by kernel_rfl) ?_ _
        go_wp2_with fail
        refine bodyPost_ret (v := .agg #[.slice (some ⟨g0, 0, none⟩) 8 k0, .slice (some ⟨g1, 0, none⟩) 8 k1, .slice (some ⟨g2, 0, none⟩) 8 k2]) (by simp [results, Try.results71, go_sem, z0, z1, z2]) rfl ⟨g0, g1, g2, k0, k1, k2, rfl, HE.out.1, HE.out.2, hcp0, hcp1, hcp2⟩
    · go_simp
      have HBW3 := Lib.hid (HBW2.out.alloc HBW2.out.size (.cells #[] 4))
      have HX3 := Lib.hid (HX2.out.alloc (.cells #[] 4))
      have HZ3 := Lib.hid (HZ2.out.alloc (.cells #[] 4))
      have hz3 : W2.heap.size < (W2.alloc (.cells #[] 4)).heap.size := by rw [World.size_alloc]; omega
      have HA1_3 := Lib.hid (Box.new W2 #[] 4)
      have HA2_3 := Lib.hid (HA2_2.out.alloc (.cells #[] 4))
      generalize (W2.alloc (.cells #[] 4)) = W3 at HBW3 HX3 HZ3 hz3 HA1_3 HA2_3 ⊢
      clear p0 p1 p2
      have p0 := HX3.out.cell 0
      have p1 := HX3.out.cell 1
      have p2 := HX3.out.cell 2
      simp at p0 p1 p2
      refine hK.out _ _ ⟨p0, p1, p2⟩ (fun hHeld => ?_)
      clear hK K
      try simp only [Act.put, List.setIfInBounds_toArray, List.set_cons_zero, List.set_cons_succ, List.getElem_toArray, List.getElem_cons_zero, List.getElem_cons_succ]
      refine wpAnyH_ready (rs := [0]) (by kernel_rfl) (by simp) ?_
      refine (AllReadyH.cons rfl (fun K hK => ?_) AllReadyH.nil)
      go_simp
      have HBW4 := Lib.hid (HBW3.out.alloc HBW3.out.size (.cells #[] 4))
      have HX4 := Lib.hid (HX3.out.alloc (.cells #[] 4))
      have HZ4 := Lib.hid (HZ3.out.alloc (.cells #[] 4))
      have hz4 : W3.heap.size < (W3.alloc (.cells #[] 4)).heap.size := by rw [World.size_alloc]; omega
      have HA0_4 := Lib.hid (Box.new W3 #[] 4)
      have HA2_4 := Lib.hid (HA2_3.out.alloc (.cells #[] 4))
      have HA1_4 := Lib.hid (HA1_3.out.alloc (.cells #[] 4))
      generalize (W3.alloc (.cells #[] 4)) = W4 at HBW4 HX4 HZ4 hz4 HA0_4 HA2_4 HA1_4 ⊢
      clear p0 p1 p2
      have p0 := HX4.out.cell 0
      have p1 := HX4.out.cell 1
      have p2 := HX4.out.cell 2
      simp at p0 p1 p2
      refine hK.out _ _ ⟨p0, p1, p2⟩ (fun hHeld => ?_)
      clear hK K
      try simp only [Act.put, List.setIfInBounds_toArray, List.set_cons_zero, List.set_cons_succ, List.getElem_toArray, List.getElem_cons_zero, List.getElem_cons_succ]
      refine wpAnyH_ready (rs := [3]) (by kernel_rfl) (by simp) ?_
      refine (AllReadyH.cons rfl (fun K hK => ?_) AllReadyH.nil)
      refine step_append_lies _ rfl (.tmp 3) (.tmp 5) 23 rfl (w.heap.size + 2) 4 iB (.bool false) 1 1 Try.underlying23 HB.out HB0'.out HB1'.out HB2'.out rfl (by decide) (.slice (some ⟨W3.heap.size, 0, none⟩) 0 0) 0 [] rfl (own_empty' HA0_4.out (by omega)) ⟨b0, o0, none⟩ 8 c0 (D.1.flatMap elB.C) rfl (by rw [flat_len, HL0.out]; rfl) ?q59_1 ?q59_2 (by decide) ?q59_3 ?q59_4 ?q59_5 W4.heap.size rfl ?_
      case q59_1 => exact (HR0.out.wb HBW4.out).news HL0.out (by decide)
      case q59_2 =>
        intro q hq
        obtain ⟨z, _, hz2⟩ := List.mem_flatMap.1 hq
        rw [List.mem_singleton.1 hz2]
        rfl
      case q59_3 => simp only [maxLen]; omega
      case q59_4 => omega
      case q59_5 => omega
      intro g0 k0 W5 hown hg hat hlt
      rw [Nat.zero_add, List.nil_append] at hown
      try rw [Nat.zero_add]
      have HM0_5 := Lib.hid (RowM.of_owns hown HL0.out)
      have hge0 := (hown.lt g0 rfl).1
      have hgl0_5 := (hown.lt g0 rfl).2
      have hcp0 := own_cap hown
      have hga0 : g0 = W3.heap.size ∨ g0 = W4.heap.size := by
        rcases hat with e | e
        · left; simp [Value.ownBlock] at e; omega
        · right; exact e
      have hsz5 := hg.size
      have HX5 := Lib.hid (show Box W5 w.heap.size _ 26 from (hg.block _ HX4.out.lt (by simp [Value.ownBlock]; omega)).trans HX4.out)
      have HZ5 := Lib.hid (show Box W5 (w.heap.size + 1) _ 26 from (hg.block _ HZ4.out.lt (by simp [Value.ownBlock]; omega)).trans HZ4.out)
      have HBW5 := Lib.hid (HBW4.out.grown hg HBW4.out.size (fun k e => by simp [Value.ownBlock] at e; omega))
      have HA2_5 := Lib.hid (show Box W5 W1.heap.size #[] 3 from (hg.block _ HA2_4.out.lt (by simp [Value.ownBlock]; omega)).trans HA2_4.out)
      have HA1_5 := Lib.hid (show Box W5 W2.heap.size #[] 4 from (hg.block _ HA1_4.out.lt (by simp [Value.ownBlock]; omega)).trans HA1_4.out)
      clear hown hg hat hlt
      clear p0 p1 p2
      have p0 := HX5.out.cell 0
      have p1 := HX5.out.cell 1
      have p2 := HX5.out.cell 2
      simp at p0 p1 p2
      refine hK.out _ _ ⟨p0, p1, p2⟩ (fun hHeld => ?_)
      clear hK K
      try simp only [Act.put, List.setIfInBounds_toArray, List.set_cons_zero, List.set_cons_succ, List.getElem_toArray, List.getElem_cons_zero, List.getElem_cons_succ]
      refine wpAnyH_ready (rs := [7]) (by kernel_rfl) (by simp) ?_
      refine (AllReadyH.cons rfl (fun K hK => ?_) AllReadyH.nil)
      refine step_append_lies _ rfl (.tmp 7) (.tmp 9) 23 rfl (w.heap.size + 2) 4 iB (.bool false) 1 1 Try.underlying23 HB.out HB0'.out HB1'.out HB2'.out rfl (by decide) (.slice (some ⟨W2.heap.size, 0, none⟩) 0 0) 0 [] rfl (own_empty' HA1_5.out (by omega)) ⟨b1, o1, none⟩ 8 c1 (D.2.1.flatMap elB.C) rfl (by rw [flat_len, HL1.out]; rfl) ?q60_1 ?q60_2 (by decide) ?q60_3 ?q60_4 ?q60_5 W5.heap.size rfl ?_
      case q60_1 => exact (HR1.out.wb HBW5.out).news HL1.out (by decide)
      case q60_2 =>
        intro q hq
        obtain ⟨z, _, hz2⟩ := List.mem_flatMap.1 hq
        rw [List.mem_singleton.1 hz2]
        rfl
      case q60_3 => simp only [maxLen]; omega
      case q60_4 => omega
      case q60_5 => omega
      intro g1 k1 W6 hown hg hat hlt
      rw [Nat.zero_add, List.nil_append] at hown
      try rw [Nat.zero_add]
      have HM1_6 := Lib.hid (RowM.of_owns hown HL1.out)
      have hge1 := (hown.lt g1 rfl).1
      have hgl1_6 := (hown.lt g1 rfl).2
      have hcp1 := own_cap hown
      have hga1 : g1 = W2.heap.size ∨ g1 = W5.heap.size := by
        rcases hat with e | e
        · left; simp [Value.ownBlock] at e; omega
        · right; exact e
      have hsz6 := hg.size
      have HX6 := Lib.hid (show Box W6 w.heap.size _ 26 from (hg.block _ HX5.out.lt (by simp [Value.ownBlock]; omega)).trans HX5.out)
      have HZ6 := Lib.hid (show Box W6 (w.heap.size + 1) _ 26 from (hg.block _ HZ5.out.lt (by simp [Value.ownBlock]; omega)).trans HZ5.out)
      have HBW6 := Lib.hid (HBW5.out.grown hg HBW5.out.size (fun k e => by simp [Value.ownBlock] at e; omega))
      have HA2_6 := Lib.hid (show Box W6 W1.heap.size #[] 3 from (hg.block _ HA2_5.out.lt (by simp [Value.ownBlock]; omega)).trans HA2_5.out)
      have HM0_6 := Lib.hid (HM0_5.out.frame fun b hb => hg.block b (by rw [List.mem_singleton] at hb; rw [hb]; exact hgl0_5) (by rw [List.mem_singleton] at hb; rw [hb]; simp [Value.ownBlock]; omega))
      have hgl0_6 : g0 < W6.heap.size := by omega
      clear hown hg hat hlt
      clear p0 p1 p2
      have p0 := HX6.out.cell 0
      have p1 := HX6.out.cell 1
      have p2 := HX6.out.cell 2
      simp at p0 p1 p2
      refine hK.out _ _ ⟨p0, p1, p2⟩ (fun hHeld => ?_)
      clear hK K
      try simp only [Act.put, List.setIfInBounds_toArray, List.set_cons_zero, List.set_cons_succ, List.getElem_toArray, List.getElem_cons_zero, List.getElem_cons_succ]
      refine wpAnyH_ready (rs := [11]) (by kernel_rfl) (by simp) ?_
      refine (AllReadyH.cons rfl (fun K hK => ?_) AllReadyH.nil)
      refine step_append_lies _ rfl (.tmp 11) (.tmp 13) 24 rfl (w.heap.size + 2) 3 iI (.int .i64 0) 1 8 Try.underlying24 HI.out HI0.out HI1.out HI2.out rfl (by decide) (.slice (some ⟨W1.heap.size, 0, none⟩) 0 0) 0 [] rfl (own_empty' HA2_6.out (by omega)) ⟨b2, o2, none⟩ 8 c2 (D.2.2.flatMap elI.C) rfl (by rw [flat_len, HL2.out]; rfl) ?q61_1 ?q61_2 (by decide) ?q61_3 ?q61_4 ?q61_5 W6.heap.size rfl ?_
      case q61_1 => exact (HR2.out.wb HBW6.out).news HL2.out (by decide)
      case q61_2 =>
        intro q hq
        obtain ⟨z, _, hz2⟩ := List.mem_flatMap.1 hq
        rw [List.mem_singleton.1 hz2]
        rfl
      case q61_3 => simp only [maxLen]; omega
      case q61_4 => omega
      case q61_5 => omega
      intro g2 k2 W7 hown hg hat hlt
      rw [Nat.zero_add, List.nil_append] at hown
      try rw [Nat.zero_add]
      have HM2_7 := Lib.hid (RowM.of_owns hown HL2.out)
      have hge2 := (hown.lt g2 rfl).1
      have hgl2_7 := (hown.lt g2 rfl).2
      have hcp2 := own_cap hown
      have hga2 : g2 = W1.heap.size ∨ g2 = W6.heap.size := by
        rcases hat with e | e
        · left; simp [Value.ownBlock] at e; omega
        · right; exact e
      have hsz7 := hg.size
      have HX7 := Lib.hid (show Box W7 w.heap.size _ 26 from (hg.block _ HX6.out.lt (by simp [Value.ownBlock]; omega)).trans HX6.out)
      have HZ7 := Lib.hid (show Box W7 (w.heap.size + 1) _ 26 from (hg.block _ HZ6.out.lt (by simp [Value.ownBlock]; omega)).trans HZ6.out)
      have HBW7 := Lib.hid (HBW6.out.grown hg HBW6.out.size (fun k e => by simp [Value.ownBlock] at e; omega))
      have HM0_7 := Lib.hid (HM0_6.out.frame fun b hb => hg.block b (by rw [List.mem_singleton] at hb; rw [hb]; exact hgl0_6) (by rw [List.mem_singleton] at hb; rw [hb]; simp [Value.ownBlock]; omega))
      have hgl0_7 : g0 < W7.heap.size := by omega
      have HM1_7 := Lib.hid (HM1_6.out.frame fun b hb => hg.block b (by rw [List.mem_singleton] at hb; rw [hb]; exact hgl1_6) (by rw [List.mem_singleton] at hb; rw [hb]; simp [Value.ownBlock]; omega))
      have hgl1_7 : g1 < W7.heap.size := by omega
      clear hown hg hat hlt
      clear p0 p1 p2
      have p0 := HX7.out.cell 0
      have p1 := HX7.out.cell 1
      have p2 := HX7.out.cell 2
      simp at p0 p1 p2
      have z0 := HZ7.out.cell 0
      have z1 := HZ7.out.cell 1
      have z2 := HZ7.out.cell 2
      have e0 := HZ7.out.frz 0
      have e1 := HZ7.out.frz 1
      have e2 := HZ7.out.frz 2
      have zl := HZ7.out.lt
      simp at z0 z1 z2
      refine hK.out _ _ ⟨p0, p1, p2⟩ (fun hHeld => ?_)
      clear hK K
      try simp only [Act.put, List.setIfInBounds_toArray, List.set_cons_zero, List.set_cons_succ, List.getElem_toArray, List.getElem_cons_zero, List.getElem_cons_succ]
      refine wpAnyH_take (i := 12) (v := ?vg62_12) rfl (by kernel_rfl) (by kernel_rfl) (by kernel_rfl) (fun _ _ _ h => h) (Or.inl ⟨by rfl, ?hyg62_12⟩) (by assumption) ?restg62_12
      case hyg62_12 =>
        intro w hSw
        try dsimp only at hSw
        go_simp
        try with_reducible rfl
      try simp only [Act.put, List.setIfInBounds_toArray, List.set_cons_zero, List.set_cons_succ, List.getElem_toArray, List.getElem_cons_zero, List.getElem_cons_succ]
      refine wpAnyH_ready (rs := [13]) (by kernel_rfl) (by simp) ?_
      refine (AllReadyH.cons rfl (fun K hK => ?_) AllReadyH.nil)
      go_simp
      have HE := Lib.hid (copy_end HM0_7.out HM1_7.out HM2_7.out HL0.out HL1.out HL2.out (show w.heap.size + 2 ≤ g0 ∧ g0 < W7.heap.size by omega) (show w.heap.size + 2 ≤ g1 ∧ g1 < W7.heap.size by omega) (show w.heap.size + 2 ≤ g2 ∧ g2 < W7.heap.size by omega) (by omega) (by omega) (by omega) (w.heap.size + 1) (by omega) HBW7.out (by omega) (.slice (some ⟨g0, 0, none⟩) 8 k0) (.slice (some ⟨g1, 0, none⟩) 8 k1) (.slice (some ⟨g2, 0, none⟩) 8 k2))
      have y0 := (HX7.out.other (a := ⟨w.heap.size + 1, 0, none⟩) (by show w.heap.size ≠ w.heap.size + 1; omega) (.slice (some ⟨g0, 0, none⟩) 8 k0))
      have y1 := (y0.other (a := ⟨w.heap.size + 1, 1, none⟩) (by show w.heap.size ≠ w.heap.size + 1; omega) (.slice (some ⟨g1, 0, none⟩) 8 k1))
      have y2 := (y1.other (a := ⟨w.heap.size + 1, 2, none⟩) (by show w.heap.size ≠ w.heap.size + 1; omega) (.slice (some ⟨g2, 0, none⟩) 8 k2))
      refine hK.out _ _ ⟨y2.cell 0, y2.cell 1, y2.cell 2⟩ (fun hHeld => ?_)
      clear hK K
      try simp only [Act.put, List.setIfInBounds_toArray, List.set_cons_zero, List.set_cons_succ, List.getElem_toArray, List.getElem_cons_zero, List.getElem_cons_succ]
      clear y0 y1 y2
      refine wpAnyH_done (by kernel_rfl) ?_ _
      go_wp2_with fail
      refine bodyPost_ret (v := .agg #[.slice (some ⟨g0, 0, none⟩) 8 k0, .slice (some ⟨g1, 0, none⟩) 8 k1, .slice (some ⟨g2, 0, none⟩) 8 k2]) (by simp [results, Try.results71, go_sem, z0, z1, z2]) rfl ⟨g0, g1, g2, k0, k1, k2, rfl, HE.out.1, HE.out.2, hcp0, hcp1, hcp2⟩
theorem l10Copy_any {w : World} {hi : Nat} {x0 x1 x2 : Value} {D : Sg} (h : tySigs.R w hi [x0, x1, x2] D) (l0 : D.1.length = 8) (l1 : D.2.1.length = 8) (l2 : D.2.2.length = 8) :
    Calls Try.prog 71 #[.agg #[x0, x1, x2]] w fun e w' => ∃ g0 g1 g2 c0 c1 c2, e = .returned (.agg #[.slice (some ⟨g0, 0, none⟩) 8 c0, .slice (some ⟨g1, 0, none⟩) 8 c1, .slice (some ⟨g2, 0, none⟩) 8 c2]) ∧ S8 w' (w.heap.size + 2) g0 g1 g2 D ∧ Below w.heap.size w w' :=
  (l10Copy_cap h l0 l1 l2).mono fun _ _ ⟨g0, g1, g2, c0, c1, c2, he, hs, hb, _⟩ => ⟨g0, g1, g2, c0, c1, c2, he, hs, hb⟩
end Go.Proofs.Ytncinocpdeokgaa

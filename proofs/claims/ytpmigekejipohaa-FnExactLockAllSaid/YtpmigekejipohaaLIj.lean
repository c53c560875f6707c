/-
  Locks: the program's LockNew, LockRun, LockStep, LockStuck.
-/
import Derived.Test.YtpmigekejipohaaLIh
import Derived.Test.YtpmigekejipohaaLIi
namespace Go.Proofs.Ytpmigekejipohaa
open Go.RowKit

section
variable {w w' : World} {D : Lk} {K g0 c0 c base : Nat} {A : Option Addr}
theorem PL.off (h : PL w D K g0 c0 A c base) {X : Nat} (hK : K ≠ X) (hg : g0 ≠ X) (hA : ∀ a, A = some a → a.block ≠ X) (i : Nat) (v : Value) : PL (w.setCell ⟨X, i, none⟩ v) D K g0 c0 A c base where
  box := h.box.other (a := ⟨X, i, none⟩) hK v
  row := rowM_offT h.row ⟨X, i, none⟩ v hg
  line := h.line.off ⟨X, i, none⟩ v fun g e => by
    obtain ⟨a, e1, rfl⟩ := ownB e
    exact hA a e1
  kg := h.kg
  na := h.na
theorem PL.mm {lo : Nat} (h : PL w' D K g0 c0 A c base) (hg : lo ≤ g0) (hb : lo ≤ base) (hn : 0 < D.2.1.length) (hs : smallLock D) :
    ∃ fp, tyLock.M w' fp [.int .i64 D.1, .slice (some ⟨g0, 0, none⟩) D.2.1.length c0, .slice A D.2.2.length c] D ∧ ∀ b ∈ fp, lo ≤ b ∧ b < w'.heap.size := by
  have hgl := ltM h.row hn
  have hl := h.line.ltv
  obtain ⟨A', c', hv, hcl, hA⟩ := h.line.shape
  injection hv with e1 _ e3
  subst e1 e3
  cases A with
  | none =>
    have h0 : D.2.2.length = 0 := by
      rcases Nat.eq_zero_or_pos D.2.2.length with h | h
      · exact h
      · obtain ⟨g, e⟩ := hA h
        cases e
    refine ⟨[g0] ++ [], tyLock_Mmk (f1 := [g0]) (f2 := []) ⟨rfl, hs.1, h.row⟩ ⟨rfl, ⟨hs.2, hcl⟩, fun h1 => by omega⟩ (fun _ _ h => absurd h List.not_mem_nil), fun b hb1 => ?_⟩
    rw [List.append_nil, List.mem_singleton] at hb1
    subst hb1
    exact ⟨hg, hgl⟩
  | some a =>
    have hna := h.na a rfl
    have hlt := hl a.block rfl
    have hr : RowM elI w' [a.block] (some a) D.2.2.length D.2.2 := fun h0 => by
      obtain ⟨g, e⟩ := hA h0
      injection e with e
      subst e
      exact OwnE.row h.line rfl h0
    refine ⟨[g0] ++ [a.block], tyLock_Mmk (f1 := [g0]) (f2 := [a.block]) ⟨rfl, hs.1, h.row⟩ ⟨rfl, ⟨hs.2, hcl⟩, hr⟩ (fun b hb1 hb2 => ?_), fun b hb1 => ?_⟩
    · rw [List.mem_singleton] at hb1 hb2
      exact hna.2 (hb2.symm.trans hb1)
    · rcases List.mem_append.1 hb1 with hb1 | hb1
      · rw [List.mem_singleton] at hb1
        subst hb1
        exact ⟨hg, hgl⟩
      · rw [List.mem_singleton] at hb1
        subst hb1
        exact ⟨by omega, hlt.2⟩
theorem PL.km (h : PL w' D K g0 c0 A c base) (hg : w.heap.size ≤ g0) (hb : w.heap.size ≤ base) (hn : 0 < D.2.1.length) (hs : smallLock D) (hbl : Below w.heap.size w w') :
    ∃ fp, KM w D (.int .i64 D.1) (.slice (some ⟨g0, 0, none⟩) D.2.1.length c0) (.slice A D.2.2.length c) fp w' := by
  obtain ⟨fp, h1, h2⟩ := h.mm hg hb hn hs
  exact ⟨fp, h1, h2, hs, hbl⟩
/-- what copied answers, laid behind a pointer -/
theorem PL.made {A1 A2 : Option Addr} {d1 d2 : Nat} (h1 : OwnE elThread 41 w base (.slice A1 D.2.1.length d1) D.2.1) (h2 : OwnE elI 3 w base (.slice A2 D.2.2.length d2) D.2.2)
    (hd : ∀ a1 a2, A1 = some a1 → A2 = some a2 → a1.block ≠ a2.block) (hn : 0 < D.2.1.length) :
    ∃ g0, A1 = some ⟨g0, 0, none⟩ ∧ base ≤ g0 ∧ g0 < w.heap.size ∧ (∀ a, A2 = some a → base ≤ a.block ∧ a.block < w.heap.size) ∧ PL (w.alloc (.cells #[.int .i64 D.1, .slice (some ⟨g0, 0, none⟩) D.2.1.length d1, .slice A2 D.2.2.length d2] 28)) D w.heap.size g0 d1 A2 d2 base := by
  obtain ⟨A', c', hv, _, hA⟩ := h1.shape
  injection hv with e1 _ e3
  subst e1 e3
  obtain ⟨g0, rfl⟩ := hA hn
  have hlt := OwnE.lt h1
  have hb := (Below.refl w.heap.size w).alloc (Nat.le_refl _) (.cells #[.int .i64 D.1, .slice (some ⟨g0, 0, none⟩) D.2.1.length d1, .slice A2 D.2.2.length d2] 28)
  have hl2 : ∀ a, A2 = some a → base ≤ a.block ∧ a.block < w.heap.size := fun a e => h2.ltv a.block (by rw [e]; rfl)
  exact ⟨g0, rfl, hlt.1, hlt.2, hl2, Box.new w _ _, OwnE.row (h1.below hb) rfl, h2.below hb, by omega, fun a e => ⟨by have := hl2 a e; omega, fun e2 => hd _ a rfl e e2.symm⟩⟩
end
section
variable {w : World}
set_option maxHeartbeats 4000000 in
theorem lockNewI : KNew 20 := by
  intro w n t
  have Z1 := Lib.hid (Box.new w #[.int .i64 0, .slice none 0 0, .slice none 0 0] 28)
  have HB1 := Lib.hid (show Below w.heap.size w (w.alloc (.cells #[.int .i64 0, .slice none 0 0, .slice none 0 0] 28)) from (Below.refl _ _).alloc (Nat.le_refl _) _)
  obtain ⟨b, hb⟩ : ∃ b, newB n t = b := ⟨_, rfl⟩
  obtain ⟨E, hE⟩ : ∃ E, newL n t = E := ⟨_, rfl⟩
  rw [hb, hE]
  have HBB := Lib.hid hb
  have HE := Lib.hid hE
  obtain ⟨tb, ht⟩ : ∃ tb, inB t 0 3 = tb := ⟨_, rfl⟩
  have HTB := Lib.hid ht
  have HZ := Lib.hid (show b = false → E = lkZ from fun e => by rw [← hE]; unfold newL; rw [hb, e]; rfl)
  clear hb hE ht
  by_cases h1 : n < 1
  · obtain rfl : b = false := by rw [← HBB.out]; unfold newB; rw [inB_not (n := n) (by omega)]; rfl
    obtain rfl := HZ.out rfl
    go_enter Try.func20, Try.ntmps20
    go_wp2_with fail
    refine bodyPost_ret (v := .tuple #[.agg #[.int .i64 0, .slice none 0 0, .slice none 0 0], .bool false]) (by simp [results, Try.results20, go_sem]) rfl ⟨_, _, _, rfl, [], KM.zero HB1.out⟩
  by_cases h4 : 4 < n
  · obtain rfl : b = false := by rw [← HBB.out]; unfold newB; rw [inB_not (n := n) (by omega)]; rfl
    obtain rfl := HZ.out rfl
    go_enter Try.func20, Try.ntmps20
    go_wp2_with fail
    refine bodyPost_ret (v := .tuple #[.agg #[.int .i64 0, .slice none 0 0, .slice none 0 0], .bool false]) (by simp [results, Try.results20, go_sem]) rfl ⟨_, _, _, rfl, [], KM.zero HB1.out⟩
  cases tb
  · obtain rfl : b = false := by rw [← HBB.out]; unfold newB; rw [HTB.out, Bool.and_false]
    obtain rfl := HZ.out rfl
    have hn1 : ¬ (n < 1) := h1
    have hn4 : ¬ (4 < n) := h4
    go_enter Try.func20, Try.ntmps20
    go_wp2_with fail
    refine (among_any _ _ _).mono ?_
    rw [HTB.out]
    rintro e w1 ⟨rfl, rfl⟩
    go_wp2_with fail
    refine bodyPost_ret (v := .tuple #[.agg #[.int .i64 0, .slice none 0 0, .slice none 0 0], .bool false]) (by simp [results, Try.results20, go_sem]) rfl ⟨_, _, _, [], rfl, KM.zero HB1.out⟩
  obtain rfl : b = true := by rw [← HBB.out]; unfold newB; rw [HTB.out, inB_of (n := n) (by omega)]; rfl
  obtain ⟨N, rfl⟩ : ∃ N : Nat, n = N := ⟨n.toNat, by omega⟩
  have HEV := Lib.hid (show newLk N t = E from by rw [← HE.out]; unfold newL; rw [HBB.out, if_pos rfl, Int.toNat_natCast])
  have hN1 : 1 ≤ N := by omega
  have hN4 : N ≤ 4 := by omega
  have HN := Lib.hid (show 1 ≤ N ∧ N ≤ 4 from ⟨hN1, hN4⟩)
  have hn1 : ¬ ((N : Int) < 1) := by omega
  have hn4 : ¬ ((4 : Int) < N) := by omega
  go_enter Try.func20, Try.ntmps20
  go_wp2_with fail
  generalize w.alloc (.cells #[.int .i64 0, .slice none 0 0, .slice none 0 0] 28) = W0 at Z1 HB1 ⊢
  have z0 := Z1.out.cell 0
  have z1 := Z1.out.cell 1
  have z2 := Z1.out.cell 2
  have y0 := Z1.out.frz 0
  have y1 := Z1.out.frz 1
  have y2 := Z1.out.frz 2
  have zl := Z1.out.lt
  simp at z0 z1 z2
  have X2 := Lib.hid (Box.new W0 #[.int .i64 0, .int .i64 0, .int .i64 t, .bool false] 41)
  have Z2 := Lib.hid (Z1.out.alloc (.cells #[.int .i64 0, .int .i64 0, .int .i64 t, .bool false] 41))
  have HB2 := Lib.hid (HB1.out.alloc HB1.out.size (.cells #[.int .i64 0, .int .i64 0, .int .i64 t, .bool false] 41))
  have HS := Lib.hid (show w.heap.size < W0.heap.size from zl)
  go_wp2_with fail
  refine (among_any _ _ _).mono ?_
  rw [HTB.out]
  rintro e w1 ⟨rfl, rfl⟩
  go_wp2_with fail
  refine (repeat_any (a := ⟨0, 0, t, false⟩) HN.out.1 HN.out.2 X2.out).mono ?_
  rintro e w2 ⟨g, rfl, hm, hg, hgl, hb2⟩
  have HM := Lib.hid hm
  have HG := Lib.hid (show w.heap.size < g ∧ g < w2.heap.size from by have h := hg; rw [World.size_alloc] at h; have := HS.out; omega)
  have HB3 := Lib.hid (HB2.out.trans (hb2.mono HB2.out.size))
  have Z3 := Lib.hid (Z2.out.below hb2 Z2.out.lt)
  clear hm hg hgl hb2 z0 z1 z2 y0 y1 y2 zl h1 h4
  have z0 := Z3.out.cell 0
  have z1 := Z3.out.cell 1
  have z2 := Z3.out.cell 2
  have y0 := Z3.out.frz 0
  have y1 := Z3.out.frz 1
  have y2 := Z3.out.frz 2
  have zl := Z3.out.lt
  simp at z0 z1 z2
  go_wp2_with fail
  refine bodyPost_ret (v := .tuple #[.agg #[.int .i64 0, .slice (some ⟨g, 0, none⟩) N N, .slice none 0 0], .bool true]) (by simp [results, Try.results20, go_sem, z0, z1, z2]) rfl ⟨.int .i64 0, .slice (some ⟨g, 0, none⟩) N N, .slice none 0 0, [g] ++ [], rfl, ?_, ?_, ?_, bel3 HB3.out (Nat.le_refl _) _ _ _⟩
  · rw [← HEV.out]
    have hg := HG.out
    refine tyLock_Mmk (D := newLk N t) (f1 := [g]) (f2 := []) ⟨by unfold newLk; simp, by have := HN.out; omega, ?_⟩ ⟨rfl, by decide, fun h => absurd h (Nat.lt_irrefl 0)⟩ (fun _ _ h => absurd h List.not_mem_nil)
    exact rowM_offT (rowM_offT (rowM_offT HM.out ⟨w.heap.size, 0, none⟩ _ (by show g ≠ w.heap.size; omega)) ⟨w.heap.size, 1, none⟩ _ (by show g ≠ w.heap.size; omega)) ⟨w.heap.size, 2, none⟩ _ (by show g ≠ w.heap.size; omega)
  · intro b hb
    rw [List.append_nil, List.mem_singleton] at hb
    subst hb
    have := HG.out
    simp only [World.size_setCell]
    omega
  · rw [← HEV.out]
    have := HN.out
    unfold newLk smallLock
    simp
    omega
/-- what LockRun answers -/
def RunRI (w : World) (rn : Int) (D' : Lk) (e : Ending) (w' : World) : Prop :=
  ∃ y0 y1 y2 fp, e = .returned (.tuple #[.agg #[y0, y1, y2], .int .i64 rn]) ∧ KM w D' y0 y1 y2 fp w'
set_option maxHeartbeats 8000000 in
set_option maxRecDepth 100000 in
theorem lockRunI : KRun 28 := by
  intro w hi hi2 x0 x1 x2 D O m co L h hs hro hlo hmo
  have HRO := Lib.hid hro
  have HLO := Lib.hid hlo
  clear hro hlo
  have HR0 := Lib.hid h
  obtain ⟨A, n, c, A2, n2, c2, hcs, ⟨hl, hl1, hl2⟩, hl3⟩ := tyLock_R h
  simp only [List.cons.injEq, and_true] at hcs
  obtain ⟨rfl, rfl, rfl⟩ := hcs
  clear hl2 hl3
  have HSM := Lib.hid hs
  have HL := Lib.hid hl
  have HL1 := Lib.hid hl1
  obtain ⟨W, hW⟩ : ∃ W, D.1 = W := ⟨_, rfl⟩
  have HW := Lib.hid hW
  rw [hW] at HR0 ⊢
  have X1 := Lib.hid ((Box.new w #[.int .i64 W, .slice A n c, .slice A2 n2 c2] 28).alloc (.cells #[.int .i64 0, .slice none 0 0, .slice none 0 0] 28))
  have Z1 := Lib.hid (Box.new (w.alloc (.cells #[.int .i64 W, .slice A n c, .slice A2 n2 c2] 28)) #[.int .i64 0, .slice none 0 0, .slice none 0 0] 28)
  simp only [World.size_alloc] at Z1
  have HB1 := Lib.hid (show Below w.heap.size w ((w.alloc (.cells #[.int .i64 W, .slice A n c, .slice A2 n2 c2] 28)).alloc (.cells #[.int .i64 0, .slice none 0 0, .slice none 0 0] 28)) from ((Below.refl _ _).alloc (Nat.le_refl _) _).alloc (by simp only [World.size_alloc]; omega) _)
  have HT1 := Lib.hid (Ty.below_w HR0.out HB1.out)
  clear h hs hl hl1 hW
  obtain ⟨D', hD⟩ : ∃ D', runL D L = D' := ⟨_, rfl⟩
  obtain ⟨rn, hN⟩ : ∃ rn, runN D L = rn := ⟨_, rfl⟩
  rw [hD, hN]
  have HD := Lib.hid hD
  have HN := Lib.hid hN
  obtain ⟨a, ha⟩ : ∃ a, lkB D = a := ⟨_, rfl⟩
  have HA := Lib.hid ha
  clear hD hN ha
  show Calls _ _ _ _ (RunRI w rn D')
  go_enter Try.func28, Try.ntmps28
  go_wp2_with fail
  generalize ((w.alloc (.cells #[.int .i64 W, .slice A n c, .slice A2 n2 c2] 28)).alloc (.cells #[.int .i64 0, .slice none 0 0, .slice none 0 0] 28)) = W0 at X1 Z1 HB1 HT1 ⊢
  have zl1 := Z1.out.lt
  refine (lockOkI HT1.out).mono ?_
  rw [HA.out]
  rintro e w1 ⟨rfl, hb1⟩
  have HB2 := Lib.hid (HB1.out.trans (hb1.mono HB1.out.size))
  have X2 := Lib.hid (X1.out.below hb1 X1.out.lt)
  have Z2 := Lib.hid (Z1.out.below hb1 Z1.out.lt)
  have HT2 := Lib.hid (Ty.below_w HT1.out hb1)
  have HSZ1 := Lib.hid (show w.heap.size + 1 < w1.heap.size from Nat.lt_of_lt_of_le zl1 hb1.size)
  clear hb1 X1 Z1 HT1 HB1 zl1
  have p0 := X2.out.cell 0
  have p1 := X2.out.cell 1
  have p2 := X2.out.cell 2
  have pl := X2.out.lt
  have z0 := Z2.out.cell 0
  have z1 := Z2.out.cell 1
  have z2 := Z2.out.cell 2
  have y0 := Z2.out.frz 0
  have y1 := Z2.out.frz 1
  have y2 := Z2.out.frz 2
  have zl := Z2.out.lt
  simp at p0 p1 p2 z0 z1 z2
  cases a
  · obtain rfl : D' = lkZ := by rw [← HD.out]; unfold runL; rw [HA.out]; rfl
    obtain rfl : rn = -1 := by rw [← HN.out]; unfold runN; rw [HA.out]; rfl
    go_wp2_with fail
    refine bodyPost_ret (v := .tuple #[.agg #[.int .i64 0, .slice none 0 0, .slice none 0 0], .int .i64 (-1)]) (by simp [results, Try.results28, go_sem, z0, z1, z2]) rfl ⟨_, _, _, [], rfl, KM.zero (bel3 HB2.out (by omega) _ _ _)⟩
  have HLK := Lib.hid (lk_iff.1 HA.out)
  have HSO := Lib.hid (small_ok HLK.out)
  have hn1 : 0 < n := by have := HSO.out.2.2.2; rw [HL.out] at this; exact this
  clear z0 z1 z2 y0 y1 y2
  go_wp2_with fail
  refine (copied_any HT2.out HSM.out).mono ?_
  rintro e w2 ⟨B1, d1, B2, d2, rfl, ho1, ho2, hdis, hb2⟩
  obtain ⟨g0, rfl, hg0, hg1, hA2, hp⟩ := PL.made ho1 ho2 hdis (by rw [HL.out]; exact hn1)
  have HP := Lib.hid hp
  have HG := Lib.hid (show w1.heap.size + 2 ≤ g0 ∧ g0 < w2.heap.size ∧ w.heap.size + 1 < w1.heap.size from ⟨hg0, hg1, HSZ1.out⟩)
  have HA2 := Lib.hid hA2
  have Z3 := Lib.hid ((Z2.out.below hb2 zl).alloc (.cells #[.int .i64 D.1, .slice (some ⟨g0, 0, none⟩) D.2.1.length d1, .slice B2 D.2.2.length d2] 28))
  have HB3 := Lib.hid ((HB2.out.trans (hb2.mono HB2.out.size)).alloc (by have := HG.out; omega) (.cells #[.int .i64 D.1, .slice (some ⟨g0, 0, none⟩) D.2.1.length d1, .slice B2 D.2.2.length d2] 28))
  clear ho1 ho2 hdis hb2 hg0 hg1 hA2 hp p0 p1 p2 pl zl X2 Z2 HT2
  obtain ⟨n3, hn3⟩ : ∃ n3, D.2.2.length = n3 := ⟨_, rfl⟩
  have HN3 := Lib.hid hn3
  rw [HW.out, HL.out, hn3] at Z3 HB3 ⊢
  have hsz3 : (w2.alloc (.cells #[.int .i64 W, .slice (some ⟨g0, 0, none⟩) n d1, .slice B2 n3 d2] 28)).heap.size = w2.heap.size + 1 := World.size_alloc ..
  have HP3 := Lib.hid (show PL (w2.alloc (.cells #[.int .i64 W, .slice (some ⟨g0, 0, none⟩) n d1, .slice B2 n3 d2] 28)) D w2.heap.size g0 d1 B2 d2 (w1.heap.size + 2) from by
    have h9 := HP.out
    rw [HW.out, HL.out, hn3] at h9
    exact h9)
  have HS3 := Lib.hid hsz3
  clear hn3 HP hsz3
  have HRV := Lib.hid (show runTo D L m = (D', rn) from by
    have h1 := HD.out
    have h2 := HN.out
    unfold runL at h1
    unfold runN at h2
    rw [HA.out, HLO.out, if_pos rfl] at h1 h2
    rw [← h1, ← h2])
  have HRW := Lib.hid (HRO.out.wb HB3.out)
  have hord : 0 < m → ∀ b, O = some b → b.block ∉ fpL w2.heap.size g0 B2 := fun h0 b e hm => by
    obtain ⟨b', o', e2, _, hlt, _⟩ := HRO.out h0
    rw [e] at e2
    injection e2 with e2
    subst e2
    have hg := HG.out
    have hlt' : b' < w.heap.size := hlt
    have hm' : b' ∈ fpL w2.heap.size g0 B2 := hm
    cases B2 with
    | none =>
      rcases List.mem_cons.1 hm' with h | h
      · omega
      · rw [List.mem_singleton] at h; omega
    | some a =>
      have := HA2.out a rfl
      rcases List.mem_cons.1 hm' with h | h
      · omega
      · rcases List.mem_cons.1 h with h | h
        · omega
        · rw [List.mem_singleton] at h; omega
  have HORD := Lib.hid hord
  clear hord
  go_wp2_with fail
  generalize w2.alloc (.cells #[.int .i64 W, .slice (some ⟨g0, 0, none⟩) n d1, .slice B2 n3 d2] 28) = W3 at HP3 Z3 HB3 HRW HS3 ⊢
  refine (walk_any HP3.out HLK.out (by have := HG.out; have := HS3.out; omega) HRW.out hmo HORD.out).mono ?_
  rintro e w4 ⟨A4, c4, rfl, hp4, hf4, hl4⟩
  rw [HRV.out] at hp4
  rw [HRV.out]
  dsimp only at hp4 ⊢
  have HP4 := Lib.hid hp4
  have hZn : w.heap.size + 1 ∉ fpL w2.heap.size g0 B2 := fun hm => by
    have hg := HG.out
    cases B2 with
    | none =>
      rcases List.mem_cons.1 hm with h | h
      · omega
      · rw [List.mem_singleton] at h; omega
    | some a =>
      have := HA2.out a rfl
      rcases List.mem_cons.1 hm with h | h
      · omega
      · rcases List.mem_cons.1 h with h | h
        · omega
        · rw [List.mem_singleton] at h; omega
  have Z4 := Lib.hid (hf4.box Z3.out hZn)
  have HB4 := Lib.hid (HB3.out.trans (hf4.below (lo := w.heap.size) HB3.out.size fun b hm => by
    have hg := HG.out
    cases B2 with
    | none =>
      rcases List.mem_cons.1 hm with h | h
      · omega
      · rw [List.mem_singleton] at h; omega
    | some a =>
      have := HA2.out a rfl
      rcases List.mem_cons.1 hm with h | h
      · omega
      · rcases List.mem_cons.1 h with h | h
        · omega
        · rw [List.mem_singleton] at h; omega))
  have HA4 := Lib.hid (show ∀ a, A4 = some a → w.heap.size + 1 < a.block from fun a e => by
    have := (hp4.line.ltv a.block (by rw [e]; rfl)).1
    have := HG.out
    omega)
  have hrk : LOk D' ∧ D'.2.1.length = n := by
    have h := run_ok (L := L) HLK.out (k := m)
    rw [HRV.out] at h
    exact ⟨h.1, h.2.1.trans HL.out⟩
  have HRK := Lib.hid hrk
  have HSK := Lib.hid (small_ok hrk.1)
  obtain ⟨n5, hn5⟩ : ∃ n5, D'.2.2.length = n5 := ⟨_, rfl⟩
  have HN5 := Lib.hid hn5
  obtain ⟨W5, hW5⟩ : ∃ W5, D'.1 = W5 := ⟨_, rfl⟩
  have HW5 := Lib.hid hW5
  have p0 := hp4.box.cell 0
  have p1 := hp4.box.cell 1
  have p2 := hp4.box.cell 2
  have pl := hp4.box.lt
  rw [hW5, hrk.2, hn5] at p0 p1 p2
  have z0 := Z4.out.cell 0
  have z1 := Z4.out.cell 1
  have z2 := Z4.out.cell 2
  have y0 := Z4.out.frz 0
  have y1 := Z4.out.frz 1
  have y2 := Z4.out.frz 2
  have zl := Z4.out.lt
  simp at p0 p1 p2 z0 z1 z2
  have hne : ¬ (w.heap.size + 1 = w2.heap.size) := by have := HG.out; omega
  have hne2 : ¬ (w2.heap.size = w.heap.size + 1) := fun e => hne e.symm
  clear hp4 hf4 hl4 hZn hrk hn5 hW5
  go_wp2_with fail
  refine bodyPost_ret (v := .tuple #[.agg #[.int .i64 W5, .slice (some ⟨g0, 0, none⟩) n d1, .slice A4 n5 c4], .int .i64 rn]) (by simp [results, Try.results28, go_sem, z0, z1, z2]) rfl ?_
  have hpf := ((HP4.out.off (X := w.heap.size + 1) hne2 (by have := HG.out; omega) (fun a e => by have := HA4.out a e; omega) 0 (.int .i64 W5)).off (X := w.heap.size + 1) hne2 (by have := HG.out; omega) (fun a e => by have := HA4.out a e; omega) 1 (.slice (some ⟨g0, 0, none⟩) n d1)).off (X := w.heap.size + 1) hne2 (by have := HG.out; omega) (fun a e => by have := HA4.out a e; omega) 2 (.slice A4 n5 c4)
  obtain ⟨fp, hkm⟩ := hpf.km (w := w) (by have := HG.out; omega) (by have := HG.out; omega) HSK.out.2.2.2 HSK.out.1 (bel3 HB4.out (by omega) _ _ _)
  rw [HW5.out, HRK.out.2, HN5.out] at hkm
  exact ⟨_, _, _, fp, rfl, hkm⟩
set_option maxHeartbeats 8000000 in
set_option maxRecDepth 100000 in
theorem lockStpI : KStp 30 := by
  intro w hi x0 x1 x2 D x h hs
  have HR0 := Lib.hid h
  obtain ⟨A, n, c, A2, n2, c2, hcs, ⟨hl, hl1, hl2⟩, hl3⟩ := tyLock_R h
  simp only [List.cons.injEq, and_true] at hcs
  obtain ⟨rfl, rfl, rfl⟩ := hcs
  clear hl2 hl3
  have HSM := Lib.hid hs
  have HL := Lib.hid hl
  have HL1 := Lib.hid hl1
  obtain ⟨W, hW⟩ : ∃ W, D.1 = W := ⟨_, rfl⟩
  have HW := Lib.hid hW
  rw [hW] at HR0 ⊢
  have X1 := Lib.hid ((Box.new w #[.int .i64 W, .slice A n c, .slice A2 n2 c2] 28).alloc (.cells #[.int .i64 0, .slice none 0 0, .slice none 0 0] 28))
  have Z1 := Lib.hid (Box.new (w.alloc (.cells #[.int .i64 W, .slice A n c, .slice A2 n2 c2] 28)) #[.int .i64 0, .slice none 0 0, .slice none 0 0] 28)
  simp only [World.size_alloc] at Z1
  have HB1 := Lib.hid (show Below w.heap.size w ((w.alloc (.cells #[.int .i64 W, .slice A n c, .slice A2 n2 c2] 28)).alloc (.cells #[.int .i64 0, .slice none 0 0, .slice none 0 0] 28)) from ((Below.refl _ _).alloc (Nat.le_refl _) _).alloc (by simp only [World.size_alloc]; omega) _)
  have HT1 := Lib.hid (Ty.below_w HR0.out HB1.out)
  clear h hs hl hl1 hW
  obtain ⟨D', hD⟩ : ∃ D', stpL D x = D' := ⟨_, rfl⟩
  obtain ⟨rn, hN⟩ : ∃ rn, stpB D x = rn := ⟨_, rfl⟩
  rw [hD, hN]
  have HD := Lib.hid hD
  have HN := Lib.hid hN
  obtain ⟨a, ha⟩ : ∃ a, lkB D = a := ⟨_, rfl⟩
  have HA := Lib.hid ha
  clear hD hN ha
  show Calls _ _ _ _ (StpR w rn D')
  go_enter Try.func30, Try.ntmps30
  go_wp2_with fail
  generalize ((w.alloc (.cells #[.int .i64 W, .slice A n c, .slice A2 n2 c2] 28)).alloc (.cells #[.int .i64 0, .slice none 0 0, .slice none 0 0] 28)) = W0 at X1 Z1 HB1 HT1 ⊢
  have zl1 := Z1.out.lt
  refine (lockOkI HT1.out).mono ?_
  rw [HA.out]
  rintro e w1 ⟨rfl, hb1⟩
  have HB2 := Lib.hid (HB1.out.trans (hb1.mono HB1.out.size))
  have X2 := Lib.hid (X1.out.below hb1 X1.out.lt)
  have Z2 := Lib.hid (Z1.out.below hb1 Z1.out.lt)
  have HT2 := Lib.hid (Ty.below_w HT1.out hb1)
  have HSZ1 := Lib.hid (show w.heap.size + 1 < w1.heap.size from Nat.lt_of_lt_of_le zl1 hb1.size)
  clear hb1 X1 Z1 HT1 HB1 zl1
  have p0 := X2.out.cell 0
  have p1 := X2.out.cell 1
  have p2 := X2.out.cell 2
  have pl := X2.out.lt
  have z0 := Z2.out.cell 0
  have z1 := Z2.out.cell 1
  have z2 := Z2.out.cell 2
  have y0 := Z2.out.frz 0
  have y1 := Z2.out.frz 1
  have y2 := Z2.out.frz 2
  have zl := Z2.out.lt
  simp at p0 p1 p2 z0 z1 z2
  cases a
  · obtain rfl : D' = lkZ := by rw [← HD.out]; unfold stpL; rw [HA.out, if_neg (by rintro ⟨h, _⟩; cases h)]
    obtain rfl : rn = false := by rw [← HN.out]; unfold stpB; rw [HA.out]; rfl
    go_wp2_with fail
    refine bodyPost_ret (v := .tuple #[.agg #[.int .i64 0, .slice none 0 0, .slice none 0 0], .bool false]) (by simp [results, Try.results30, go_sem, z0, z1, z2]) rfl ⟨_, _, _, [], rfl, KM.zero (bel3 HB2.out (by omega) _ _ _)⟩
  obtain ⟨mb, hmb⟩ : ∃ mb, mayL D x = mb := ⟨_, rfl⟩
  have HMB := Lib.hid hmb
  have hcall := has_any (w := w1) (W := W) (A := A) (A2 := A2) (n := n) (c := c) (n2 := n2) (c2 := c2) x HL1.out
  rw [show inB x 0 ((n : Int) - 1) = mb from by rw [← hmb]; unfold mayL; rw [HL.out]] at hcall
  have HC := Lib.hid hcall
  clear hmb hcall
  have HLK := Lib.hid (lk_iff.1 HA.out)
  have HSO := Lib.hid (small_ok HLK.out)
  have hn1 : 0 < n := by have := HSO.out.2.2.2; rw [HL.out] at this; exact this
  go_wp2_with fail
  refine HC.out.mono ?_
  rintro e wh ⟨rfl, hbh⟩
  have HBh := Lib.hid (HB2.out.trans (hbh.mono HB2.out.size))
  have Xh := Lib.hid (X2.out.below hbh pl)
  have Zh := Lib.hid (Z2.out.below hbh zl)
  have HT3 := Lib.hid (Ty.below_w HT2.out hbh)
  have HSZh := Lib.hid (show w.heap.size + 1 < wh.heap.size from Nat.lt_of_lt_of_le HSZ1.out hbh.size)
  clear hbh z0 z1 z2 y0 y1 y2 zl p0 p1 p2 pl HC X2 Z2 HT2
  have p0 := Xh.out.cell 0
  have p1 := Xh.out.cell 1
  have p2 := Xh.out.cell 2
  have pl := Xh.out.lt
  simp at p0 p1 p2
  cases mb
  · obtain rfl : D' = lkZ := by rw [← HD.out]; unfold stpL; rw [HMB.out, if_neg (by rintro ⟨_, h⟩; cases h)]
    obtain rfl : rn = false := by rw [← HN.out]; unfold stpB; rw [HMB.out, HA.out]; rfl
    have z0 := Zh.out.cell 0
    have z1 := Zh.out.cell 1
    have z2 := Zh.out.cell 2
    have y0 := Zh.out.frz 0
    have y1 := Zh.out.frz 1
    have y2 := Zh.out.frz 2
    have zl := Zh.out.lt
    simp at z0 z1 z2
    go_wp2_with fail
    refine bodyPost_ret (v := .tuple #[.agg #[.int .i64 0, .slice none 0 0, .slice none 0 0], .bool false]) (by simp [results, Try.results30, go_sem, z0, z1, z2]) rfl ⟨_, _, _, [], rfl, KM.zero (bel3 HBh.out (by omega) _ _ _)⟩
  have HRV0 := Lib.hid (show runTo D [x] 1 = (D', if rn = true then 1 else 0) from by
    have h1 := HD.out
    have h2 := HN.out
    unfold stpL at h1
    unfold stpB at h2
    rw [HA.out, HMB.out, Bool.true_and, Bool.true_and] at h2
    rw [HA.out, HMB.out, if_pos ⟨rfl, rfl⟩] at h1
    show (if mayL D ([x].getD 0 0) = true ∧ canB D ([x].getD 0 0).toNat = true then (stepD D ([x].getD 0 0).toNat, (0 : Int) + 1) else (D, 0)) = _
    rw [show [x].getD 0 0 = x from rfl, HMB.out, h2]
    rw [h2] at h1
    cases rn
    · rw [if_neg (by rintro ⟨_, h⟩; cases h)]
      rw [if_neg (by decide)] at h1
      rw [h1]
      rfl
    · rw [if_pos ⟨rfl, rfl⟩]
      rw [if_pos rfl] at h1
      rw [h1]
      rfl)
  go_wp2_with fail
  refine (copied_any HT3.out HSM.out).mono ?_
  rintro e w2 ⟨B1, d1, B2, d2, rfl, ho1, ho2, hdis, hb2⟩
  obtain ⟨g0, rfl, hg0, hg1, hA2, hp⟩ := PL.made ho1 ho2 hdis (by rw [HL.out]; exact hn1)
  have HP := Lib.hid hp
  have HG := Lib.hid (show wh.heap.size + 2 ≤ g0 ∧ g0 < w2.heap.size ∧ w.heap.size + 1 < wh.heap.size from ⟨hg0, hg1, HSZh.out⟩)
  have HA2 := Lib.hid hA2
  have Z3 := Lib.hid ((Zh.out.below hb2 Zh.out.lt).alloc (.cells #[.int .i64 D.1, .slice (some ⟨g0, 0, none⟩) D.2.1.length d1, .slice B2 D.2.2.length d2] 28))
  have HB3 := Lib.hid ((HBh.out.trans (hb2.mono HBh.out.size)).alloc (by have := HG.out; omega) (.cells #[.int .i64 D.1, .slice (some ⟨g0, 0, none⟩) D.2.1.length d1, .slice B2 D.2.2.length d2] 28))
  clear ho1 ho2 hdis hb2 hg0 hg1 hA2 hp p0 p1 p2 pl Xh Zh HT3
  obtain ⟨n3, hn3⟩ : ∃ n3, D.2.2.length = n3 := ⟨_, rfl⟩
  have HN3 := Lib.hid hn3
  rw [HW.out, HL.out, hn3] at Z3 HB3 ⊢
  have hsz3 : (w2.alloc (.cells #[.int .i64 W, .slice (some ⟨g0, 0, none⟩) n d1, .slice B2 n3 d2] 28)).heap.size = w2.heap.size + 1 := World.size_alloc ..
  have HP3 := Lib.hid (show PL (w2.alloc (.cells #[.int .i64 W, .slice (some ⟨g0, 0, none⟩) n d1, .slice B2 n3 d2] 28)) D w2.heap.size g0 d1 B2 d2 (wh.heap.size + 2) from by
    have h9 := HP.out
    rw [HW.out, HL.out, hn3] at h9
    exact h9)
  have HS3 := Lib.hid hsz3
  clear hn3 HP hsz3
  have HB4a := Lib.hid (HB3.out.alloc HB3.out.size (.cells #[.int .i64 x] 3))
  have Z4a := Lib.hid (Z3.out.alloc (.cells #[.int .i64 x] 3))
  have HP4a := Lib.hid (HP3.out.below HSO.out.2.2.2 ((Below.refl _ _).alloc (Nat.le_refl _) (.cells #[.int .i64 x] 3)))
  have HRW := Lib.hid (show RowF elI ((w2.alloc (.cells #[.int .i64 W, .slice (some ⟨g0, 0, none⟩) n d1, .slice B2 n3 d2] 28)).alloc (.cells #[.int .i64 x] 3)) (w2.heap.size + 2) (some ⟨w2.heap.size + 1, 0, none⟩) 1 [x] from fun _ => by
    have hb9 := Box.new (w2.alloc (.cells #[.int .i64 W, .slice (some ⟨g0, 0, none⟩) n d1, .slice B2 n3 d2] 28)) #[.int .i64 x] 3
    rw [World.size_alloc] at hb9
    refine ⟨w2.heap.size + 1, 0, rfl, by omega, hb9.lt, fun k hk r hr => ?_⟩
    have hr1 : r < 1 := hr
    obtain rfl : k = 0 := by omega
    obtain rfl : r = 0 := by omega
    exact hb9.cell 0)
  have hord : 0 < 1 → ∀ b, (some ⟨w2.heap.size + 1, 0, none⟩ : Option Addr) = some b → b.block ∉ fpL w2.heap.size g0 B2 := fun _ b e hm => by
    injection e with e
    subst e
    have hg := HG.out
    have hm' : w2.heap.size + 1 ∈ fpL w2.heap.size g0 B2 := hm
    cases B2 with
    | none =>
      rcases List.mem_cons.1 hm' with h | h
      · omega
      · rw [List.mem_singleton] at h; omega
    | some a =>
      have := HA2.out a rfl
      rcases List.mem_cons.1 hm' with h | h
      · omega
      · rcases List.mem_cons.1 h with h | h
        · omega
        · rw [List.mem_singleton] at h; omega
  have HORD := Lib.hid hord
  have hs4 : ((w2.alloc (.cells #[.int .i64 W, .slice (some ⟨g0, 0, none⟩) n d1, .slice B2 n3 d2] 28)).alloc (.cells #[.int .i64 x] 3)).heap.size = w2.heap.size + 2 := by simp only [World.size_alloc]
  have HS4 := Lib.hid hs4
  clear hord hs4 Z3 HB3 HP3
  go_wp2_with fail
  generalize ((w2.alloc (.cells #[.int .i64 W, .slice (some ⟨g0, 0, none⟩) n d1, .slice B2 n3 d2] 28)).alloc (.cells #[.int .i64 x] 3)) = W3 at HP4a Z4a HB4a HRW HS4 ⊢
  have Z3 := Lib.hid Z4a.out
  have HB3 := Lib.hid HB4a.out
  refine (walk_any HP4a.out HLK.out (by have := HG.out; have := HS4.out; omega) HRW.out (by omega) HORD.out).mono ?_
  rintro e w4 ⟨A4, c4, rfl, hp4, hf4, hl4⟩
  cases rn
  · have HRV := Lib.hid (show runTo D [x] 1 = (D', 0) from HRV0.out)
    rw [HRV.out] at hp4
    rw [HRV.out]
    dsimp only at hp4 ⊢
    have HP4 := Lib.hid hp4
    have hZn : w.heap.size + 1 ∉ fpL w2.heap.size g0 B2 := fun hm => by
      have hg := HG.out
      cases B2 with
      | none =>
        rcases List.mem_cons.1 hm with h | h
        · omega
        · rw [List.mem_singleton] at h; omega
      | some a =>
        have := HA2.out a rfl
        rcases List.mem_cons.1 hm with h | h
        · omega
        · rcases List.mem_cons.1 h with h | h
          · omega
          · rw [List.mem_singleton] at h; omega
    have Z4 := Lib.hid (hf4.box Z3.out hZn)
    have HB4 := Lib.hid (HB3.out.trans (hf4.below (lo := w.heap.size) HB3.out.size fun b hm => by
      have hg := HG.out
      cases B2 with
      | none =>
        rcases List.mem_cons.1 hm with h | h
        · omega
        · rw [List.mem_singleton] at h; omega
      | some a =>
        have := HA2.out a rfl
        rcases List.mem_cons.1 hm with h | h
        · omega
        · rcases List.mem_cons.1 h with h | h
          · omega
          · rw [List.mem_singleton] at h; omega))
    have HA4 := Lib.hid (show ∀ a, A4 = some a → w.heap.size + 1 < a.block from fun a e => by
      have := (hp4.line.ltv a.block (by rw [e]; rfl)).1
      have := HG.out
      omega)
    have hrk : LOk D' ∧ D'.2.1.length = n := by
      have h := run_ok (L := [x]) HLK.out (k := 1)
      rw [HRV.out] at h
      exact ⟨h.1, h.2.1.trans HL.out⟩
    have HRK := Lib.hid hrk
    have HSK := Lib.hid (small_ok hrk.1)
    obtain ⟨n5, hn5⟩ : ∃ n5, D'.2.2.length = n5 := ⟨_, rfl⟩
    have HN5 := Lib.hid hn5
    obtain ⟨W5, hW5⟩ : ∃ W5, D'.1 = W5 := ⟨_, rfl⟩
    have HW5 := Lib.hid hW5
    have p0 := hp4.box.cell 0
    have p1 := hp4.box.cell 1
    have p2 := hp4.box.cell 2
    have pl := hp4.box.lt
    rw [hW5, hrk.2, hn5] at p0 p1 p2
    have z0 := Z4.out.cell 0
    have z1 := Z4.out.cell 1
    have z2 := Z4.out.cell 2
    have y0 := Z4.out.frz 0
    have y1 := Z4.out.frz 1
    have y2 := Z4.out.frz 2
    have zl := Z4.out.lt
    simp at p0 p1 p2 z0 z1 z2
    have hne : ¬ (w.heap.size + 1 = w2.heap.size) := by have := HG.out; omega
    have hne2 : ¬ (w2.heap.size = w.heap.size + 1) := fun e => hne e.symm
    clear hp4 hf4 hl4 hZn hrk hn5 hW5
    go_wp2_with fail
    refine bodyPost_ret (v := .tuple #[.agg #[.int .i64 W5, .slice (some ⟨g0, 0, none⟩) n d1, .slice A4 n5 c4], .bool false]) (by simp [results, Try.results30, go_sem, z0, z1, z2]) rfl ?_
    have hpf := ((HP4.out.off (X := w.heap.size + 1) hne2 (by have := HG.out; omega) (fun a e => by have := HA4.out a e; omega) 0 (.int .i64 W5)).off (X := w.heap.size + 1) hne2 (by have := HG.out; omega) (fun a e => by have := HA4.out a e; omega) 1 (.slice (some ⟨g0, 0, none⟩) n d1)).off (X := w.heap.size + 1) hne2 (by have := HG.out; omega) (fun a e => by have := HA4.out a e; omega) 2 (.slice A4 n5 c4)
    obtain ⟨fp, hkm⟩ := hpf.km (w := w) (by have := HG.out; omega) (by have := HG.out; omega) HSK.out.2.2.2 HSK.out.1 (bel3 HB4.out (by omega) _ _ _)
    rw [HW5.out, HRK.out.2, HN5.out] at hkm
    exact ⟨_, _, _, fp, rfl, hkm⟩
  · have HRV := Lib.hid (show runTo D [x] 1 = (D', 1) from HRV0.out)
    rw [HRV.out] at hp4
    rw [HRV.out]
    dsimp only at hp4 ⊢
    have HP4 := Lib.hid hp4
    have hZn : w.heap.size + 1 ∉ fpL w2.heap.size g0 B2 := fun hm => by
      have hg := HG.out
      cases B2 with
      | none =>
        rcases List.mem_cons.1 hm with h | h
        · omega
        · rw [List.mem_singleton] at h; omega
      | some a =>
        have := HA2.out a rfl
        rcases List.mem_cons.1 hm with h | h
        · omega
        · rcases List.mem_cons.1 h with h | h
          · omega
          · rw [List.mem_singleton] at h; omega
    have Z4 := Lib.hid (hf4.box Z3.out hZn)
    have HB4 := Lib.hid (HB3.out.trans (hf4.below (lo := w.heap.size) HB3.out.size fun b hm => by
      have hg := HG.out
      cases B2 with
      | none =>
        rcases List.mem_cons.1 hm with h | h
        · omega
        · rw [List.mem_singleton] at h; omega
      | some a =>
        have := HA2.out a rfl
        rcases List.mem_cons.1 hm with h | h
        · omega
        · rcases List.mem_cons.1 h with h | h
          · omega
          · rw [List.mem_singleton] at h; omega))
    have HA4 := Lib.hid (show ∀ a, A4 = some a → w.heap.size + 1 < a.block from fun a e => by
      have := (hp4.line.ltv a.block (by rw [e]; rfl)).1
      have := HG.out
      omega)
    have hrk : LOk D' ∧ D'.2.1.length = n := by
      have h := run_ok (L := [x]) HLK.out (k := 1)
      rw [HRV.out] at h
      exact ⟨h.1, h.2.1.trans HL.out⟩
    have HRK := Lib.hid hrk
    have HSK := Lib.hid (small_ok hrk.1)
    obtain ⟨n5, hn5⟩ : ∃ n5, D'.2.2.length = n5 := ⟨_, rfl⟩
    have HN5 := Lib.hid hn5
    obtain ⟨W5, hW5⟩ : ∃ W5, D'.1 = W5 := ⟨_, rfl⟩
    have HW5 := Lib.hid hW5
    have p0 := hp4.box.cell 0
    have p1 := hp4.box.cell 1
    have p2 := hp4.box.cell 2
    have pl := hp4.box.lt
    rw [hW5, hrk.2, hn5] at p0 p1 p2
    have z0 := Z4.out.cell 0
    have z1 := Z4.out.cell 1
    have z2 := Z4.out.cell 2
    have y0 := Z4.out.frz 0
    have y1 := Z4.out.frz 1
    have y2 := Z4.out.frz 2
    have zl := Z4.out.lt
    simp at p0 p1 p2 z0 z1 z2
    have hne : ¬ (w.heap.size + 1 = w2.heap.size) := by have := HG.out; omega
    have hne2 : ¬ (w2.heap.size = w.heap.size + 1) := fun e => hne e.symm
    clear hp4 hf4 hl4 hZn hrk hn5 hW5
    go_wp2_with fail
    refine bodyPost_ret (v := .tuple #[.agg #[.int .i64 W5, .slice (some ⟨g0, 0, none⟩) n d1, .slice A4 n5 c4], .bool true]) (by simp [results, Try.results30, go_sem, z0, z1, z2]) rfl ?_
    have hpf := ((HP4.out.off (X := w.heap.size + 1) hne2 (by have := HG.out; omega) (fun a e => by have := HA4.out a e; omega) 0 (.int .i64 W5)).off (X := w.heap.size + 1) hne2 (by have := HG.out; omega) (fun a e => by have := HA4.out a e; omega) 1 (.slice (some ⟨g0, 0, none⟩) n d1)).off (X := w.heap.size + 1) hne2 (by have := HG.out; omega) (fun a e => by have := HA4.out a e; omega) 2 (.slice A4 n5 c4)
    obtain ⟨fp, hkm⟩ := hpf.km (w := w) (by have := HG.out; omega) (by have := HG.out; omega) HSK.out.2.2.2 HSK.out.1 (bel3 HB4.out (by omega) _ _ _)
    rw [HW5.out, HRK.out.2, HN5.out] at hkm
    exact ⟨_, _, _, fp, rfl, hkm⟩
end
end Go.Proofs.Ytpmigekejipohaa

/-
  Linked memory: the program's fillPlaces.
-/
import Derived.Test.YtfmbadhiflaldaaMI4
namespace Go.Proofs.Ytfmbadhiflaldaa
open Go.RowKit
set_option maxRecDepth 100000

/-- the first k places from p0 on have been filled -/
structure Filled (w w' : World) (L p0 : Nat) (kd : Int) (ts : List ByteArray) (k : Nat) : Prop where
  foot : Foot w w' [L]
  new : ∀ j, j < k → w'.cell? ⟨L, 4 * (p0 + j), none⟩ = some (.int .i64 kd) ∧ w'.cell? ⟨L, 4 * (p0 + j) + 1, none⟩ = some (.int .i64 j) ∧ w'.cell? ⟨L, 4 * (p0 + j) + 2, none⟩ = some (.string (ts.getD j .empty)) ∧ w'.cell? ⟨L, 4 * (p0 + j) + 3, none⟩ = some (.slice none 0 0)
  old : ∀ i, (i < 4 * p0 ∨ 4 * (p0 + k) ≤ i) → w'.cell? ⟨L, i, none⟩ = w.cell? ⟨L, i, none⟩
  frz : ∀ i, w'.frozen? ⟨L, i, none⟩ = false
section
variable {w w' : World} {L p0 : Nat} {kd : Int} {ts : List ByteArray} {k : Nat}
theorem Filled.zero (hf : ∀ i, w.frozen? ⟨L, i, none⟩ = false) : Filled w w L p0 kd ts 0 := ⟨Foot.refl w _, fun j hj => absurd hj (Nat.not_lt_zero j), fun _ _ => rfl, hf⟩
theorem Filled.next (h : Filled w w' L p0 kd ts k) (hc : ∀ r, r < 4 → ∃ v, w.cell? ⟨L, 4 * (p0 + k) + r, none⟩ = some v) :
    Filled w ((((w'.setCell ⟨L, 4 * (p0 + k), none⟩ (.int .i64 kd)).setCell ⟨L, 4 * (p0 + k) + 1, none⟩ (.int .i64 k)).setCell ⟨L, 4 * (p0 + k) + 2, none⟩ (.string (ts.getD k .empty))).setCell ⟨L, 4 * (p0 + k) + 3, none⟩ (.slice none 0 0)) L p0 kd ts (k + 1) where
  foot := (((h.foot.set (b := L) (by simp) _ _).set (b := L) (by simp) _ _).set (b := L) (by simp) _ _).set (b := L) (by simp) _ _
  new := fun j hj => by
    have oth : ∀ {u : World} {i q : Nat} {v : Value}, i ≠ q → (u.setCell ⟨L, q, none⟩ v).cell? ⟨L, i, none⟩ = u.cell? ⟨L, i, none⟩ := fun hne => World.cell?_setCell_other _ _ _ _ (fun e => by injection e with _ e2; exact hne e2.symm)
    rcases Nat.lt_or_ge j k with h1 | h1
    · obtain ⟨a, b, c, d⟩ := h.new j h1
      rw [oth (by omega), oth (by omega), oth (by omega), oth (by omega), oth (by omega), oth (by omega), oth (by omega), oth (by omega), oth (by omega), oth (by omega), oth (by omega), oth (by omega), oth (by omega), oth (by omega), oth (by omega), oth (by omega)]
      exact ⟨a, b, c, d⟩
    · obtain rfl : j = k := by omega
      have ex : ∀ r, r < 4 → ∃ v, w'.cell? ⟨L, 4 * (p0 + j) + r, none⟩ = some v := fun r hr => by
        rw [h.old _ (Or.inr (by omega))]
        exact hc r hr
      obtain ⟨v0, e0⟩ := ex 0 (by decide)
      obtain ⟨v1, e1⟩ := ex 1 (by decide)
      obtain ⟨v2, e2⟩ := ex 2 (by decide)
      obtain ⟨v3, e3⟩ := ex 3 (by decide)
      refine ⟨?_, ?_, ?_, ?_⟩
      · rw [oth (by omega), oth (by omega), oth (by omega)]
        exact World.cell?_setCell_same _ ⟨L, 4 * (p0 + j), none⟩ _ e0
      · rw [oth (by omega), oth (by omega)]
        exact World.cell?_setCell_same _ ⟨L, 4 * (p0 + j) + 1, none⟩ _ (by rw [oth (by omega)]; exact e1)
      · rw [oth (by omega)]
        exact World.cell?_setCell_same _ ⟨L, 4 * (p0 + j) + 2, none⟩ _ (by rw [oth (by omega), oth (by omega)]; exact e2)
      · exact World.cell?_setCell_same _ ⟨L, 4 * (p0 + j) + 3, none⟩ _ (by rw [oth (by omega), oth (by omega), oth (by omega)]; exact e3)
  old := fun i hi => by
    have oth : ∀ {u : World} {i q : Nat} {v : Value}, i ≠ q → (u.setCell ⟨L, q, none⟩ v).cell? ⟨L, i, none⟩ = u.cell? ⟨L, i, none⟩ := fun hne => World.cell?_setCell_other _ _ _ _ (fun e => by injection e with _ e2; exact hne e2.symm)
    rw [oth (by omega), oth (by omega), oth (by omega), oth (by omega)]
    exact h.old i (by omega)
  frz := fun i => by simp [h.frz i]
/-- what fillPlaces answers -/
def FillR (w : World) (L p0 : Nat) (kd : Int) (D : List ByteArray × List Int) (e : Ending) (w' : World) : Prop :=
  e = .returned (.bool (okPg D.1 D.2 && decide (D.1.length = 12))) ∧ Foot w w' [L] ∧ ((okPg D.1 D.2 && decide (D.1.length = 12)) = true → Filled w w' L p0 kd D.1 12)
theorem pg_of {hi : Nat} {x0 x1 : Value} {D : List ByteArray × List Int} (h : tyPages.R w hi [x0, x1] D) (hw : wfPages D) : ∃ A n c B m d, x0 = .slice A n c ∧ x1 = .slice B m d ∧ Pg w A n B m D.1 D.2 ∧ RowF elS w hi A n D.1 ∧ RowF elI w hi B m D.2 := by
  obtain ⟨h0, h1⟩ := tyPages_R h
  obtain ⟨A, n, c, e0, l0, m0, r0⟩ := h0
  obtain ⟨B, m, d, e1, l1, m1, r1⟩ := h1
  injection e0 with e0
  injection e1 with e1
  refine ⟨A, n, c, B, m, d, e0, e1, ⟨l0, l1, m0, m1, fun k => ?_, fun hn => ?_, fun hn => ?_⟩, r0, r1⟩
  · rcases Nat.lt_or_ge k D.1.length with h | h
    · exact hw.1 _ (by rw [List.getD_eq_getElem?_getD, List.getElem?_eq_getElem h]; exact List.getElem_mem h)
    · rw [List.getD_eq_getElem?_getD, List.getElem?_eq_none h]
      show 0 ≤ maxLen
      unfold maxLen
      omega
  · obtain ⟨b, o, e, _, hb, hc⟩ := r0 hn
    refine ⟨b, o, e, hb, fun k hk => ?_⟩
    have h := hc k hk 0 (by decide)
    rw [show o + k * elS.K + 0 = o + k from by show o + k * 1 + 0 = o + k; omega] at h
    exact h
  · obtain ⟨b, o, e, _, hb, hc⟩ := r1 hn
    refine ⟨b, o, e, hb, fun k hk => ?_⟩
    have h := hc k hk 0 (by decide)
    rw [show o + k * elI.K + 0 = o + k from by show o + k * 1 + 0 = o + k; omega] at h
    exact h
set_option maxHeartbeats 2000000 in
theorem fill_any {hi : Nat} {x0 x1 : Value} {D : List ByteArray × List Int} (h : tyPages.R w hi [x0, x1] D) (hw : wfPages D) (hhi : hi ≤ L) (hL : L < w.heap.size) (hf : ∀ i, w.frozen? ⟨L, i, none⟩ = false)
    (hc : ∀ i, i < 427 → ∃ v, w.cell? ⟨L, i, none⟩ = some v) (hp0 : 4 * (p0 + 12) ≤ 427) (kd : Int) :
    Calls Try.prog 89 #[.slice (some ⟨L, 4 * p0, none⟩) 12 12, .int .i64 kd, .agg #[x0, x1]] w (FillR w L p0 kd D) := by
  obtain ⟨A, n, c, B, m, d, rfl, rfl, hp, hr, _⟩ := pg_of h hw
  have hbl := (Below.refl w.heap.size w).alloc (Nat.le_refl _) (.cells #[.slice A n c, .slice B m d] 26)
  have hpk := ok_any (c := c) (d := d) (hp.below hbl)
  have HN := Lib.hid hp.tl
  have HSM := Lib.hid hp.small
  have HX := Lib.hid (Box.new w #[.slice A n c, .slice B m d] 26)
  have HB := Lib.hid hbl
  have HR := Lib.hid (hr.wb hbl)
  have HHI := Lib.hid hhi
  have HL := Lib.hid (show L < w.heap.size from hL)
  have HF := Lib.hid hf
  have HC := Lib.hid (fun k (hk : k < 12) r (hr : r < 4) => (hc (4 * (p0 + k) + r) (by omega)))
  obtain ⟨ok, hok⟩ : ∃ ok, okPg D.1 D.2 = ok := ⟨_, rfl⟩
  show Calls _ _ _ _ (FillR w L p0 kd D)
  have HOK := Lib.hid hok
  rw [hok] at hpk
  have HPK := Lib.hid hpk
  have HW := Lib.hid hw
  have HP0 := Lib.hid hp0
  clear h hp hr hhi hf hc hbl hpk hok hw hp0
  go_enter Try.func89, Try.ntmps89
  go_upto_region 1 with fail
  go_wp2_with fail
  refine HPK.out.mono ?_
  rintro e w1 ⟨rfl, hb1⟩
  have HB1 := Lib.hid (HB.out.trans (hb1.mono HB.out.size))
  have HX1 := Lib.hid (HX.out.below hb1 HX.out.lt)
  have HR1 := Lib.hid (HR.out.wb hb1)
  clear hb1 HB HX HR HPK
  have x0 := HX1.out.cell 0
  have x1 := HX1.out.cell 1
  have xl := HX1.out.lt
  simp at x0 x1
  cases ok
  case false =>
    go_wp2_with fail
    go_ret
    exact ⟨by rw [HOK.out]; rfl, Foot.of_below HB1.out _, fun e => by rw [HOK.out] at e; cases e⟩
  by_cases hn : n = 12
  case neg =>
    have hnn : ((n : Int) != 12) = true := by rw [bne_iff_ne]; omega
    have HNE := Lib.hid (show (okPg D.1 D.2 && decide (D.1.length = 12)) = false from by rw [HN.out, decide_eq_false hn, Bool.and_false])
    clear hn
    go_wp2_with fail
    go_ret
    exact ⟨by rw [HNE.out]; rfl, Foot.of_below HB1.out _, fun e => by rw [HNE.out] at e; cases e⟩
  subst hn
  have HYE := Lib.hid (show (okPg D.1 D.2 && decide (D.1.length = 12)) = true from by rw [HN.out, HOK.out]; rfl)
  obtain ⟨T, hT⟩ : ∃ T, D.1 = T := ⟨_, rfl⟩
  rw [hT] at HR1
  have HT := Lib.hid hT
  have HL1 := Lib.hid (show L < w1.heap.size from Nat.lt_of_lt_of_le HL.out HB1.out.size)
  have HC1 := Lib.hid (fun k (hk : k < 12) r (hr : r < 4) => (show ∃ v, w1.cell? ⟨L, 4 * (p0 + k) + r, none⟩ = some v from by
    obtain ⟨v, hv⟩ := HC.out k hk r hr
    exact ⟨v, (kc HB1.out L _ HL.out).trans hv⟩))
  have HF1 := Lib.hid (fun i => (kf HB1.out L i HL.out).trans (HF.out i))
  have HLX := Lib.hid (show L ≠ w.heap.size from by have := HL.out; omega)
  clear hT
  go_wp2_with fail
  clear x0 x1 xl
  go_loopw [21] (fun i wr => ∃ k : Nat, k ≤ 12 ∧ i = .int .i64 k ∧ Filled w1 wr L p0 kd T k) (fun i _ => 12 - (intOf i).toNat)
  case atStart => exact ⟨0, Nat.zero_le _, rfl, Filled.zero HF1.out⟩
  case round =>
    obtain ⟨k, hk, rfl, hfl⟩ := hrel
    rename World => v1
    have HFL := Lib.hid hfl
    by_cases hlt : k < 12
    · have hk1 : (k : Int) < 12 := by omega
      have hk2 : (0 : Int) ≤ k := by omega
      have HX2 := Lib.hid (hfl.foot.box HX1.out (by rw [List.mem_singleton]; exact fun e => HLX.out e.symm))
      obtain ⟨b, o, rfl, hbh, hb0, hcc⟩ := HR1.out (by omega)
      have hbL : ¬ b = L := by have := HHI.out; omega
      have hLb : ¬ L = b := fun e => hbL e.symm
      have t0 : v1.cell? ⟨b, o + k, none⟩ = some (.string (T.getD k .empty)) := by
        have h9 := hcc k hlt 0 (by decide)
        rw [show o + k * elS.K + 0 = o + k from by show o + k * 1 + 0 = o + k; omega] at h9
        exact (cell_of_block (hfl.foot.block b hb0 (by rw [List.mem_singleton]; exact hbL)) _).trans h9
      have HNX := Lib.hid (hfl.next (HC1.out k hlt))
      obtain ⟨tx, htx⟩ : ∃ tx, T.getD k .empty = tx := ⟨_, rfl⟩
      rw [htx] at t0 HNX
      have ex : ∀ r, r < 4 → ∃ v, v1.cell? ⟨L, 4 * (p0 + k) + r, none⟩ = some v := fun r hr => by
        rw [hfl.old _ (Or.inr (by omega))]
        exact HC1.out k hlt r hr
      obtain ⟨v0, e0⟩ := ex 0 (by decide)
      obtain ⟨v1', e1⟩ := ex 1 (by decide)
      obtain ⟨v2, e2⟩ := ex 2 (by decide)
      obtain ⟨v3, e3⟩ := ex 3 (by decide)
      have g0 := hfl.frz (4 * (p0 + k))
      have g1 := hfl.frz (4 * (p0 + k) + 1)
      have g2 := hfl.frz (4 * (p0 + k) + 2)
      have g3 := hfl.frz (4 * (p0 + k) + 3)
      have x0 := HX2.out.cell 0
      have xl := HX2.out.lt
      simp at x0
      have hLv : L < v1.heap.size := Nat.lt_of_lt_of_le HL1.out hfl.foot.size
      have hbv : b < v1.heap.size := Nat.lt_of_lt_of_le hb0 hfl.foot.size
      have hoo : 4 * (p0 + k) = 4 * p0 + k * 4 := by omega
      rw [hoo] at e0 e1 e2 e3 g0 g1 g2 g3 HNX
      rw [Nat.add_zero] at e0
      clear hfl hcc htx ex hoo
      go_wp2_with fail
      go_roundw
      case rel => exact ⟨k + 1, by omega, by go_num, HNX.out⟩
      case measure => simp [intOf]; omega
    · obtain rfl : k = 12 := by omega
      go_wp2_with fail
      go_ret
      exact ⟨by rw [HYE.out]; rfl, (Foot.of_below HB1.out _).trans HFL.out.foot, fun _ => by
        rw [HT.out]
        exact ⟨(Foot.of_below HB1.out _).trans HFL.out.foot, HFL.out.new, fun i hi => (HFL.out.old i hi).trans (kc HB1.out L i HL.out), HFL.out.frz⟩⟩
end
end Go.Proofs.Ytfmbadhiflaldaa

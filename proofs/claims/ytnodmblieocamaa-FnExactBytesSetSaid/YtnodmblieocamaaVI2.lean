/-
  The program's addressOk, and the methods live and at of meanings.
-/
import Derived.Test.YtnodmblieocamaaVSpec1
import Derived.Test.YtnodmblieocamaaVI1
namespace Go.Proofs.Ytnodmblieocamaa
open Go.RowKit

theorem l2AtV_cases (l : List Ar) (p : Int) : l2AtV l p = -1 ∨ ∃ j : Nat, j < l.length ∧ l2AtV l p = j := by
  unfold l2AtV
  split
  · rename_i h
    exact Or.inr ⟨_, h, rfl⟩
  · exact Or.inl rfl
theorem addressOk_any {w : World} (n : Int) : Calls Try.prog 20 #[.int .i64 n] w fun e w' => e = .returned (.bool (inB n 0 63)) ∧ w = w' := by
  by_cases h1 : 0 ≤ n
  · by_cases h2 : n < 64
    · rw [inB_of (by omega)]
      go_enter Try.func20, Try.ntmps20
      go_wp2
      go_ret
      exact ⟨rfl, rfl⟩
    · rw [inB_not (by omega)]
      go_enter Try.func20, Try.ntmps20
      go_wp2
      go_ret
      exact ⟨rfl, rfl⟩
  · rw [inB_not (by omega)]
    go_enter Try.func20, Try.ntmps20
    go_wp2
    go_ret
    exact ⟨rfl, rfl⟩

section
variable {w : World} {hi : Nat} {D : DV} {x0 : Value} {lv : Bool} {A1 A2 A3 : Option Addr} {n1 n2 n3 c1 c2 c3 : Nat} {la : List EArea}
set_option maxHeartbeats 1000000 in
theorem liveI_any (hr : RowF elArea w hi A1 n1 la) (hl : la.length = n1) (hn : n1 ≤ maxLen) (ht : TopE la) :
    Calls Try.prog 31 #[.agg #[.bool lv, .slice A1 n1 c1, .slice A2 n2 c2, .slice A3 n3 c3]] w fun e w' => e = .returned (.bool (lv && (decide (n2 = 16) && (decide (n3 = 16) && okL (arL la))))) ∧ Below w.heap.size w w' := by
  have HR := Lib.hid hr
  have HL := Lib.hid hl
  have HN := Lib.hid hn
  have HT := Lib.hid ht
  clear hr hl hn ht
  have HW := Lib.hid (show Below w.heap.size w (w.alloc (.cells #[.bool lv, .slice A1 n1 c1, .slice A2 n2 c2, .slice A3 n3 c3] 44)) from (Below.refl _ _).alloc (Nat.le_refl _) _)
  cases lv
  · go_enter Try.func31, Try.ntmps31
    go_wp2_with fail
    go_ret
    exact ⟨rfl, HW.out⟩
  by_cases h2 : n2 = 16
  rotate_left
  · have e2 : ((n2 : Int) == 16) = false := by simp only [beq_eq_false_iff_ne, ne_eq]; omega
    rw [decide_eq_false h2]
    clear h2
    go_enter Try.func31, Try.ntmps31
    go_wp2_with fail
    go_ret
    exact ⟨rfl, HW.out⟩
  have e2 : ((n2 : Int) == 16) = true := by simp only [beq_iff_eq]; omega
  rw [decide_eq_true h2]
  clear h2
  by_cases h3 : n3 = 16
  rotate_left
  · have e3 : ((n3 : Int) == 16) = false := by simp only [beq_eq_false_iff_ne, ne_eq]; omega
    rw [decide_eq_false h3]
    clear h3
    go_enter Try.func31, Try.ntmps31
    go_wp2_with fail
    go_ret
    exact ⟨rfl, HW.out⟩
  have e3 : ((n3 : Int) == 16) = true := by simp only [beq_iff_eq]; omega
  rw [decide_eq_true h3]
  clear h3
  go_enter Try.func31, Try.ntmps31
  go_wp2_with fail
  refine (aoksI_any (c := c1) (HR.out.rowA.below HW.out) (by rw [arL_len]; exact HL.out) HN.out HT.out.top).mono ?_
  rintro e w2 ⟨rfl, hb⟩
  have HB := Lib.hid (HW.out.trans (hb.mono HW.out.size))
  clear hb
  go_wp2_with fail
  go_ret
  exact ⟨ret_bool (by simp), HB.out⟩

theorem topV_at (h : TopV D) {k : Nat} (hk : k < D.length) : TopE (D.getD k zS).2.1 := h _ (getD_mem _ hk)
/-- a space of a meaning, laid open -/
structure SpAt (w : World) (hi : Nat) (x0 : Value) (D : DV) (k b o c : Nat) (A1 : Option Addr) (n1 c1 : Nat) (A2 : Option Addr) (n2 c2 : Nat) (A3 : Option Addr) (n3 c3 : Nat) : Prop where
  x : x0 = .slice (some ⟨b, o, none⟩) D.length c
  lt : b < w.heap.size
  q0 : w.cell? ⟨b, o + k * 4, none⟩ = some (.bool (D.getD k zS).1)
  q1 : w.cell? ⟨b, o + k * 4 + 1, none⟩ = some (.slice A1 n1 c1)
  q2 : w.cell? ⟨b, o + k * 4 + 2, none⟩ = some (.slice A2 n2 c2)
  q3 : w.cell? ⟨b, o + k * 4 + 3, none⟩ = some (.slice A3 n3 c3)
  p1 : (D.getD k zS).2.1.length = n1
  m1 : n1 ≤ maxLen
  r1 : RowF elArea w hi A1 n1 (D.getD k zS).2.1
  p2 : (D.getD k zS).2.2.1.length = n2
  m2 : n2 ≤ maxLen
  r2 : RowF elI w hi A2 n2 (D.getD k zS).2.2.1
  p3 : (D.getD k zS).2.2.2.length = n3
  m3 : n3 ≤ maxLen
  r3 : RowF elS w hi A3 n3 (D.getD k zS).2.2.2
theorem spAt (h : tyViews.R w hi [x0] D) {k : Nat} (hk : k < D.length) : ∃ b o c A1 n1 c1 A2 n2 c2 A3 n3 c3, SpAt w hi x0 D k b o c A1 n1 c1 A2 n2 c2 A3 n3 c3 := by
  obtain ⟨b, o, c', A1, n1, c1, A2, n2, c2, A3, n3, c3, hx, _, hbw, q0, q1, q2, q3, ⟨p1, m1, r1⟩, ⟨p2, m2, r2⟩, ⟨p3, m3, r3⟩⟩ := views_at h hk
  exact ⟨b, o, c', A1, n1, c1, A2, n2, c2, A3, n3, c3, hx, hbw, q0, q1, q2, q3, p1, m1, r1, p2, m2, r2, p3, m3, r3⟩
theorem SpAt.live {k b o c : Nat} (h : SpAt w hi x0 D k b o c A1 n1 c1 A2 n2 c2 A3 n3 c3) (hk : k < D.length) : liveV D k = ((D.getD k zS).1 && (decide (n2 = 16) && (decide (n3 = 16) && okL (arL (D.getD k zS).2.1)))) := by
  unfold liveV
  rw [inB_of (by omega), Bool.true_and, show (k : Int).toNat = k by omega, ← h.p2, ← h.p3]
  rfl
theorem lenV (h : tyViews.R w hi [x0] D) : ∃ A c, x0 = .slice A D.length c ∧ D.length ≤ maxLen := by
  obtain ⟨A, n, c, hcs, hl, hn, _⟩ := h
  simp only [List.cons.injEq, and_true] at hcs
  subst hl
  exact ⟨A, c, hcs, hn⟩

set_option maxHeartbeats 4000000 in
theorem vlive_any {k b o c : Nat} (h : SpAt w hi x0 D k b o c A1 n1 c1 A2 n2 c2 A3 n3 c3) (hk : k < D.length) (ht : TopV D) :
    Calls Try.prog 19 #[.agg #[x0], .int .i64 k] w fun e w' => e = .returned (.tuple #[if liveV D k = true then .agg #[.bool true, .slice A1 n1 c1, .slice A2 n2 c2, .slice A3 n3 c3] else .agg #[.bool false, .slice none 0 0, .slice none 0 0, .slice none 0 0], .bool (liveV D k)]) ∧ Below w.heap.size w w' := by
  obtain ⟨res, hres⟩ : ∃ res, res = Value.tuple #[if liveV D k = true then .agg #[.bool true, .slice A1 n1 c1, .slice A2 n2 c2, .slice A3 n3 c3] else .agg #[.bool false, .slice none 0 0, .slice none 0 0, .slice none 0 0], .bool (liveV D k)] := ⟨_, rfl⟩
  rw [← hres]
  have HRES := Lib.hid hres
  clear hres
  have HS := Lib.hid h
  have HLV := Lib.hid (h.live hk)
  have HT := Lib.hid (topV_at ht hk)
  obtain rfl := h.x
  have hb := h.lt
  have B0 := Lib.hid ((Box.new w #[.slice (some ⟨b, o, none⟩) D.length c] 28).alloc (.cells #[.bool false, .slice none 0 0, .slice none 0 0, .slice none 0 0] 44))
  have C0 := Lib.hid (Box.new (w.alloc (.cells #[.slice (some ⟨b, o, none⟩) D.length c] 28)) #[.bool false, .slice none 0 0, .slice none 0 0, .slice none 0 0] 44)
  simp only [World.size_alloc] at C0
  have HW := Lib.hid (show Below w.heap.size w ((w.alloc (.cells #[.slice (some ⟨b, o, none⟩) D.length c] 28)).alloc (.cells #[.bool false, .slice none 0 0, .slice none 0 0, .slice none 0 0] 44)) from ((Below.refl _ _).alloc (Nat.le_refl _) _).alloc (by simp only [World.size_alloc]; omega) _)
  have hk1 : (k : Int) < D.length := by omega
  have hk2 : (0 : Int) ≤ k := by omega
  have hk3 : ¬ (k : Int) < 0 := by omega
  have q0 := (kc HW.out _ _ hb).trans h.q0
  have q1 := (kc HW.out _ _ hb).trans h.q1
  have q2 := (kc HW.out _ _ hb).trans h.q2
  have q3 := (kc HW.out _ _ hb).trans h.q3
  clear h ht
  generalize hlv : (D.getD k zS).1 = lv at *
  go_enter Try.func19, Try.ntmps19
  go_wp2_with fail
  refine (liveI_any (c1 := c1) (c2 := c2) (c3 := c3) (n2 := n2) (n3 := n3) (A2 := A2) (A3 := A3) (lv := lv) (HS.out.r1.wb HW.out) HS.out.p1 HS.out.m1 HT.out).mono ?_
  rintro e w1 ⟨rfl, hb1⟩
  rw [← HLV.out]
  have HW1 := Lib.hid (HW.out.trans (hb1.mono HW.out.size))
  have B1 := Lib.hid (B0.out.below hb1 B0.out.lt)
  have C1 := Lib.hid (C0.out.below hb1 C0.out.lt)
  clear hb1 q0 q1 q2 q3
  have q0 := (kc HW1.out _ _ hb).trans HS.out.q0
  have q1 := (kc HW1.out _ _ hb).trans HS.out.q1
  have q2 := (kc HW1.out _ _ hb).trans HS.out.q2
  have q3 := (kc HW1.out _ _ hb).trans HS.out.q3
  rw [hlv] at q0
  have t0 := B1.out.cell 0
  have r0 := C1.out.cell 0
  have r1 := C1.out.cell 1
  have r2 := C1.out.cell 2
  have r3 := C1.out.cell 3
  have f0 := C1.out.frz 0
  have f1 := C1.out.frz 1
  have f2 := C1.out.frz 2
  have f3 := C1.out.frz 3
  have u0 := B1.out.lt
  have u1 := C1.out.lt
  simp at t0 r0 r1 r2 r3
  have HBZ := Lib.hid (fun v0 v1 v2 v3 => ((((HW1.out.setCell (p := ⟨w.heap.size + 1, 0, none⟩) (by show w.heap.size ≤ w.heap.size + 1; omega) v0).setCell (p := ⟨w.heap.size + 1, 1, none⟩) (by show w.heap.size ≤ w.heap.size + 1; omega) v1).setCell (p := ⟨w.heap.size + 1, 2, none⟩) (by show w.heap.size ≤ w.heap.size + 1; omega) v2).setCell (p := ⟨w.heap.size + 1, 3, none⟩) (by show w.heap.size ≤ w.heap.size + 1; omega) v3))
  by_cases hv : liveV D k = true
  · have hlt : lv = true := by
      rw [HLV.out] at hv
      exact (Bool.and_eq_true_iff.1 hv).1
    subst hlt
    rw [hv] at HRES ⊢
    clear hv
    go_wp2_with fail
    refine bodyPost_ret (v := .tuple #[.agg #[.bool true, .slice A1 n1 c1, .slice A2 n2 c2, .slice A3 n3 c3], .bool true]) (by simp [results, Try.results19, go_sem, r0, r1, r2, r3]) rfl ⟨by rw [HRES.out]; rfl, HBZ.out _ _ _ _⟩
  · have hv' : liveV D k = false := by simpa using hv
    rw [hv'] at HRES ⊢
    clear hv hv'
    go_wp2_with fail
    refine bodyPost_ret (v := .tuple #[.agg #[.bool false, .slice none 0 0, .slice none 0 0, .slice none 0 0], .bool false]) (by simp [results, Try.results19, go_sem, r0, r1, r2, r3]) rfl ⟨by rw [HRES.out]; rfl, HBZ.out _ _ _ _⟩
theorem vlive_out {A : Option Addr} {n c : Nat} (who : Int) (hw : inB who 0 ((n : Int) - 1) = false) :
    Calls Try.prog 19 #[.agg #[.slice A n c], .int .i64 who] w fun e w' => e = .returned (.tuple #[.agg #[.bool false, .slice none 0 0, .slice none 0 0, .slice none 0 0], .bool false]) ∧ Below w.heap.size w w' := by
  have HW := Lib.hid (show Below w.heap.size w ((w.alloc (.cells #[.slice A n c] 28)).alloc (.cells #[.bool false, .slice none 0 0, .slice none 0 0, .slice none 0 0] 44)) from ((Below.refl _ _).alloc (Nat.le_refl _) _).alloc (by simp only [World.size_alloc]; omega) _)
  have hor : who < 0 ∨ (0 ≤ who ∧ (n : Int) ≤ who) := by
    rcases Int.lt_or_le who 0 with h | h
    · exact Or.inl h
    · right
      refine ⟨h, ?_⟩
      rcases Int.lt_or_le who n with h2 | h2
      · rw [inB_of (by omega)] at hw
        cases hw
      · exact h2
  rcases hor with h | ⟨h0, h⟩
  · go_enter Try.func19, Try.ntmps19
    go_wp2_with fail
    refine bodyPost_ret (v := .tuple #[.agg #[.bool false, .slice none 0 0, .slice none 0 0, .slice none 0 0], .bool false]) (by simp [results, Try.results19, go_sem]) rfl ⟨rfl, HW.out⟩
  · have h1 : ¬ who < 0 := by omega
    go_enter Try.func19, Try.ntmps19
    go_wp2_with fail
    refine bodyPost_ret (v := .tuple #[.agg #[.bool false, .slice none 0 0, .slice none 0 0, .slice none 0 0], .bool false]) (by simp [results, Try.results19, go_sem]) rfl ⟨rfl, HW.out⟩

def areaAt (la : List EArea) (z : Int) : EArea := la.getD z.toNat elArea.z
set_option maxHeartbeats 4000000 in
/-- the area of an address, if there is one and its page has four bytes -/
theorem atV_any {o3 b3 : Nat} {t : ByteArray} (a : Nat) (ha : a ≤ 63) (hr : RowF elArea w hi A1 n1 la) (hl : la.length = n1) (hok : okL (arL la) = true) (hb3 : b3 < w.heap.size) (hc : w.cell? ⟨b3, o3 + a / 4, none⟩ = some (.string t)) :
    Calls Try.prog 22 #[.agg #[.bool lv, .slice A1 n1 c1, .slice A2 n2 c2, .slice (some ⟨b3, o3, none⟩) 16 c3], .int .i64 a] w fun e w' => ∃ q : EArea, e = .returned (.tuple #[.agg #[.int .i64 q.f0, .int .i64 q.f1, .bool q.f2, .bool q.f3], .bool (decide (0 ≤ l2AtV (arL la) ((a / 4 : Nat) : Int)) && decide (t.size = 4))]) ∧
      ((decide (0 ≤ l2AtV (arL la) ((a / 4 : Nat) : Int)) && decide (t.size = 4)) = true → q = areaAt la (l2AtV (arL la) ((a / 4 : Nat) : Int))) ∧ Below w.heap.size w w' := by
  have HR := Lib.hid hr
  have HL := Lib.hid hl
  have HOK := Lib.hid hok
  have HC3 := Lib.hid hc
  have h6 := (okL_parts hok).2
  rw [arL_len, hl] at h6
  have HA := Lib.hid (show atV (arL la) ((a / 4 : Nat) : Int) = l2AtV (arL la) ((a / 4 : Nat) : Int) from if_pos hok)
  have HT := Lib.hid (topL_ok hok)
  have hcs := l2AtV_cases (arL la) ((a / 4 : Nat) : Int)
  rw [arL_len, hl] at hcs
  generalize l2AtV (arL la) ((a / 4 : Nat) : Int) = z at *
  obtain ⟨rs, hrs⟩ : ∃ rs, rs = (decide (0 ≤ z) && decide (t.size = 4)) := ⟨_, rfl⟩
  rw [← hrs]
  have HRS0 := Lib.hid hrs
  clear hrs
  clear hr hl hok hc
  have B0 := Lib.hid ((Box.new w #[.bool lv, .slice A1 n1 c1, .slice A2 n2 c2, .slice (some ⟨b3, o3, none⟩) 16 c3] 44).alloc (.cells #[.int .i64 0, .int .i64 0, .bool false, .bool false] 47))
  have C0 := Lib.hid (Box.new (w.alloc (.cells #[.bool lv, .slice A1 n1 c1, .slice A2 n2 c2, .slice (some ⟨b3, o3, none⟩) 16 c3] 44)) #[.int .i64 0, .int .i64 0, .bool false, .bool false] 47)
  simp only [World.size_alloc] at C0
  have HW := Lib.hid (show Below w.heap.size w ((w.alloc (.cells #[.bool lv, .slice A1 n1 c1, .slice A2 n2 c2, .slice (some ⟨b3, o3, none⟩) 16 c3] 44)).alloc (.cells #[.int .i64 0, .int .i64 0, .bool false, .bool false] 47)) from ((Below.refl _ _).alloc (Nat.le_refl _) _).alloc (by simp only [World.size_alloc]; omega) _)
  have hqa : (a : Int).tdiv 4 = ((a / 4 : Nat) : Int) := (Int.ofNat_tdiv a 4).symm
  have hp1 : ((a / 4 : Nat) : Int) < 16 := by omega
  have hp2 : (0 : Int) ≤ ((a / 4 : Nat) : Int) := by omega
  go_enter Try.func22, Try.ntmps22
  go_wp2_with fail
  refine (atI_any (c := c1) ((a : Int) / 4) (HR.out.rowA.below HW.out) (by rw [arL_len]; exact HL.out) (by unfold maxLen; omega) HT.out).mono ?_
  rintro e w1 ⟨rfl, hb1⟩
  rw [show (a : Int) / 4 = ((a / 4 : Nat) : Int) by omega, HA.out]
  have HW1 := Lib.hid (HW.out.trans (hb1.mono HW.out.size))
  have B1 := Lib.hid (B0.out.below hb1 B0.out.lt)
  have C1 := Lib.hid (C0.out.below hb1 C0.out.lt)
  clear hb1 HA
  have c3' := (kc HW1.out _ _ hb3).trans HC3.out
  have t0 := B1.out.cell 0
  have t1 := B1.out.cell 1
  have t3 := B1.out.cell 3
  have r0 := C1.out.cell 0
  have r1 := C1.out.cell 1
  have r2 := C1.out.cell 2
  have r3 := C1.out.cell 3
  have f0 := C1.out.frz 0
  have f1 := C1.out.frz 1
  have f2 := C1.out.frz 2
  have f3 := C1.out.frz 3
  have u0 := B1.out.lt
  have u1 := C1.out.lt
  simp at t0 t1 t3 r0 r1 r2 r3
  have HBZ := Lib.hid (fun v0 v1 v2 v3 => ((((HW1.out.setCell (p := ⟨w.heap.size + 1, 0, none⟩) (by show w.heap.size ≤ w.heap.size + 1; omega) v0).setCell (p := ⟨w.heap.size + 1, 1, none⟩) (by show w.heap.size ≤ w.heap.size + 1; omega) v1).setCell (p := ⟨w.heap.size + 1, 2, none⟩) (by show w.heap.size ≤ w.heap.size + 1; omega) v2).setCell (p := ⟨w.heap.size + 1, 3, none⟩) (by show w.heap.size ≤ w.heap.size + 1; omega) v3))
  rcases hcs with rfl | ⟨j, hj, rfl⟩
  · have HRS := Lib.hid (show rs = false by rw [HRS0.out]; rfl)
    go_wp2_with fail
    refine bodyPost_ret (v := .tuple #[.agg #[.int .i64 0, .int .i64 0, .bool false, .bool false], .bool false]) (by simp [results, Try.results22, go_sem, r0, r1, r2, r3]) rfl ⟨⟨0, 0, false, false⟩, by rw [HRS.out], fun h => absurd h (by rw [HRS.out]; decide), HBZ.out _ _ _ _⟩
  have hne : ((j : Int) == -1) = false := by simp only [beq_eq_false_iff_ne, ne_eq]; omega
  by_cases h4 : t.size = 4
  rotate_left
  · have e4 : ((t.size : Int) != 4) = true := by simp only [bne_iff_ne, ne_eq]; omega
    have HRS := Lib.hid (show rs = false by rw [HRS0.out, decide_eq_false h4]; simp)
    clear h4
    go_wp2_with fail
    refine bodyPost_ret (v := .tuple #[.agg #[.int .i64 0, .int .i64 0, .bool false, .bool false], .bool false]) (by simp [results, Try.results22, go_sem, r0, r1, r2, r3]) rfl ⟨⟨0, 0, false, false⟩, by rw [HRS.out], fun h => absurd h (by rw [HRS.out]; decide), HBZ.out _ _ _ _⟩
  have e4 : ((t.size : Int) != 4) = false := by simp only [bne_eq_false_iff_eq]; omega
  have HRS := Lib.hid (show rs = true by rw [HRS0.out, decide_eq_true h4, decide_eq_true (by omega)]; rfl)
  obtain ⟨b1, o1, rfl, _, hbb, hcc⟩ := HR.out (by omega)
  have hj1 : (j : Int) < n1 := by omega
  have hj2 : (0 : Int) ≤ j := by omega
  have d0 := (kc HW1.out _ _ hbb).trans (hcc j hj 0 (by decide))
  have d1 := (kc HW1.out _ _ hbb).trans (hcc j hj 1 (by decide))
  have d2 := (kc HW1.out _ _ hbb).trans (hcc j hj 2 (by decide))
  have d3 := (kc HW1.out _ _ hbb).trans (hcc j hj 3 (by decide))
  have HQ := Lib.hid (show la.getD j elArea.z = areaAt la j by unfold areaAt; rw [show (j : Int).toNat = j by omega])
  generalize la.getD j elArea.z = q at d0 d1 d2 d3 HQ
  have d0 : w1.cell? ⟨b1, o1 + j * 4, none⟩ = some (.int .i64 q.f0) := d0
  have d1 : w1.cell? ⟨b1, o1 + j * 4 + 1, none⟩ = some (.int .i64 q.f1) := d1
  have d2 : w1.cell? ⟨b1, o1 + j * 4 + 2, none⟩ = some (.bool q.f2) := d2
  have d3 : w1.cell? ⟨b1, o1 + j * 4 + 3, none⟩ = some (.bool q.f3) := d3
  clear h4 hcc
  go_wp2_with fail
  refine bodyPost_ret (v := .tuple #[.agg #[.int .i64 q.f0, .int .i64 q.f1, .bool q.f2, .bool q.f3], .bool true]) (by simp [results, Try.results22, go_sem, r0, r1, r2, r3]) rfl ⟨q, by rw [HRS.out], fun _ => HQ.out, HBZ.out _ _ _ _⟩
end
end Go.Proofs.Ytnodmblieocamaa

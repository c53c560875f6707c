/-
  The model's CredRun, l5Signal, CredSignal.
-/
import Derived.Test.YtacndjbhlhbknaaUS3
namespace Go.Proofs.Ytacndjbhlhbknaa
open Go.RowKit

set_option maxHeartbeats 2000000 in
theorem credRun_any : CRunS 38 := by
  intro w hi x0 x1 x2 D x h hs
  have HSM := Lib.hid hs
  have HR0 := Lib.hid h
  obtain ⟨A, n, c, hcs, _⟩ := tyCred_R h
  simp only [List.cons.injEq, and_true] at hcs
  obtain ⟨rfl, rfl, rfl⟩ := hcs
  clear h hs
  obtain ⟨u, v, l⟩ := D
  dsimp only at HR0 ⊢
  have B0 := Lib.hid ((Box.new w #[.int .i64 u, .int .i64 v, .slice A n c] 25).alloc (.cells #[.int .i64 0, .int .i64 0, .slice none 0 0] 25))
  have C0 := Lib.hid (Box.new (w.alloc (.cells #[.int .i64 u, .int .i64 v, .slice A n c] 25)) #[.int .i64 0, .int .i64 0, .slice none 0 0] 25)
  simp only [World.size_alloc] at C0
  have HB0 := Lib.hid (show Below w.heap.size w ((w.alloc (.cells #[.int .i64 u, .int .i64 v, .slice A n c] 25)).alloc (.cells #[.int .i64 0, .int .i64 0, .slice none 0 0] 25)) from ((Below.refl _ _).alloc (Nat.le_refl _) _).alloc (by simp only [World.size_alloc]; omega) _)
  go_enter Try.func38, Try.ntmps38
  go_wp2_with fail
  refine (credOk_any (Ty.below_w HR0.out HB0.out)).mono ?_
  rintro e w1 ⟨rfl, hb1⟩
  have HB1 := Lib.hid (HB0.out.trans (hb1.mono HB0.out.size))
  have B1 := Lib.hid (B0.out.below hb1 B0.out.lt)
  have C1 := Lib.hid (C0.out.below hb1 C0.out.lt)
  clear hb1
  have r0 := C1.out.cell 0
  have r1 := C1.out.cell 1
  have r2 := C1.out.cell 2
  have q0 := C1.out.frz 0
  have q1 := C1.out.frz 1
  have q2 := C1.out.frz 2
  have t0 := B1.out.cell 0
  have t1 := B1.out.cell 1
  have t2 := B1.out.cell 2
  have u0 := B1.out.lt
  have u1 := C1.out.lt
  simp at r0 r1 r2 t0 t1 t2
  have HCB : runB (u, v, l) x = (credB (u, v, l) && uB x) := rfl
  by_cases hc : credB (u, v, l) = true
  · rw [hc] at HCB ⊢
    have HCC := Lib.hid HCB
    clear HCB hc
    go_wp2_with fail
    refine (l5User_any x).mono ?_
    rintro e w3 ⟨rfl, rfl⟩
    by_cases hx : uB x = true
    · rw [hx]
      have hv : runB (u, v, l) x = true := by rw [HCC.out, hx]; rfl
      have HV := Lib.hid hv
      clear hx hv r0 r1 r2 q0 q1 q2
      go_wp2_with fail
      refine (l5Copy_any (Ty.below_w HR0.out HB1.out) HSM.out).mono ?_
      rintro e w2 ⟨y0, y1, y2, fp, rfl, hm, hf, hb2⟩
      obtain ⟨A2, n2, c2, f2, hcs, rfl, hl2, hn2, hrow⟩ := tyCred_M hm
      simp only [List.cons.injEq, and_true] at hcs
      obtain ⟨rfl, rfl, rfl⟩ := hcs
      have HB2 := Lib.hid (HB1.out.trans (hb2.mono HB1.out.size))
      have C2 := Lib.hid (C1.out.below hb2 C1.out.lt)
      have HROW := Lib.hid hrow
      have HL2 := Lib.hid hl2
      have HF := Lib.hid (fun b hb => (show w.heap.size + 1 < b ∧ b < w2.heap.size from by have h := hf b hb; omega))
      dsimp only at HROW HL2
      clear hb2 hm hf hrow hl2 t0 t1 t2 u0 u1
      have r0 := C2.out.cell 0
      have r1 := C2.out.cell 1
      have r2 := C2.out.cell 2
      have q0 := C2.out.frz 0
      have q1 := C2.out.frz 1
      have q2 := C2.out.frz 2
      have u1 := C2.out.lt
      simp at r0 r1 r2
      go_wp2_with fail
      refine bodyPost_ret (v := .tuple #[.agg #[.int .i64 x, .int .i64 v, .slice A2 n2 c2], .bool true]) (by simp [results, Try.results38, go_sem, r0, r1, r2, u1]) rfl ⟨.int .i64 x, .int .i64 v, .slice A2 n2 c2, by rw [HV.out], by rw [run_yes HV.out]; exact tyCred_Rmk (D := (x, v, l)) ⟨HL2.out, by simp only [maxLen]; omega, ((((HROW.out.setOther ⟨w.heap.size + 1, 0, none⟩ _ (fun b hb => by have h := HF.out b hb; show b ≠ w.heap.size + 1; omega)).setOther ⟨w.heap.size + 1, 1, none⟩ _ (fun b hb => by have h := HF.out b hb; show b ≠ w.heap.size + 1; omega)).setOther ⟨w.heap.size + 1, 2, none⟩ _ (fun b hb => by have h := HF.out b hb; show b ≠ w.heap.size + 1; omega)).frame fun b hb => Below.heap_alloc _ _ b (by simp only [World.size_setCell]; exact (HF.out b hb).2)).row fun b hb => by have h := HF.out b hb; simp only [World.size_setCell, World.size_alloc]; omega⟩, ((((HB2.out.setCell (p := ⟨w.heap.size + 1, 0, none⟩) (by show w.heap.size ≤ w.heap.size + 1; omega) _).setCell (p := ⟨w.heap.size + 1, 1, none⟩) (by show w.heap.size ≤ w.heap.size + 1; omega) _).setCell (p := ⟨w.heap.size + 1, 2, none⟩) (by show w.heap.size ≤ w.heap.size + 1; omega) _).alloc (by simp only [World.size_setCell]; exact HB2.out.size) _)⟩
    · have hx' : uB x = false := by simpa using hx
      have hv : runB (u, v, l) x = false := by rw [HCC.out, hx']; rfl
      rw [hx']
      clear hx
      go_wp2_with fail
      refine bodyPost_ret (v := .tuple #[.agg #[.int .i64 0, .int .i64 0, .slice none 0 0], .bool false]) (by simp [results, Try.results38, go_sem, r0, r1, r2]) rfl ⟨.int .i64 0, .int .i64 0, .slice none 0 0, by rw [hv], by rw [run_no hv]; exact nilCred, (((HB1.out.setCell (p := ⟨w.heap.size + 1, 0, none⟩) (by show w.heap.size ≤ w.heap.size + 1; omega) _).setCell (p := ⟨w.heap.size + 1, 1, none⟩) (by show w.heap.size ≤ w.heap.size + 1; omega) _).setCell (p := ⟨w.heap.size + 1, 2, none⟩) (by show w.heap.size ≤ w.heap.size + 1; omega) _)⟩
  · have hc' : credB (u, v, l) = false := by simpa using hc
    have hv : runB (u, v, l) x = false := by rw [HCB, hc']; rfl
    rw [hc']
    clear hc HCB
    go_wp2_with fail
    refine bodyPost_ret (v := .tuple #[.agg #[.int .i64 0, .int .i64 0, .slice none 0 0], .bool false]) (by simp [results, Try.results38, go_sem, r0, r1, r2]) rfl ⟨.int .i64 0, .int .i64 0, .slice none 0 0, by rw [hv], by rw [run_no hv]; exact nilCred, (((HB1.out.setCell (p := ⟨w.heap.size + 1, 0, none⟩) (by show w.heap.size ≤ w.heap.size + 1; omega) _).setCell (p := ⟨w.heap.size + 1, 1, none⟩) (by show w.heap.size ≤ w.heap.size + 1; omega) _).setCell (p := ⟨w.heap.size + 1, 2, none⟩) (by show w.heap.size ≤ w.heap.size + 1; omega) _)⟩

def sgR (A B : Cr) : Bool := decide (A.1 = 0) || (decide (A.1 = B.1) || (decide (A.1 = B.2.1) || (decide (A.2.1 = B.1) || decide (A.2.1 = B.2.1))))
theorem l5Signal_any {w : World} {u v x y : Int} {A B : Option Addr} {n c m d : Nat} {l k : List Int} :
    Calls Try.prog 61 #[.agg #[.int .i64 u, .int .i64 v, .slice A n c], .agg #[.int .i64 x, .int .i64 y, .slice B m d]] w fun e w' => e = .returned (.bool (sgR (u, v, l) (x, y, k))) ∧ Below w.heap.size w w' := by
  unfold sgR
  dsimp only
  have HW := Lib.hid (show Below w.heap.size w ((w.alloc (.cells #[.int .i64 u, .int .i64 v, .slice A n c] 25)).alloc (.cells #[.int .i64 x, .int .i64 y, .slice B m d] 25)) from ((Below.refl _ _).alloc (Nat.le_refl _) _).alloc (by simp only [World.size_alloc]; omega) _)
  by_cases h0 : u = 0
  · subst h0
    go_enter Try.func61, Try.ntmps61
    go_wp2_with fail
    go_ret
    exact ⟨ret_bool (by simp), HW.out⟩
  by_cases h1 : u = x
  · subst h1
    have e0 : (u == 0) = false := by simpa using h0
    go_enter Try.func61, Try.ntmps61
    go_wp2_with fail
    go_ret
    exact ⟨ret_bool (by simp), HW.out⟩
  by_cases h2 : u = y
  · subst h2
    have e0 : (u == 0) = false := by simpa using h0
    have e1 : (u == x) = false := by simpa using h1
    go_enter Try.func61, Try.ntmps61
    go_wp2_with fail
    go_ret
    exact ⟨ret_bool (by simp), HW.out⟩
  by_cases h3 : v = x
  · subst h3
    have e0 : (u == 0) = false := by simpa using h0
    have e1 : (u == v) = false := by simpa using h1
    have e2 : (u == y) = false := by simpa using h2
    go_enter Try.func61, Try.ntmps61
    go_wp2_with fail
    go_ret
    exact ⟨ret_bool (by simp), HW.out⟩
  have e0 : (u == 0) = false := by simpa using h0
  have e1 : (u == x) = false := by simpa using h1
  have e2 : (u == y) = false := by simpa using h2
  have e3 : (v == x) = false := by simpa using h3
  go_enter Try.func61, Try.ntmps61
  go_wp2_with fail
  go_ret
  exact ⟨ret_bool (by simp [h0, h1, h2, h3]; rfl), HW.out⟩
set_option maxHeartbeats 1000000 in
theorem credSgn_any : CSgn 41 := by
  intro w hi hi2 x0 x1 x2 y0 y1 y2 DA DB h h2
  have HA0 := Lib.hid h
  have HB0 := Lib.hid h2
  obtain ⟨A, n, c, hcs, _⟩ := tyCred_R h
  simp only [List.cons.injEq, and_true] at hcs
  obtain ⟨rfl, rfl, rfl⟩ := hcs
  obtain ⟨B, m, d, hcs, _⟩ := tyCred_R h2
  simp only [List.cons.injEq, and_true] at hcs
  obtain ⟨rfl, rfl, rfl⟩ := hcs
  clear h h2
  obtain ⟨u, v, l⟩ := DA
  obtain ⟨x, y, k⟩ := DB
  dsimp only at HA0 HB0 ⊢
  have hS : sgnB (u, v, l) (x, y, k) = (credB (u, v, l) && (credB (x, y, k) && sgR (u, v, l) (x, y, k))) := rfl
  have HS := Lib.hid hS
  clear hS
  have X0 := Lib.hid ((Box.new w #[.int .i64 u, .int .i64 v, .slice A n c] 25).alloc (.cells #[.int .i64 x, .int .i64 y, .slice B m d] 25))
  have Y0 := Lib.hid (Box.new (w.alloc (.cells #[.int .i64 u, .int .i64 v, .slice A n c] 25)) #[.int .i64 x, .int .i64 y, .slice B m d] 25)
  simp only [World.size_alloc] at Y0
  have HW0 := Lib.hid (show Below w.heap.size w ((w.alloc (.cells #[.int .i64 u, .int .i64 v, .slice A n c] 25)).alloc (.cells #[.int .i64 x, .int .i64 y, .slice B m d] 25)) from ((Below.refl _ _).alloc (Nat.le_refl _) _).alloc (by simp only [World.size_alloc]; omega) _)
  go_enter Try.func41, Try.ntmps41
  go_wp2_with fail
  refine (credOk_any (Ty.below_w HA0.out HW0.out)).mono ?_
  rintro e w1 ⟨rfl, hb1⟩
  have HW1 := Lib.hid (HW0.out.trans (hb1.mono HW0.out.size))
  have X1 := Lib.hid (X0.out.below hb1 X0.out.lt)
  have Y1 := Lib.hid (Y0.out.below hb1 Y0.out.lt)
  clear hb1
  have p0 := X1.out.cell 0
  have p1 := X1.out.cell 1
  have p2 := X1.out.cell 2
  have q0 := Y1.out.cell 0
  have q1 := Y1.out.cell 1
  have q2 := Y1.out.cell 2
  have pl := X1.out.lt
  have ql := Y1.out.lt
  simp at p0 p1 p2 q0 q1 q2
  by_cases hc : credB (u, v, l) = true
  · rw [hc] at HS ⊢
    clear hc
    go_wp2_with fail
    refine (credOk_any (Ty.below_w HB0.out HW1.out)).mono ?_
    rintro e w2 ⟨rfl, hb2⟩
    have HW2 := Lib.hid (HW1.out.trans (hb2.mono HW1.out.size))
    have X2 := Lib.hid (X1.out.below hb2 X1.out.lt)
    have Y2 := Lib.hid (Y1.out.below hb2 Y1.out.lt)
    clear hb2 p0 p1 p2 q0 q1 q2 pl ql
    have p0 := X2.out.cell 0
    have p1 := X2.out.cell 1
    have p2 := X2.out.cell 2
    have q0 := Y2.out.cell 0
    have q1 := Y2.out.cell 1
    have q2 := Y2.out.cell 2
    have pl := X2.out.lt
    have ql := Y2.out.lt
    simp at p0 p1 p2 q0 q1 q2
    by_cases hc : credB (x, y, k) = true
    · rw [hc] at HS ⊢
      clear hc
      go_wp2_with fail
      refine (l5Signal_any (l := l) (k := k)).mono ?_
      rintro e w3 ⟨rfl, hb3⟩
      have HW3 := Lib.hid (HW2.out.trans (hb3.mono HW2.out.size))
      clear hb3 p0 p1 p2 q0 q1 q2 pl ql
      go_wp2_with fail
      go_ret
      exact ⟨ret_bool (by rw [HS.out]; simp), HW3.out⟩
    · have hc' : credB (x, y, k) = false := by simpa using hc
      rw [hc'] at HS ⊢
      clear hc
      go_wp2_with fail
      go_ret
      exact ⟨ret_bool (by rw [HS.out]; rfl), HW2.out⟩
  · have hc' : credB (u, v, l) = false := by simpa using hc
    rw [hc'] at HS ⊢
    clear hc
    go_wp2_with fail
    go_ret
    exact ⟨ret_bool (by rw [HS.out]; rfl), HW1.out⟩
end Go.Proofs.Ytacndjbhlhbknaa
